/- impl.ValidSectorSpec, impl.ValidTrackSpec; spec.l08Sector, spec.l08Parts, spec.ValidTrackSpec -/
import Derived.Test.YtdpnpmfhnfecaaaOneTrackSpec
import Derived.Test.YtdpnpmfhnfecaaaSecData
import Derived.Test.YtdpnpmfhnfecaaaMarkTab
namespace Go.Proofs.Ytdpnpmfhnfecaaa
open Go.RowKit
set_option linter.unusedVariables false
set_option linter.unusedSimpArgs false
set_option maxRecDepth 20000
def sectorB (e : SectorSpecV) : Bool := [e.f0, e.f1, e.f2].all (inB 0 255) && secDataB e.f3 e.f4
theorem box8s (w : World) (v0 v1 v2 v3 v4 v5 v6 v7 : Value) (T : TypeId) (w2 : World) (hb : Below (w.alloc (.cells #[v0, v1, v2, v3, v4, v5, v6, v7] T)).heap.size (w.alloc (.cells #[v0, v1, v2, v3, v4, v5, v6, v7] T)) w2) :
    w2.cell? ⟨w.heap.size, 0, none⟩ = some v0 ∧ w2.cell? ⟨w.heap.size, 1, none⟩ = some v1 ∧ w2.cell? ⟨w.heap.size, 2, none⟩ = some v2 ∧ w2.cell? ⟨w.heap.size, 3, none⟩ = some v3 ∧ w2.cell? ⟨w.heap.size, 4, none⟩ = some v4 := by
  have h := (BoxAt.new w #[v0, v1, v2, v3, v4, v5, v6, v7] T _ rfl).below hb (by simp)
  exact ⟨h 0 _ rfl, h 1 _ rfl, h 2 _ rfl, h 3 _ rfl, h 4 _ rfl⟩
set_option maxHeartbeats 4000000 in
theorem validSectorV_any (e : SectorSpecV) (w : World) (hd : e.f4.size ≤ maxLen) :
    Calls Try.prog 52 #[.agg #[.int .i64 e.f0, .int .i64 e.f1, .int .i64 e.f2, .int .i64 e.f3, .string e.f4, .bool e.f5, .bool e.f6, .bool e.f7]] w fun x w' => x = .returned (.bool (sectorB e)) ∧ Below w.heap.size w w' := by
  obtain ⟨c, h, n, z, d, de, bi, bd⟩ := e
  dsimp only at hd ⊢
  have AB := Lib.hid (fun w T b hb => areBytes_3 c h n w T b hb)
  have SD := Lib.hid (fun w => isSectorData_any z d w hd)
  have BX := Lib.hid (fun T w2 hb => box8s w (.int .i64 c) (.int .i64 h) (.int .i64 n) (.int .i64 z) (.string d) (.bool de) (.bool bi) (.bool bd) T w2 hb)
  unfold sectorB
  dsimp only
  obtain ⟨x, hx⟩ : ∃ x, [c, h, n].all (inB 0 255) = x := ⟨_, rfl⟩
  rw [hx] at AB ⊢
  obtain ⟨y, hy⟩ : ∃ y, secDataB z d = y := ⟨_, rfl⟩
  rw [hy] at SD ⊢
  clear hx hy
  cases x with
  | false =>
    go_enter Try.func52, Try.ntmps52
    go_wp2_with fail
    refine (AB.out _ _ _ (by simp)).mono ?_
    rintro e w1 ⟨rfl, hb1⟩
    go_wp2
    go_ret
    exact ⟨rfl, Below.trans (show Below w.heap.size w _ from (Below.refl _ _).alloc (Nat.le_refl _) _) (hb1.mono (by simp))⟩
  | true =>
    go_enter Try.func52, Try.ntmps52
    go_wp2_with fail
    refine (AB.out _ _ _ (by simp)).mono ?_
    rintro e w1 ⟨rfl, hb1⟩
    obtain ⟨c0, c1, c2, c3, c4⟩ := BX.out _ _ hb1
    have FB := Lib.hid (show Below w.heap.size w w1 from Below.trans (show Below w.heap.size w _ from (Below.refl _ _).alloc (Nat.le_refl _) _) (hb1.mono (by simp)))
    clear hb1
    go_wp2_with fail
    refine (SD.out _).mono ?_
    rintro e w2 ⟨rfl, hb2⟩
    go_wp2
    go_ret
    exact ⟨ret_bool (by simp), FB.out.trans (hb2.mono FB.out.size)⟩
/-- A described sector in memory. -/
def SecSpAt (w : World) (b off : Nat) (e : SectorSpecV) : Prop := CellsAt w b off (rowSectorSpec e)
set_option maxHeartbeats 4000000 in
theorem l08SectorV_any (e : SectorSpecV) (b off : Nat) (w : World) (hd : e.f4.size ≤ maxLen) (hp : SecSpAt w b off e) :
    Calls Try.prog 93 #[.pointer (some ⟨b, off, none⟩)] w fun x w' => x = .returned (.bool (sectorB e)) ∧ Below w.heap.size w w' := by
  obtain ⟨c, h, n, z, d, de, bi, bd⟩ := e
  dsimp only at hd
  unfold maxLen at hd
  have c0 : w.cell? ⟨b, off, none⟩ = some (.int .i64 c) := hp 0 _ rfl
  have c1 : w.cell? ⟨b, off + 1, none⟩ = some (.int .i64 h) := hp 1 _ rfl
  have c2 : w.cell? ⟨b, off + 2, none⟩ = some (.int .i64 n) := hp 2 _ rfl
  have c3 : w.cell? ⟨b, off + 3, none⟩ = some (.int .i64 z) := hp 3 _ rfl
  have c4 : w.cell? ⟨b, off + 4, none⟩ = some (.string d) := hp 4 _ rfl
  clear hp
  have IC := Lib.hid (fun w => l00In_any c 0 255 w)
  have IH := Lib.hid (fun w => l00In_any h 0 255 w)
  have IN := Lib.hid (fun w => l00In_any n 0 255 w)
  have IZ := Lib.hid (fun w => l00In_any z 0 2 w)
  unfold sectorB secDataB
  dsimp only
  simp only [List.all_cons, List.all_nil, Bool.and_true]
  obtain ⟨x1, h1⟩ : ∃ x, inB 0 255 c = x := ⟨_, rfl⟩
  obtain ⟨x2, h2⟩ : ∃ x, inB 0 255 h = x := ⟨_, rfl⟩
  obtain ⟨x3, h3⟩ : ∃ x, inB 0 255 n = x := ⟨_, rfl⟩
  rw [h1] at IC ⊢
  rw [h2] at IH ⊢
  rw [h3] at IN ⊢
  clear h1 h2 h3
  by_cases hz : inB 0 2 z = true
  · obtain ⟨h0, h1⟩ := inB_iff.1 hz
    have hz3 : z = 0 ∨ z = 1 ∨ z = 2 := by omega
    rw [hz] at IZ ⊢
    clear h0 h1 hz
    rcases hz3 with rfl | rfl | rfl
    all_goals
      simp only [secN]
      cases x1 <;> cases x2 <;> cases x3
      all_goals
        go_enter Try.func93, Try.ntmps93
        go_wp2
        go_quiet ((go_at_call 92; first | (with_reducible exact Calls.quiet_of_same ((IC.out _).mono fun _ _ ⟨he, hw⟩ => ⟨he, hw.symm⟩)) | (with_reducible exact Calls.quiet_of_same ((IH.out _).mono fun _ _ ⟨he, hw⟩ => ⟨he, hw.symm⟩)) | (with_reducible exact Calls.quiet_of_same ((IN.out _).mono fun _ _ ⟨he, hw⟩ => ⟨he, hw.symm⟩)) | (with_reducible exact Calls.quiet_of_same ((IZ.out _).mono fun _ _ ⟨he, hw⟩ => ⟨he, hw.symm⟩))))
        go_wp2
        go_ret
        exact ⟨ret_bool (by first | rfl | simp), below_drewN' (Below.refl _ _) _⟩
  · have hz0 : inB 0 2 z = false := by simpa using hz
    rw [hz0] at IZ ⊢
    clear hz hz0
    cases x1 <;> cases x2 <;> cases x3
    all_goals
      go_enter Try.func93, Try.ntmps93
      go_wp2
      go_quiet ((go_at_call 92; first | (with_reducible exact Calls.quiet_of_same ((IC.out _).mono fun _ _ ⟨he, hw⟩ => ⟨he, hw.symm⟩)) | (with_reducible exact Calls.quiet_of_same ((IH.out _).mono fun _ _ ⟨he, hw⟩ => ⟨he, hw.symm⟩)) | (with_reducible exact Calls.quiet_of_same ((IN.out _).mono fun _ _ ⟨he, hw⟩ => ⟨he, hw.symm⟩)) | (with_reducible exact Calls.quiet_of_same ((IZ.out _).mono fun _ _ ⟨he, hw⟩ => ⟨he, hw.symm⟩))))
      go_wp2
      go_ret
      exact ⟨rfl, below_drewN' (Below.refl _ _) _⟩
set_option maxHeartbeats 2000000 in
theorem everySector_any (a : Option Addr) (es : List SectorSpecV) (c : Nat) (w : World) (hm : es.length ≤ 1048576) (hs : ∀ e ∈ es, e.f4.size ≤ maxLen) (h : SlS rowSectorSpec w a es) :
    Calls Try.prog 51 #[.slice a es.length c, .func (.func 52) #[] #[]] w fun x w' => x = .returned (.bool (es.all sectorB)) ∧ Below w.heap.size w w' := by
  go_enter Try.func51, Try.ntmps51
  go_wp2
  go_loopw [9] (fun i wr => ∃ (k : Nat), k ≤ es.length ∧ i = .int .i64 k ∧ Hid ((es.take k).all sectorB = true) ∧ Below w.heap.size w wr) (fun i _ => es.length - (intOf i).toNat)
  case atStart => exact ⟨0, Nat.zero_le _, rfl, by unfold Hid; rfl, Below.refl _ _⟩
  case round =>
    obtain ⟨k, hk, rfl, hR, hb⟩ := hrel
    by_cases hlt2 : k < es.length
    · obtain ⟨e, hx⟩ : ∃ e, es[k]? = some e := ⟨es[k], by simp [hlt2]⟩
      obtain ⟨b, off, rfl, hbl, hc⟩ := (h.below hb (Nat.le_refl _)).at rowSectorSpec_len hx
      have c0 : wr.cell? ⟨b, off + k * 8, none⟩ = some (.int .i64 e.f0) := hc 0 _ rfl
      have c1 : wr.cell? ⟨b, off + k * 8 + 1, none⟩ = some (.int .i64 e.f1) := hc 1 _ rfl
      have c2 : wr.cell? ⟨b, off + k * 8 + 2, none⟩ = some (.int .i64 e.f2) := hc 2 _ rfl
      have c3 : wr.cell? ⟨b, off + k * 8 + 3, none⟩ = some (.int .i64 e.f3) := hc 3 _ rfl
      have c4 : wr.cell? ⟨b, off + k * 8 + 4, none⟩ = some (.string e.f4) := hc 4 _ rfl
      have c5 : wr.cell? ⟨b, off + k * 8 + 5, none⟩ = some (.bool e.f5) := hc 5 _ rfl
      have c6 : wr.cell? ⟨b, off + k * 8 + 6, none⟩ = some (.bool e.f6) := hc 6 _ rfl
      have c7 : wr.cell? ⟨b, off + k * 8 + 7, none⟩ = some (.bool e.f7) := hc 7 _ rfl
      have CL := Lib.hid (fun w => validSectorV_any e w (hs e (List.mem_of_getElem? hx)))
      have H := Lib.hid (And.intro h (And.intro hc (And.intro hx trivial))); clear h hc hx
      obtain ⟨q, hq⟩ : ∃ q, sectorB e = q := ⟨_, rfl⟩
      rw [hq] at CL
      have HQ := Lib.hid hq; clear hq
      cases q with
      | false =>
        have HR := Lib.hid (show es.all sectorB = false from List.all_eq_false.2 ⟨e, List.mem_of_getElem? H.out.2.2.1, by rw [HQ.out]; simp⟩)
        go_wp2_with fail
        refine (CL.out _).mono ?_
        rintro e_ w1 ⟨rfl, hb1⟩
        go_wp2
        go_ret
        exact ⟨ret_bool HR.out.symm, hb.trans (Below.trans (show Below w.heap.size wr _ from (Below.refl _ _).alloc hb.size _) (hb1.mono (by have := hb.size; simp <;> omega)))⟩
      | true =>
        go_wp2_with fail
        refine (CL.out _).mono ?_
        rintro e_ w1 ⟨rfl, hb1⟩
        clear c0 c1 c2 c3 c4 c5 c6 c7
        go_wp2
        go_roundw
        case rel => exact ⟨k + 1, by omega, by go_num, by unfold Hid; rw [List.take_add_one, H.out.2.2.1, List.all_append, hR.out]; simp [HQ.out], hb.trans (Below.trans (show Below w.heap.size wr _ from (Below.refl _ _).alloc hb.size _) (hb1.mono (by have := hb.size; simp <;> omega)))⟩
        case measure => simp [intOf]; omega
    · obtain rfl : k = es.length := by omega
      have HR := Lib.hid (show es.all sectorB = true by have := hR.out; rwa [List.take_length] at this)
      go_wp2
      go_ret
      exact ⟨ret_bool HR.out.symm, hb⟩
def trackB (x : TrackSpecV) : Bool := inB 1 3 x.f0 && (inB 1 20 x.f1 && (decide (x.f2.length ≤ 8) && x.f2.all sectorB))
set_option maxHeartbeats 4000000 in
theorem validTrackSpec_g (x : TrackSpecV) (a : Option Addr) (c : Nat) (hx : x.f2.length ≤ 1048576) (hv : ∀ e ∈ x.f2, e.f4.size ≤ 1048576) (w : World) (h1 : SlS rowSectorSpec w a x.f2) :
    Calls Try.prog 13 #[.agg #[.int .i64 x.f0, .int .i64 x.f1, .slice a x.f2.length c]] w fun e w' => e = .returned (.bool (trackB x)) ∧ Below w.heap.size w w' := by
  have FM := Lib.hid (fun w => isFormat_any x.f0 w)
  have WI := Lib.hid (fun w T b hb => within_b 1 20 x.f1 w T b hb)
  have EV := Lib.hid (fun w' (hb : Below w.heap.size w w') => everySector_any a x.f2 c w' hx (fun e he => by have := hv e he; unfold maxLen; omega) (h1.below hb (Nat.le_refl _)))
  have BX := Lib.hid (fun w2 (hb : Below (w.alloc (.cells #[.int .i64 x.f0, .int .i64 x.f1, .slice a x.f2.length c] 29)).heap.size (w.alloc (.cells #[.int .i64 x.f0, .int .i64 x.f1, .slice a x.f2.length c] 29)) w2) => (show w2.cell? ⟨w.heap.size, 0, none⟩ = some (.int .i64 x.f0) ∧ w2.cell? ⟨w.heap.size, 1, none⟩ = some (.int .i64 x.f1) ∧ w2.cell? ⟨w.heap.size, 2, none⟩ = some (.slice a x.f2.length c) from by
    have h := (BoxAt.new w #[.int .i64 x.f0, .int .i64 x.f1, .slice a x.f2.length c] 29 _ rfl).below hb (by simp)
    exact ⟨h 0 _ rfl, h 1 _ rfl, h 2 _ rfl⟩))
  clear h1 hv
  unfold trackB
  obtain ⟨p, hp⟩ : ∃ p, inB 1 3 x.f0 = p := ⟨_, rfl⟩
  rw [hp] at FM ⊢
  obtain ⟨q, hq⟩ : ∃ q, inB 1 20 x.f1 = q := ⟨_, rfl⟩
  rw [hq] at WI ⊢
  obtain ⟨r, hr⟩ : ∃ r, x.f2.all sectorB = r := ⟨_, rfl⟩
  rw [hr] at EV ⊢
  clear hp hq hr
  cases p with
  | false =>
    go_enter Try.func13, Try.ntmps13
    go_wp2_with fail
    refine (FM.out _).mono ?_
    rintro e w1 ⟨rfl, hb1⟩
    go_wp2
    go_ret
    exact ⟨rfl, Below.trans (show Below w.heap.size w _ from (Below.refl _ _).alloc (Nat.le_refl _) _) (hb1.mono (by simp))⟩
  | true =>
    cases q with
    | false =>
      go_enter Try.func13, Try.ntmps13
      go_wp2_with fail
      refine (FM.out _).mono ?_
      rintro e w1 ⟨rfl, hb1⟩
      obtain ⟨c0, c1, c2⟩ := BX.out _ hb1
      have FB := Lib.hid (show Below w.heap.size w w1 from Below.trans (show Below w.heap.size w _ from (Below.refl _ _).alloc (Nat.le_refl _) _) (hb1.mono (by simp)))
      clear hb1
      go_wp2_with fail
      refine (WI.out _ _ _ rfl).mono ?_
      rintro e w2 ⟨rfl, hb2⟩
      go_wp2
      go_ret
      exact ⟨rfl, FB.out.trans (hb2.mono FB.out.size)⟩
    | true =>
      by_cases hl : x.f2.length ≤ 8
      case neg =>
        have hl2 : (8 : Int) < x.f2.length := by omega
        have HD := Lib.hid (show decide (x.f2.length ≤ 8) = false by simpa using hl)
        clear hl
        go_enter Try.func13, Try.ntmps13
        go_wp2_with fail
        refine (FM.out _).mono ?_
        rintro e w1 ⟨rfl, hb1⟩
        obtain ⟨c0, c1, c2⟩ := BX.out _ hb1
        have FB := Lib.hid (show Below w.heap.size w w1 from Below.trans (show Below w.heap.size w _ from (Below.refl _ _).alloc (Nat.le_refl _) _) (hb1.mono (by simp)))
        have HB1 := Lib.hid hb1; clear hb1
        go_wp2_with fail
        refine (WI.out _ _ _ rfl).mono ?_
        rintro e w2 ⟨rfl, hb2⟩
        clear c0 c1 c2
        obtain ⟨c0, c1, c2⟩ := BX.out _ (HB1.out.trans (hb2.mono HB1.out.size))
        replace FB := Lib.hid (FB.out.trans (hb2.mono FB.out.size)); clear hb2
        go_wp2
        go_ret
        exact ⟨ret_bool (by rw [HD.out]; rfl), FB.out⟩
      have hl2 : ¬ (8 : Int) < x.f2.length := by omega
      have HD := Lib.hid (show decide (x.f2.length ≤ 8) = true by simpa using hl)
      clear hl
      go_enter Try.func13, Try.ntmps13
      go_wp2_with fail
      refine (FM.out _).mono ?_
      rintro e w1 ⟨rfl, hb1⟩
      obtain ⟨c0, c1, c2⟩ := BX.out _ hb1
      have FB := Lib.hid (show Below w.heap.size w w1 from Below.trans (show Below w.heap.size w _ from (Below.refl _ _).alloc (Nat.le_refl _) _) (hb1.mono (by simp)))
      have HB1 := Lib.hid hb1; clear hb1
      go_wp2_with fail
      refine (WI.out _ _ _ rfl).mono ?_
      rintro e w2 ⟨rfl, hb2⟩
      clear c0 c1 c2
      obtain ⟨c0, c1, c2⟩ := BX.out _ (HB1.out.trans (hb2.mono HB1.out.size))
      replace FB := Lib.hid (FB.out.trans (hb2.mono FB.out.size)); clear hb2
      go_wp2_with fail
      refine (EV.out _ FB.out).mono ?_
      rintro e w3 ⟨rfl, hb3⟩
      go_wp2
      go_ret
      exact ⟨ret_bool (by rw [HD.out]; simp), FB.out.trans (hb3.mono FB.out.size)⟩
set_option maxHeartbeats 4000000 in
theorem l08Parts_any (x : TrackSpecV) (a : Option Addr) (c p : Nat) (w : World) (hx : x.f2.length ≤ 1048576) (hv : ∀ e ∈ x.f2, e.f4.size ≤ 1048576) (hp : BoxAt w p #[.int .i64 x.f0, .int .i64 x.f1, .slice a x.f2.length c]) (h1 : SlS rowSectorSpec w a x.f2) :
    Calls Try.prog 47 #[.pointer (some ⟨p, 0, none⟩)] w fun e w' => e = .returned (.bool (trackB x)) ∧ Below w.heap.size w w' := by
  have FM := Lib.hid (fun w => l07Format_any x.f0 w)
  have WI := Lib.hid (fun w => l00In_any x.f1 1 20 w)
  have hlt : p < w.heap.size := hp.lt (by simp)
  have c0 := hp 0 _ rfl
  have c1 := hp 1 _ rfl
  have c2 := hp 2 _ rfl
  have HP := Lib.hid (fun w' (hb : Below w.heap.size w w') => (hp.below hb hlt) 2 _ rfl)
  have HS := Lib.hid (fun w' (hb : Below w.heap.size w w') => h1.below hb (Nat.le_refl _))
  have HV := Lib.hid hv
  clear h1 hv hp
  unfold trackB
  obtain ⟨u, hu⟩ : ∃ u, inB 1 3 x.f0 = u := ⟨_, rfl⟩
  rw [hu] at FM ⊢
  obtain ⟨q, hq⟩ : ∃ q, inB 1 20 x.f1 = q := ⟨_, rfl⟩
  rw [hq] at WI ⊢
  clear hu hq
  cases u with
  | false =>
    go_enter Try.func47, Try.ntmps47
    go_wp2_with fail
    refine (FM.out _).mono ?_
    rintro e w1 ⟨rfl, rfl⟩
    go_wp2
    go_ret
    exact ⟨rfl, Below.refl _ _⟩
  | true =>
    cases q with
    | false =>
      go_enter Try.func47, Try.ntmps47
      go_wp2_with fail
      refine (FM.out _).mono ?_
      rintro e w1 ⟨rfl, rfl⟩
      go_wp2_with fail
      refine (WI.out _).mono ?_
      rintro e w1 ⟨rfl, rfl⟩
      go_wp2
      go_ret
      exact ⟨rfl, Below.refl _ _⟩
    | true =>
      by_cases hl : x.f2.length ≤ 8
      case neg =>
        have hl2 : (8 : Int) < x.f2.length := by omega
        have HD := Lib.hid (show decide (x.f2.length ≤ 8) = false by simpa using hl)
        clear hl
        go_enter Try.func47, Try.ntmps47
        go_wp2_with fail
        refine (FM.out _).mono ?_
        rintro e w1 ⟨rfl, rfl⟩
        go_wp2_with fail
        refine (WI.out _).mono ?_
        rintro e w1 ⟨rfl, rfl⟩
        go_wp2
        go_ret
        exact ⟨ret_bool (by rw [HD.out]; rfl), Below.refl _ _⟩
      have hl2 : ¬ (8 : Int) < x.f2.length := by omega
      have HD := Lib.hid (show decide (x.f2.length ≤ 8) = true by simpa using hl)
      clear hl
      go_enter Try.func47, Try.ntmps47
      go_wp2_with fail
      refine (FM.out _).mono ?_
      rintro e w1 ⟨rfl, rfl⟩
      go_wp2_with fail
      refine (WI.out _).mono ?_
      rintro e w1 ⟨rfl, rfl⟩
      go_wp2
      clear c0 c1 c2
      go_loopw [3] (fun i wr => ∃ k : Nat, k ≤ x.f2.length ∧ i = .int .i64 k ∧ Hid ((x.f2.take k).all sectorB = true) ∧ Below w.heap.size w wr) (fun i _ => x.f2.length - (intOf i).toNat)
      case atStart => exact ⟨0, Nat.zero_le _, rfl, by unfold Hid; rfl, Below.refl _ _⟩
      case round =>
        obtain ⟨k, hk, rfl, hR, hb⟩ := hrel
        have c2 : wr.cell? ⟨p, 2, none⟩ = some (.slice a x.f2.length c) := HP.out _ hb
        by_cases hlt2 : k < x.f2.length
        · obtain ⟨e, hxk⟩ : ∃ e, x.f2[k]? = some e := ⟨x.f2[k], by simp [hlt2]⟩
          obtain ⟨b, off, rfl, hbl, hc⟩ := (HS.out _ hb).at rowSectorSpec_len hxk
          have CL := Lib.hid (fun w hp => l08SectorV_any e b (off + k * 8) w (by have := HV.out e (List.mem_of_getElem? hxk); unfold maxLen; omega) hp)
          have HC := Lib.hid (show SecSpAt wr b (off + k * 8) e from hc)
          have HX := Lib.hid hxk; clear hc hxk hbl
          obtain ⟨q, hq⟩ : ∃ q, sectorB e = q := ⟨_, rfl⟩
          rw [hq] at CL
          have HQ := Lib.hid hq; clear hq
          cases q with
          | false =>
            have HR := Lib.hid (show x.f2.all sectorB = false from List.all_eq_false.2 ⟨e, List.mem_of_getElem? HX.out, by rw [HQ.out]; simp⟩)
            go_wp2_with fail
            refine (CL.out _ HC.out).mono ?_
            rintro e_ w1 ⟨rfl, hb1⟩
            go_wp2
            go_ret
            exact ⟨ret_bool (by rw [HR.out]; simp), hb.trans (hb1.mono hb.size)⟩
          | true =>
            go_wp2_with fail
            refine (CL.out _ HC.out).mono ?_
            rintro e_ w1 ⟨rfl, hb1⟩
            clear c2
            go_wp2
            go_roundw
            case rel => exact ⟨k + 1, by omega, by go_num, by unfold Hid; rw [List.take_add_one, HX.out, List.all_append, hR.out]; simp [HQ.out], hb.trans (hb1.mono hb.size)⟩
            case measure => simp [intOf]; omega
        · obtain rfl : k = x.f2.length := by omega
          have HR := Lib.hid (show x.f2.all sectorB = true by have := hR.out; rwa [List.take_length] at this)
          go_wp2
          go_ret
          exact ⟨ret_bool (by rw [HR.out, HD.out]; rfl), hb⟩
theorem specValidTrackSpec_g (x : TrackSpecV) (a : Option Addr) (c : Nat) (hx : x.f2.length ≤ 1048576) (hv : ∀ e ∈ x.f2, e.f4.size ≤ 1048576) (w : World) (h1 : SlS rowSectorSpec w a x.f2) :
    Calls Try.prog 11 #[.agg #[.int .i64 x.f0, .int .i64 x.f1, .slice a x.f2.length c]] w fun e w' => e = .returned (.bool (trackB x)) ∧ Below w.heap.size w w' := by
  have HL := Lib.hid (fun p w' (hb : Below w.heap.size w w') hp => l08Parts_any x a c p w' hx hv hp (h1.below hb (Nat.le_refl _)))
  clear h1 hv
  go_enter Try.func11, Try.ntmps11
  go_wp2_with (go_at_call 47; refine (HL.out _ _ ((Below.refl _ _).alloc (Nat.le_refl _) _) (BoxAt.new _ _ _ _ rfl)).mono ?_; rintro e w2 ⟨rfl, hb2⟩)
  go_ret
  exact ⟨rfl, Below.trans (show Below w.heap.size w _ from (Below.refl _ _).alloc (Nat.le_refl _) _) (hb2.mono (by simp))⟩
end Go.Proofs.Ytdpnpmfhnfecaaa
