/- (impl.geometry).exists, missing, total, fits; (impl.Disc).shaped, (impl.shapedDisc).valid, impl.ValidDisc -/
import Derived.Test.YtllcbiafghhcmaaPkFnDeviceOrderDiscOkN
import Derived.Test.YtllcbiafghhcmaaPkFnDeviceOrderEqSector
import Derived.Test.YtllcbiafghhcmaaShelf
namespace Go.Proofs.Ytllcbiafghhcmaa
open Go.RowKit
set_option linter.unusedVariables false
set_option linter.unusedSimpArgs false
set_option maxRecDepth 20000
set_option maxHeartbeats 2000000 in
theorem exists_any (a b c d : Int) (w : World) :
    Calls Try.prog 56 #[.agg #[.int .i64 a, .int .i64 b, .int .i64 c, .int .i64 d]] w fun e w' => e = .returned (.bool (geoB a b c d)) ∧ Below w.heap.size w w' := by
  have IA := Lib.hid (fun w T x hx => within_b 1 8 a w T x hx)
  have IB := Lib.hid (fun w T x hx => within_b 1 2 b w T x hx)
  have IC := Lib.hid (fun w T x hx => within_b 1 8 c w T x hx)
  have IZ := Lib.hid (fun w => isSize_any d w)
  unfold geoB
  obtain ⟨x1, h1⟩ : ∃ x, inB 1 8 a = x := ⟨_, rfl⟩
  obtain ⟨x2, h2⟩ : ∃ x, inB 1 2 b = x := ⟨_, rfl⟩
  obtain ⟨x3, h3⟩ : ∃ x, inB 1 8 c = x := ⟨_, rfl⟩
  obtain ⟨x4, h4⟩ : ∃ x, inB 0 2 d = x := ⟨_, rfl⟩
  rw [h1] at IA ⊢
  rw [h2] at IB ⊢
  rw [h3] at IC ⊢
  rw [h4] at IZ ⊢
  clear h1 h2 h3 h4
  go_enter Try.func56, Try.ntmps56
  go_wp2_with fail
  refine (IA.out _ _ _ (by simp)).mono ?_
  rintro e w1 ⟨rfl, hb1⟩
  have B1 := (BoxAt.new w #[.int .i64 a, .int .i64 b, .int .i64 c, .int .i64 d] 70 _ rfl).below hb1 (by simp)
  have F1 := Lib.hid (show Below w.heap.size w w1 from Below.trans (show Below w.heap.size w _ from (Below.refl _ _).alloc (Nat.le_refl _) _) (hb1.mono (by simp)))
  have hz1 : w.heap.size < w1.heap.size := by have := hb1.size; simp at this; omega
  have q1 := B1 1 _ rfl
  have B1 := Lib.hid B1
  clear hb1
  cases x1 with
  | false =>
    go_wp2
    go_ret
    exact ⟨rfl, F1.out⟩
  | true =>
  go_wp2_with fail
  refine (IB.out _ _ _ (by simp)).mono ?_
  rintro e w2 ⟨rfl, hb2⟩
  clear q1
  have B2 := B1.out.below hb2 hz1
  have F2 := Lib.hid (F1.out.trans (hb2.mono F1.out.size))
  have hz2 : w.heap.size < w2.heap.size := Nat.lt_of_lt_of_le hz1 hb2.size
  have q2 := B2 2 _ rfl
  have B2 := Lib.hid B2
  clear hb2 B1 F1
  cases x2 with
  | false =>
    go_wp2
    go_ret
    exact ⟨rfl, F2.out⟩
  | true =>
  go_wp2_with fail
  refine (IC.out _ _ _ (by simp)).mono ?_
  rintro e w3 ⟨rfl, hb3⟩
  clear q2
  have B3 := B2.out.below hb3 hz2
  have F3 := Lib.hid (F2.out.trans (hb3.mono F2.out.size))
  have q3 := B3 3 _ rfl
  clear hb3 B2 F2
  cases x3 with
  | false =>
    go_wp2
    go_ret
    exact ⟨rfl, F3.out⟩
  | true =>
  go_wp2_with fail
  refine (IZ.out _).mono ?_
  rintro e w4 ⟨rfl, hb4⟩
  go_wp2
  go_ret
  exact ⟨by cases x4 <;> rfl, F3.out.trans (hb4.mono F3.out.size)⟩
set_option maxHeartbeats 1000000 in
theorem tracks_any (a b c d : Int) (w : World) (h0 : 1 ≤ a ∧ a ≤ 8) (h1 : 1 ≤ b ∧ b ≤ 2) :
    Calls Try.prog 72 #[.agg #[.int .i64 a, .int .i64 b, .int .i64 c, .int .i64 d]] w fun e w' => e = .returned (.int .i64 (a * b)) ∧ Below w.heap.size w w' := by
  have hw : wrap64 (a * b) = a * b := by
    have := (mul_bound h0 h1 (show (1 : Int) ≤ 1 ∧ (1 : Int) ≤ 8 by omega)).2.2
    unfold wrap64; omega
  clear h0 h1
  go_enter Try.func72, Try.ntmps72
  go_wp2
  go_ret
  exact ⟨ret_int (by first | rfl | exact hw), by go_grown⟩
set_option maxHeartbeats 1000000 in
theorem total_any (a b c d : Int) (w : World) (h : geoB a b c d = true) :
    Calls Try.prog 50 #[.agg #[.int .i64 a, .int .i64 b, .int .i64 c, .int .i64 d]] w fun e w' => e = .returned (.int .i64 (a * b * c)) ∧ Below w.heap.size w w' := by
  obtain ⟨h0, h1, h2, _⟩ := geoB_iff.1 h
  have TR := Lib.hid (fun w => tracks_any a b c d w h0 h1)
  have hw : IntKind.i64.wrap (a * b * c) = a * b * c := by
    have := mul_bound h0 h1 h2
    exact IntWalk.i64_in _ (by omega)
  clear h0 h1 h2 h
  generalize a * b = m at *
  go_enter Try.func50, Try.ntmps50
  go_wp2
  have BX := BoxAt.new w #[.int .i64 a, .int .i64 b, .int .i64 c, .int .i64 d] 70 _ rfl
  generalize hW : w.alloc (.cells #[.int .i64 a, .int .i64 b, .int .i64 c, .int .i64 d] 70) = W at *
  have FB := Lib.hid (show Below w.heap.size w W by rw [← hW]; exact (Below.refl _ _).alloc (Nat.le_refl _) _)
  have hlt : w.heap.size < W.heap.size := by rw [← hW]; simp
  clear hW
  have KS := Lib.hid (fun w' (hb : Below W.heap.size W w') => (show w'.cell? ⟨w.heap.size, 0, none⟩ = some (.int .i64 a) ∧ w'.cell? ⟨w.heap.size, 1, none⟩ = some (.int .i64 b) ∧ w'.cell? ⟨w.heap.size, 2, none⟩ = some (.int .i64 c) ∧ w'.cell? ⟨w.heap.size, 3, none⟩ = some (.int .i64 d) from ⟨(BX.below hb hlt) 0 _ rfl, (BX.below hb hlt) 1 _ rfl, (BX.below hb hlt) 2 _ rfl, (BX.below hb hlt) 3 _ rfl⟩))
  have hks := KS.out _ (Below.refl _ _)
  have HC := Lib.hid (show Below W.heap.size W W.drew from (Below.refl _ _).drew)
  clear BX
  go_region_held3 (fun w' => w'.cell? ⟨w.heap.size, 0, none⟩ = some (.int .i64 a) ∧ w'.cell? ⟨w.heap.size, 1, none⟩ = some (.int .i64 b) ∧ w'.cell? ⟨w.heap.size, 2, none⟩ = some (.int .i64 c) ∧ w'.cell? ⟨w.heap.size, 3, none⟩ = some (.int .i64 d))
    (first | (with_reducible exact KS.out _ HC.out) | go_keep)
    (first | (go_at_call 72; ((with_reducible refine (TR.out _).mono ?_); rintro e w2 ⟨rfl, hb2⟩; replace HC := Lib.hid (HC.out.trans (hb2.mono HC.out.size)))) | fail)
  all_goals
    go_wp2
    go_ret
    exact ⟨ret_int (by first | rfl | exact hw), FB.out.trans (HC.out.mono FB.out.size)⟩
theorem repeatL_zero : ∀ n, Lib.repeatL [(0 : UInt8)] n = List.replicate n 0
  | 0 => rfl
  | n + 1 => by rw [Lib.repeatL, repeatL_zero n, List.replicate_succ]; rfl
theorem repeatZ_any (n : Nat) (hn : n = 8 ∨ n = 16 ∨ n = 32) (w : World) : Calls Try.prog 84 #[.string ⟨#[0]⟩, .int .i64 (n : Int)] w fun e w' => e = .returned (.string (zerosS n)) ∧ Below w.heap.size w w' := by
  have h := Try.strings_Repeat_main ⟨#[0]⟩ n w (by omega) (by omega) (by show 1 * n ≤ _; omega) (by decide)
  rw [show (⟨#[0]⟩ : ByteArray).data.toList = [(0 : UInt8)] from rfl, repeatL_zero] at h
  exact h
set_option maxHeartbeats 1000000 in
theorem missing_any (a b c d : Int) (n : Nat) (w : World) (h : inB 0 2 d = true) (hsn : secN d = (n : Int)) (hn : n = 8 ∨ n = 16 ∨ n = 32) :
    Calls Try.prog 75 #[.agg #[.int .i64 a, .int .i64 b, .int .i64 c, .int .i64 d]] w fun e w' => e = .returned (.agg #[.string (zerosS n), .int .i64 3]) ∧ Below w.heap.size w w' := by
  have BI := Lib.hid (fun w => bytesIn_any d w h)
  rw [hsn] at BI
  have ZR := Lib.hid (fun w => repeatZ_any n hn w)
  clear h hsn hn
  go_enter Try.func75, Try.ntmps75
  go_wp2_with fail
  refine (BI.out _).mono ?_
  rintro e w1 ⟨rfl, rfl⟩
  go_wp2_with fail
  refine (ZR.out _).mono ?_
  rintro e w2 ⟨rfl, hb2⟩
  have r0 : w2.cell? ⟨w.heap.size + 1, 0, none⟩ = some (.string ⟨#[]⟩) := by rw [hb2.cell (p := ⟨w.heap.size + 1, 0, none⟩) (by simp)]; simp [go_sem]
  have r1 : w2.cell? ⟨w.heap.size + 1, 1, none⟩ = some (.int .i64 0) := by rw [hb2.cell (p := ⟨w.heap.size + 1, 1, none⟩) (by simp)]; simp [go_sem]
  have y0 : w2.frozen? ⟨w.heap.size + 1, 0, none⟩ = false := by rw [hb2.frozen (p := ⟨w.heap.size + 1, 0, none⟩) (by simp)]; simp [go_sem]
  have y1 : w2.frozen? ⟨w.heap.size + 1, 1, none⟩ = false := by rw [hb2.frozen (p := ⟨w.heap.size + 1, 1, none⟩) (by simp)]; simp [go_sem]
  have FB := Lib.hid (show Below w.heap.size w w2 from Below.trans (by go_grown) (hb2.mono (by simp; omega)))
  clear hb2
  go_wp2
  refine bodyPost_ret (v := .agg #[.string (zerosS n), .int .i64 3]) (by simp [results, Try.results75, go_sem, r0, y0, r1, y1]) rfl ⟨rfl, ?_⟩
  exact ((FB.out).setCell (by simp) _).setCell (by simp) _
theorem eqlSector (x y : SectorV) (w : World) : (binOp .eql 39 (.agg #[.string x.f0, .int .i64 x.f1]) (.agg #[.string y.f0, .int .i64 y.f1])).run Try.prog w = .ok (.bool (sameSector x y)) w := by
  rw [run_eql_struct]
  have e := run_equalIn_struct (P := Try.prog) w 9999 39 #[.string x.f0, .int .i64 x.f1] #[.string y.f0, .int .i64 y.f1] (by kernel_rfl) heldSector
  rw [e]
  simp only [Program.fieldsOf, Try.underlying39]
  simp [Op.eqFields, go_sem, Try.underlying2, Try.underlying9]
  try simp only [toListIffSector]
  unfold sameSector
  by_cases h0 : x.f0 = y.f0
  case neg => simp [h0]
  by_cases h1 : x.f1 = y.f1
  case neg => simp [h0, h1]
  simp [h0, h1]
set_option maxHeartbeats 2000000 in
theorem fits1_any (e : SectorV) (p n : Nat) (w : World) (hs : e.f0.size ≤ maxLen) (hn : n = 8 ∨ n = 16 ∨ n = 32) (h0 : w.cell? ⟨p, 0, none⟩ = some (.string (zerosS n))) (h1 : w.cell? ⟨p, 1, none⟩ = some (.int .i64 3)) :
    Calls Try.prog 77 #[.agg #[.string e.f0, .int .i64 e.f1], .pointer (some ⟨p, 0, none⟩)] w fun x w' => x = .returned (.bool (secOkB n e)) ∧ Below w.heap.size w w' := by
  obtain ⟨s, st⟩ := e
  dsimp only at hs ⊢
  unfold maxLen at hs
  have hlt := World.block_lt_of_cell? w _ h0
  have hz : (zerosS n).size = n := zerosS_size n
  by_cases h3 : st = 3
  · subst h3
    have he := fun w => eqlSector ⟨s, 3⟩ ⟨zerosS n, 3⟩ w
    have hr : secOkB n ⟨s, 3⟩ = sameSector ⟨s, 3⟩ ⟨zerosS n, 3⟩ := by
      unfold secOkB sameSector
      have : inB 1 4 3 = true := rfl
      by_cases hq : s = zerosS n
      · subst hq; simp [this, hz]
      · simp [hq]
    rw [hr]
    generalize sameSector ⟨s, 3⟩ ⟨zerosS n, 3⟩ = q at *
    have g0 : (w.alloc (.cells #[.string s, .int .i64 3] 39)).cell? ⟨p, 0, none⟩ = some (.string (zerosS n)) := by rw [World.cell?_of_block (Below.heap_alloc w _ p hlt)]; exact h0
    have g1 : (w.alloc (.cells #[.string s, .int .i64 3] 39)).cell? ⟨p, 1, none⟩ = some (.int .i64 3) := by rw [World.cell?_of_block (Below.heap_alloc w _ p hlt)]; exact h1
    clear hr hz hn h0 h1
    go_enter Try.func77, Try.ntmps77
    go_wp2
    go_ret
    exact ⟨rfl, by go_grown⟩
  · have WI := Lib.hid (fun w T x hx => within_b 1 4 st w T x hx)
    have hr : secOkB n ⟨s, st⟩ = (inB 1 4 st && decide (s.size = n)) := by
      unfold secOkB
      simp [h3, Bool.and_comm]
    rw [hr]
    have h3b : (st == 3) = false := by simp [h3]
    obtain ⟨q, hq⟩ : ∃ q, inB 1 4 st = q := ⟨_, rfl⟩
    rw [hq] at WI ⊢
    have hd : ((s.size : Int) == ((zerosS n).size : Int)) = decide (s.size = n) := by
      rw [hz]
      by_cases hx : s.size = n
      · simp [hx]
      · simp [hx]; omega
    obtain ⟨r, hrr⟩ : ∃ r, decide (s.size = n) = r := ⟨_, rfl⟩
    rw [hrr] at hd ⊢
    have hzn : (zerosS n).size ≤ 32 := by omega
    have HN := Lib.hid (And.intro hn (And.intro hz hrr))
    clear hn hz hrr hr hq h3
    generalize zerosS n = Z at *
    go_enter Try.func77, Try.ntmps77
    go_wp2_with fail
    refine (WI.out _ _ _ (by simp)).mono ?_
    rintro e w1 ⟨rfl, hb1⟩
    have F1 := Lib.hid (show Below w.heap.size w w1 from Below.trans (show Below w.heap.size w _ from (Below.refl _ _).alloc (Nat.le_refl _) _) (hb1.mono (by simp)))
    have g0 : w1.cell? ⟨p, 0, none⟩ = some (.string Z) := by rw [F1.out.cell (p := ⟨p, 0, none⟩) hlt]; exact h0
    have B1 := (BoxAt.new w #[.string s, .int .i64 st] 39 _ rfl).below hb1 (by simp)
    have q0 := B1 0 _ rfl
    clear hb1 B1 h0 h1
    cases q with
    | false =>
      go_wp2
      go_ret
      exact ⟨rfl, F1.out⟩
    | true =>
      go_wp2
      go_ret
      exact ⟨by cases r <;> rfl, F1.out⟩
set_option maxHeartbeats 2000000 in
theorem everyFits_any (a : Option Addr) (es : List SectorV) (c p n : Nat) (w : World) (hm : es.length ≤ 1048576) (hs : ∀ e ∈ es, e.f0.size ≤ maxLen) (hn : n = 8 ∨ n = 16 ∨ n = 32) (h0 : w.cell? ⟨p, 0, none⟩ = some (.string (zerosS n))) (h1 : w.cell? ⟨p, 1, none⟩ = some (.int .i64 3)) (h : SlS rowSector w a es) :
    Calls Try.prog 76 #[.slice a es.length c, .func (.func 77) #[] #[.pointer (some ⟨p, 0, none⟩)]] w fun x w' => x = .returned (.bool (es.all (secOkB n))) ∧ Below w.heap.size w w' := by
  have hplt := World.block_lt_of_cell? w _ h0
  have HP := Lib.hid (And.intro h0 (And.intro h1 hn)); clear h0 h1 hn
  go_enter Try.func76, Try.ntmps76
  go_wp2
  go_loopw [9] (fun i wr => ∃ (k : Nat), k ≤ es.length ∧ i = .int .i64 k ∧ Hid ((es.take k).all (secOkB n) = true) ∧ Below w.heap.size w wr) (fun i _ => es.length - (intOf i).toNat)
  case atStart => exact ⟨0, Nat.zero_le _, rfl, by unfold Hid; rfl, Below.refl _ _⟩
  case round =>
    obtain ⟨k, hk, rfl, hR, hb⟩ := hrel
    by_cases hlt2 : k < es.length
    · obtain ⟨e, hx⟩ : ∃ e, es[k]? = some e := ⟨es[k], by simp [hlt2]⟩
      obtain ⟨b, off, rfl, hbl, hc⟩ := (h.below hb (Nat.le_refl _)).at rowSector_len hx
      have c0 : wr.cell? ⟨b, off + k * 2, none⟩ = some (.string e.f0) := hc 0 _ rfl
      have c1 : wr.cell? ⟨b, off + k * 2 + 1, none⟩ = some (.int .i64 e.f1) := hc 1 _ rfl
      have CL := Lib.hid (fun w' (hbw : Below w.heap.size w w') => fits1_any e p n w' (hs e (List.mem_of_getElem? hx)) HP.out.2.2 (by rw [hbw.cell (p := ⟨p, 0, none⟩) hplt]; exact HP.out.1) (by rw [hbw.cell (p := ⟨p, 1, none⟩) hplt]; exact HP.out.2.1))
      have HBA := Lib.hid (fun o : Obj => hb.alloc hb.size o)
      have H := Lib.hid (And.intro h (And.intro hc (And.intro hx trivial))); clear h hc hx
      obtain ⟨q, hq⟩ : ∃ q, secOkB n e = q := ⟨_, rfl⟩
      rw [hq] at CL
      have HQ := Lib.hid hq; clear hq
      cases q with
      | false =>
        have HR := Lib.hid (show es.all (secOkB n) = false from List.all_eq_false.2 ⟨e, List.mem_of_getElem? H.out.2.2.1, by rw [HQ.out]; simp⟩)
        go_wp2_with fail
        refine (CL.out _ (by first | exact hb | exact HBA.out _)).mono ?_
        rintro e_ w1 ⟨rfl, hb1⟩
        go_wp2
        go_ret
        exact ⟨ret_bool HR.out.symm, hb.trans (Below.trans (show Below w.heap.size wr _ from (Below.refl _ _).alloc hb.size _) (hb1.mono (by have := hb.size; simp <;> omega)))⟩
      | true =>
        go_wp2_with fail
        refine (CL.out _ (by first | exact hb | exact HBA.out _)).mono ?_
        rintro e_ w1 ⟨rfl, hb1⟩
        clear c0 c1
        go_wp2
        go_roundw
        case rel => exact ⟨k + 1, by omega, by go_num, by unfold Hid; rw [List.take_add_one, H.out.2.2.1, List.all_append, hR.out]; simp [HQ.out], hb.trans (Below.trans (show Below w.heap.size wr _ from (Below.refl _ _).alloc hb.size _) (hb1.mono (by have := hb.size; simp <;> omega)))⟩
        case measure => simp [intOf]; omega
    · obtain rfl : k = es.length := by omega
      have HR := Lib.hid (show es.all (secOkB n) = true by have := hR.out; rwa [List.take_length] at this)
      go_wp2
      go_ret
      exact ⟨ret_bool HR.out.symm, hb⟩
set_option maxHeartbeats 2000000 in
theorem fits_any (ga gb gc d : Int) (a : Option Addr) (es : List SectorV) (c n : Nat) (w : World) (hm : es.length ≤ 1048576) (hs : ∀ e ∈ es, e.f0.size ≤ maxLen) (hd : inB 0 2 d = true) (hsn : secN d = (n : Int)) (hn : n = 8 ∨ n = 16 ∨ n = 32) (h : SlS rowSector w a es) :
    Calls Try.prog 48 #[.agg #[.int .i64 ga, .int .i64 gb, .int .i64 gc, .int .i64 d], .slice a es.length c] w fun x w' => x = .returned (.bool (es.all (secOkB n))) ∧ Below w.heap.size w w' := by
  have MI := Lib.hid (fun w => missing_any ga gb gc d n w hd hsn hn)
  have EV := Lib.hid (fun p w' (hb : Below w.heap.size w w') h0 h1 => everyFits_any a es c p n w' hm hs hn h0 h1 (h.below hb (Nat.le_refl _)))
  clear h hs hsn hd hn
  go_enter Try.func48, Try.ntmps48
  go_wp2_with fail
  refine (MI.out _).mono ?_
  rintro e w1 ⟨rfl, hb1⟩
  have F1 := Lib.hid (show Below w.heap.size w w1 from Below.trans (by go_grown) (hb1.mono (by simp)))
  have F2 := Lib.hid (fun o : Obj => F1.out.alloc F1.out.size o)
  clear hb1
  go_wp2_with fail
  refine (EV.out _ _ ?_ ?_ ?_).mono ?_
  · first | exact F2.out _ | exact (((F2.out _).setCell (by have := F1.out.size; simp; omega) _).setCell (by have := F1.out.size; simp; omega) _)
  · simp [go_sem]
  · simp [go_sem]
  rintro e w2 ⟨rfl, hb2⟩
  go_wp2
  go_ret
  refine ⟨rfl, Below.trans ?_ (hb2.mono ?_)⟩
  · first | exact F2.out _ | exact (((F2.out _).setCell (by have := F1.out.size; simp; omega) _).setCell (by have := F1.out.size; simp; omega) _)
  · have := F1.out.size; simp; omega
end Go.Proofs.Ytllcbiafghhcmaa
