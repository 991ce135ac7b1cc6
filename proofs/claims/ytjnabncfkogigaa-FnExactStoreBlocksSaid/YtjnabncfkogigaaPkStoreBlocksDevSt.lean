/- impl.StoreBlocks, spec.StoreBlocks -/
import Derived.Test.YtjnabncfkogigaaPkStoreBlocksDevWr
import Derived.Test.YtjnabncfkogigaaPkStoreBlocksRecString
namespace Go.Proofs.Ytjnabncfkogigaa
open Go.RowKit
set_option linter.unusedVariables false
set_option linter.unusedSimpArgs false
set_option maxRecDepth 20000
def isBlkB (z : Int) (e : StringV) : Bool := secDataB z e.f0
/-- The sectors behind k stores. -/
def stoS (es : List SectorV) (zs : List Int) (l : List StringV) : Nat → List SectorV
  | 0 => es
  | k + 1 => match zs[k]?, l[k]? with
    | some z, some e => (stoS es zs l k).set z.toNat ⟨e.f0, 1⟩
    | _, _ => stoS es zs l k
theorem stoS_len (es : List SectorV) (zs : List Int) (l : List StringV) : ∀ k, (stoS es zs l k).length = es.length
  | 0 => rfl
  | k + 1 => by
    unfold stoS
    split
    · rw [List.length_set, stoS_len es zs l k]
    · exact stoS_len es zs l k
theorem stoS_succ {es : List SectorV} {zs : List Int} {l : List StringV} {k i : Nat} {e : StringV} (hz : zs[k]? = some (i : Int)) (he : l[k]? = some e) : stoS es zs l (k + 1) = (stoS es zs l k).set i ⟨e.f0, 1⟩ := by
  rw [stoS, hz, he]
  rfl
def stC (x : DeviceV) (l : List StringV) : Int := if devB x = true then (if (decide (l.length = x.f3.length) && l.all (isBlkB x.f0.f3)) = true then 0 else 7) else 1
def setF (x : DeviceV) (es : List SectorV) : DeviceV := { x with f0 := { x.f0 with f4 := es } }
def stV (x : DeviceV) (l : List StringV) : DeviceV := if stC x l = 0 then setF x (stoS x.f0.f4 x.f3 l l.length) else devZ
theorem stV_len (x : DeviceV) (l : List StringV) (h : LenDevice 1048576 x) : LenDevice 1048576 (stV x l) := by
  unfold stV
  split
  · exact ⟨by unfold setF; rw [stoS_len]; exact h.1, h.2⟩
  · exact ⟨by simp [devZ], by simp [devZ]⟩
set_option maxHeartbeats 1000000 in
theorem isBlock_any (e : StringV) (p : Nat) (z : Int) (w : World) (hs : e.f0.size ≤ maxLen) (hp : w.cell? ⟨p, 3, none⟩ = some (.int .i64 z)) :
    Calls Try.prog 64 #[.string e.f0, .pointer (some ⟨p, 0, none⟩)] w fun x w' => x = .returned (.bool (isBlkB z e)) ∧ Below w.heap.size w w' := by
  have ID := Lib.hid (isSectorData_any z e.f0 w hs)
  go_enter Try.func64, Try.ntmps64
  go_wp2_with fail
  refine ID.out.mono ?_
  rintro x w1 ⟨rfl, hb1⟩
  go_wp2
  go_ret
  exact ⟨rfl, hb1⟩
set_option maxHeartbeats 2000000 in
theorem everyBlock_any (p : Nat) (z : Int) (a : Option Addr) (es : List StringV) (c : Nat) (w : World) (hm : es.length ≤ 1048576) (hs : ∀ e ∈ es, e.f0.size ≤ maxLen) (hpl : p < w.heap.size) (hp : w.cell? ⟨p, 3, none⟩ = some (.int .i64 z)) (h : SlS rowString w a es) :
    Calls Try.prog 65 #[.slice a es.length c, .func (.func 64) #[] #[.pointer (some ⟨p, 0, none⟩)]] w fun x w' => x = .returned (.bool (es.all (isBlkB z))) ∧ Below w.heap.size w w' := by
  go_enter Try.func65, Try.ntmps65
  go_wp2
  go_loopw [9] (fun i wr => ∃ (k : Nat), k ≤ es.length ∧ i = .int .i64 k ∧ Hid ((es.take k).all (isBlkB z) = true) ∧ Below w.heap.size w wr) (fun i _ => es.length - (intOf i).toNat)
  case atStart => exact ⟨0, Nat.zero_le _, rfl, by unfold Hid; rfl, Below.refl _ _⟩
  case round =>
    obtain ⟨k, hk, rfl, hR, hb⟩ := hrel
    by_cases hlt2 : k < es.length
    · obtain ⟨e, hx⟩ : ∃ e, es[k]? = some e := ⟨es[k], by simp [hlt2]⟩
      obtain ⟨b, off, rfl, hbl, hc⟩ := (h.below hb (Nat.le_refl _)).at rowString_len hx
      have c0 : wr.cell? ⟨b, off + k * 1, none⟩ = some (.string e.f0) := hc 0 _ rfl
      rw [Nat.mul_one] at c0
      have hse := hs e (List.mem_of_getElem? hx)
      have CL := Lib.hid (fun w' (hb' : Below w.heap.size w w') => isBlock_any e p z w' hse ((hb'.cell (p := ⟨p, 3, none⟩) hpl).trans hp))
      have H := Lib.hid (And.intro h (And.intro hc (And.intro hx trivial))); clear h hc hx
      obtain ⟨q, hq⟩ : ∃ q, (isBlkB z) e = q := ⟨_, rfl⟩
      rw [hq] at CL
      have HQ := Lib.hid hq; clear hq
      cases q with
      | false =>
        have HR := Lib.hid (show es.all (isBlkB z) = false from List.all_eq_false.2 ⟨e, List.mem_of_getElem? H.out.2.2.1, by rw [HQ.out]; simp⟩)
        go_wp2_with fail
        refine (CL.out _ ?hbel).mono ?_
        case hbel => first | exact hb | exact hb.alloc hb.size _
        rintro e_ w1 ⟨rfl, hb1⟩
        go_wp2
        go_ret
        exact ⟨ret_bool HR.out.symm, hb.trans (hb1.mono hb.size)⟩
      | true =>
        go_wp2_with fail
        refine (CL.out _ ?hbel).mono ?_
        case hbel => first | exact hb | exact hb.alloc hb.size _
        rintro e_ w1 ⟨rfl, hb1⟩
        clear c0
        go_wp2
        go_roundw
        case rel => exact ⟨k + 1, by omega, by go_num, by unfold Hid; rw [List.take_add_one, H.out.2.2.1, List.all_append, hR.out]; simp [HQ.out], hb.trans (hb1.mono hb.size)⟩
        case measure => simp [intOf]; omega
    · obtain rfl : k = es.length := by omega
      have HR := Lib.hid (show es.all (isBlkB z) = true by have := hR.out; rwa [List.take_length] at this)
      go_wp2
      go_ret
      exact ⟨ret_bool HR.out.symm, hb⟩
set_option maxHeartbeats 8000000 in
theorem storeBlocks_any (x : DeviceV) (s0 s1 : Option Addr) (c0 c1 : Nat) (sl : Option Addr) (cl : Nat) (l : List StringV) (hL : LenDevice 1048576 x) (hV : StrDevice 1048576 x) (hm : l.length ≤ 1048576) (hs : ∀ e ∈ l, e.f0.size ≤ 1048576) (w : World) (h : SlDevice w s0 s1 x) (hl : SlS rowString w sl l) :
    Calls Try.prog 29 #[.agg #[.int .i64 x.f0.f0, .int .i64 x.f0.f1, .int .i64 x.f0.f2, .int .i64 x.f0.f3, .slice s0 x.f0.f4.length c0, .int .i64 x.f1, .int .i64 x.f2, .slice s1 x.f3.length c1], .slice sl l.length cl] w (DevRes (stV x l) (stC x l) w) := by
  have VD := Lib.hid (fun w' (hb : Below w.heap.size w w') => validDevice_any x s0 s1 c0 c1 hL hV w' (h.below hb (Nat.le_refl _)))
  have HA0 : BoxF ((w.alloc (.cells #[.int .i64 x.f0.f0, .int .i64 x.f0.f1, .int .i64 x.f0.f2, .int .i64 x.f0.f3, .slice s0 x.f0.f4.length c0, .int .i64 x.f1, .int .i64 x.f2, .slice s1 x.f3.length c1] 34)).alloc (.cells #[.int .i64 0, .int .i64 0, .int .i64 0, .int .i64 0, .slice none 0 0, .int .i64 0, .int .i64 0, .slice none 0 0] 34)) w.heap.size #[.int .i64 x.f0.f0, .int .i64 x.f0.f1, .int .i64 x.f0.f2, .int .i64 x.f0.f3, .slice s0 x.f0.f4.length c0, .int .i64 x.f1, .int .i64 x.f2, .slice s1 x.f3.length c1] := (BoxF.new w #[.int .i64 x.f0.f0, .int .i64 x.f0.f1, .int .i64 x.f0.f2, .int .i64 x.f0.f3, .slice s0 x.f0.f4.length c0, .int .i64 x.f1, .int .i64 x.f2, .slice s1 x.f3.length c1] 34 _ rfl).below ((Below.refl _ _).alloc (Nat.le_refl _) _) (by simp)
  have HR0 : BoxF ((w.alloc (.cells #[.int .i64 x.f0.f0, .int .i64 x.f0.f1, .int .i64 x.f0.f2, .int .i64 x.f0.f3, .slice s0 x.f0.f4.length c0, .int .i64 x.f1, .int .i64 x.f2, .slice s1 x.f3.length c1] 34)).alloc (.cells #[.int .i64 0, .int .i64 0, .int .i64 0, .int .i64 0, .slice none 0 0, .int .i64 0, .int .i64 0, .slice none 0 0] 34)) (w.heap.size + 1) #[.int .i64 0, .int .i64 0, .int .i64 0, .int .i64 0, .slice none 0 0, .int .i64 0, .int .i64 0, .slice none 0 0] := BoxF.new _ _ _ _ (by simp)
  have HA0 := Lib.hid HA0; have HR0 := Lib.hid HR0
  by_cases hdv : devB x = true
  case neg =>
    have hc : stC x l = 1 := by unfold stC; rw [if_neg hdv]
    have hv : stV x l = devZ := by unfold stV; rw [hc]; rfl
    rw [hc, hv]
    have hd0 : devB x = false := by simpa using hdv
    rw [hd0] at VD
    clear hc hv hd0 hdv h hl hs hL hV
    go_enter Try.func29, Try.ntmps29
    go_wp2_with fail
    refine (VD.out _ (by go_grown)).mono ?_
    rintro e w1 ⟨rfl, hb1⟩
    have R := Lib.hid (HR0.out.below hb1 (by simp))
    have FB := Lib.hid (show Below w.heap.size w w1 from Below.trans (by go_grown) (hb1.mono (by simp <;> omega)))
    clear hb1
    obtain ⟨r0, y0⟩ := R.out 0 _ rfl; obtain ⟨r1, y1⟩ := R.out 1 _ rfl; obtain ⟨r2, y2⟩ := R.out 2 _ rfl; obtain ⟨r3, y3⟩ := R.out 3 _ rfl; obtain ⟨r4, y4⟩ := R.out 4 _ rfl; obtain ⟨r5, y5⟩ := R.out 5 _ rfl; obtain ⟨r6, y6⟩ := R.out 6 _ rfl; obtain ⟨r7, y7⟩ := R.out 7 _ rfl
    go_wp2
    exact bodyPost_ret (v := .tuple #[.agg #[.int .i64 0, .int .i64 0, .int .i64 0, .int .i64 0, .slice none 0 0, .int .i64 0, .int .i64 0, .slice none 0 0], .int .i64 1]) (by simp [results, Try.results29, go_sem, r0, y0, r1, y1, r2, y2, r3, y3, r4, y4, r5, y5, r6, y6, r7, y7]) rfl ⟨none, none, 0, 0, rfl, devZ_own _ _ _, ((((((((FB.out).setCell (by simp <;> omega) _).setCell (by simp <;> omega) _).setCell (by simp <;> omega) _).setCell (by simp <;> omega) _).setCell (by simp <;> omega) _).setCell (by simp <;> omega) _).setCell (by simp <;> omega) _).setCell (by simp <;> omega) _⟩
  rw [hdv] at VD
  by_cases hn : l.length = x.f3.length
  case neg =>
    have hc : stC x l = 7 := by unfold stC; rw [if_pos hdv, decide_eq_false hn]; rfl
    have hv : stV x l = devZ := by unfold stV; rw [hc]; rfl
    rw [hc, hv]
    have hnb : ((l.length : Int) != (x.f3.length : Int)) = true := by simp; omega
    clear hc hv hdv hn h hl hs hL hV
    go_enter Try.func29, Try.ntmps29
    go_wp2_with fail
    refine (VD.out _ (by go_grown)).mono ?_
    rintro e w1 ⟨rfl, hb1⟩
    have R := Lib.hid (HR0.out.below hb1 (by simp))
    have A := Lib.hid (HA0.out.below hb1 (by simp; omega))
    have FB := Lib.hid (show Below w.heap.size w w1 from Below.trans (by go_grown) (hb1.mono (by simp <;> omega)))
    clear hb1
    obtain ⟨a0, z0⟩ := A.out 0 _ rfl; obtain ⟨a1, z1⟩ := A.out 1 _ rfl; obtain ⟨a2, z2⟩ := A.out 2 _ rfl; obtain ⟨a3, z3⟩ := A.out 3 _ rfl; obtain ⟨a4, z4⟩ := A.out 4 _ rfl; obtain ⟨a5, z5⟩ := A.out 5 _ rfl; obtain ⟨a6, z6⟩ := A.out 6 _ rfl; obtain ⟨a7, z7⟩ := A.out 7 _ rfl
    obtain ⟨r0, y0⟩ := R.out 0 _ rfl; obtain ⟨r1, y1⟩ := R.out 1 _ rfl; obtain ⟨r2, y2⟩ := R.out 2 _ rfl; obtain ⟨r3, y3⟩ := R.out 3 _ rfl; obtain ⟨r4, y4⟩ := R.out 4 _ rfl; obtain ⟨r5, y5⟩ := R.out 5 _ rfl; obtain ⟨r6, y6⟩ := R.out 6 _ rfl; obtain ⟨r7, y7⟩ := R.out 7 _ rfl
    go_wp2
    exact bodyPost_ret (v := .tuple #[.agg #[.int .i64 0, .int .i64 0, .int .i64 0, .int .i64 0, .slice none 0 0, .int .i64 0, .int .i64 0, .slice none 0 0], .int .i64 7]) (by simp [results, Try.results29, go_sem, r0, y0, r1, y1, r2, y2, r3, y3, r4, y4, r5, y5, r6, y6, r7, y7]) rfl ⟨none, none, 0, 0, rfl, devZ_own _ _ _, ((((((((FB.out).setCell (by simp <;> omega) _).setCell (by simp <;> omega) _).setCell (by simp <;> omega) _).setCell (by simp <;> omega) _).setCell (by simp <;> omega) _).setCell (by simp <;> omega) _).setCell (by simp <;> omega) _).setCell (by simp <;> omega) _⟩
  have hnb : ((l.length : Int) != (x.f3.length : Int)) = false := by simp; omega
  have EV := Lib.hid (fun p w' (hb : Below w.heap.size w w') (hpl : p < w'.heap.size) hp => everyBlock_any p x.f0.f3 sl l cl w' hm (fun e he => by have := hs e he; unfold maxLen; omega) hpl hp (hl.below hb (Nat.le_refl _)))
  by_cases hq : l.all (isBlkB x.f0.f3) = true
  case neg =>
    have hc : stC x l = 7 := by unfold stC; rw [if_pos hdv, decide_eq_true hn, Bool.true_and, if_neg hq]
    have hv : stV x l = devZ := by unfold stV; rw [hc]; rfl
    rw [hc, hv]
    have hq0 : l.all (isBlkB x.f0.f3) = false := by simpa using hq
    rw [hq0] at EV
    clear hc hv hdv hn hq hq0 h hl hs hL hV
    go_enter Try.func29, Try.ntmps29
    go_wp2_with fail
    refine (VD.out _ (by go_grown)).mono ?_
    rintro e w1 ⟨rfl, hb1⟩
    have R := Lib.hid (HR0.out.below hb1 (by simp))
    have A := Lib.hid (HA0.out.below hb1 (by simp; omega))
    have FB := Lib.hid (show Below w.heap.size w w1 from Below.trans (by go_grown) (hb1.mono (by simp <;> omega)))
    have hz1 : w.heap.size + 1 < w1.heap.size := Nat.lt_of_lt_of_le (by simp) hb1.size
    clear hb1
    obtain ⟨a0, z0⟩ := A.out 0 _ rfl; obtain ⟨a1, z1⟩ := A.out 1 _ rfl; obtain ⟨a2, z2⟩ := A.out 2 _ rfl; obtain ⟨a3, z3⟩ := A.out 3 _ rfl; obtain ⟨a4, z4⟩ := A.out 4 _ rfl; obtain ⟨a5, z5⟩ := A.out 5 _ rfl; obtain ⟨a6, z6⟩ := A.out 6 _ rfl; obtain ⟨a7, z7⟩ := A.out 7 _ rfl
    have a3' := a3
    go_wp2_with fail
    refine (EV.out _ _ FB.out (by omega) a3').mono ?_
    rintro e w2 ⟨rfl, hb2⟩
    clear a0 z0 a1 z1 a2 z2 a3 z3 a4 z4 a5 z5 a6 z6 a7 z7
    replace R := Lib.hid (R.out.below hb2 hz1)
    replace FB := Lib.hid (FB.out.trans (hb2.mono FB.out.size))
    clear hb2 a3'
    obtain ⟨r0, y0⟩ := R.out 0 _ rfl; obtain ⟨r1, y1⟩ := R.out 1 _ rfl; obtain ⟨r2, y2⟩ := R.out 2 _ rfl; obtain ⟨r3, y3⟩ := R.out 3 _ rfl; obtain ⟨r4, y4⟩ := R.out 4 _ rfl; obtain ⟨r5, y5⟩ := R.out 5 _ rfl; obtain ⟨r6, y6⟩ := R.out 6 _ rfl; obtain ⟨r7, y7⟩ := R.out 7 _ rfl
    go_wp2
    exact bodyPost_ret (v := .tuple #[.agg #[.int .i64 0, .int .i64 0, .int .i64 0, .int .i64 0, .slice none 0 0, .int .i64 0, .int .i64 0, .slice none 0 0], .int .i64 7]) (by simp [results, Try.results29, go_sem, r0, y0, r1, y1, r2, y2, r3, y3, r4, y4, r5, y5, r6, y6, r7, y7]) rfl ⟨none, none, 0, 0, rfl, devZ_own _ _ _, ((((((((FB.out).setCell (by simp <;> omega) _).setCell (by simp <;> omega) _).setCell (by simp <;> omega) _).setCell (by simp <;> omega) _).setCell (by simp <;> omega) _).setCell (by simp <;> omega) _).setCell (by simp <;> omega) _).setCell (by simp <;> omega) _⟩
  case pos =>
    obtain ⟨hn0, hn4⟩ := devB_ne hdv
    have hc : stC x l = 0 := by unfold stC; rw [if_pos hdv, decide_eq_true hn, Bool.true_and, if_pos hq]
    have hv : stV x l = setF x (stoS x.f0.f4 x.f3 l l.length) := by unfold stV; rw [if_pos hc]
    rw [hc, hv]
    rw [hq] at EV
    have hfacts := (devB_facts hdv).2.2.2.2.2.2.1
    have CL := Lib.hid (fun w' (hb : Below w.heap.size w w') => cloneDev_any x s0 s1 c0 c1 w' hL hn0 hn4 (h.below hb (Nat.le_refl _)))
    have HZ := Lib.hid (fun w' (hb : Below w.heap.size w w') => h.2.below hb (Nat.le_refl _))
    obtain ⟨bl, ol, rfl, hbl, HL⟩ : ∃ bl ol, sl = some ⟨bl, ol, none⟩ ∧ bl < w.heap.size ∧ Hid (∀ w', Below w.heap.size w w' → ∀ k e, l[k]? = some e → w'.cell? ⟨bl, ol + k, none⟩ = some (.string e.f0)) := by
      rcases hl with h0 | ⟨bl, ol, rfl, hlt, hcl⟩
      · exact absurd (List.length_eq_zero_iff.1 (by rw [← hn, h0]; rfl)) hn4
      · refine ⟨bl, ol, rfl, hlt, fun w' hb k e hk => ?_⟩
        have hl2 : SlS rowString w (some ⟨bl, ol, none⟩) l := .inr ⟨bl, ol, rfl, hlt, hcl⟩
        obtain ⟨b', o', hb', _, hc⟩ := (hl2.below hb (Nat.le_refl _)).at rowString_len hk
        cases hb'
        have h0 : w'.cell? ⟨bl, ol + k * 1, none⟩ = some (.string e.f0) := hc 0 _ rfl
        rwa [Nat.mul_one] at h0
    have HF := Lib.hid hfacts
    have HN := Lib.hid hn
    have hm3 : x.f3.length ≤ 1048576 := hL.2
    clear hc hv hdv hn hq hfacts h hs hL hV hn0 hn4
    go_enter Try.func29, Try.ntmps29
    go_wp2_with fail
    refine (VD.out _ (by go_grown)).mono ?_
    rintro e w1 ⟨rfl, hb1⟩
    have R := Lib.hid (HR0.out.below hb1 (by simp))
    have A := Lib.hid (HA0.out.below hb1 (by simp; omega))
    have FB := Lib.hid (show Below w.heap.size w w1 from Below.trans (by go_grown) (hb1.mono (by simp <;> omega)))
    have hz1 : w.heap.size + 1 < w1.heap.size := Nat.lt_of_lt_of_le (by simp) hb1.size
    clear hb1
    obtain ⟨a0, z0⟩ := A.out 0 _ rfl; obtain ⟨a1, z1⟩ := A.out 1 _ rfl; obtain ⟨a2, z2⟩ := A.out 2 _ rfl; obtain ⟨a3, z3⟩ := A.out 3 _ rfl; obtain ⟨a4, z4⟩ := A.out 4 _ rfl; obtain ⟨a5, z5⟩ := A.out 5 _ rfl; obtain ⟨a6, z6⟩ := A.out 6 _ rfl; obtain ⟨a7, z7⟩ := A.out 7 _ rfl
    have a3' := a3
    go_wp2_with fail
    refine (EV.out _ _ FB.out (by omega) a3').mono ?_
    rintro e w2 ⟨rfl, hb2⟩
    clear a0 z0 a1 z1 a2 z2 a3 z3 a4 z4 a5 z5 a6 z6 a7 z7
    replace R := Lib.hid (R.out.below hb2 hz1)
    replace A := Lib.hid (A.out.below hb2 (show w.heap.size < _ by omega))
    replace FB := Lib.hid (FB.out.trans (hb2.mono FB.out.size))
    have hz2 : w.heap.size + 1 < w2.heap.size := Nat.lt_of_lt_of_le hz1 hb2.size
    clear hb2 a3'
    obtain ⟨a0, z0⟩ := A.out 0 _ rfl; obtain ⟨a1, z1⟩ := A.out 1 _ rfl; obtain ⟨a2, z2⟩ := A.out 2 _ rfl; obtain ⟨a3, z3⟩ := A.out 3 _ rfl; obtain ⟨a4, z4⟩ := A.out 4 _ rfl; obtain ⟨a5, z5⟩ := A.out 5 _ rfl; obtain ⟨a6, z6⟩ := A.out 6 _ rfl; obtain ⟨a7, z7⟩ := A.out 7 _ rfl
    go_wp2_with fail
    refine (CL.out _ FB.out).mono ?_
    rintro e_ w3 ⟨g0, g1, d0, d1, rfl, ho0, ho1, hb3⟩
    clear a0 z0 a1 z1 a2 z2 a3 z3 a4 z4 a5 z5 a6 z6 a7 z7
    replace R := Lib.hid (R.out.below hb3 hz2)
    replace A := Lib.hid (A.out.below hb3 (show w.heap.size < _ by omega))
    have hz3 : w.heap.size + 1 < w3.heap.size := Nat.lt_of_lt_of_le hz2 hb3.size
    have hg0 : w2.heap.size ≤ g0 := ho0.choose_spec.1
    have hg1 : w2.heap.size ≤ g1 := ho1.choose_spec.1
    have hl0 := ho0.lt
    have hl1 := ho1.lt
    replace FB := Lib.hid (FB.out.trans (hb3.mono FB.out.size))
    have hne : g0 ≠ g1 := by
      intro e
      subst e
      obtain ⟨_, _, h1⟩ := ho0
      obtain ⟨_, _, h2⟩ := ho1
      rw [h1] at h2
      simp at h2
    have HO0 := Lib.hid ho0
    have HO1 := Lib.hid ho1
    clear ho0 ho1 hb3
    obtain ⟨a0, z0⟩ := A.out 0 _ rfl; obtain ⟨a1, z1⟩ := A.out 1 _ rfl; obtain ⟨a2, z2⟩ := A.out 2 _ rfl; obtain ⟨a3, z3⟩ := A.out 3 _ rfl; obtain ⟨a4, z4⟩ := A.out 4 _ rfl; obtain ⟨a5, z5⟩ := A.out 5 _ rfl; obtain ⟨a6, z6⟩ := A.out 6 _ rfl; obtain ⟨a7, z7⟩ := A.out 7 _ rfl
    go_upto_region 7 with (fail)
    clear a0 z0 a1 z1 a2 z2 a3 z3 a4 z4 a5 z5 a6 z6 a7 z7
    have B := Lib.hid (BoxF.new w3 #[.int .i64 x.f0.f0, .int .i64 x.f0.f1, .int .i64 x.f0.f2, .int .i64 x.f0.f3, .slice (some ⟨g0, 0, none⟩) x.f0.f4.length d0, .int .i64 x.f1, .int .i64 x.f2, .slice (some ⟨g1, 0, none⟩) x.f3.length d1] 34 _ rfl)
    replace R := Lib.hid (R.out.below ((Below.refl w3.heap.size w3).alloc (Nat.le_refl _) (.cells #[.int .i64 x.f0.f0, .int .i64 x.f0.f1, .int .i64 x.f0.f2, .int .i64 x.f0.f3, .slice (some ⟨g0, 0, none⟩) x.f0.f4.length d0, .int .i64 x.f1, .int .i64 x.f2, .slice (some ⟨g1, 0, none⟩) x.f3.length d1] 34)) hz3)
    replace A := Lib.hid (A.out.below ((Below.refl w3.heap.size w3).alloc (Nat.le_refl _) (.cells #[.int .i64 x.f0.f0, .int .i64 x.f0.f1, .int .i64 x.f0.f2, .int .i64 x.f0.f3, .slice (some ⟨g0, 0, none⟩) x.f0.f4.length d0, .int .i64 x.f1, .int .i64 x.f2, .slice (some ⟨g1, 0, none⟩) x.f3.length d1] 34)) (show w.heap.size < _ by omega))
    replace HO0 := Lib.hid (HO0.out.below ((Below.refl w3.heap.size w3).alloc (Nat.le_refl _) (.cells #[.int .i64 x.f0.f0, .int .i64 x.f0.f1, .int .i64 x.f0.f2, .int .i64 x.f0.f3, .slice (some ⟨g0, 0, none⟩) x.f0.f4.length d0, .int .i64 x.f1, .int .i64 x.f2, .slice (some ⟨g1, 0, none⟩) x.f3.length d1] 34)) hl0)
    replace HO1 := Lib.hid (HO1.out.below ((Below.refl w3.heap.size w3).alloc (Nat.le_refl _) (.cells #[.int .i64 x.f0.f0, .int .i64 x.f0.f1, .int .i64 x.f0.f2, .int .i64 x.f0.f3, .slice (some ⟨g0, 0, none⟩) x.f0.f4.length d0, .int .i64 x.f1, .int .i64 x.f2, .slice (some ⟨g1, 0, none⟩) x.f3.length d1] 34)) hl1)
    replace FB := Lib.hid (FB.out.alloc FB.out.size (.cells #[.int .i64 x.f0.f0, .int .i64 x.f0.f1, .int .i64 x.f0.f2, .int .i64 x.f0.f3, .slice (some ⟨g0, 0, none⟩) x.f0.f4.length d0, .int .i64 x.f1, .int .i64 x.f2, .slice (some ⟨g1, 0, none⟩) x.f3.length d1] 34))
    have HS := Lib.hid (show (w3.alloc (.cells #[.int .i64 x.f0.f0, .int .i64 x.f0.f1, .int .i64 x.f0.f2, .int .i64 x.f0.f3, .slice (some ⟨g0, 0, none⟩) x.f0.f4.length d0, .int .i64 x.f1, .int .i64 x.f2, .slice (some ⟨g1, 0, none⟩) x.f3.length d1] 34)).heap.size = w3.heap.size + 1 by simp)
    generalize w3.alloc (.cells #[.int .i64 x.f0.f0, .int .i64 x.f0.f1, .int .i64 x.f0.f2, .int .i64 x.f0.f3, .slice (some ⟨g0, 0, none⟩) x.f0.f4.length d0, .int .i64 x.f1, .int .i64 x.f2, .slice (some ⟨g1, 0, none⟩) x.f3.length d1] 34) = W at *
    have hWs : W.heap.size = w3.heap.size + 1 := HS.out
    have hWH := Lib.hid hWs; clear hWs HS
    obtain ⟨a0, z0⟩ := A.out 0 _ rfl; obtain ⟨a1, z1⟩ := A.out 1 _ rfl; obtain ⟨a2, z2⟩ := A.out 2 _ rfl; obtain ⟨a3, z3⟩ := A.out 3 _ rfl; obtain ⟨a4, z4⟩ := A.out 4 _ rfl; obtain ⟨a5, z5⟩ := A.out 5 _ rfl; obtain ⟨a6, z6⟩ := A.out 6 _ rfl; obtain ⟨a7, z7⟩ := A.out 7 _ rfl
    go_wp2
    clear a0 z0 a1 z1 a2 z2 a3 z3 a4 z4 a5 z5 a6 z6 a7 z7
    go_loopw [33] (fun i wr => ∃ k : Nat, k ≤ x.f3.length ∧ i = .int .i64 (k : Int) ∧ Hid (OwnBlk wr w2.heap.size g0 (stoS x.f0.f4 x.f3 l k)) ∧ Hid (OwnBlkI wr w2.heap.size g1 x.f3) ∧ Hid (BoxF wr w3.heap.size #[.int .i64 x.f0.f0, .int .i64 x.f0.f1, .int .i64 x.f0.f2, .int .i64 x.f0.f3, .slice (some ⟨g0, 0, none⟩) x.f0.f4.length d0, .int .i64 x.f1, .int .i64 x.f2, .slice (some ⟨g1, 0, none⟩) x.f3.length d1]) ∧ Hid (BoxF wr (w.heap.size + 1) #[.int .i64 0, .int .i64 0, .int .i64 0, .int .i64 0, .slice none 0 0, .int .i64 0, .int .i64 0, .slice none 0 0]) ∧ Below w.heap.size w wr ∧ w3.heap.size < wr.heap.size) (fun i _ => x.f3.length - (intOf i).toNat)
    case atStart => exact ⟨0, Nat.zero_le _, rfl, HO0, HO1, B, R, FB.out, by have := hWH.out; omega⟩
    case round =>
      clear HO0 HO1 B R FB A
      obtain ⟨k, hk, rfl, HO0, HO1, B, R, hb, hzr⟩ := hrel
      have FB := Lib.hid hb; clear hb
      by_cases hlt : k < x.f3.length
      · have hkl : k < l.length := by rw [HN.out]; exact hlt
        obtain ⟨z, hx⟩ := getOf hlt
        obtain ⟨e, he⟩ : ∃ e, l[k]? = some e := ⟨l[k], by simp [hkl]⟩
        have hzb := HF.out z (List.mem_of_getElem? hx)
        obtain ⟨i, rfl⟩ : ∃ i : Nat, z = (i : Int) := ⟨z.toNat, by omega⟩
        have hil : i < x.f0.f4.length := by omega
        have hil2 : i < (stoS x.f0.f4 x.f3 l k).length := by rw [stoS_len]; exact hil
        obtain ⟨o, ho⟩ : ∃ o, (stoS x.f0.f4 x.f3 l k)[i]? = some o := ⟨_, List.getElem?_eq_getElem hil2⟩
        have hsc := Lib.hid (stoS_succ (es := x.f0.f4) hx he)
        obtain ⟨bm, om, hbm, hcm⟩ := (HZ.out _ FB.out).cell hx
        have cl0 := HL.out _ FB.out k e he
        have ei : (i : Int) < (x.f0.f4.length : Int) := by omega
        have ek : (k : Int) < (x.f3.length : Int) := by omega
        have ek2 : (k : Int) < (l.length : Int) := by omega
        have b4 := (B.out 4 _ rfl).1
        have WR := Lib.hid (fun w => written_any e.f0 w)
        have HBM := Lib.hid hbm
        subst hbm
        have hbll : bl < wr.heap.size := by omega
        have HOO := Lib.hid ho
        have HXX := Lib.hid (And.intro hx he)
        clear hx he hzb ho
        have hlt3 := hzr
        have hlt4 : g0 < wr.heap.size := HO0.out.lt
        have hlt5 : g1 < wr.heap.size := HO1.out.lt
        have KX := Lib.hid (fun w' (hb : Below wr.heap.size wr w') => (show w'.cell? ⟨w3.heap.size, 4, none⟩ = some (.slice (some ⟨g0, 0, none⟩) x.f0.f4.length d0) ∧ w'.cell? ⟨bl, ol + k, none⟩ = some (.string e.f0) from ⟨by rw [hb.cell (p := ⟨w3.heap.size, 4, none⟩) hlt3]; exact b4, by rw [hb.cell (p := ⟨bl, ol + k, none⟩) hbll]; exact cl0⟩))
        go_upto_region 10 with (fail)
        have HC := Lib.hid (show Below wr.heap.size wr wr.drew from (Below.refl _ _).drew)
        refine wp_region_held_drew (S := (fun w' => w'.cell? ⟨w3.heap.size, 4, none⟩ = some (.slice (some ⟨g0, 0, none⟩) x.f0.f4.length d0) ∧ w'.cell? ⟨bl, ol + k, none⟩ = some (.string e.f0))) (by kernel_rfl) (KX.out _ HC.out) (fun hHeld => ?_)
        refine wpAnyH_take (i := 0) (oi := { dst := some 38, op := Op.fieldAddr 34 (Operand.tmp 7) 0, type := 0, pos := "l15_blocks.go:258", after := #[], guard := none }) (v := ?_) rfl (by kernel_rfl) (by kernel_rfl) (by kernel_rfl) (fun _ _ _ h => h) (Or.inl ⟨by rfl, ?hy⟩) hHeld ?_
        case hy => (intro w' hSw; (try dsimp only at hSw); go_simp; try with_reducible rfl)
        simp only [Act.put, List.setIfInBounds_toArray, List.set_cons_zero, List.set_cons_succ]
        refine wpAnyH_take (i := 1) (oi := { dst := some 39, op := Op.fieldAddr 32 (Operand.tmp 38) 4, type := 0, pos := "l15_blocks.go:258", after := #[{ on := 0, ground := Ground.data }], guard := none }) (v := ?_) rfl (by kernel_rfl) (by kernel_rfl) (by kernel_rfl) (fun _ _ _ h => h) (Or.inl ⟨by rfl, ?hy⟩) hHeld ?_
        case hy => (intro w' hSw; (try dsimp only at hSw); go_simp; try with_reducible rfl)
        simp only [Act.put, List.setIfInBounds_toArray, List.set_cons_zero, List.set_cons_succ]
        refine wpAnyH_take (i := 2) (oi := { dst := some 40, op := Op.load 30 (Operand.tmp 39), type := 30, pos := "l15_blocks.go:258", after := #[{ on := 1, ground := Ground.data }], guard := none }) (v := ?_) rfl (by kernel_rfl) (by kernel_rfl) (by kernel_rfl) (fun _ _ _ h => h) (Or.inl ⟨by rfl, ?hy⟩) hHeld ?_
        case hy => (intro w' hSw; (try dsimp only at hSw); go_simp; try with_reducible rfl)
        simp only [Act.put, List.setIfInBounds_toArray, List.set_cons_zero, List.set_cons_succ]
        refine wpAnyH_take (i := 3) (oi := { dst := some 41, op := Op.move (Operand.tmp 9), type := 2, pos := "l15_blocks.go:258", after := #[], guard := none }) (v := ?_) rfl (by kernel_rfl) (by kernel_rfl) (by kernel_rfl) (fun _ _ _ h => h) (Or.inl ⟨by rfl, ?hy⟩) hHeld ?_
        case hy => (intro w' hSw; (try dsimp only at hSw); go_simp; try with_reducible rfl)
        simp only [Act.put, List.setIfInBounds_toArray, List.set_cons_zero, List.set_cons_succ]
        refine wpAnyH_take (i := 4) (oi := { dst := some 42, op := Op.move (Operand.tmp 1), type := 48, pos := "l15_blocks.go:258", after := #[], guard := none }) (v := ?_) rfl (by kernel_rfl) (by kernel_rfl) (by kernel_rfl) (fun _ _ _ h => h) (Or.inl ⟨by rfl, ?hy⟩) hHeld ?_
        case hy => (intro w' hSw; (try dsimp only at hSw); go_simp; try with_reducible rfl)
        simp only [Act.put, List.setIfInBounds_toArray, List.set_cons_zero, List.set_cons_succ]
        refine wpAnyH_take (i := 5) (oi := { dst := some 43, op := Op.move (Operand.tmp 8), type := 3, pos := "l15_blocks.go:258", after := #[], guard := none }) (v := ?_) rfl (by kernel_rfl) (by kernel_rfl) (by kernel_rfl) (fun _ _ _ h => h) (Or.inl ⟨by rfl, ?hy⟩) hHeld ?_
        case hy => (intro w' hSw; (try dsimp only at hSw); go_simp; try with_reducible rfl)
        simp only [Act.put, List.setIfInBounds_toArray, List.set_cons_zero, List.set_cons_succ]
        refine wpAnyH_take (i := 6) (oi := { dst := some 44, op := Op.indexAddr 48 (Operand.tmp 42) (Operand.tmp 43), type := 0, pos := "l15_blocks.go:258", after := #[{ on := 4, ground := Ground.data }, { on := 5, ground := Ground.data }], guard := none }) (v := ?_) rfl (by kernel_rfl) (by kernel_rfl) (by kernel_rfl) (fun _ _ _ h => h) (Or.inl ⟨by rfl, ?hy⟩) hHeld ?_
        case hy => (intro w' hSw; (try dsimp only at hSw); go_simp; try with_reducible rfl)
        simp only [Act.put, List.setIfInBounds_toArray, List.set_cons_zero, List.set_cons_succ]
        refine wpAnyH_take (i := 7) (oi := { dst := some 45, op := Op.load 9 (Operand.tmp 44), type := 9, pos := "l15_blocks.go:258", after := #[{ on := 6, ground := Ground.data }], guard := none }) (v := ?_) rfl (by kernel_rfl) (by kernel_rfl) (by kernel_rfl) (fun _ _ _ h => h) (Or.inl ⟨by rfl, ?hy⟩) hHeld ?_
        case hy => (intro w' hSw; (try dsimp only at hSw); go_simp; try with_reducible rfl)
        simp only [Act.put, List.setIfInBounds_toArray, List.set_cons_zero, List.set_cons_succ]
        refine wpAnyH_ready (rs := [8]) (by kernel_rfl) (by simp) ?_
        refine AllReadyH.cons (o := { dst := some 46, op := Op.call { callee := Callee.value (Operand.func 61), args := #[Operand.tmp 45], argTypes := #[9] }, type := 84, pos := "l15_blocks.go:258", after := #[{ on := 7, ground := Ground.data }], guard := none }) rfl (fun K hK => ?_) AllReadyH.nil
        go_simp
        go_at_call 61; refine (WR.out _).mono ?_; rintro e wk1 ⟨rfl, hb1⟩; replace HC := Lib.hid (HC.out.trans (hb1.mono HC.out.size))
        go_wp2_with fail
        refine hK.out _ _ (KX.out _ HC.out) (fun hHeld => ?_)
        clear hK K
        try simp only [Act.put, List.setIfInBounds_toArray, List.set_cons_zero, List.set_cons_succ]
        refine wpAnyH_take (i := 9) (oi := { dst := some 47, op := Op.indexAddr 30 (Operand.tmp 40) (Operand.tmp 41), type := 0, pos := "l15_blocks.go:258", after := #[{ on := 2, ground := Ground.data }, { on := 3, ground := Ground.data }, { on := 0, ground := Ground.phase }, { on := 1, ground := Ground.phase }, { on := 2, ground := Ground.phase }, { on := 3, ground := Ground.phase }, { on := 4, ground := Ground.phase }, { on := 5, ground := Ground.phase }, { on := 6, ground := Ground.phase }, { on := 7, ground := Ground.phase }, { on := 8, ground := Ground.phase }], guard := none }) (v := ?_) rfl (by kernel_rfl) (by kernel_rfl) (by kernel_rfl) (fun _ _ _ h => h) (Or.inl ⟨by rfl, ?hy⟩) hHeld ?_
        case hy => (intro w' hSw; (try dsimp only at hSw); go_simp; try with_reducible rfl)
        simp only [Act.put, List.setIfInBounds_toArray, List.set_cons_zero, List.set_cons_succ]
        refine wpAnyH_ready (rs := [10]) (by kernel_rfl) (by simp) ?_
        refine AllReadyH.cons (o := { dst := none, op := Op.store 84 (Operand.tmp 47) (Operand.tmp 46), type := 0, pos := "l15_blocks.go:258", after := #[{ on := 9, ground := Ground.data }, { on := 8, ground := Ground.data }, { on := 8, ground := Ground.chain }, { on := 0, ground := Ground.phase }, { on := 1, ground := Ground.phase }, { on := 2, ground := Ground.phase }, { on := 3, ground := Ground.phase }, { on := 4, ground := Ground.phase }, { on := 5, ground := Ground.phase }, { on := 6, ground := Ground.phase }, { on := 7, ground := Ground.phase }, { on := 8, ground := Ground.phase }], guard := none }) rfl (fun K hK => ?_) AllReadyH.nil
        have KO := Lib.hid (HO0.out.below HC.out hlt4)
        obtain ⟨v0, v1⟩ := KO.out.cell HOO.out
        have v2 := KO.out.free (i * 2)
        have v3 := KO.out.free (i * 2 + 1)
        go_simp
        refine hK.out _ _ (by have hn : g0 ≠ w3.heap.size := (by omega); have hn2 : g0 ≠ bl := (by omega); rw [World.cell?_setCell_other (h := addr_ne hn), World.cell?_setCell_other (h := addr_ne hn), World.cell?_setCell_other (h := addr_ne hn2), World.cell?_setCell_other (h := addr_ne hn2)]; exact KX.out _ HC.out) (fun hHeld => ?_)
        clear hK K
        try simp only [Act.put, List.setIfInBounds_toArray, List.set_cons_zero, List.set_cons_succ]
        refine wpAnyH_done (by kernel_rfl) ?_ _
        have PUT := KO.out.put i ⟨e.f0, 1⟩ hil2
        dsimp only at PUT
        rw [← hsc.out] at PUT
        replace FB := Lib.hid (FB.out.trans (HC.out.mono FB.out.size))
        have hzk := HC.out.size
        replace R := Lib.hid ((R.out.below HC.out (by omega)).keep (put_other wk1 g0 (i * 2) (i * 2 + 1) (.string e.f0) (.int .i64 1) _ (by omega)))
        replace B := Lib.hid ((B.out.below HC.out hlt3).keep (put_other wk1 g0 (i * 2) (i * 2 + 1) (.string e.f0) (.int .i64 1) _ (by omega)))
        have HP := Lib.hid ((HO1.out.below HC.out hlt5).keep (put_other wk1 g0 (i * 2) (i * 2 + 1) (.string e.f0) (.int .i64 1) _ (fun e => hne e.symm)))
        replace FB := Lib.hid ((FB.out.setCell (p := ⟨g0, i * 2, none⟩) (show w.heap.size ≤ g0 by omega) (.string e.f0)).setCell (p := ⟨g0, i * 2 + 1, none⟩) (show w.heap.size ≤ g0 by omega) (.int .i64 1))
        have hz5 : wk1.heap.size = ((wk1.setCell ⟨g0, i * 2, none⟩ (.string e.f0)).setCell ⟨g0, i * 2 + 1, none⟩ (.int .i64 1)).heap.size := by simp [World.setCell]
        have PUT := Lib.hid PUT
        clear v0 v1 v2 v3 hHeld b4 cl0 KO HC KX
        generalize (wk1.setCell ⟨g0, i * 2, none⟩ (.string e.f0)).setCell ⟨g0, i * 2 + 1, none⟩ (.int .i64 1) = W2 at *
        go_wp2
        go_roundw
        case rel => exact ⟨k + 1, by omega, by go_num, PUT, HP, B, R, FB.out, by omega⟩
        case measure => simp [intOf]; omega
      · obtain rfl : k = x.f3.length := by omega
        have HP := HO1
        rw [← HN.out] at HO0
        have PUT := HO0
        obtain ⟨b0, q0⟩ := B.out 0 _ rfl; obtain ⟨b1, q1⟩ := B.out 1 _ rfl; obtain ⟨b2, q2⟩ := B.out 2 _ rfl; obtain ⟨b3, q3⟩ := B.out 3 _ rfl; obtain ⟨b4, q4⟩ := B.out 4 _ rfl; obtain ⟨b5, q5⟩ := B.out 5 _ rfl; obtain ⟨b6, q6⟩ := B.out 6 _ rfl; obtain ⟨b7, q7⟩ := B.out 7 _ rfl
        obtain ⟨r0, y0⟩ := R.out 0 _ rfl; obtain ⟨r1, y1⟩ := R.out 1 _ rfl; obtain ⟨r2, y2⟩ := R.out 2 _ rfl; obtain ⟨r3, y3⟩ := R.out 3 _ rfl; obtain ⟨r4, y4⟩ := R.out 4 _ rfl; obtain ⟨r5, y5⟩ := R.out 5 _ rfl; obtain ⟨r6, y6⟩ := R.out 6 _ rfl; obtain ⟨r7, y7⟩ := R.out 7 _ rfl
        go_wp2
        refine bodyPost_ret (v := .tuple #[.agg #[.int .i64 x.f0.f0, .int .i64 x.f0.f1, .int .i64 x.f0.f2, .int .i64 x.f0.f3, .slice (some ⟨g0, 0, none⟩) x.f0.f4.length d0, .int .i64 x.f1, .int .i64 x.f2, .slice (some ⟨g1, 0, none⟩) x.f3.length d1], .int .i64 0]) (by simp [results, Try.results29, go_sem, r0, y0, r1, y1, r2, y2, r3, y3, r4, y4, r5, y5, r6, y6, r7, y7]) rfl ⟨some ⟨g0, 0, none⟩, some ⟨g1, 0, none⟩, d0, d1, by simp [setF, stoS_len], ⟨?_, ?_⟩, ((((((((FB.out).setCell (by simp <;> omega) _).setCell (by simp <;> omega) _).setCell (by simp <;> omega) _).setCell (by simp <;> omega) _).setCell (by simp <;> omega) _).setCell (by simp <;> omega) _).setCell (by simp <;> omega) _).setCell (by simp <;> omega) _⟩
        · refine SlSI.mono (OwnBlk.sli (g := g0) (B := w2.heap.size) (PUT.out.keep ?_)) (by omega) (Nat.le_refl _)
          simp only [World.setCell, Array.getElem?_modify]
          rw [if_neg (by omega), if_neg (by omega), if_neg (by omega), if_neg (by omega), if_neg (by omega), if_neg (by omega), if_neg (by omega), if_neg (by omega)]
        · refine SlI.mono (OwnBlkI.sli (g := g1) (B := w2.heap.size) (HP.out.keep ?_)) (by omega) (Nat.le_refl _)
          simp only [World.setCell, Array.getElem?_modify]
          rw [if_neg (by omega), if_neg (by omega), if_neg (by omega), if_neg (by omega), if_neg (by omega), if_neg (by omega), if_neg (by omega), if_neg (by omega)]
set_option maxHeartbeats 8000000 in
theorem specStoreBlocks_any (x : DeviceV) (s0 s1 : Option Addr) (c0 c1 : Nat) (sl : Option Addr) (cl : Nat) (l : List StringV) (hL : LenDevice 1048576 x) (hV : StrDevice 1048576 x) (hm : l.length ≤ 1048576) (hs : ∀ e ∈ l, e.f0.size ≤ 1048576) (w : World) (h : SlDevice w s0 s1 x) (hl : SlS rowString w sl l) :
    Calls Try.prog 27 #[.agg #[.int .i64 x.f0.f0, .int .i64 x.f0.f1, .int .i64 x.f0.f2, .int .i64 x.f0.f3, .slice s0 x.f0.f4.length c0, .int .i64 x.f1, .int .i64 x.f2, .slice s1 x.f3.length c1], .slice sl l.length cl] w (DevRes (stV x l) (stC x l) w) := by
  have OK := Lib.hid (fun w' p (hb : Below w.heap.size w w') hp => l15Ok_any x s0 s1 c0 c1 p hL hV w' hp (h.below hb (Nat.le_refl _)))
  have HA0 : BoxF ((w.alloc (.cells #[.int .i64 x.f0.f0, .int .i64 x.f0.f1, .int .i64 x.f0.f2, .int .i64 x.f0.f3, .slice s0 x.f0.f4.length c0, .int .i64 x.f1, .int .i64 x.f2, .slice s1 x.f3.length c1] 34)).alloc (.cells #[.int .i64 0, .int .i64 0, .int .i64 0, .int .i64 0, .slice none 0 0, .int .i64 0, .int .i64 0, .slice none 0 0] 34)) w.heap.size #[.int .i64 x.f0.f0, .int .i64 x.f0.f1, .int .i64 x.f0.f2, .int .i64 x.f0.f3, .slice s0 x.f0.f4.length c0, .int .i64 x.f1, .int .i64 x.f2, .slice s1 x.f3.length c1] := (BoxF.new w #[.int .i64 x.f0.f0, .int .i64 x.f0.f1, .int .i64 x.f0.f2, .int .i64 x.f0.f3, .slice s0 x.f0.f4.length c0, .int .i64 x.f1, .int .i64 x.f2, .slice s1 x.f3.length c1] 34 _ rfl).below ((Below.refl _ _).alloc (Nat.le_refl _) _) (by simp)
  have HR0 : BoxF ((w.alloc (.cells #[.int .i64 x.f0.f0, .int .i64 x.f0.f1, .int .i64 x.f0.f2, .int .i64 x.f0.f3, .slice s0 x.f0.f4.length c0, .int .i64 x.f1, .int .i64 x.f2, .slice s1 x.f3.length c1] 34)).alloc (.cells #[.int .i64 0, .int .i64 0, .int .i64 0, .int .i64 0, .slice none 0 0, .int .i64 0, .int .i64 0, .slice none 0 0] 34)) (w.heap.size + 1) #[.int .i64 0, .int .i64 0, .int .i64 0, .int .i64 0, .slice none 0 0, .int .i64 0, .int .i64 0, .slice none 0 0] := BoxF.new _ _ _ _ (by simp)
  have HA0 := Lib.hid HA0; have HR0 := Lib.hid HR0
  by_cases hdv : devB x = true
  case neg =>
    have hc : stC x l = 1 := by unfold stC; rw [if_neg hdv]
    have hv : stV x l = devZ := by unfold stV; rw [hc]; rfl
    rw [hc, hv]
    have hd0 : devB x = false := by simpa using hdv
    rw [hd0] at OK
    clear hc hv hd0 hdv h hl hs hL hV
    go_enter Try.func27, Try.ntmps27
    go_wp2_with fail
    refine (OK.out _ _ (by go_grown) HA0.out.box).mono ?_
    rintro e w1 ⟨rfl, hb1⟩
    have R := Lib.hid (HR0.out.below hb1 (by simp))
    have FB := Lib.hid (show Below w.heap.size w w1 from Below.trans (by go_grown) (hb1.mono (by simp <;> omega)))
    clear hb1
    obtain ⟨r0, y0⟩ := R.out 0 _ rfl; obtain ⟨r1, y1⟩ := R.out 1 _ rfl; obtain ⟨r2, y2⟩ := R.out 2 _ rfl; obtain ⟨r3, y3⟩ := R.out 3 _ rfl; obtain ⟨r4, y4⟩ := R.out 4 _ rfl; obtain ⟨r5, y5⟩ := R.out 5 _ rfl; obtain ⟨r6, y6⟩ := R.out 6 _ rfl; obtain ⟨r7, y7⟩ := R.out 7 _ rfl
    go_wp2
    exact bodyPost_ret (v := .tuple #[.agg #[.int .i64 0, .int .i64 0, .int .i64 0, .int .i64 0, .slice none 0 0, .int .i64 0, .int .i64 0, .slice none 0 0], .int .i64 1]) (by simp [results, Try.results27, go_sem, r0, y0, r1, y1, r2, y2, r3, y3, r4, y4, r5, y5, r6, y6, r7, y7]) rfl ⟨none, none, 0, 0, rfl, devZ_own _ _ _, ((((((((FB.out).setCell (by simp <;> omega) _).setCell (by simp <;> omega) _).setCell (by simp <;> omega) _).setCell (by simp <;> omega) _).setCell (by simp <;> omega) _).setCell (by simp <;> omega) _).setCell (by simp <;> omega) _).setCell (by simp <;> omega) _⟩
  obtain ⟨n, hn1, hn2, hn3, _⟩ := devB_size hdv
  have hg := (devB_facts hdv).2.1
  have hz3 := (geoB_iff.1 hg).2.2.2
  have BY := Lib.hid (fun w => l12Bytes_any x.f0.f3 n w (inB_iff.2 hz3) hn1)
  have hsd : ∀ e : StringV, isBlkB x.f0.f3 e = decide (e.f0.size = n) := fun e => secDataB_of (inB_iff.2 hz3) hn1
  rw [hdv] at OK
  by_cases hn : l.length = x.f3.length
  case neg =>
    have hc : stC x l = 7 := by unfold stC; rw [if_pos hdv, decide_eq_false hn]; rfl
    have hv : stV x l = devZ := by unfold stV; rw [hc]; rfl
    rw [hc, hv]
    have hnb : ((l.length : Int) != (x.f3.length : Int)) = true := by simp; omega
    clear hc hv hdv hn hsd hg hz3 hn1 hn2 hn3 h hl hs hL hV
    go_enter Try.func27, Try.ntmps27
    go_wp2_with fail
    refine (OK.out _ _ (by go_grown) HA0.out.box).mono ?_
    rintro e w1 ⟨rfl, hb1⟩
    have R := Lib.hid (HR0.out.below hb1 (by simp))
    have A := Lib.hid (HA0.out.below hb1 (by simp; omega))
    have FB := Lib.hid (show Below w.heap.size w w1 from Below.trans (by go_grown) (hb1.mono (by simp <;> omega)))
    clear hb1
    obtain ⟨a0, z0⟩ := A.out 0 _ rfl; obtain ⟨a1, z1⟩ := A.out 1 _ rfl; obtain ⟨a2, z2⟩ := A.out 2 _ rfl; obtain ⟨a3, z3⟩ := A.out 3 _ rfl; obtain ⟨a4, z4⟩ := A.out 4 _ rfl; obtain ⟨a5, z5⟩ := A.out 5 _ rfl; obtain ⟨a6, z6⟩ := A.out 6 _ rfl; obtain ⟨a7, z7⟩ := A.out 7 _ rfl
    obtain ⟨r0, y0⟩ := R.out 0 _ rfl; obtain ⟨r1, y1⟩ := R.out 1 _ rfl; obtain ⟨r2, y2⟩ := R.out 2 _ rfl; obtain ⟨r3, y3⟩ := R.out 3 _ rfl; obtain ⟨r4, y4⟩ := R.out 4 _ rfl; obtain ⟨r5, y5⟩ := R.out 5 _ rfl; obtain ⟨r6, y6⟩ := R.out 6 _ rfl; obtain ⟨r7, y7⟩ := R.out 7 _ rfl
    go_wp2
    exact bodyPost_ret (v := .tuple #[.agg #[.int .i64 0, .int .i64 0, .int .i64 0, .int .i64 0, .slice none 0 0, .int .i64 0, .int .i64 0, .slice none 0 0], .int .i64 7]) (by simp [results, Try.results27, go_sem, r0, y0, r1, y1, r2, y2, r3, y3, r4, y4, r5, y5, r6, y6, r7, y7]) rfl ⟨none, none, 0, 0, rfl, devZ_own _ _ _, ((((((((FB.out).setCell (by simp <;> omega) _).setCell (by simp <;> omega) _).setCell (by simp <;> omega) _).setCell (by simp <;> omega) _).setCell (by simp <;> omega) _).setCell (by simp <;> omega) _).setCell (by simp <;> omega) _).setCell (by simp <;> omega) _⟩
  have hnb : ((l.length : Int) != (x.f3.length : Int)) = false := by simp; omega
  obtain ⟨hn0, hn4⟩ := devB_ne hdv
  have hfacts := (devB_facts hdv).2.2.2.2.2.2.1
  have CL := Lib.hid (fun w' p (hb : Below w.heap.size w w') hp => l15Own_any x s0 s1 c0 c1 p w' hL hn0 hn4 hp (h.below hb (Nat.le_refl _)))
  obtain ⟨bm, om, hbm, hbml, HZ⟩ : ∃ bm om, s1 = some ⟨bm, om, none⟩ ∧ bm < w.heap.size ∧ Hid (∀ w', Below w.heap.size w w' → ∀ (j : Nat) (z : Int), x.f3[j]? = some z → w'.cell? ⟨bm, om + j, none⟩ = some (.int .i64 z)) := by
    rcases h.2 with h0 | ⟨bm, om, e, hl, hi⟩
    · exact absurd h0 hn4
    · exact ⟨bm, om, e, hl, fun w' hb j z hx => by rw [hb.cell (p := ⟨bm, om + j, none⟩) hl]; exact hi j _ hx⟩
  subst hbm
  obtain ⟨bl, ol, rfl, hbl, HL⟩ : ∃ bl ol, sl = some ⟨bl, ol, none⟩ ∧ bl < w.heap.size ∧ Hid (∀ w', Below w.heap.size w w' → ∀ k e, l[k]? = some e → w'.cell? ⟨bl, ol + k, none⟩ = some (.string e.f0)) := by
    rcases hl with h0 | ⟨bl, ol, rfl, hlt, hcl⟩
    · exact absurd (List.length_eq_zero_iff.1 (by rw [← hn, h0]; rfl)) hn4
    · refine ⟨bl, ol, rfl, hlt, fun w' hb k e hk => ?_⟩
      have hl2 : SlS rowString w (some ⟨bl, ol, none⟩) l := .inr ⟨bl, ol, rfl, hlt, hcl⟩
      obtain ⟨b', o', hb', _, hc⟩ := (hl2.below hb (Nat.le_refl _)).at rowString_len hk
      cases hb'
      have h0 : w'.cell? ⟨bl, ol + k * 1, none⟩ = some (.string e.f0) := hc 0 _ rfl
      rwa [Nat.mul_one] at h0
  have HC0 := Lib.hid (show (∀ e ∈ l, e.f0.size = n) → stC x l = 0 ∧ stV x l = setF x (stoS x.f0.f4 x.f3 l l.length) from fun hq => by
    have hc : stC x l = 0 := by
      unfold stC
      rw [if_pos hdv, decide_eq_true hn, Bool.true_and, if_pos (List.all_eq_true.2 (fun e he => by rw [hsd, decide_eq_true (hq e he)]))]
    exact ⟨hc, by unfold stV; rw [if_pos hc]⟩)
  have HC7 := Lib.hid (show ∀ e ∈ l, ¬ e.f0.size = n → stC x l = 7 ∧ stV x l = devZ from fun e he hq => by
    have hc : stC x l = 7 := by
      unfold stC
      rw [if_pos hdv, decide_eq_true hn, Bool.true_and, List.all_eq_false.2 ⟨e, he, by rw [hsd, decide_eq_false hq]; simp⟩]
      simp
    exact ⟨hc, by unfold stV; rw [hc]; rfl⟩)
  have HF := Lib.hid hfacts
  have HN := Lib.hid hn
  have HSS := Lib.hid hs
  have hm3 : x.f3.length ≤ 1048576 := hL.2
  clear hdv hn hsd hg hz3 hn1 hn2 hn3 hfacts h hs hL hV hn0 hn4
  go_enter Try.func27, Try.ntmps27
  go_wp2_with fail
  refine (OK.out _ _ (by go_grown) HA0.out.box).mono ?_
  rintro e w1 ⟨rfl, hb1⟩
  have R := Lib.hid (HR0.out.below hb1 (by simp))
  have A := Lib.hid (HA0.out.below hb1 (by simp; omega))
  have FB := Lib.hid (show Below w.heap.size w w1 from Below.trans (by go_grown) (hb1.mono (by simp <;> omega)))
  have hz1 : w.heap.size + 1 < w1.heap.size := Nat.lt_of_lt_of_le (by simp) hb1.size
  clear hb1
  obtain ⟨a0, z0⟩ := A.out 0 _ rfl; obtain ⟨a1, z1⟩ := A.out 1 _ rfl; obtain ⟨a2, z2⟩ := A.out 2 _ rfl; obtain ⟨a3, z3⟩ := A.out 3 _ rfl; obtain ⟨a4, z4⟩ := A.out 4 _ rfl; obtain ⟨a5, z5⟩ := A.out 5 _ rfl; obtain ⟨a6, z6⟩ := A.out 6 _ rfl; obtain ⟨a7, z7⟩ := A.out 7 _ rfl
  go_wp2
  clear a0 z0 a1 z1 a2 z2 a3 z3 a4 z4 a5 z5 a6 z6 a7 z7
  go_loopw [6] (fun i wr => ∃ k : Nat, k ≤ l.length ∧ i = .int .i64 (k : Int) ∧ Hid (∀ e ∈ l.take k, e.f0.size = n) ∧ Below w1.heap.size w1 wr) (fun i _ => l.length - (intOf i).toNat)
  case atStart => exact ⟨0, Nat.zero_le _, rfl, Lib.hid (by simp), Below.refl _ _⟩
  case round =>
    obtain ⟨k, hk, rfl, hall, hb⟩ := hrel
    have R2 := Lib.hid (R.out.below hb hz1)
    have A2 := Lib.hid (A.out.below hb (show w.heap.size < _ by omega))
    have FB2 := Lib.hid (FB.out.trans (hb.mono FB.out.size))
    have hzr : w.heap.size + 1 < wr.heap.size := Nat.lt_of_lt_of_le hz1 hb.size
    have HB := Lib.hid hb; clear hb
    by_cases hlt : k < l.length
    · obtain ⟨e, he⟩ : ∃ e, l[k]? = some e := ⟨l[k], by simp [hlt]⟩
      have cl0 := HL.out _ FB2.out k e he
      have hse := HSS.out e (List.mem_of_getElem? he)
      have a3 := (A2.out 3 _ rfl).1
      have ek2 : (k : Int) < (l.length : Int) := by omega
      by_cases hq : e.f0.size = n
      · have hqb : ((e.f0.size : Int) != (n : Int)) = false := by simp; omega
        have HT := Lib.hid (show ∀ e ∈ l.take (k + 1), e.f0.size = n from fun e' he' => by
          rw [List.take_add_one, he] at he'
          rcases List.mem_append.1 he' with h1 | h1
          · exact hall.out e' h1
          · simp at h1; rw [h1]; exact hq)
        clear hq he
        go_wp2_with fail
        go_quiet ((go_at_call 57; exact Calls.quiet_of_same ((BY.out _).mono fun _ _ ⟨he, hw⟩ => ⟨he, hw.symm⟩)))
        go_wp2
        go_roundw
        case rel => exact ⟨k + 1, by omega, by go_num, HT, below_drewN' HB.out _⟩
        case measure => simp [intOf]; omega
      · have hqb : ((e.f0.size : Int) != (n : Int)) = true := by simp; omega
        obtain ⟨hc, hv⟩ := HC7.out e (List.mem_of_getElem? he) hq
        have HCV := Lib.hid (And.intro hc hv)
        clear hq he hc hv
        go_wp2_with fail
        go_quiet ((go_at_call 57; exact Calls.quiet_of_same ((BY.out _).mono fun _ _ ⟨he, hw⟩ => ⟨he, hw.symm⟩)))
        rename_i nq
        replace R := Lib.hid (R2.out.drewN nq)
        replace FB := Lib.hid (below_drewN' FB2.out nq)
        generalize wr.drewN nq = wq at R FB ⊢
        obtain ⟨r0, y0⟩ := R.out 0 _ rfl; obtain ⟨r1, y1⟩ := R.out 1 _ rfl; obtain ⟨r2, y2⟩ := R.out 2 _ rfl; obtain ⟨r3, y3⟩ := R.out 3 _ rfl; obtain ⟨r4, y4⟩ := R.out 4 _ rfl; obtain ⟨r5, y5⟩ := R.out 5 _ rfl; obtain ⟨r6, y6⟩ := R.out 6 _ rfl; obtain ⟨r7, y7⟩ := R.out 7 _ rfl
        go_wp2
        rw [HCV.out.1, HCV.out.2]
        exact bodyPost_ret (v := .tuple #[.agg #[.int .i64 0, .int .i64 0, .int .i64 0, .int .i64 0, .slice none 0 0, .int .i64 0, .int .i64 0, .slice none 0 0], .int .i64 7]) (by simp [results, Try.results27, go_sem, r0, y0, r1, y1, r2, y2, r3, y3, r4, y4, r5, y5, r6, y6, r7, y7]) rfl ⟨none, none, 0, 0, rfl, devZ_own _ _ _, ((((((((FB.out).setCell (by simp <;> omega) _).setCell (by simp <;> omega) _).setCell (by simp <;> omega) _).setCell (by simp <;> omega) _).setCell (by simp <;> omega) _).setCell (by simp <;> omega) _).setCell (by simp <;> omega) _).setCell (by simp <;> omega) _⟩
    · obtain rfl : k = l.length := by omega
      have hall2 := hall.out
      rw [List.take_length] at hall2
      obtain ⟨hc, hv⟩ := HC0.out hall2
      have HCV := Lib.hid (And.intro hc hv)
      clear hall2 hc hv hall
      replace R := R2; replace A := A2; replace FB := FB2
      clear R2 A2 FB2 HB
      go_wp2_with fail
      refine (CL.out _ _ FB.out A.out.box).mono ?_
      rintro e_ w3 ⟨g0, g1, d0, d1, rfl, ho0, ho1, hb3⟩
      replace R := Lib.hid (R.out.below hb3 hzr)
      replace A := Lib.hid (A.out.below hb3 (show w.heap.size < _ by omega))
      have hz3 : w.heap.size + 1 < w3.heap.size := Nat.lt_of_lt_of_le hzr hb3.size
      have hg0 : wr.heap.size ≤ g0 := ho0.choose_spec.1
      have hg1 : wr.heap.size ≤ g1 := ho1.choose_spec.1
      have hl0 := ho0.lt
      have hl1 := ho1.lt
      replace FB := Lib.hid (FB.out.trans (hb3.mono FB.out.size))
      have hne : g0 ≠ g1 := by
        intro e
        subst e
        obtain ⟨_, _, h1⟩ := ho0
        obtain ⟨_, _, h2⟩ := ho1
        rw [h1] at h2
        simp at h2
      have HO0 := Lib.hid ho0
      have HO1 := Lib.hid ho1
      clear ho0 ho1 hb3
      go_upto_region 11 with (fail)
      have B := Lib.hid (BoxF.new w3 #[.int .i64 x.f0.f0, .int .i64 x.f0.f1, .int .i64 x.f0.f2, .int .i64 x.f0.f3, .slice (some ⟨g0, 0, none⟩) x.f0.f4.length d0, .int .i64 x.f1, .int .i64 x.f2, .slice (some ⟨g1, 0, none⟩) x.f3.length d1] 34 _ rfl)
      replace R := Lib.hid (R.out.below ((Below.refl w3.heap.size w3).alloc (Nat.le_refl _) (.cells #[.int .i64 x.f0.f0, .int .i64 x.f0.f1, .int .i64 x.f0.f2, .int .i64 x.f0.f3, .slice (some ⟨g0, 0, none⟩) x.f0.f4.length d0, .int .i64 x.f1, .int .i64 x.f2, .slice (some ⟨g1, 0, none⟩) x.f3.length d1] 34)) hz3)
      replace A := Lib.hid (A.out.below ((Below.refl w3.heap.size w3).alloc (Nat.le_refl _) (.cells #[.int .i64 x.f0.f0, .int .i64 x.f0.f1, .int .i64 x.f0.f2, .int .i64 x.f0.f3, .slice (some ⟨g0, 0, none⟩) x.f0.f4.length d0, .int .i64 x.f1, .int .i64 x.f2, .slice (some ⟨g1, 0, none⟩) x.f3.length d1] 34)) (show w.heap.size < _ by omega))
      replace HO0 := Lib.hid (HO0.out.below ((Below.refl w3.heap.size w3).alloc (Nat.le_refl _) (.cells #[.int .i64 x.f0.f0, .int .i64 x.f0.f1, .int .i64 x.f0.f2, .int .i64 x.f0.f3, .slice (some ⟨g0, 0, none⟩) x.f0.f4.length d0, .int .i64 x.f1, .int .i64 x.f2, .slice (some ⟨g1, 0, none⟩) x.f3.length d1] 34)) hl0)
      replace HO1 := Lib.hid (HO1.out.below ((Below.refl w3.heap.size w3).alloc (Nat.le_refl _) (.cells #[.int .i64 x.f0.f0, .int .i64 x.f0.f1, .int .i64 x.f0.f2, .int .i64 x.f0.f3, .slice (some ⟨g0, 0, none⟩) x.f0.f4.length d0, .int .i64 x.f1, .int .i64 x.f2, .slice (some ⟨g1, 0, none⟩) x.f3.length d1] 34)) hl1)
      replace FB := Lib.hid (FB.out.alloc FB.out.size (.cells #[.int .i64 x.f0.f0, .int .i64 x.f0.f1, .int .i64 x.f0.f2, .int .i64 x.f0.f3, .slice (some ⟨g0, 0, none⟩) x.f0.f4.length d0, .int .i64 x.f1, .int .i64 x.f2, .slice (some ⟨g1, 0, none⟩) x.f3.length d1] 34))
      have HS := Lib.hid (show (w3.alloc (.cells #[.int .i64 x.f0.f0, .int .i64 x.f0.f1, .int .i64 x.f0.f2, .int .i64 x.f0.f3, .slice (some ⟨g0, 0, none⟩) x.f0.f4.length d0, .int .i64 x.f1, .int .i64 x.f2, .slice (some ⟨g1, 0, none⟩) x.f3.length d1] 34)).heap.size = w3.heap.size + 1 by simp)
      generalize w3.alloc (.cells #[.int .i64 x.f0.f0, .int .i64 x.f0.f1, .int .i64 x.f0.f2, .int .i64 x.f0.f3, .slice (some ⟨g0, 0, none⟩) x.f0.f4.length d0, .int .i64 x.f1, .int .i64 x.f2, .slice (some ⟨g1, 0, none⟩) x.f3.length d1] 34) = W at *
      have hWs : W.heap.size = w3.heap.size + 1 := HS.out
      have hWH := Lib.hid hWs; clear hWs HS
      obtain ⟨B1, hB1⟩ : ∃ b, wr.heap.size = b := ⟨_, rfl⟩
      rw [hB1] at HO0 HO1 hg0 hg1
      have hB1' : w.heap.size + 1 < B1 := by omega
      clear hB1 hzr CL OK BY HA0 HR0 HC0 HC7
      go_wp2
      obtain ⟨W9, hW9⟩ : ∃ W', W = W' := ⟨_, rfl⟩
      rw [hW9] at HO0 HO1 B R FB A hWH ⊢
      clear hW9
      go_loopw [8] (fun i wr => ∃ k : Nat, k ≤ l.length ∧ i = .int .i64 (k : Int) ∧ Hid (OwnBlk wr B1 g0 (stoS x.f0.f4 x.f3 l k)) ∧ Hid (OwnBlkI wr B1 g1 x.f3) ∧ Hid (BoxF wr w3.heap.size #[.int .i64 x.f0.f0, .int .i64 x.f0.f1, .int .i64 x.f0.f2, .int .i64 x.f0.f3, .slice (some ⟨g0, 0, none⟩) x.f0.f4.length d0, .int .i64 x.f1, .int .i64 x.f2, .slice (some ⟨g1, 0, none⟩) x.f3.length d1]) ∧ Hid (BoxF wr w.heap.size #[.int .i64 x.f0.f0, .int .i64 x.f0.f1, .int .i64 x.f0.f2, .int .i64 x.f0.f3, .slice s0 x.f0.f4.length c0, .int .i64 x.f1, .int .i64 x.f2, .slice (some ⟨bm, om, none⟩) x.f3.length c1]) ∧ Hid (BoxF wr (w.heap.size + 1) #[.int .i64 0, .int .i64 0, .int .i64 0, .int .i64 0, .slice none 0 0, .int .i64 0, .int .i64 0, .slice none 0 0]) ∧ Below w.heap.size w wr ∧ w3.heap.size < wr.heap.size) (fun i _ => l.length - (intOf i).toNat)
      case atStart => exact ⟨0, Nat.zero_le _, rfl, HO0, HO1, B, A, R, FB.out, by have := hWH.out; omega⟩
      case round =>
        clear HO0 HO1 B R FB A
        obtain ⟨k, hk, rfl, HO0, HO1, B, A, R, hb, hzr⟩ := hrel
        have FB := Lib.hid hb; clear hb
        by_cases hlt : k < l.length
        · have hkx : k < x.f3.length := by rw [← HN.out]; exact hlt
          obtain ⟨z, hx⟩ := getOf hkx
          obtain ⟨e, he⟩ : ∃ e, l[k]? = some e := ⟨l[k], by simp [hlt]⟩
          have hzb := HF.out z (List.mem_of_getElem? hx)
          obtain ⟨i, rfl⟩ : ∃ i : Nat, z = (i : Int) := ⟨z.toNat, by omega⟩
          have hil : i < x.f0.f4.length := by omega
          have hil2 : i < (stoS x.f0.f4 x.f3 l k).length := by rw [stoS_len]; exact hil
          obtain ⟨o, ho⟩ : ∃ o, (stoS x.f0.f4 x.f3 l k)[i]? = some o := ⟨_, List.getElem?_eq_getElem hil2⟩
          have hsc := Lib.hid (stoS_succ (es := x.f0.f4) hx he)
          have hcm := HZ.out _ FB.out k _ hx
          have cl0 := HL.out _ FB.out k e he
          have ei : (i : Int) < (x.f0.f4.length : Int) := by omega
          have ek : (k : Int) < (x.f3.length : Int) := by omega
          have ek2 : (k : Int) < (l.length : Int) := by omega
          have b4 := (B.out 4 _ rfl).1
          have a7 := (A.out 7 _ rfl).1
          obtain ⟨v0, v1⟩ := HO0.out.cell ho
          have v2 := HO0.out.free (i * 2)
          have v3 := HO0.out.free (i * 2 + 1)
          clear hx he hzb ho
          have hgm : bm ≠ g0 := by omega
          have hgl : bl ≠ g0 := by omega
          have hlt4 : g0 < wr.heap.size := HO0.out.lt
          have hlt5 : g1 < wr.heap.size := HO1.out.lt
          go_upto_region 14 with (fail)
          refine wp_region_held_drew (S := (fun w' => w'.cell? ⟨w3.heap.size, 4, none⟩ = some (.slice (some ⟨g0, 0, none⟩) x.f0.f4.length d0) ∧ w'.cell? ⟨w.heap.size, 7, none⟩ = some (.slice (some ⟨bm, om, none⟩) x.f3.length c1) ∧ w'.cell? ⟨bm, om + k, none⟩ = some (.int .i64 (i : Int)) ∧ w'.cell? ⟨bl, ol + k, none⟩ = some (.string e.f0))) (by kernel_rfl) ⟨b4, a7, hcm, cl0⟩ (fun hHeld => ?_)
          refine wpAnyH_take (i := 0) (oi := { dst := some 43, op := Op.fieldAddr 34 (Operand.tmp 7) 0, type := 0, pos := "l15_blocks.go:156", after := #[], guard := none }) (v := ?_) rfl (by kernel_rfl) (by kernel_rfl) (by kernel_rfl) (fun _ _ _ h => h) (Or.inl ⟨by rfl, ?hy⟩) hHeld ?_
          case hy => (intro w' hSw; (try dsimp only at hSw); go_simp; try with_reducible rfl)
          simp only [Act.put, List.setIfInBounds_toArray, List.set_cons_zero, List.set_cons_succ]
          refine wpAnyH_take (i := 1) (oi := { dst := some 44, op := Op.fieldAddr 32 (Operand.tmp 43) 4, type := 0, pos := "l15_blocks.go:156", after := #[{ on := 0, ground := Ground.data }], guard := none }) (v := ?_) rfl (by kernel_rfl) (by kernel_rfl) (by kernel_rfl) (fun _ _ _ h => h) (Or.inl ⟨by rfl, ?hy⟩) hHeld ?_
          case hy => (intro w' hSw; (try dsimp only at hSw); go_simp; try with_reducible rfl)
          simp only [Act.put, List.setIfInBounds_toArray, List.set_cons_zero, List.set_cons_succ]
          refine wpAnyH_take (i := 2) (oi := { dst := some 45, op := Op.load 30 (Operand.tmp 44), type := 30, pos := "l15_blocks.go:156", after := #[{ on := 1, ground := Ground.data }], guard := none }) (v := ?_) rfl (by kernel_rfl) (by kernel_rfl) (by kernel_rfl) (fun _ _ _ h => h) (Or.inl ⟨by rfl, ?hy⟩) hHeld ?_
          case hy => (intro w' hSw; (try dsimp only at hSw); go_simp; try with_reducible rfl)
          simp only [Act.put, List.setIfInBounds_toArray, List.set_cons_zero, List.set_cons_succ]
          refine wpAnyH_take (i := 3) (oi := { dst := some 46, op := Op.fieldAddr 34 (Operand.tmp 2) 3, type := 0, pos := "l15_blocks.go:156", after := #[], guard := none }) (v := ?_) rfl (by kernel_rfl) (by kernel_rfl) (by kernel_rfl) (fun _ _ _ h => h) (Or.inl ⟨by rfl, ?hy⟩) hHeld ?_
          case hy => (intro w' hSw; (try dsimp only at hSw); go_simp; try with_reducible rfl)
          simp only [Act.put, List.setIfInBounds_toArray, List.set_cons_zero, List.set_cons_succ]
          refine wpAnyH_take (i := 4) (oi := { dst := some 47, op := Op.load 25 (Operand.tmp 46), type := 25, pos := "l15_blocks.go:156", after := #[{ on := 3, ground := Ground.data }], guard := none }) (v := ?_) rfl (by kernel_rfl) (by kernel_rfl) (by kernel_rfl) (fun _ _ _ h => h) (Or.inl ⟨by rfl, ?hy⟩) hHeld ?_
          case hy => (intro w' hSw; (try dsimp only at hSw); go_simp; try with_reducible rfl)
          simp only [Act.put, List.setIfInBounds_toArray, List.set_cons_zero, List.set_cons_succ]
          refine wpAnyH_take (i := 5) (oi := { dst := some 48, op := Op.move (Operand.tmp 8), type := 3, pos := "l15_blocks.go:156", after := #[], guard := none }) (v := ?_) rfl (by kernel_rfl) (by kernel_rfl) (by kernel_rfl) (fun _ _ _ h => h) (Or.inl ⟨by rfl, ?hy⟩) hHeld ?_
          case hy => (intro w' hSw; (try dsimp only at hSw); go_simp; try with_reducible rfl)
          simp only [Act.put, List.setIfInBounds_toArray, List.set_cons_zero, List.set_cons_succ]
          refine wpAnyH_take (i := 6) (oi := { dst := some 49, op := Op.indexAddr 25 (Operand.tmp 47) (Operand.tmp 48), type := 0, pos := "l15_blocks.go:156", after := #[{ on := 4, ground := Ground.data }, { on := 5, ground := Ground.data }], guard := none }) (v := ?_) rfl (by kernel_rfl) (by kernel_rfl) (by kernel_rfl) (fun _ _ _ h => h) (Or.inl ⟨by rfl, ?hy⟩) hHeld ?_
          case hy => (intro w' hSw; (try dsimp only at hSw); go_simp; try with_reducible rfl)
          simp only [Act.put, List.setIfInBounds_toArray, List.set_cons_zero, List.set_cons_succ]
          refine wpAnyH_take (i := 7) (oi := { dst := some 50, op := Op.load 2 (Operand.tmp 49), type := 2, pos := "l15_blocks.go:156", after := #[{ on := 6, ground := Ground.data }], guard := none }) (v := ?_) rfl (by kernel_rfl) (by kernel_rfl) (by kernel_rfl) (fun _ _ _ h => h) (Or.inl ⟨by rfl, ?hy⟩) hHeld ?_
          case hy => (intro w' hSw; (try dsimp only at hSw); go_simp; try with_reducible rfl)
          simp only [Act.put, List.setIfInBounds_toArray, List.set_cons_zero, List.set_cons_succ]
          refine wpAnyH_take (i := 8) (oi := { dst := some 51, op := Op.move (Operand.tmp 1), type := 48, pos := "l15_blocks.go:156", after := #[], guard := none }) (v := ?_) rfl (by kernel_rfl) (by kernel_rfl) (by kernel_rfl) (fun _ _ _ h => h) (Or.inl ⟨by rfl, ?hy⟩) hHeld ?_
          case hy => (intro w' hSw; (try dsimp only at hSw); go_simp; try with_reducible rfl)
          simp only [Act.put, List.setIfInBounds_toArray, List.set_cons_zero, List.set_cons_succ]
          refine wpAnyH_take (i := 9) (oi := { dst := some 52, op := Op.move (Operand.tmp 8), type := 3, pos := "l15_blocks.go:156", after := #[], guard := none }) (v := ?_) rfl (by kernel_rfl) (by kernel_rfl) (by kernel_rfl) (fun _ _ _ h => h) (Or.inl ⟨by rfl, ?hy⟩) hHeld ?_
          case hy => (intro w' hSw; (try dsimp only at hSw); go_simp; try with_reducible rfl)
          simp only [Act.put, List.setIfInBounds_toArray, List.set_cons_zero, List.set_cons_succ]
          refine wpAnyH_take (i := 10) (oi := { dst := some 53, op := Op.indexAddr 48 (Operand.tmp 51) (Operand.tmp 52), type := 0, pos := "l15_blocks.go:156", after := #[{ on := 8, ground := Ground.data }, { on := 9, ground := Ground.data }], guard := none }) (v := ?_) rfl (by kernel_rfl) (by kernel_rfl) (by kernel_rfl) (fun _ _ _ h => h) (Or.inl ⟨by rfl, ?hy⟩) hHeld ?_
          case hy => (intro w' hSw; (try dsimp only at hSw); go_simp; try with_reducible rfl)
          simp only [Act.put, List.setIfInBounds_toArray, List.set_cons_zero, List.set_cons_succ]
          refine wpAnyH_take (i := 11) (oi := { dst := some 54, op := Op.load 9 (Operand.tmp 53), type := 9, pos := "l15_blocks.go:156", after := #[{ on := 10, ground := Ground.data }], guard := none }) (v := ?_) rfl (by kernel_rfl) (by kernel_rfl) (by kernel_rfl) (fun _ _ _ h => h) (Or.inl ⟨by rfl, ?hy⟩) hHeld ?_
          case hy => (intro w' hSw; (try dsimp only at hSw); go_simp; try with_reducible rfl)
          simp only [Act.put, List.setIfInBounds_toArray, List.set_cons_zero, List.set_cons_succ]
          refine wpAnyH_take (i := 12) (oi := { dst := some 55, op := Op.build 84 #[(0, Operand.tmp 54), (1, Operand.const (Value.int IntKind.i64 1))], type := 84, pos := "l15_blocks.go:156", after := #[{ on := 11, ground := Ground.data }], guard := none }) (v := ?_) rfl (by kernel_rfl) (by kernel_rfl) (by kernel_rfl) (fun _ _ _ h => h) (Or.inl ⟨by rfl, ?hy⟩) hHeld ?_
          case hy => (intro w' hSw; (try dsimp only at hSw); go_simp; try with_reducible rfl)
          simp only [Act.put, List.setIfInBounds_toArray, List.set_cons_zero, List.set_cons_succ]
          refine wpAnyH_take (i := 13) (oi := { dst := some 56, op := Op.indexAddr 30 (Operand.tmp 45) (Operand.tmp 50), type := 0, pos := "l15_blocks.go:156", after := #[{ on := 2, ground := Ground.data }, { on := 7, ground := Ground.data }, { on := 0, ground := Ground.phase }, { on := 1, ground := Ground.phase }, { on := 2, ground := Ground.phase }, { on := 3, ground := Ground.phase }, { on := 4, ground := Ground.phase }, { on := 5, ground := Ground.phase }, { on := 6, ground := Ground.phase }, { on := 7, ground := Ground.phase }, { on := 8, ground := Ground.phase }, { on := 9, ground := Ground.phase }, { on := 10, ground := Ground.phase }, { on := 11, ground := Ground.phase }, { on := 12, ground := Ground.phase }], guard := none }) (v := ?_) rfl (by kernel_rfl) (by kernel_rfl) (by kernel_rfl) (fun _ _ _ h => h) (Or.inl ⟨by rfl, ?hy⟩) hHeld ?_
          case hy => (intro w' hSw; (try dsimp only at hSw); go_simp; try with_reducible rfl)
          simp only [Act.put, List.setIfInBounds_toArray, List.set_cons_zero, List.set_cons_succ]
          refine wpAnyH_ready (rs := [14]) (by kernel_rfl) (by simp) ?_
          refine AllReadyH.cons (o := { dst := none, op := Op.store 84 (Operand.tmp 56) (Operand.tmp 55), type := 0, pos := "l15_blocks.go:156", after := #[{ on := 13, ground := Ground.data }, { on := 12, ground := Ground.data }, { on := 0, ground := Ground.phase }, { on := 1, ground := Ground.phase }, { on := 2, ground := Ground.phase }, { on := 3, ground := Ground.phase }, { on := 4, ground := Ground.phase }, { on := 5, ground := Ground.phase }, { on := 6, ground := Ground.phase }, { on := 7, ground := Ground.phase }, { on := 8, ground := Ground.phase }, { on := 9, ground := Ground.phase }, { on := 10, ground := Ground.phase }, { on := 11, ground := Ground.phase }, { on := 12, ground := Ground.phase }], guard := none }) rfl (fun K hK => ?_) AllReadyH.nil
          go_simp
          refine hK.out _ _ (⟨(put_cellD _ _ _ _ _ _ _ _ (by omega)).trans b4, (put_cellD _ _ _ _ _ _ _ _ (by omega)).trans a7, (put_cellD _ _ _ _ _ _ _ _ (by omega)).trans hcm, (put_cellD _ _ _ _ _ _ _ _ (by omega)).trans cl0⟩) (fun hHeld => ?_)
          clear hK K
          try simp only [Act.put, List.setIfInBounds_toArray, List.set_cons_zero, List.set_cons_succ]
          refine wpAnyH_done (by kernel_rfl) ?_ _
          have PUT := HO0.out.put i ⟨e.f0, 1⟩ hil2
          dsimp only at PUT
          rw [← hsc.out] at PUT
          replace PUT : OwnBlk ((wr.setCell ⟨g0, i * 2, none⟩ (.string e.f0)).setCell ⟨g0, i * 2 + 1, none⟩ (.int .i64 1)).drew B1 g0 (stoS x.f0.f4 x.f3 l (k + 1)) := PUT
          replace R := Lib.hid (R.out.keep (put_otherD wr g0 (i * 2) (i * 2 + 1) (.string e.f0) (.int .i64 1) _ (by omega)))
          replace B := Lib.hid (B.out.keep (put_otherD wr g0 (i * 2) (i * 2 + 1) (.string e.f0) (.int .i64 1) _ (by omega)))
          replace A := Lib.hid (A.out.keep (put_otherD wr g0 (i * 2) (i * 2 + 1) (.string e.f0) (.int .i64 1) _ (by omega)))
          have HP := Lib.hid (HO1.out.keep (put_otherD wr g0 (i * 2) (i * 2 + 1) (.string e.f0) (.int .i64 1) _ (fun e => hne e.symm)))
          replace FB := Lib.hid ((FB.out.setCell (p := ⟨g0, i * 2, none⟩) (show w.heap.size ≤ g0 by omega) (.string e.f0)).setCell (p := ⟨g0, i * 2 + 1, none⟩) (show w.heap.size ≤ g0 by omega) (.int .i64 1)).drew
          have hz5 : wr.heap.size = ((wr.setCell ⟨g0, i * 2, none⟩ (.string e.f0)).setCell ⟨g0, i * 2 + 1, none⟩ (.int .i64 1)).drew.heap.size := by show wr.heap.size = ((wr.setCell _ _).setCell _ _).heap.size; simp [World.setCell]
          have PUT := Lib.hid PUT
          clear v0 v1 v2 v3 hHeld b4 a7 cl0 hcm HO0 HO1
          change Exit.inBlock _ _ _ _ ((wr.setCell ⟨g0, i * 2, none⟩ (.string e.f0)).setCell ⟨g0, i * 2 + 1, none⟩ (.int .i64 1)).drew
          generalize ((wr.setCell ⟨g0, i * 2, none⟩ (.string e.f0)).setCell ⟨g0, i * 2 + 1, none⟩ (.int .i64 1)).drew = W2 at *
          go_wp2
          go_roundw
          case rel => exact ⟨k + 1, by omega, by go_num, PUT, HP, B, A, R, FB.out, by omega⟩
          case measure => simp [intOf]; omega
        · obtain rfl : k = l.length := by omega
          have HP := HO1
          have PUT := HO0
          obtain ⟨b0, q0⟩ := B.out 0 _ rfl; obtain ⟨b1, q1⟩ := B.out 1 _ rfl; obtain ⟨b2, q2⟩ := B.out 2 _ rfl; obtain ⟨b3, q3⟩ := B.out 3 _ rfl; obtain ⟨b4, q4⟩ := B.out 4 _ rfl; obtain ⟨b5, q5⟩ := B.out 5 _ rfl; obtain ⟨b6, q6⟩ := B.out 6 _ rfl; obtain ⟨b7, q7⟩ := B.out 7 _ rfl
          obtain ⟨r0, y0⟩ := R.out 0 _ rfl; obtain ⟨r1, y1⟩ := R.out 1 _ rfl; obtain ⟨r2, y2⟩ := R.out 2 _ rfl; obtain ⟨r3, y3⟩ := R.out 3 _ rfl; obtain ⟨r4, y4⟩ := R.out 4 _ rfl; obtain ⟨r5, y5⟩ := R.out 5 _ rfl; obtain ⟨r6, y6⟩ := R.out 6 _ rfl; obtain ⟨r7, y7⟩ := R.out 7 _ rfl
          go_wp2
          rw [HCV.out.1, HCV.out.2]
          refine bodyPost_ret (v := .tuple #[.agg #[.int .i64 x.f0.f0, .int .i64 x.f0.f1, .int .i64 x.f0.f2, .int .i64 x.f0.f3, .slice (some ⟨g0, 0, none⟩) x.f0.f4.length d0, .int .i64 x.f1, .int .i64 x.f2, .slice (some ⟨g1, 0, none⟩) x.f3.length d1], .int .i64 0]) (by simp [results, Try.results27, go_sem, r0, y0, r1, y1, r2, y2, r3, y3, r4, y4, r5, y5, r6, y6, r7, y7]) rfl ⟨some ⟨g0, 0, none⟩, some ⟨g1, 0, none⟩, d0, d1, by simp [setF, stoS_len], ⟨?_, ?_⟩, ((((((((FB.out).setCell (by simp <;> omega) _).setCell (by simp <;> omega) _).setCell (by simp <;> omega) _).setCell (by simp <;> omega) _).setCell (by simp <;> omega) _).setCell (by simp <;> omega) _).setCell (by simp <;> omega) _).setCell (by simp <;> omega) _⟩
          · refine SlSI.mono (OwnBlk.sli (g := g0) (B := B1) (PUT.out.keep ?_)) (by omega) (Nat.le_refl _)
            simp only [World.setCell, Array.getElem?_modify]
            rw [if_neg (by omega), if_neg (by omega), if_neg (by omega), if_neg (by omega), if_neg (by omega), if_neg (by omega), if_neg (by omega), if_neg (by omega)]
          · refine SlI.mono (OwnBlkI.sli (g := g1) (B := B1) (HP.out.keep ?_)) (by omega) (Nat.le_refl _)
            simp only [World.setCell, Array.getElem?_modify]
            rw [if_neg (by omega), if_neg (by omega), if_neg (by omega), if_neg (by omega), if_neg (by omega), if_neg (by omega), if_neg (by omega), if_neg (by omega)]
end Go.Proofs.Ytjnabncfkogigaa
