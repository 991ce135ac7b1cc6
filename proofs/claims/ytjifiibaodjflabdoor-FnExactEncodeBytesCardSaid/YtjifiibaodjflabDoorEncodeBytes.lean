/- impl.encoders, impl.EncodeBytes, spec.l08Cell, spec.l08Encode, spec.EncodeBytes -/
import Derived.Test.YtjifiibaodjflabDoorMarkTab
import Derived.Test.YtjifiibaodjflabDoorEncodeFm
import Derived.Test.YtjifiibaodjflabDoorEncodeGcr
import Derived.Test.YtjifiibaodjflabDoorSpecEncode
import Derived.Test.YtjifiibaodjflabDoorLayouts
import Derived.Maps.Own
import Derived.Maps.Keyed
namespace Go.Proofs.YtjifiibaodjflabDoor
open Go.RowKit Go.Maps
set_option maxRecDepth 20000
set_option linter.unusedVariables false
def ebLim (f : Int) : Int := if f = 3 then 800 else 500
def ebOk (f : Int) (s : ByteArray) : Bool := inB 1 3 f && decide ((s.size : Int) ≤ ebLim f)
def ebT (f : Int) (s : ByteArray) (last : Bool) : ByteArray := if f = 1 then encV s false false else if f = 2 then encV s last true else encGT s
def ebV (f : Int) (s : ByteArray) (last : Bool) : ByteArray := if ebOk f s = true then ebT f s last else ⟨#[]⟩
theorem ebOk_no {f : Int} {s : ByteArray} (h : inB 1 3 f = false) : ebOk f s = false := by unfold ebOk; rw [h]; rfl
theorem ebV_no {f : Int} {s : ByteArray} {last : Bool} (h : ebOk f s = false) : ebV f s last = ⟨#[]⟩ := by unfold ebV; rw [h]; rfl
theorem ebV_yes {f : Int} {s : ByteArray} {last : Bool} (h : ebOk f s = true) : ebV f s last = ebT f s last := by unfold ebV; rw [h]; rfl
set_option maxHeartbeats 1000000 in
theorem enc1_any (s : ByteArray) (last : Bool) (h : s.size ≤ 1048576) (w : World) :
    Calls Tryd.prog 97 #[.string s, .bool last] w fun e w' => e = .returned (.string (encV s false false)) ∧ Below w.heap.size w w' := by
  have HE := Lib.hid (fun w => encodeFm_any s h w)
  go_enter Tryd.func97, Tryd.ntmps97
  go_wp2_with (go_at_call 98; refine (HE.out _).mono ?_; rintro e w1 ⟨rfl, hb1⟩)
  go_ret
  exact ⟨rfl, hb1⟩
set_option maxHeartbeats 1000000 in
theorem enc3_any (s : ByteArray) (last : Bool) (h : s.size ≤ 1048576) (w : World) (hw : 1 < w.heap.size) (ht : GrpTab w) :
    Calls Tryd.prog 99 #[.string s, .bool last] w fun e w' => e = .returned (.string (encGT s)) ∧ Below w.heap.size w w' := by
  have HE := Lib.hid (encodeGcr_any s h w hw ht)
  generalize encGT s = t at *
  generalize encGB s = b at *
  go_enter Tryd.func99, Tryd.ntmps99
  go_wp2_with (go_at_call 31; refine HE.out.mono ?_; rintro e w1 ⟨rfl, hb1⟩)
  go_ret
  exact ⟨rfl, hb1⟩
/-- The function values of the map. -/
def fv1 : Value := .func (.func 97) #[] #[]
def fv2 : Value := .func (.func 43) #[] #[]
def fv3 : Value := .func (.func 99) #[] #[]
open Classical in
noncomputable def encR (v : Value) : Option (DataW Unit × List MemPlace) :=
  if v = fv1 then some (.lit (.int .i64 1), []) else if v = fv2 then some (.lit (.int .i64 2), []) else if v = fv3 then some (.lit (.int .i64 3), []) else some (.nil, [])
theorem fv21 : ¬ fv2 = fv1 := by unfold fv1 fv2; intro h; injection h with h1; injection h1 with h2; revert h2; decide
theorem fv31 : ¬ fv3 = fv1 := by unfold fv1 fv3; intro h; injection h with h1; injection h1 with h2; revert h2; decide
theorem fv32 : ¬ fv3 = fv2 := by unfold fv3 fv2; intro h; injection h with h1; injection h1 with h2; revert h2; decide
theorem encR1 : encR fv1 = some (.lit (.int .i64 1), []) := by unfold encR; rw [if_pos rfl]
theorem encR2 : encR fv2 = some (.lit (.int .i64 2), []) := by unfold encR; rw [if_neg fv21, if_pos rfl]
theorem encR3 : encR fv3 = some (.lit (.int .i64 3), []) := by unfold encR; rw [if_neg fv31, if_neg fv32, if_pos rfl]
theorem encR_inv {v : Value} {n : Int} {ps : List MemPlace} (h : encR v = some (.lit (.int .i64 n), ps)) : (n = 1 ∧ v = fv1) ∨ (n = 2 ∧ v = fv2) ∨ (n = 3 ∧ v = fv3) := by
  unfold encR at h
  split at h
  · next e => simp at h; exact .inl ⟨h.1.symm, e⟩
  · split at h
    · next e => simp at h; exact .inr (.inl ⟨h.1.symm, e⟩)
    · split at h
      · next e => simp at h; exact .inr (.inr ⟨h.1.symm, e⟩)
      · simp at h
theorem encR_some (v : Value) : ∃ d, encR v = some (d, []) := by
  unfold encR
  split
  · exact ⟨_, rfl⟩
  · split
    · exact ⟨_, rfl⟩
    · split
      · exact ⟨_, rfl⟩
      · exact ⟨_, rfl⟩
theorem encKey : Keyed Tryd.prog 2 := int_keyed Tryd.underlying2
def encD : DataW Unit := (((DataW.map []).put (.int .i64 1) (.lit (.int .i64 1))).put (.int .i64 2) (.lit (.int .i64 2))).put (.int .i64 3) (.lit (.int .i64 3))
theorem encD_at (z : DataW Unit) : encD.atKey (.int .i64 1) z = .lit (.int .i64 1) ∧ encD.atKey (.int .i64 2) z = .lit (.int .i64 2) ∧ encD.atKey (.int .i64 3) z = .lit (.int .i64 3) := ⟨rfl, rfl, rfl⟩
def EncMap (w : World) (b : Nat) : Prop := w.ownsMap Tryd.prog 2 encR b 3 encD
set_option maxHeartbeats 2000000 in
theorem encoders_any (w : World) :
    Calls Tryd.prog 48 #[] w fun e w' => e = .returned (.map (some w.heap.size)) ∧ EncMap w' w.heap.size ∧ Below w.heap.size w w' := by
  have hmm := @run_makeMap Tryd.prog
  have h0 := World.ownsMap_made w Tryd.prog 2 encR
  have hb0 : Below w.heap.size w (w.alloc (.map #[] 0)) := (Below.refl _ _).alloc (Nat.le_refl _) _
  obtain ⟨W0, hW0⟩ : ∃ W0, w.alloc (.map #[] 0) = W0 := ⟨_, rfl⟩
  rw [hW0] at h0 hb0
  obtain ⟨w1, r1, h1, g1⟩ := h0.update encKey Tryd.underlying61 (by decide) (keyOf_int_mk Tryd.underlying2 (a := 1) (by decide)) encR1
  obtain ⟨w2, r2, h2, g2⟩ := h1.update encKey Tryd.underlying61 (by decide) (keyOf_int_mk Tryd.underlying2 (a := 2) (by decide)) encR2
  obtain ⟨w3, r3, h3, g3⟩ := h2.update encKey Tryd.underlying61 (by decide) (keyOf_int_mk Tryd.underlying2 (a := 3) (by decide)) encR3
  unfold fv1 at r1
  unfold fv2 at r2
  unfold fv3 at r3
  have H3 := Lib.hid h3
  have c1 := hb0.grown g1 hb0.size (fun j hj => by cases hj; exact Nat.le_refl _)
  have c2 := c1.grown g2 c1.size (fun j hj => by cases hj; exact Nat.le_refl _)
  have C3 := Lib.hid (c2.grown g3 c2.size (fun j hj => by cases hj; exact Nat.le_refl _))
  clear h0 h1 h2 h3 g1 g2 g3 c1 c2 hb0
  go_enter Tryd.func48, Tryd.ntmps48
  go_wp2
  go_ret
  exact ⟨rfl, H3.out, C3.out⟩
theorem zeroEnc : ∃ z, ∀ w : World, (zeroValue 60).run Tryd.prog w = .ok z w := ⟨.nilFunc, fun w => by kernel_rfl⟩
theorem enc_lookup (w : World) (b : Nat) (h : EncMap w b) :
    (Instr.lookup 61 (.map (some b)) (.int .i64 1) false).run Tryd.prog w = .ok fv1 w ∧ (Instr.lookup 61 (.map (some b)) (.int .i64 2) false).run Tryd.prog w = .ok fv2 w ∧ (Instr.lookup 61 (.map (some b)) (.int .i64 3) false).run Tryd.prog w = .ok fv3 w := by
  obtain ⟨z, hz⟩ := zeroEnc
  obtain ⟨zd, hzd⟩ := encR_some z
  obtain ⟨a1, a2, a3⟩ := encD_at zd
  obtain ⟨v1, _, r1, q1⟩ := h.lookup encKey Tryd.underlying61 (hz w) hzd (keyOf_int_mk Tryd.underlying2 (a := 1) (by decide))
  obtain ⟨v2, _, r2, q2⟩ := h.lookup encKey Tryd.underlying61 (hz w) hzd (keyOf_int_mk Tryd.underlying2 (a := 2) (by decide))
  obtain ⟨v3, _, r3, q3⟩ := h.lookup encKey Tryd.underlying61 (hz w) hzd (keyOf_int_mk Tryd.underlying2 (a := 3) (by decide))
  rw [a1] at q1
  rw [a2] at q2
  rw [a3] at q3
  have e1 : v1 = fv1 := by rcases encR_inv q1 with h | h | h <;> first | exact h.2 | (exact absurd h.1 (by decide))
  have e2 : v2 = fv2 := by rcases encR_inv q2 with h | h | h <;> first | exact absurd h.1 (by decide) | exact h.2
  have e3 : v3 = fv3 := by rcases encR_inv q3 with h | h | h <;> first | exact absurd h.1 (by decide) | exact h.2
  subst e1; subst e2; subst e3
  exact ⟨r1, r2, r3⟩
set_option maxHeartbeats 8000000 in
theorem encodeBytes_any (f : Int) (s : ByteArray) (last : Bool) (h : s.size ≤ 1048576) (w : World) (hg : 1 < w.heap.size) (hG : GrpTab w) (hl : 0 < w.heap.size) (hL : LayTab w) :
    Calls Tryd.prog 14 #[.int .i64 f, .string s, .bool last] w fun e w' => e = .returned (.tuple #[.string (ebV f s last), .bool (ebOk f s)]) ∧ Below w.heap.size w w' := by
  have hf := fun w => isFormat_any f w
  by_cases h1 : inB 1 3 f = true
  · rw [h1] at hf
    have HF := Lib.hid hf; clear hf
    obtain ⟨f0, f1⟩ := inB_iff.1 h1
    have HG := Lib.hid (fun w' (hb : Below w.heap.size w w') => (show 1 < w'.heap.size ∧ GrpTab w' from ⟨Nat.lt_of_lt_of_le hg hb.size, hG.below hb hg⟩))
    have HLT := Lib.hid (fun w' (hb : Below w.heap.size w w') => (show w'.cell? ⟨0, 5, none⟩ = some (.int .i64 16) ∧ w'.cell? ⟨0, 10, none⟩ = some (.int .i64 16) ∧ w'.cell? ⟨0, 15, none⟩ = some (.int .i64 10) from
      ⟨(hL.below hb hl).cell0 5 _ rfl, (hL.below hb hl).cell0 10 _ rfl, (hL.below hb hl).cell0 15 _ rfl⟩))
    have H1 := Lib.hid (fun w => enc1_any s last h w)
    have H2 := Lib.hid (fun w => encodeMfm_any s last h w)
    have H3 := Lib.hid (fun w a b => enc3_any s last h w a b)
    have HEN := Lib.hid (fun w => encoders_any w)
    have HLK := Lib.hid (fun w b hm => enc_lookup w b hm)
    unfold fv1 fv2 fv3 at HLK
    have hff : f = 1 ∨ f = 2 ∨ f = 3 := by omega
    clear f0 f1 hG hL
    obtain ⟨ok, hok⟩ : ∃ x, ebOk f s = x := ⟨_, rfl⟩
    cases ok with
    | true =>
      rw [ebV_yes hok, hok]
      unfold ebOk at hok
      simp only [Bool.and_eq_true, decide_eq_true_eq] at hok
      have hsz := hok.2
      clear hok h1
      unfold ebT
      unfold ebLim at hsz
      rcases hff with rfl | rfl | rfl
      · rw [if_pos rfl]
        rw [if_neg (by decide)] at hsz
        go_enter Tryd.func14, Tryd.ntmps14
        go_wp2_with (first | (go_at_call 47; refine (HF.out _).mono ?_; rintro e w1 ⟨rfl, hb1⟩; obtain ⟨x1, x2, x3⟩ := HLT.out _ hb1) | (go_at_call 48; refine (HEN.out _).mono ?_; rintro e w4 ⟨rfl, hm4, hb4⟩; obtain ⟨k1, k2, k3⟩ := HLK.out _ _ hm4) | (go_at_call 97; refine (H1.out _).mono ?_; rintro e w2 ⟨rfl, hb2⟩))
        go_ret2
        have c4 := hb1.trans (hb4.mono hb1.size)
        exact ⟨rfl, c4.trans (hb2.mono c4.size)⟩
      · rw [if_neg (by decide), if_pos rfl]
        rw [if_neg (by decide)] at hsz
        go_enter Tryd.func14, Tryd.ntmps14
        go_wp2_with (first | (go_at_call 47; refine (HF.out _).mono ?_; rintro e w1 ⟨rfl, hb1⟩; obtain ⟨x1, x2, x3⟩ := HLT.out _ hb1) | (go_at_call 48; refine (HEN.out _).mono ?_; rintro e w4 ⟨rfl, hm4, hb4⟩; obtain ⟨k1, k2, k3⟩ := HLK.out _ _ hm4) | (go_at_call 43; refine (H2.out _).mono ?_; rintro e w2 ⟨rfl, hb2⟩))
        go_ret2
        have c4 := hb1.trans (hb4.mono hb1.size)
        exact ⟨rfl, c4.trans (hb2.mono c4.size)⟩
      · rw [if_neg (by decide), if_neg (by decide)]
        rw [if_pos rfl] at hsz
        go_enter Tryd.func14, Tryd.ntmps14
        go_wp2_with (first | (go_at_call 47; refine (HF.out _).mono ?_; rintro e w1 ⟨rfl, hb1⟩; obtain ⟨x1, x2, x3⟩ := HLT.out _ hb1) | (go_at_call 48; refine (HEN.out _).mono ?_; rintro e w4 ⟨rfl, hm4, hb4⟩; obtain ⟨k1, k2, k3⟩ := HLK.out _ _ hm4; have c4 := hb1.trans (hb4.mono hb1.size); obtain ⟨y1, y2⟩ := HG.out _ c4) | (go_at_call 99; refine (H3.out _ y1 y2).mono ?_; rintro e w2 ⟨rfl, hb2⟩))
        go_ret2
        exact ⟨rfl, c4.trans (hb2.mono c4.size)⟩
    | false =>
      rw [ebV_no hok, hok]
      unfold ebOk at hok
      rw [h1] at hok
      simp only [Bool.true_and, decide_eq_false_iff_not] at hok
      clear h1
      unfold ebLim at hok
      rcases hff with rfl | rfl | rfl
      · rw [if_neg (by decide)] at hok
        have hok2 : (500 : Int) < s.size := by omega
        go_enter Tryd.func14, Tryd.ntmps14
        go_wp2_with (first | (go_at_call 47; refine (HF.out _).mono ?_; rintro e w1 ⟨rfl, hb1⟩; obtain ⟨x1, x2, x3⟩ := HLT.out _ hb1))
        go_ret2
        exact ⟨rfl, hb1⟩
      · rw [if_neg (by decide)] at hok
        have hok2 : (500 : Int) < s.size := by omega
        go_enter Tryd.func14, Tryd.ntmps14
        go_wp2_with (first | (go_at_call 47; refine (HF.out _).mono ?_; rintro e w1 ⟨rfl, hb1⟩; obtain ⟨x1, x2, x3⟩ := HLT.out _ hb1))
        go_ret2
        exact ⟨rfl, hb1⟩
      · rw [if_pos rfl] at hok
        have hok2 : (800 : Int) < s.size := by omega
        go_enter Tryd.func14, Tryd.ntmps14
        go_wp2_with (first | (go_at_call 47; refine (HF.out _).mono ?_; rintro e w1 ⟨rfl, hb1⟩; obtain ⟨x1, x2, x3⟩ := HLT.out _ hb1))
        go_ret2
        exact ⟨rfl, hb1⟩
  · have h10 : inB 1 3 f = false := by simpa using h1
    rw [h10] at hf
    rw [ebV_no (ebOk_no h10), ebOk_no h10]
    have HF := Lib.hid hf; clear hf h1 h10
    go_enter Tryd.func14, Tryd.ntmps14
    go_wp2_with (first | (go_at_call 47; refine (HF.out _).mono ?_; rintro e w1 ⟨rfl, hb1⟩))
    go_ret2
    exact ⟨rfl, hb1⟩
def ebCell (f : Int) : Int := if f = 3 then 10 else 16
set_option maxHeartbeats 400000 in
theorem l08Cell_any (f : Int) (w : World) :
    Calls Tryd.prog 45 #[.int .i64 f] w fun e w' => e = .returned (.int .i64 (ebCell f)) ∧ w = w' := by
  unfold ebCell
  by_cases h : f = 3
  · rw [if_pos h]
    subst h
    go_enter Tryd.func45, Tryd.ntmps45
    go_wp2
    go_ret
    exact ⟨rfl, rfl⟩
  · rw [if_neg h]
    have h2 : (f == 3) = false := by simp [h]
    go_enter Tryd.func45, Tryd.ntmps45
    go_wp2
    go_ret
    exact ⟨rfl, rfl⟩
set_option maxHeartbeats 1000000 in
theorem l08Encode_any (f : Int) (s : ByteArray) (last : Bool) (h : s.size ≤ 1048576) (w : World) (hf : inB 1 3 f = true) :
    Calls Tryd.prog 46 #[.int .i64 f, .string s, .bool last] w fun e w' => e = .returned (.string (ebT f s last)) ∧ Below w.heap.size w w' := by
  obtain ⟨f0, f1⟩ := inB_iff.1 hf
  have hff : f = 1 ∨ f = 2 ∨ f = 3 := by omega
  clear f0 f1 hf
  have H1 := Lib.hid (fun w => specEncodeFm_any s h w)
  have H2 := Lib.hid (fun w => specEncodeMfm_any s last h w)
  have H3 := Lib.hid (fun w => specEncodeGcr_any s h w)
  unfold ebT
  generalize encV s false false = t1 at *
  generalize encV s last true = t2 at *
  generalize encGT s = t3 at *
  generalize encGB s = b3 at *
  rcases hff with rfl | rfl | rfl
  · rw [if_pos rfl]
    go_enter Tryd.func46, Tryd.ntmps46
    go_wp2_with (go_at_call 96; refine (H1.out _).mono ?_; rintro e w1 ⟨rfl, hb1⟩)
    go_ret
    exact ⟨rfl, hb1⟩
  · rw [if_neg (by decide), if_pos rfl]
    go_enter Tryd.func46, Tryd.ntmps46
    go_wp2_with (go_at_call 82; refine (H2.out _).mono ?_; rintro e w1 ⟨rfl, hb1⟩)
    go_ret
    exact ⟨rfl, hb1⟩
  · rw [if_neg (by decide), if_neg (by decide)]
    go_enter Tryd.func46, Tryd.ntmps46
    go_wp2_with (go_at_call 83; refine (H3.out _).mono ?_; rintro e w1 ⟨rfl, hb1⟩)
    go_ret
    exact ⟨rfl, hb1⟩
theorem ebLim_cell (f : Int) (n : Nat) (h : inB 1 3 f = true) : (n : Int) * ebCell f ≤ 8000 ↔ (n : Int) ≤ ebLim f := by
  obtain ⟨f0, f1⟩ := inB_iff.1 h
  have hff : f = 1 ∨ f = 2 ∨ f = 3 := by omega
  unfold ebCell ebLim
  rcases hff with rfl | rfl | rfl
  · rw [if_neg (by decide), if_neg (by decide)]; omega
  · rw [if_neg (by decide), if_neg (by decide)]; omega
  · rw [if_pos rfl, if_pos rfl]; omega
set_option maxHeartbeats 2000000 in
theorem specEncodeBytes_any (f : Int) (s : ByteArray) (last : Bool) (h : s.size ≤ 1048576) (w : World) :
    Calls Tryd.prog 13 #[.int .i64 f, .string s, .bool last] w fun e w' => e = .returned (.tuple #[.string (ebV f s last), .bool (ebOk f s)]) ∧ Below w.heap.size w w' := by
  have hf := fun w => l07Format_any f w
  by_cases h1 : inB 1 3 f = true
  · rw [h1] at hf
    have hc := fun w => l08Cell_any f w
    have hlc := ebLim_cell f s.size h1
    have hcb : ebCell f = 10 ∨ ebCell f = 16 := by unfold ebCell; split <;> simp
    have HE := Lib.hid (fun w => l08Encode_any f s last h w h1)
    obtain ⟨ok, hok⟩ : ∃ x, ebOk f s = x := ⟨_, rfl⟩
    have hok' := hok
    unfold ebOk at hok'
    rw [h1, Bool.true_and] at hok'
    generalize ebCell f = c at *
    have HF := Lib.hid hf; have HC := Lib.hid hc; clear hf hc h1
    cases ok with
    | true =>
      rw [ebV_yes hok, hok]
      have h2 := hlc.2 (of_decide_eq_true hok')
      clear hok hok' hlc
      rcases hcb with rfl | rfl
      all_goals
        go_enter Tryd.func13, Tryd.ntmps13
        go_wp2_with (first | (go_at_call 36; refine (HF.out _).mono ?_; rintro e w1 ⟨rfl, rfl⟩) | (go_at_call 45; refine (HC.out _).mono ?_; rintro e w2 ⟨rfl, rfl⟩) | (go_at_call 46; refine (HE.out _).mono ?_; rintro e w3 ⟨rfl, hb3⟩))
        go_ret2
        exact ⟨rfl, hb3⟩
    | false =>
      rw [ebV_no hok, hok]
      have h2 : ¬ (s.size : Int) * c ≤ 8000 := fun hx => of_decide_eq_false hok' (hlc.1 hx)
      clear hok hok' hlc
      rcases hcb with rfl | rfl
      all_goals
        go_enter Tryd.func13, Tryd.ntmps13
        go_wp2_with (first | (go_at_call 36; refine (HF.out _).mono ?_; rintro e w1 ⟨rfl, rfl⟩) | (go_at_call 45; refine (HC.out _).mono ?_; rintro e w2 ⟨rfl, rfl⟩))
        go_ret2
        exact ⟨rfl, Below.refl _ _⟩
  · have h10 : inB 1 3 f = false := by simpa using h1
    rw [h10] at hf
    rw [ebV_no (ebOk_no h10), ebOk_no h10]
    have HF := Lib.hid hf; clear hf h1 h10
    go_enter Tryd.func13, Tryd.ntmps13
    go_wp2_with (first | (go_at_call 36; refine (HF.out _).mono ?_; rintro e w1 ⟨rfl, rfl⟩))
    go_ret2
    exact ⟨rfl, Below.refl _ _⟩
end Go.Proofs.YtjifiibaodjflabDoor
