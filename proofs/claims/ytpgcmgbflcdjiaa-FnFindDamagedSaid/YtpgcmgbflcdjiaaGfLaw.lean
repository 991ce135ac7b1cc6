/- Laws of parity: pure facts of a changed group; append([]string{}, blocks...). -/
import Derived.Test.YtpgcmgbflcdjiaaDrawG
import Derived.Test.YtpgcmgbflcdjiaaGfFs
import Derived.Test.YtpgcmgbflcdjiaaOwnBS
namespace Go.Proofs.Ytpgcmgbflcdjiaa
open Go.RowKit
open Gf
set_option linter.unusedVariables false
set_option maxRecDepth 20000
theorem xL_back {d t : List UInt8} {n : Nat} (hd : d.length = n) (ht : t.length = n) : xL d (xL d t) = t := by rw [← xL_assoc, xL_self n d hd, zrs_xL n t ht]
theorem hP_set {n : Nat} {t : List UInt8} (ht : t.length = n) : ∀ (ds : List (List UInt8)) (k : Nat) (s : List UInt8), (∀ d ∈ ds, d.length = n) → ds[k]? = some s → hP n (ds.set k t) = xL (hP n ds) (xL s t)
  | [], k, s, _, h => by simp at h
  | d :: ds, 0, s, hl, h => by
    simp at h; subst h
    have hd := hl d (by simp)
    rw [List.set_cons_zero, hP_cons, hP_cons, xL_assoc, xL_back hd ht]
  | d :: ds, k + 1, s, hl, h => by
    rw [List.set_cons_succ, hP_cons, hP_cons, hP_set ht ds k s (fun x hx => hl x (List.mem_cons_of_mem _ hx)) (by simpa using h), xL_right]
theorem hQ_set {n : Nat} {t : List UInt8} (ht : t.length = n) : ∀ (ds : List (List UInt8)) (k : Nat) (s : List UInt8), (∀ d ∈ ds, d.length = n) → ds[k]? = some s → hQ n (ds.set k t) = xL (hQ n ds) (mL (pw k) (xL s t))
  | [], k, s, _, h => by simp at h
  | d :: ds, 0, s, hl, h => by
    simp at h; subst h
    have hd := hl d (by simp)
    show _ = xL _ (mL 1 _)
    rw [mL_one, List.set_cons_zero, hQ_cons, hQ_cons, xL_assoc, xL_back hd ht]
  | d :: ds, k + 1, s, hl, h => by
    rw [List.set_cons_succ, hQ_cons, hQ_cons, hQ_set ht ds k s (fun x hx => hl x (List.mem_cons_of_mem _ hx)) (by simpa using h), mL_xL, mL_pw2, xL_right]
theorem dsOf_set (es : List StringV) (k : Nat) (t : ByteArray) : dsOf (es.set k ⟨t⟩) = (dsOf es).set k t.data.toList := by unfold dsOf; rw [List.map_set]
theorem dsOf_get {es : List StringV} {k : Nat} {e : StringV} (h : es[k]? = some e) : (dsOf es)[k]? = some e.f0.data.toList := by unfold dsOf; simp [h]
theorem grp_pgB {es : List StringV} {z : Nat} (h1 : 1 ≤ es.length) (h2 : es.length ≤ 128) (z1 : 1 ≤ z) (z2 : z ≤ 64) (hz : ∀ e ∈ es, e.f0.size = z) : pgB es = true ∧ len0 es = z := by
  obtain ⟨a, b, c⟩ := grp_pg h1 h2 z1 z2 rfl hz
  exact ⟨by unfold pgB; rw [a, b]; rfl, c⟩
theorem set_sizes {es : List StringV} {z k : Nat} {t : ByteArray} (hz : ∀ e ∈ es, e.f0.size = z) (ht : t.size = z) : ∀ e ∈ es.set k ⟨t⟩, e.f0.size = z := by
  intro e he
  rcases List.mem_or_eq_of_mem_set he with h | h
  · exact hz e h
  · subst h; exact ht
theorem par_own {es : List StringV} {z : Nat} (hg : pgB es = true) (hz : ∀ e ∈ es, e.f0.size = z) (hl0 : len0 es = z) :
    (parS hP es).data.toList = hP z (dsOf es) ∧ (parS hQ es).data.toList = hQ z (dsOf es) ∧ (parS hP es).size = z ∧ (parS hQ es).size = z ∧ parC es = 0 ∧ ckC es (parS hP es) (parS hQ es) = 0 ∧ ckB es (parS hP es) (parS hQ es) = true := by
  have a := parS_list (f := hP) hg
  have b := parS_list (f := hQ) hg
  have c := parS_size (f := hP) hg (by rw [hl0]; exact hP_len (dsOf_len hz))
  have d := parS_size (f := hQ) hg (by rw [hl0]; exact hQ_len (dsOf_len hz))
  rw [hl0] at a b
  have e : ckC es (parS hP es) (parS hQ es) = 0 := by unfold ckC; rw [hg, c, d]; simp
  refine ⟨a, b, by rw [c, hl0], by rw [d, hl0], by unfold parC; rw [hg]; rfl, e, ?_⟩
  unfold ckB; rw [e]; simp
/-- A block of a group is changed: what UpdateParity answers is what MakeParity answers of the changed group. -/
theorem up_set {es : List StringV} {z k : Nat} {s : StringV} {t : ByteArray} (h1 : 1 ≤ es.length) (h2 : es.length ≤ 128) (z1 : 1 ≤ z) (z2 : z ≤ 64) (hz : ∀ e ∈ es, e.f0.size = z) (hk : es[k]? = some s) (ht : t.size = z) :
    upC (parS hP es) (parS hQ es) (k : Int) s.f0 t = 0 ∧ upP (parS hP es) (parS hQ es) (k : Int) s.f0 t = parS hP (es.set k ⟨t⟩) ∧ upQ (parS hP es) (parS hQ es) (k : Int) s.f0 t = parS hQ (es.set k ⟨t⟩) ∧ parC (es.set k ⟨t⟩) = 0 := by
  obtain ⟨hg, hl0⟩ := grp_pgB h1 h2 z1 z2 hz
  have hz' := set_sizes (k := k) hz ht
  have hkl := (List.getElem?_eq_some_iff.1 hk).1
  obtain ⟨hg', hl0'⟩ := grp_pgB (es := es.set k ⟨t⟩) (by simpa using h1) (by simpa using h2) z1 z2 hz'
  obtain ⟨a, b, c, d, e, _, _⟩ := par_own hg hz hl0
  obtain ⟨a', b', _, _, e', _, _⟩ := par_own hg' hz' hl0'
  have hs := hz s (List.mem_of_getElem? hk)
  have hps : psB [⟨parS hP es⟩, ⟨parS hQ es⟩, ⟨s.f0⟩, ⟨t⟩] = true := by
    unfold psB allLen len0
    simp [inB, c, d, hs, ht]
    omega
  have hi : inB 0 127 (k : Int) = true := by rw [inB_iff]; omega
  have hc : upC (parS hP es) (parS hQ es) (k : Int) s.f0 t = 0 := by unfold upC; rw [hps, hi]; rfl
  refine ⟨hc, ?_, ?_, e'⟩
  · unfold upP
    rw [if_pos hc]
    apply bytes_eq
    rw [a', dsOf_set, hP_set (str_len t z ht) _ k _ (dsOf_len hz) (dsOf_get hk), ← a]
    rfl
  · unfold upQ
    rw [if_pos hc]
    apply bytes_eq
    rw [b', dsOf_set, hQ_set (str_len t z ht) _ k _ (dsOf_len hz) (dsOf_get hk), ← b, pwV_nat]
    rfl
/-- A changed block is found. -/
theorem fd_set {es : List StringV} {z k : Nat} {s : StringV} {t : ByteArray} (h1 : 1 ≤ es.length) (h2 : es.length ≤ 128) (z1 : 1 ≤ z) (z2 : z ≤ 64) (hz : ∀ e ∈ es, e.f0.size = z) (hk : es[k]? = some s) (ht : t.size = z) (hne : s.f0.data.toList ≠ t.data.toList) :
    fdV (es.set k ⟨t⟩) (parS hP es) (parS hQ es) = (k : Int) ∧ fdC (es.set k ⟨t⟩) (parS hP es) (parS hQ es) = 0 := by
  obtain ⟨hg, hl0⟩ := grp_pgB h1 h2 z1 z2 hz
  have hz' := set_sizes (k := k) hz ht
  have hkl := (List.getElem?_eq_some_iff.1 hk).1
  obtain ⟨hg', hl0'⟩ := grp_pgB (es := es.set k ⟨t⟩) (by simpa using h1) (by simpa using h2) z1 z2 hz'
  obtain ⟨a, b, c, d, _, _, _⟩ := par_own hg hz hl0
  obtain ⟨a', b', c', d', _, _, _⟩ := par_own hg' hz' hl0'
  have hs := hz s (List.mem_of_getElem? hk)
  have ls := str_len s.f0 z hs
  have lt := str_len t z ht
  have lX := xL_len ls lt
  have lP := hP_len (dsOf_len hz)
  have lQ := hQ_len (dsOf_len hz)
  have hX0 : xL s.f0.data.toList t.data.toList ≠ zrs z := fun h => hne (xL_zero ls lt h)
  obtain ⟨X, hX⟩ : ∃ X, xL s.f0.data.toList t.data.toList = X := ⟨_, rfl⟩
  rw [hX] at lX hX0
  have eP : xL (parS hP es).data.toList (hP z (dsOf (es.set k ⟨t⟩))) = X := by
    rw [a, dsOf_set, hP_set lt _ k _ (dsOf_len hz) (dsOf_get hk), xL_back lP (by rw [hX]; exact lX), hX]
  have eQ : xL (parS hQ es).data.toList (hQ z (dsOf (es.set k ⟨t⟩))) = mL (pw k) X := by
    rw [b, dsOf_set, hQ_set lt _ k _ (dsOf_len hz) (dsOf_get hk), xL_back lQ (by rw [hX]; exact mL_len _ lX), hX]
  obtain ⟨j, x, hx, hx0⟩ : ∃ (j : Nat) (x : UInt8), X[j]? = some x ∧ x.toNat ≠ 0 := by
    refine Classical.byContradiction fun hcon => hX0 ?_
    apply List.ext_getElem
    · rw [lX, zrs_len]
    · intro i h1 h2
      refine Classical.byContradiction fun h => hcon ⟨i, X[i], by simp, fun h3 => h ?_⟩
      apply UInt8.toNat_inj.1
      rw [h3]
      simp [zrs]
  have hcan : ∀ i, mL (pw i) X = mL (pw k) X → pw i = pw k := by
    intro i h
    have e1 := mL_at (k := pw i) hx
    have e2 := mL_at (k := pw k) hx
    rw [h, e2] at e1
    have e3 := congrArg UInt8.toNat (Option.some.inj e1)
    rw [gU_nat, gU_nat] at e3
    have hx8 := x.toNat_lt
    have hv := gmul_inv hx8 hx0
    have hi8 := ginv_lt hx8
    have e4 := congrArg (fun y => gmul (ginv x.toNat) y) e3
    rw [← gmul_assoc hi8 hx8, ← gmul_assoc hi8 hx8, gmul_comm hi8 hx8, hv, one_gmul (pw_lt _), one_gmul (pw_lt _)] at e4
    exact e4.symm
  have hF : fdI X (mL (pw k) X) (es.set k ⟨t⟩).length = some k := by
    refine fdI_some (by simpa using hkl) (fun i hi h => ?_) rfl
    exact pw_ne hi (by omega) (hcan i h)
  have hck : ckC (es.set k ⟨t⟩) (parS hP es) (parS hQ es) = 0 := by unfold ckC; rw [hg', hl0', c, d]; simp
  have hnp : parS hP es ≠ parS hP (es.set k ⟨t⟩) := by
    intro h
    apply hX0
    rw [← eP, ← a', ← h]
    exact xL_self _ _ (by rw [a]; exact lP)
  have hnq : parS hQ es ≠ parS hQ (es.set k ⟨t⟩) := by
    intro h
    have h2 : mL (pw k) X = zrs z := by
      rw [← eQ, ← b', ← h]
      exact xL_self _ _ (by rw [b]; exact lQ)
    have e1 := mL_at (k := pw k) hx
    rw [h2] at e1
    have hj : j < z := by have := (List.getElem?_eq_some_iff.1 hx).1; omega
    have e2 : (zrs z)[j]? = some 0 := by unfold zrs; simp [hj]
    rw [e2] at e1
    have e3 := congrArg UInt8.toNat (Option.some.inj e1)
    rw [gU_nat] at e3
    have hx8 := x.toNat_lt
    have hp0 := pw_ne_zero k
    have hv := gmul_inv hx8 hx0
    have hi8 := ginv_lt hx8
    have e4 := congrArg (fun y => gmul (ginv x.toNat) y) e3
    rw [← gmul_assoc hi8 hx8, gmul_comm hi8 hx8, hv, one_gmul (pw_lt _)] at e4
    have e5 : (0 : UInt8).toNat = 0 := rfl
    rw [e5, gmul_zero] at e4
    exact hp0 e4.symm
  unfold fdV fdC
  rw [if_pos hck, if_neg hnp, if_neg hnq, hl0', eP, eQ, if_pos hck, if_neg hnp, if_neg hnq]
  unfold fdK fdE
  rw [hF]
  exact ⟨rfl, rfl⟩
theorem OwnBS.of {w : World} {B : Nat} {x : Option Addr} {es : List StringV} (h : SlSI rowString 9 w B w.heap.size x es) (hne : 1 ≤ es.length) : ∃ g, x = some ⟨g, 0, none⟩ ∧ OwnBS w B g es := by
  rcases h with h | ⟨g, rest, rfl, h1, h2, hh⟩
  · subst h; simp at hne
  · exact ⟨g, rfl, rest, h1, hh⟩
theorem flat_len (es : List StringV) : ((es.map rowString).flatten).length = es.length := by
  induction es with
  | nil => rfl
  | cons e es ih => simp [rowString] at ih ⊢; exact ih
section
variable {ops : Array Oper} {o : Oper} {a : Act} {Q : Exit → Act → World → Prop} {w : World}
/-- 'append([]string{}, list...)' in a plain region. -/
theorem wpList_copyStrs {rest : List Oper} (hgd : o.guard = none) (s x : Operand) (ho : o.op = .call { callee := .builtin .append, args := #[s, x], argTypes := #[33, 33] })
    {W0 : World} (hw : w = W0.alloc (.cells #[] 9)) (hs : a.eval s = .slice (some ⟨W0.heap.size, 0, none⟩) 0 0) {gx c B : Nat} {es : List StringV} (hx : a.eval x = .slice (some ⟨gx, 0, none⟩) es.length c) (hes : OwnBS W0 B gx es) (h1 : 1 ≤ es.length) (h2 : es.length ≤ 128)
    (h : ∀ g cap w', W0.heap.size ≤ g → OwnBS w' W0.heap.size g es → Below W0.heap.size W0 w' → wpList Try.prog ops Q rest (a.put o.dst (.slice (some ⟨g, 0, none⟩) es.length cap)) w') : wpList Try.prog ops Q (o :: rest) a w := by
  subst hw
  obtain ⟨i0, hi, hz0, hz1, hz2⟩ := info_parts infoString
  have hcs : ∀ (j : Nat) (u : Value), ((es.map rowString).flatten)[j]? = some u → (W0.alloc (.cells #[] 9)).cell? ((⟨gx, 0, none⟩ : Addr).add j) = some u := by
    intro j u hu
    rw [add_plain, Nat.zero_add]
    obtain ⟨rest, _, hh⟩ := (hes.below ((Below.refl W0.heap.size W0).alloc (Nat.le_refl _) (.cells #[] 9)) hes.lt)
    have hj := (List.getElem?_eq_some_iff.1 hu).1
    simp only [World.cell?, hh]
    rw [← hu]
    rw [Array.getElem?_append_left (by simpa using hj)]
    simp
  have hone : ∀ u ∈ (es.map rowString).flatten, u.oneCell' = true := by
    intro u hu
    obtain ⟨r, hr, hu2⟩ := List.mem_flatten.1 hu
    obtain ⟨e, _, rfl⟩ := List.mem_map.1 hr
    simp [rowString] at hu2
    subst hu2
    rfl
  refine wpList_append_lies _ hgd s x 33 ho W0.heap.size 9 i0 (.string ByteArray.empty) 1 16 Try.underlying33 hi hz0 hz1 hz2 rfl (by decide) _ 0 [] hs (OwnR.empty (row := rowString) (n := 1) W0 W0.heap.size (Nat.le_refl _)) ⟨gx, 0, none⟩ es.length c ((es.map rowString).flatten) hx (by rw [flat_len]; simp) hcs hone (by omega) (by unfold maxLen; omega) (by omega) (by simp) _ rfl ?_
  intro gc cap6 w6 hown6 hgr6 hgc6 hgl6
  simp only [Nat.zero_add] at *
  have hb6 : Below W0.heap.size W0 w6 := Below.trans ((Below.refl _ _).alloc (Nat.le_refl _) _) (ownsRow_belowOf (OwnR.empty (row := rowString) (T := 9) (n := 1) W0 W0.heap.size (Nat.le_refl _)) (by simp) hgr6)
  have HO6 : W0.heap.size ≤ gc ∧ OwnBS w6 W0.heap.size gc es := by
    have h1 : OwnR rowString 9 1 w6 W0.heap.size (.slice (some ⟨gc, 0, none⟩) es.length cap6) es := by unfold OwnR; simpa using hown6
    obtain ⟨a', c', hv', hs'⟩ := h1.slSI
    cases hv'
    obtain ⟨g', e', ho'⟩ := OwnBS.of hs' (by omega)
    cases e'
    exact ⟨by obtain ⟨_, h, _⟩ := ho'; exact h, ho'⟩
  exact h gc cap6 w6 HO6.1 HO6.2 hb6
end
end Go.Proofs.Ytpgcmgbflcdjiaa
