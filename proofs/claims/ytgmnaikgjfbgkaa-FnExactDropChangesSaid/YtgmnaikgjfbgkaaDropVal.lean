/- The values of DropChanges; impl.validDrops, spec.l04Drops -/
import Derived.Test.YtgmnaikgjfbgkaaAddDrift
import Derived.Test.YtgmnaikgjfbgkaaSpecDrift
import Derived.Test.YtgmnaikgjfbgkaaCommon
namespace Go.Proofs.Ytgmnaikgjfbgkaa
open Go.RowKit
set_option linter.unusedVariables false
/-- The first k numbers without those whose places are listed. -/
def keepTo (js ts : List Int) (k : Nat) : List Int := ((List.range k).filter (fun (i : Nat) => !hasB js (i : Int))).map (fun i => ts.getD i 0)
theorem keepTo_zero (js ts : List Int) : keepTo js ts 0 = [] := rfl
theorem keepTo_succ {js ts : List Int} {k : Nat} {x : Int} (h : ts[k]? = some x) : keepTo js ts (k + 1) = if hasB js (k : Int) = true then keepTo js ts k else keepTo js ts k ++ [x] := by
  unfold keepTo
  rw [List.range_succ, List.filter_append, List.map_append]
  by_cases c : hasB js (k : Int) = true <;> simp [c, h]
theorem keepTo_length (js ts : List Int) (k : Nat) : (keepTo js ts k).length ≤ k := by
  unfold keepTo
  have := List.length_filter_le (fun (i : Nat) => !hasB js (i : Int)) (List.range k)
  simp at this ⊢
  exact this
theorem rises_of_risesB {lo hi : Int} {js : List Int} (h : risesB lo hi js = true) : Rises js := by
  have step : ∀ (i : Nat) (x y : Int), js[i]? = some x → js[i + 1]? = some y → x < y := by
    intro i x y hx hy
    have h1 := range_all_at h (List.getElem?_eq_some_iff.1 hy).1
    unfold okAt at h1
    rw [getD_of hy, Nat.add_sub_cancel, getD_of hx] at h1
    simp only [Bool.and_eq_true, Bool.or_eq_true, decide_eq_true_eq] at h1
    omega
  have : ∀ (d i : Nat) (x y : Int), js[i]? = some x → js[i + 1 + d]? = some y → x < y := by
    intro d
    induction d with
    | zero => exact fun i x y hx hy => step i x y hx hy
    | succ d ih =>
      intro i x y hx hy
      obtain ⟨z, hz⟩ : ∃ z, js[i + 1 + d]? = some z := getOf (by have := (List.getElem?_eq_some_iff.1 hy).1; omega)
      have h1 := ih i x z hx hz
      have h2 := step (i + 1 + d) z y hz (by rw [show i + 1 + d + 1 = i + 1 + (d + 1) by omega]; exact hy)
      omega
  intro i j x y hij hx hy
  exact this (j - (i + 1)) i x y hx (by rw [show i + 1 + (j - (i + 1)) = j by omega]; exact hy)
theorem risesB_within {m : Int} {js : List Int} (h : risesB 0 3999 js = true) (hm : m ≤ 3999) : risesB 0 m js = js.all (inB 0 m) := by
  rw [Bool.eq_iff_iff]
  constructor
  · intro h2
    rw [List.all_eq_true]
    intro x hx
    exact inB_iff.2 (risesB_bd h2 hx)
  · intro h2
    rw [List.all_eq_true] at h2
    unfold risesB
    rw [List.all_eq_true]
    intro i hi
    have hl := List.mem_range.1 hi
    obtain ⟨x, hx⟩ := getOf hl
    have h3 := range_all_at h hl
    have h4 := h2 x (List.mem_of_getElem? hx)
    unfold okAt at h3 ⊢
    rw [getD_of hx] at h3 ⊢
    rw [h4]
    simp only [Bool.and_eq_true] at h3
    rw [h3.2]; rfl
def dropVal (c f : Int) (zs js : List Int) : FluxVal :=
  if fluxOk c f zs = true ∧ risesB 0 3999 js = true then
    if js.all (inB 0 ((zs.length : Int) - 1)) = true then mkVal c (keepTo js (timesOf f zs) zs.length) zs.sum 2 else .none 2
  else .none 1
theorem dropVal_len (c f : Int) (zs js : List Int) (hl : zs.length ≤ 1048576) : (dropVal c f zs js).gaps.length ≤ 1048576 := by
  unfold dropVal
  split
  · split
    · exact mkVal_len _ _ _ _ (Nat.le_trans (keepTo_length _ _ _) hl)
    · simp [FluxVal.none]
  · simp [FluxVal.none]
theorem validDrops_any (a : Option Addr) (js : List Int) (d : Nat) (w : World) (hl : js.length ≤ 1048576) (h : SlA w a js) :
    Calls Try.prog 64 #[.slice a js.length d] w fun e w' => e = .returned (.bool (risesB 0 3999 js)) ∧ Below w.heap.size w w' := by
  have C1 := Lib.hid (rising_any 0 3999 a js d w hl (by omega) (by omega) h)
  go_enter Try.func64, Try.ntmps64
  go_wp2_with (go_at_call 98; refine (C1.out).mono ?_; rintro e w' ⟨rfl, hb⟩)
  go_ret
  exact ⟨rfl, hb⟩
theorem l04Drops_any (a : Option Addr) (js : List Int) (d : Nat) (w : World) (hl : js.length ≤ 1048576) (h : SlA w a js) :
    Calls Try.prog 82 #[.slice a js.length d] w fun e w' => e = .returned (.bool (risesB 0 3999 js)) ∧ Below w.heap.size w w' := by
  have C1 := Lib.hid (l00Rises_any 0 3999 a js d w hl h)
  go_enter Try.func82, Try.ntmps82
  go_wp2_with (go_at_call 83; refine (C1.out).mono ?_; rintro e w' ⟨rfl, hb⟩)
  go_ret
  exact ⟨rfl, hb⟩
/-- A reading in a block of its own, its changes whatever value. -/
def ReadV (w : World) (p : Nat) (c f : Int) (a : Option Addr) (n cap : Nat) (v : Value) (rev : Int) : Prop :=
  w.heap[p]? = some (.cells #[.int .i64 c, .int .i64 f, .slice a n cap, v, .int .i64 rev] 100 (0, 0))
theorem ReadV.facts {w : World} {p : Nat} {c f : Int} {a : Option Addr} {n cap : Nat} {v : Value} {rev : Int} (h : ReadV w p c f a n cap v rev) : w.cell? ⟨p, 0, none⟩ = some (.int .i64 c) ∧ w.cell? ⟨p, 1, none⟩ = some (.int .i64 f) ∧ w.cell? ⟨p, 2, none⟩ = some (.slice a n cap) ∧ w.cell? ⟨p, 3, none⟩ = some v ∧ w.cell? ⟨p, 4, none⟩ = some (.int .i64 rev) ∧ w.frozen? ⟨p, 3, none⟩ = false := by
  unfold ReadV at h
  simp [World.cell?, World.frozen?, h]
theorem ReadV.below {w w' : World} {B p : Nat} {c f : Int} {a : Option Addr} {n cap : Nat} {v : Value} {rev : Int} (h : ReadV w p c f a n cap v rev) (hb : Below B w w') (hp : p < B) : ReadV w' p c f a n cap v rev := by
  unfold ReadV; rw [hb.block p hp]; exact h
theorem ReadV.put {w : World} {p : Nat} {c f : Int} {a : Option Addr} {n cap : Nat} {v : Value} {rev : Int} (h : ReadV w p c f a n cap v rev) (u : Value) : ReadV (w.setCell ⟨p, 3, none⟩ u) p c f a n cap u rev := by
  unfold ReadV
  rw [heap_set_row _ _ _ _ _ _ h]
  rfl
end Go.Proofs.Ytgmnaikgjfbgkaa
