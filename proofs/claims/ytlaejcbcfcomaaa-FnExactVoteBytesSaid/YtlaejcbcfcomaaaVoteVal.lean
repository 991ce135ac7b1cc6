/- The vote of a column: the value that occurs most often, of several the least one; whether a column is even: as functions. -/
import Derived.Test.YtlaejcbcfcomaaaRecString
import Derived.Test.YtlaejcbcfcomaaaRevOk
namespace Go.Proofs.Ytlaejcbcfcomaaa
open Go.RowKit
set_option linter.unusedVariables false
def colAt (xs : List StringV) (p : Nat) : List Nat := xs.map fun e => (e.f0.data[p]!).toNat
/-- r occurs most often, and is the least of those that do. -/
def IsVote (c : List Nat) (r : Nat) : Prop := r ∈ c ∧ ∀ b, c.count b < c.count r ∨ (c.count b = c.count r ∧ r ≤ b)
theorem IsVote.unique {c : List Nat} {r s : Nat} (h1 : IsVote c r) (h2 : IsVote c s) : r = s := by
  have a := h1.2 s
  have b := h2.2 r
  omega
/-- The best value of those below b, 0 if none of them occurs. -/
def bestTo (c : List Nat) : Nat → Nat × Nat
  | 0 => (0, 0)
  | b + 1 => if (bestTo c b).2 < c.count b then (b, c.count b) else bestTo c b
theorem bestTo_inv (c : List Nat) : ∀ b, ((bestTo c b).2 = 0 ∧ (bestTo c b).1 = 0 ∧ ∀ x, x < b → c.count x = 0) ∨ (0 < (bestTo c b).2 ∧ (bestTo c b).2 = c.count (bestTo c b).1 ∧ (bestTo c b).1 < b ∧ ∀ x, x < b → c.count x < (bestTo c b).2 ∨ (c.count x = (bestTo c b).2 ∧ (bestTo c b).1 ≤ x))
  | 0 => .inl ⟨rfl, rfl, fun x h => absurd h (by omega)⟩
  | b + 1 => by
    have ih := bestTo_inv c b
    unfold bestTo
    by_cases h : (bestTo c b).2 < c.count b
    · rw [if_pos h]
      refine .inr ⟨by simp only []; omega, rfl, by simp only []; omega, fun x hx => ?_⟩
      simp only []
      by_cases hxb : x = b
      · subst hxb; exact .inr ⟨rfl, Nat.le_refl _⟩
      · left
        rcases ih with ⟨_, _, h3⟩ | ⟨_, _, _, h4⟩
        · have := h3 x (by omega); omega
        · have := h4 x (by omega); omega
    · rw [if_neg h]
      rcases ih with ⟨h1, h2, h3⟩ | ⟨h1, h2, h3, h4⟩
      · refine .inl ⟨h1, h2, fun x hx => ?_⟩
        by_cases hxb : x = b
        · subst hxb; omega
        · exact h3 x (by omega)
      · refine .inr ⟨h1, h2, by omega, fun x hx => ?_⟩
        by_cases hxb : x = b
        · subst hxb
          rcases Nat.lt_or_ge (c.count x) (bestTo c x).2 with h5 | h5
          · exact .inl h5
          · exact .inr ⟨by omega, by omega⟩
        · exact h4 x (by omega)
theorem bestTo_le (c : List Nat) (b : Nat) : (bestTo c b).1 ≤ b ∧ (bestTo c b).2 ≤ c.length := by
  rcases bestTo_inv c b with ⟨h1, h2, _⟩ | ⟨_, h2, h3, _⟩
  · omega
  · have := List.count_le_length (a := (bestTo c b).1) (l := c); omega
def voteOf (c : List Nat) : Nat := (bestTo c 256).1
theorem voteOf_is {c : List Nat} (h0 : c ≠ []) (hb : ∀ x ∈ c, x < 256) : IsVote c (voteOf c) := by
  have big : ∀ x, 256 ≤ x → c.count x = 0 := fun x hx => List.count_eq_zero.2 fun hm => by have := hb x hm; omega
  obtain ⟨y, hy⟩ := List.exists_mem_of_ne_nil c h0
  have hy1 : 0 < c.count y := List.count_pos_iff.2 hy
  rcases bestTo_inv c 256 with ⟨_, _, h3⟩ | ⟨h1, h2, h3, h4⟩
  · have := h3 y (hb y hy); omega
  · unfold voteOf
    refine ⟨List.count_pos_iff.1 (by omega), fun x => ?_⟩
    by_cases hx : x < 256
    · have := h4 x hx; omega
    · have := big x (by omega); omega
theorem voteOf_lt {c : List Nat} (h0 : c ≠ []) (hb : ∀ x ∈ c, x < 256) : voteOf c < 256 := hb _ (voteOf_is h0 hb).1
/-- What the program's own loop keeps: r is of the column and not worse than the first k. -/
def PickTo (c : List Nat) (k r : Nat) : Prop := r ∈ c ∧ ∀ b ∈ c.take k, c.count b < c.count r ∨ (c.count b = c.count r ∧ r ≤ b)
theorem PickTo.done {c : List Nat} {r : Nat} (h : PickTo c c.length r) : IsVote c r := by
  refine ⟨h.1, fun b => ?_⟩
  by_cases hb : b ∈ c
  · exact h.2 b (by rw [List.take_length]; exact hb)
  · have h1 := List.count_eq_zero.2 hb
    have h2 := List.count_pos_iff.2 h.1
    omega
theorem PickTo.start {c : List Nat} {r : Nat} (h : c[0]? = some r) : PickTo c 0 r := ⟨List.mem_of_getElem? h, by simp⟩
theorem PickTo.yes {c : List Nat} {k r b : Nat} (h : PickTo c k r) (hk : c[k]? = some b) (hb : c.count r < c.count b ∨ (c.count b = c.count r ∧ b < r)) : PickTo c (k + 1) b := by
  refine ⟨List.mem_of_getElem? hk, fun x hx => ?_⟩
  rw [List.take_add_one, hk] at hx
  rcases List.mem_append.1 hx with hx | hx
  · have := h.2 x hx; omega
  · simp at hx; subst hx; omega
theorem PickTo.no {c : List Nat} {k r b : Nat} (h : PickTo c k r) (hk : c[k]? = some b) (hb : ¬ (c.count r < c.count b ∨ (c.count b = c.count r ∧ b < r))) : PickTo c (k + 1) r := by
  refine ⟨h.1, fun x hx => ?_⟩
  rw [List.take_add_one, hk] at hx
  rcases List.mem_append.1 hx with hx | hx
  · exact h.2 x hx
  · simp at hx; subst hx; omega
/-- All of a column are the same. -/
def evenB (c : List Nat) : Bool := c.all fun x => decide (x = c.headD 0)
theorem even_count {c : List Nat} {r : Nat} (h : IsVote c r) : evenB c = decide (c.count r = c.length) := by
  cases c with
  | nil => exact absurd h.1 (by simp)
  | cons y t =>
    unfold evenB
    rw [Bool.eq_iff_iff]
    simp only [List.headD_cons, List.all_eq_true, decide_eq_true_eq]
    constructor
    · intro ha
      have hr := of_decide_eq_true (ha r h.1)
      rw [List.count_eq_length]
      intro x hx
      rw [of_decide_eq_true (ha x hx), hr]
    · intro hc x hx
      rw [List.count_eq_length] at hc
      rw [← hc x hx, ← hc y (by simp)]
      simp
/-- The voted bytes of strings of one length. -/
def voteS (xs : List StringV) (k : Nat) : List UInt8 := (List.range k).map fun p => UInt8.ofNat (voteOf (colAt xs p))
def unlikeP (xs : List StringV) (k : Nat) : List Int := ((List.range k).filter fun p => !(evenB (colAt xs p))).map fun (p : Nat) => ((p : Nat) : Int)
theorem voteS_succ (xs : List StringV) (k : Nat) : voteS xs (k + 1) = voteS xs k ++ [UInt8.ofNat (voteOf (colAt xs k))] := by simp [voteS, List.range_succ]
theorem voteS_len (xs : List StringV) (k : Nat) : (voteS xs k).length = k := by simp [voteS]
theorem unlikeP_yes {xs : List StringV} {k : Nat} (h : evenB (colAt xs k) = false) : unlikeP xs (k + 1) = unlikeP xs k ++ [(k : Int)] := by simp [unlikeP, List.range_succ, h]
theorem unlikeP_no {xs : List StringV} {k : Nat} (h : evenB (colAt xs k) = true) : unlikeP xs (k + 1) = unlikeP xs k := by simp [unlikeP, List.range_succ, h]
theorem unlikeP_len (xs : List StringV) (k : Nat) : (unlikeP xs k).length ≤ k := by
  unfold unlikeP
  rw [List.length_map]
  have := List.length_filter_le (fun p => !(evenB (colAt xs p))) (List.range k)
  simpa using this
theorem colAt_ne {xs : List StringV} (h : xs ≠ []) (p : Nat) : colAt xs p ≠ [] := by simpa [colAt] using h
theorem colAt_lt (xs : List StringV) (p : Nat) : ∀ x ∈ colAt xs p, x < 256 := by
  intro x hx
  obtain ⟨e, _, rfl⟩ := List.mem_map.1 hx
  exact UInt8.toNat_lt _
theorem colAt_at {xs : List StringV} {k : Nat} {e : StringV} (p : Nat) (h : xs[k]? = some e) : (colAt xs p)[k]? = some (e.f0.data[p]!).toNat := by simp [colAt, h]
/-- Of cells: how many of the first k are 1. -/
theorem count_take_snoc {c : List Nat} {k b x : Nat} (h : c[k]? = some x) : (c.take (k + 1)).count b = (c.take k).count b + (if x = b then 1 else 0) := by
  rw [List.take_add_one, h, List.count_append]
  simp only [Option.toList_some, List.count_singleton, beq_iff_eq]
/-- Of a column of cells, the vote is 1 exactly if more than half are. -/
theorem vote_cells {c : List Nat} (h0 : c ≠ []) (hc : ∀ x ∈ c, x = 48 ∨ x = 49) : voteOf c = if c.length < 2 * c.count 49 then 49 else 48 := by
  have hsum : c.count 48 + c.count 49 = c.length := by
    clear h0
    induction c with
    | nil => rfl
    | cons y t ih =>
      have := ih (fun x hx => hc x (by simp [hx]))
      rcases hc y (by simp) with rfl | rfl <;> simp <;> omega
  have h := voteOf_is h0 (fun x hx => by have := hc x hx; omega)
  have h1 := h.2 48
  have h2 := h.2 49
  rcases hc _ h.1 with e | e <;> rw [e] at h1 h2 ⊢ <;> split <;> omega
/-- Of a column of cells, some differ exactly if the 1s are neither none nor all. -/
theorem even_cells {c : List Nat} (h0 : c ≠ []) (hc : ∀ x ∈ c, x = 48 ∨ x = 49) : evenB c = !(decide (0 < c.count 49) && decide (c.count 49 < c.length)) := by
  have hsum : c.count 48 + c.count 49 = c.length := by
    clear h0
    induction c with
    | nil => rfl
    | cons y t ih =>
      have := ih (fun x hx => hc x (by simp [hx]))
      rcases hc y (by simp) with rfl | rfl <;> simp <;> omega
  have h := voteOf_is h0 (fun x hx => by have := hc x hx; omega)
  rw [even_count h]
  have h1 := h.2 48
  have h2 := h.2 49
  have h3 : 0 < c.length := List.length_pos_iff.2 h0
  rw [Bool.eq_iff_iff]
  simp only [decide_eq_true_eq, Bool.not_eq_true', Bool.and_eq_false_iff, decide_eq_false_iff_not]
  rcases hc _ h.1 with e | e <;> rw [e] at h1 h2 ⊢ <;> omega
end Go.Proofs.Ytlaejcbcfcomaaa
