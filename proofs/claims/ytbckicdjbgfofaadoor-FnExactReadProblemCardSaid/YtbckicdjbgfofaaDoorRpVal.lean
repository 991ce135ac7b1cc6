/- The problem of a text, in pure words: what impl.ReadProblem and spec.ReadProblem find is the same. -/
import Derived.Test.YtbckicdjbgfofaaDoorJoinVal
import Derived.Test.YtbckicdjbgfofaaDoorProbIm
import Derived.Lib.Bytealg
namespace Go.Proofs.YtbckicdjbgfofaaDoor
open Go.RowKit
set_option linter.unusedVariables false
set_option linter.unusedSimpArgs false
set_option maxRecDepth 20000
def num19 (s : ByteArray) : Int :=
  if s.size < 1 ∨ 3 < s.size then -1 else
  match numD s s.size with
  | some n => n
  | none => -1
/-- The kind with a word, among the first k. -/
def kindK (s : ByteArray) : Nat → Int
  | 0 => 0
  | k + 1 => if problemStrings[k + 1]? = some s then ((k + 1 : Nat) : Int) else kindK s k
def rpW (s : ByteArray) (i : Nat) : ByteArray := (((splV s 32)[i]?).map (·.f0)).getD ⟨#[]⟩
def rpX (s : ByteArray) : ChainProblemV := ⟨kindK (rpW s 0) 10, num19 (rpW s 1), num19 (rpW s 2)⟩
def rpOk (s : ByteArray) : Bool := decide ((splV s 32).length = 3) && (probB (rpX s) && decide (probV (rpX s) = s))
def rpV (s : ByteArray) : ChainProblemV := if rpOk s = true then rpX s else ⟨0, 0, 0⟩
theorem rpV_no {s : ByteArray} (h : rpOk s = false) : rpV s = ⟨0, 0, 0⟩ := if_neg (by rw [h]; simp)
theorem rpV_yes {s : ByteArray} (h : rpOk s = true) : rpV s = rpX s := if_pos h
/-- What stands behind the first blank. -/
def rpRest : List UInt8 → List UInt8
  | [] => []
  | c :: r => if c.toNat = 32 then r else rpRest r
theorem rpRest_word {w : List UInt8} (h : ∀ c ∈ w, c.toNat ≠ 32) (r : List UInt8) : rpRest (w ++ 32 :: r) = r := by
  induction w with
  | nil => rw [List.nil_append, rpRest]; exact if_pos (by decide)
  | cons c w ih => rw [List.cons_append, rpRest, if_neg (h c (by simp)), ih (fun c hc => h c (by simp [hc]))]
theorem rpRest_len (l : List UInt8) : (rpRest l).length ≤ l.length := by
  induction l with
  | nil => exact Nat.le_refl _
  | cons c r ih =>
    rw [rpRest]
    split
    · simp
    · simp only [List.length_cons]; omega
theorem rp_cases (l : List UInt8) : (Lib.indexByte l 32 = -1 ∧ rpRest l = []) ∨ ∃ i : Nat, i < l.length ∧ Lib.indexByte l 32 = (i : Int) ∧ rpRest l = l.drop (i + 1) := by
  induction l with
  | nil => exact .inl ⟨rfl, rfl⟩
  | cons c r ih =>
    rw [Lib.indexByte, rpRest]
    by_cases hc : c = 32
    · subst hc
      refine .inr ⟨0, by simp, by simp, ?_⟩
      exact if_pos (by decide)
    · have h1 : (c == 32) = false := by simpa using hc
      have h2 : ¬ c.toNat = 32 := fun h => hc (by apply UInt8.toNat_inj.1; rw [h]; rfl)
      rw [h1, if_neg h2]
      rcases ih with ⟨h3, h4⟩ | ⟨i, h0, h3, h4⟩
      · left
        rw [h3]
        exact ⟨rfl, h4⟩
      · right
        refine ⟨i + 1, by simp only [List.length_cons]; omega, ?_, ?_⟩
        · rw [h3]
          have : ((i : Int) == -1) = false := by rw [beq_eq_false_iff_ne]; omega
          simp [this]
        · rw [h4]; rfl
theorem problem_blank : ∀ s ∈ problemStrings, ∀ c ∈ s.data.toList, c.toNat ≠ 32 := by decide
theorem kind_of : ∀ k : Nat, 1 ≤ k → k ≤ 10 → kindK ((problemStrings[k]?).getD ⟨#[]⟩) 10 = (k : Int) := by
  intro k h1 h2
  obtain rfl | rfl | rfl | rfl | rfl | rfl | rfl | rfl | rfl | rfl : k = 1 ∨ k = 2 ∨ k = 3 ∨ k = 4 ∨ k = 5 ∨ k = 6 ∨ k = 7 ∨ k = 8 ∨ k = 9 ∨ k = 10 := by omega
  all_goals decide
theorem num19_of {x : Int} (h0 : 0 ≤ x) (h1 : x ≤ 127) : num19 (decT x) = x := by
  have hl : (decT x).data.toList = Lib.decDigits x.toNat := rfDec_eq h0
  have hl2 : (decT x).data.toList.length = (decT x).size := by simp
  have hsz : (decT x).size ≤ 3 := by
    rw [← hl2, hl]
    exact decDigits_len 3 x.toNat (by omega) (by omega)
  have hne : ¬ (decT x).size < 1 := by
    intro h
    have h9 : (decT x).data.toList.length = 0 := by omega
    rw [hl] at h9
    exact dec_ne _ (List.length_eq_zero_iff.1 h9)
  have hd := numD_dig (decT x) (decT x).size (Nat.le_refl _)
  rw [List.take_of_length_le (by omega), hl, dig_dec] at hd
  unfold num19
  rw [if_neg (by omega), hd]
  show ((x.toNat : Nat) : Int) = x
  omega
theorem rp_words {es : List StringV} {ws : List ByteArray} (h : (es.map fun w => w.f0.data.toList) = ws.map fun w => w.data.toList) : es = ws.map fun w => (⟨w⟩ : StringV) := by
  apply List.ext_getElem?
  intro i
  have h2 := congrArg (·[i]?) h
  simp only [List.getElem?_map] at h2 ⊢
  cases hi : es[i]? with
  | none =>
    rw [hi] at h2
    cases hj : ws[i]? with
    | none => rfl
    | some x => rw [hj] at h2; cases h2
  | some w =>
    rw [hi] at h2
    cases hj : ws[i]? with
    | none => rw [hj] at h2; cases h2
    | some x =>
      rw [hj] at h2
      simp only [Option.map_some, Option.some.injEq] at h2 ⊢
      obtain ⟨w0⟩ := w
      congr 1
      exact rf_ext h2
theorem rp_key {s : ByteArray} {x : ChainProblemV} (hp : probB x = true) (ht : probV x = s) : rpX s = x ∧ (splV s 32).length = 3 ∧ numsV (rpRest s.data.toList) = some [x.f1, x.f2] := by
  obtain ⟨⟨a0, a1⟩, ⟨b0, b1⟩, d0, d1⟩ := probB_parts hp
  obtain ⟨k, hk⟩ : ∃ k : Nat, x.f0 = k := ⟨x.f0.toNat, by omega⟩
  obtain ⟨wd, hw⟩ : ∃ s, problemStrings[k]? = some s := ⟨_, List.getElem?_eq_getElem (show k < problemStrings.length by simp [problemStrings]; omega)⟩
  have hb := problem_blank wd (List.mem_of_getElem? hw)
  have hV : (problemStrings[x.f0.toNat]?).getD ⟨#[]⟩ = wd := by rw [hk]; simp [hw]
  have hs : s.data.toList = rfJoin [wd.data.toList, rfDec x.f1, rfDec x.f2] := by
    rw [← ht]
    unfold probV
    rw [if_pos hp, hV]
    simp [ByteArray.data_append, rfJoin, rfDec]
  have hsp := splV_split s 32
  rw [hs, rf_split_join (by simp) (by
    intro w hw'
    simp only [List.mem_cons, List.not_mem_nil, or_false] at hw'
    rcases hw' with rfl | rfl | rfl
    · exact hb
    · exact rfDec_blank b0
    · exact rfDec_blank d0)] at hsp
  have hes := rp_words (ws := [wd, decT x.f1, decT x.f2]) hsp
  refine ⟨?_, by rw [hes]; rfl, ?_⟩
  · unfold rpX rpW
    rw [hes]
    have hk1 := kind_of k (by omega) (by omega)
    rw [hw] at hk1
    show (⟨kindK wd 10, num19 (decT x.f1), num19 (decT x.f2)⟩ : ChainProblemV) = x
    rw [num19_of b0 (by omega), num19_of d0 d1]
    obtain ⟨x0, x1, x2⟩ := x
    dsimp only at hk ⊢
    congr 1
    rw [hk]; exact hk1
  · rw [hs]
    show numsV (rpRest (wd.data.toList ++ 32 :: rfJoin [rfDec x.f1, rfDec x.f2])) = _
    rw [rpRest_word hb]
    exact nums_join (xs := [x.f1, x.f2]) (by simp) (by
      intro y hy
      simp only [List.mem_cons, List.not_mem_nil, or_false] at hy
      rcases hy with rfl | rfl <;> omega)
theorem rpOk_of {s : ByteArray} {x : ChainProblemV} (hp : probB x = true) (ht : probV x = s) : rpOk s = true ∧ rpX s = x := by
  obtain ⟨h1, h2, _⟩ := rp_key hp ht
  refine ⟨?_, h1⟩
  unfold rpOk
  rw [h1, hp, ht, h2]
  simp
theorem rpOk_parts {s : ByteArray} (h : rpOk s = true) : (splV s 32).length = 3 ∧ probB (rpX s) = true ∧ probV (rpX s) = s := by
  unfold rpOk at h
  simp only [Bool.and_eq_true, decide_eq_true_eq] at h
  exact h
theorem splV_empty {s : ByteArray} (h : (splV s 32).length = 3) : ¬ s.size = 0 := by
  intro h0
  unfold splV at h
  rw [h0] at h
  simp [spl] at h
theorem rpRest_ne {s : ByteArray} {n m : Int} (h : numsV (rpRest s.data.toList) = some [n, m]) : ¬ s.size = 0 := by
  intro h0
  have hl : s.data.toList.length = s.size := by simp
  have e : s.data.toList = [] := List.length_eq_zero_iff.1 (by omega)
  rw [e] at h
  simp [rpRest, numsV, numsP] at h
theorem probV_ne {s : ByteArray} {x : ChainProblemV} (hs : ¬ s.size = 0) (h : probV x = s) : probB x = true := by
  cases hb : probB x with
  | true => rfl
  | false =>
    exfalso
    apply hs
    rw [← h]
    unfold probV
    rw [hb]; rfl
/-- Where the numbers behind the first blank are not two, there is no problem. -/
theorem rp_nums_no {s : ByteArray} (h : ∀ n m, numsV (rpRest s.data.toList) ≠ some [n, m]) : rpOk s = false := by
  cases hb : rpOk s with
  | false => rfl
  | true =>
    obtain ⟨_, h2, h3⟩ := rpOk_parts hb
    exact absurd (rp_key h2 h3).2.2 (h _ _)
/-- Where no kind fits, there is no problem. -/
theorem rp_kinds_no {s : ByteArray} {n m : Int} (hn : numsV (rpRest s.data.toList) = some [n, m]) (h : ∀ k : Nat, 1 ≤ k → k ≤ 10 → ¬ probV ⟨(k : Int), n, m⟩ = s) : rpOk s = false := by
  cases hb : rpOk s with
  | false => rfl
  | true =>
    exfalso
    obtain ⟨_, h2, h3⟩ := rpOk_parts hb
    have h4 := (rp_key h2 h3).2.2
    rw [hn] at h4
    have h5 := Option.some.inj h4
    injection h5 with h6 h7
    injection h7 with h7 _
    obtain ⟨⟨a0, a1⟩, _⟩ := probB_parts h2
    generalize rpX s = x at *
    obtain ⟨x0, x1, x2⟩ := x
    dsimp only at h6 h7 a0 a1
    obtain ⟨k, rfl⟩ : ∃ k : Nat, x0 = k := ⟨x0.toNat, by omega⟩
    subst h6; subst h7
    exact h k (by omega) (by omega) h3
theorem rp_kind_yes {s : ByteArray} {n m : Int} {k : Nat} (hn : numsV (rpRest s.data.toList) = some [n, m]) (h : probV ⟨(k : Int), n, m⟩ = s) : rpOk s = true ∧ rpV s = ⟨(k : Int), n, m⟩ := by
  obtain ⟨h1, h2⟩ := rpOk_of (probV_ne (rpRest_ne hn) h) h
  exact ⟨h1, by rw [rpV_yes h1, h2]⟩
end Go.Proofs.YtbckicdjbgfofaaDoor
