/- Slices of structs among the arguments, opened; equal strings; small words. -/
import Derived.Test.YtpgcmgbflcdjiaaRecs
namespace Go.Proofs.Ytpgcmgbflcdjiaa
open Go.RowKit Go.ChangeShapes Go.WideShapes Go.ChangeAt Go.Joins Go.Deep
theorem list_of {E : Type} {p : Nat → E → Prop} : ∀ n : Nat, (∀ i, i < n → ∃ e, p i e) → ∃ es : List E, es.length = n ∧ ∀ i e, es[i]? = some e → p i e
  | 0, _ => ⟨[], rfl, by simp⟩
  | n + 1, h => by
    obtain ⟨es, hl, hp⟩ := list_of n (fun i hi => h i (by omega))
    obtain ⟨e, he⟩ := h n (by omega)
    refine ⟨es ++ [e], by simp [hl], fun i x hx => ?_⟩
    by_cases hi : i < n
    · rw [List.getElem?_append_left (by omega)] at hx; exact hp i x hx
    · have hlt := (List.getElem?_eq_some_iff.1 hx).1
      have : i = n := by simp at hlt; omega
      subst this
      rw [List.getElem?_append_right (by omega), hl] at hx
      simp at hx
      subst hx; exact he
theorem add_plain (b off k : Nat) : (⟨b, off, none⟩ : Addr).add k = ⟨b, off + k, none⟩ := by
  by_cases h0 : k = 0
  · subst h0; simp [Addr.add]
  · simp [Addr.add, h0]
section
variable {H : Type} {enc : TypeId × Value → H} {P : Program} {w : World} {base : Nat} {spare : Nat → Bool} {held : Bool}
theorem int_cell {T : TypeId} {c : Value} {n : Nat} {y : DataW H × List MemPlace} (hT : P.underlying T = some (.int .i64)) (h : DataW.trod enc P w base spare held n T [c] = some y) : ∃ x : Int, c = .int .i64 x := by
  obtain ⟨x, e, _, _⟩ := DataW.trod_int hT h
  simp at e
  exact ⟨x, e⟩
theorem string_cell {T : TypeId} {c : Value} {n : Nat} {y : DataW H × List MemPlace} (hT : P.underlying T = some .string) (h : DataW.trod enc P w base spare held n T [c] = some y) : ∃ x : ByteArray, c = .string x ∧ x.size ≤ maxLen := by
  obtain ⟨x, e, _, hx⟩ := DataW.trod_string hT h
  simp at e
  exact ⟨x, e, hx⟩
theorem bool_cell {T : TypeId} {c : Value} {n : Nat} {y : DataW H × List MemPlace} (hT : P.underlying T = some .bool) (h : DataW.trod enc P w base spare held n T [c] = some y) : ∃ x : Bool, c = .bool x := by
  obtain ⟨x, e, _⟩ := DataW.trod_bool hT h
  simp at e
  exact ⟨x, e⟩
theorem open_recs {E : Type} {row : E → List Value} {ok : E → Prop} {n : Nat} (hn : ∀ e, (row e).length = n) {t el : TypeId} {fs : Array Field} (ht : P.underlying t = some (.slice el)) (he : P.underlying el = some (.struct fs))
    (hone : oneCellFields P fs = true) (hC : P.cellsOf el = n) (hfs : fs.size = n) (h0 : 0 < n)
    (hread : ∀ cs : List Value, cs.length = n → (∀ (j : Nat) (f : Field), fs[j]? = some f → ∃ (c : Value) (m : Nat) (y : DataW H × List MemPlace), cs[j]? = some c ∧ DataW.trod enc P w base (fun _ => true) held m f.type [c] = some y) → ∃ e, cs = row e ∧ ok e)
    {a : Option Addr} {len cap fuel : Nat} {x : DataW H × List MemPlace} (h : DataW.trod enc P w base (fun _ => true) held fuel t [.slice a len cap] = some x) :
    ∃ es : List E, len = es.length ∧ es.length ≤ maxLen ∧ SlS row w a es ∧ ∀ e ∈ es, ok e := by
  rcases open_slice ht h with ⟨hcs, _⟩ | ⟨a', len', cap', m, k, D, Pl, hcs, _, hl, hm, hmm, _, hi⟩
  · simp at hcs
    obtain ⟨rfl, rfl, rfl⟩ := hcs
    exact ⟨[], rfl, by simp, .inl rfl, by simp⟩
  · simp at hcs
    obtain ⟨rfl, rfl, rfl⟩ := hcs
    simp at hmm
    subst hmm
    have each : ∀ i, i < len → ∃ e, ok e ∧ ∀ j v, (row e)[j]? = some v → w.cell? (a'.add (i * n + j)) = some v := by
      intro i hil
      obtain ⟨cs, h1, h2⟩ := hi i (by omega)
      rw [hC] at h1
      obtain ⟨_, hlen, hat⟩ := World.cells?_some h1
      obtain ⟨ys, q, _, _, _, hyl, hf⟩ := DataW.trod_struct he h2
      obtain ⟨e, rfl, hok⟩ := hread cs hlen (by
        intro j f hj
        have hlt : j < fs.size := (Array.getElem?_eq_some_iff.1 hj).1
        obtain ⟨ho, hk⟩ := hone_of hone j f hj
        have h3 := hf j f hj
        rw [ho, hk] at h3
        have hd : (cs.drop j).take 1 = [cs[j]'(by omega)] := by
          rw [List.drop_eq_getElem_cons (by omega)]
          rfl
        rw [hd] at h3
        refine ⟨cs[j]'(by omega), q, ys[j]'(by omega), List.getElem?_eq_getElem _, ?_⟩
        rw [h3]
        exact List.getElem?_eq_getElem (by omega))
      refine ⟨e, hok, fun j v hv => ?_⟩
      have hj : j < n := by rw [← hn e]; exact (List.getElem?_eq_some_iff.1 hv).1
      have := hat j hj
      rw [add_add] at this
      rw [this]; exact hv
    obtain ⟨es, hlen, hp⟩ := list_of len each
    refine ⟨es, hlen.symm, by omega, ?_, fun e hx => ?_⟩
    · cases hes : es with
      | nil => exact .inl rfl
      | cons e0 r =>
        right
        obtain ⟨b, off, spot⟩ := a'
        have hfst := (hp 0 e0 (by simp [hes])).2 0 _ (List.getElem?_eq_getElem (by rw [hn]; exact h0))
        have hspot : spot = none := by simpa [Addr.add] using World.cell?_spot hfst
        subst hspot
        refine ⟨b, off, rfl, World.block_lt_of_cell? w _ (by rw [add_plain] at hfst; exact hfst), ?_⟩
        rw [← hes]
        intro i v hv
        have hlt := (List.getElem?_eq_some_iff.1 hv).1
        rw [flatten_len (rows_len hn es), List.length_map] at hlt
        have hq : i / n < es.length := Nat.div_lt_of_lt_mul (by rw [Nat.mul_comm]; exact hlt)
        have hr : i % n < n := Nat.mod_lt _ h0
        have hk : es[i / n]? = some (es[i / n]'hq) := List.getElem?_eq_getElem _
        have ei : i / n * n + i % n = i := by rw [Nat.mul_comm]; exact Nat.div_add_mod _ _
        have h3 := flatten_at (rows_len hn es) (k := i / n) (r := row (es[i / n]'hq)) (by simp [hk]) hr
        rw [ei] at h3
        have h4 := (hp _ _ hk).2 (i % n) v (by rw [← h3]; exact hv)
        rw [ei, add_plain] at h4
        exact h4
    · obtain ⟨i, hi⟩ := List.getElem?_of_mem hx
      exact (hp i e hi).1
end
/-- What a law's size check gives: what is left, or -1. -/
def szV (left n : Nat) : Int := if n ≤ left then ((left - n : Nat) : Int) else -1
theorem le_sum_of_mem {x : Nat} : ∀ {l : List Nat}, x ∈ l → x ≤ l.sum
  | [], h => by cases h
  | y :: r, h => by
    rw [List.sum_cons]
    rcases List.mem_cons.1 h with rfl | h
    · exact Nat.le_add_right _ _
    · exact Nat.le_trans (le_sum_of_mem h) (Nat.le_add_left _ _)
theorem toList_ne2 {m s : ByteArray} (h : ¬ m = s) : (m.toList == s.toList) = false := by
  rw [beq_eq_false_iff_ne]
  intro h2
  apply h
  rw [ByteArray.toList_eq, ByteArray.toList_eq] at h2
  apply ByteArray.ext
  exact Array.toList_inj.1 h2
theorem take_eq {E : Type} {xs ys : List E} (hl : xs.length = ys.length) (h : xs.take xs.length = ys.take xs.length) : xs = ys := by
  rw [List.take_length, hl, List.take_length] at h; exact h
theorem below_drewN' {B : Nat} {a w : World} (h : Below B a w) (n : Nat) : Below B a (w.drewN n) := ⟨h.os, h.tape, h.output, h.size, h.block⟩
end Go.Proofs.Ytpgcmgbflcdjiaa
