/- Slices of strings: laws.szStringS, laws.toStringS, laws.eqStringS, and slices of strings among the arguments, opened. -/
import Derived.Test.YtbckicdjbgfofaaDoorRecs
import Derived.Test.YtbckicdjbgfofaaDoorRecKit
namespace Go.Proofs.YtbckicdjbgfofaaDoor
open Go.RowKit Go.ChangeShapes Go.WideShapes Go.ChangeAt Go.Joins Go.Deep
set_option linter.unusedVariables false
set_option linter.unusedSimpArgs false
structure StringV where
  f0 : ByteArray
def rowString (e : StringV) : List Value := [.string e.f0]
def zeroString : List Value := [.string ByteArray.empty]
theorem rowString_len (e : StringV) : (rowString e).length = 1 := rfl
theorem infoString : (Tryd.prog.info? 9).map (fun i => (i.zero, i.size, i.bytes)) = some (some (.string ByteArray.empty), 1, 16) := by kernel_rfl
section
variable {H : Type} {enc : TypeId × Value → H} {P : Program} {w : World} {base : Nat} {held : Bool}
theorem open_ones {E : Type} {row : E → List Value} {ok : E → Prop} (hn : ∀ e, (row e).length = 1) {t el : TypeId} (ht : P.underlying t = some (.slice el)) (hC : P.cellsOf el = 1)
    (hread : ∀ (c : Value) (m : Nat) (y : DataW H × List MemPlace), DataW.trod enc P w base (fun _ => true) held m el [c] = some y → ∃ e, [c] = row e ∧ ok e)
    {a : Option Addr} {len cap fuel : Nat} {x : DataW H × List MemPlace} (h : DataW.trod enc P w base (fun _ => true) held fuel t [.slice a len cap] = some x) :
    ∃ es : List E, len = es.length ∧ es.length ≤ maxLen ∧ SlS row w a es ∧ ∀ e ∈ es, ok e := by
  rcases open_slice ht h with ⟨hcs, _⟩ | ⟨a', len', cap', m, k, D, Pl, hcs, _, hl, hm, hmm, _, hi⟩
  · simp at hcs
    obtain ⟨rfl, rfl, rfl⟩ := hcs
    exact ⟨[], rfl, by simp, .inl rfl, by simp⟩
  · simp at hcs
    obtain ⟨rfl, rfl, rfl⟩ := hcs
    simp at hmm
    subst hmm
    have each : ∀ i, i < len → ∃ e, ok e ∧ ∀ j v, (row e)[j]? = some v → w.cell? (a'.add (i * 1 + j)) = some v := by
      intro i hil
      obtain ⟨cs, h1, h2⟩ := hi i (by omega)
      rw [hC] at h1
      obtain ⟨_, hlen, hat⟩ := World.cells?_some h1
      match cs, hlen with
      | [c], _ =>
        obtain ⟨e, he, hok⟩ := hread c _ _ h2
        refine ⟨e, hok, fun j v hv => ?_⟩
        have hj : j < 1 := by rw [← hn e]; exact (List.getElem?_eq_some_iff.1 hv).1
        have := hat j (by simpa using hj)
        rw [add_add] at this
        rw [this, he]; exact hv
    obtain ⟨es, hlen, hp⟩ := list_of len each
    refine ⟨es, hlen.symm, by omega, ?_, fun e hx => ?_⟩
    · cases hes : es with
      | nil => exact .inl rfl
      | cons e0 r =>
        right
        obtain ⟨b, off, spot⟩ := a'
        have hfst := (hp 0 e0 (by simp [hes])).2 0 _ (List.getElem?_eq_getElem (by rw [hn]; omega))
        have hspot : spot = none := by simpa [Addr.add] using World.cell?_spot hfst
        subst hspot
        refine ⟨b, off, rfl, World.block_lt_of_cell? w _ (by rw [add_plain] at hfst; exact hfst), ?_⟩
        rw [← hes]
        intro i v hv
        have hlt := (List.getElem?_eq_some_iff.1 hv).1
        rw [flatten_len (rows_len hn es), List.length_map] at hlt
        have hk : es[i]? = some (es[i]'(by omega)) := List.getElem?_eq_getElem _
        have h3 := flatten_at (rows_len hn es) (k := i) (r := row (es[i]'(by omega))) (by simp [hk]) (j := 0) (by omega)
        have ei : i * 1 + 0 = i := by omega
        rw [ei] at h3
        have h4 := (hp _ _ hk).2 0 v (by rw [← h3]; exact hv)
        rw [ei, add_plain] at h4
        exact h4
    · obtain ⟨i, hi⟩ := List.getElem?_of_mem hx
      exact (hp i e hi).1
end
theorem cellsString : Tryd.prog.cellsOf 9 = 1 := by kernel_rfl
set_option maxRecDepth 100000 in
theorem readStringS {H : Type} {enc : TypeId × Value → H} {W : World} {fuel : Nat} {y : DataW H × List MemPlace} {a0 : Option Addr} {len0 cap0 : Nat}
    (hf1 : DataW.trod enc Tryd.prog W 0 (fun _ => true) true fuel 28 [.slice a0 len0 cap0] = some y) :
    ∃ es : List StringV, len0 = es.length ∧ es.length ≤ maxLen ∧ SlS rowString W a0 es ∧ ∀ e ∈ es, e.f0.size ≤ maxLen := by
  obtain ⟨es, rfl, hm, hs, hx⟩ := open_ones (enc := enc) (P := Tryd.prog) (w := W) (base := 0) (held := true) (a := a0) (len := len0) (cap := cap0) (row := rowString) (ok := fun e : StringV => e.f0.size ≤ maxLen) rowString_len Tryd.underlying28 cellsString (by
    intro c m y hc
    obtain ⟨x0, rfl, s0⟩ := string_cell Tryd.underlying9 hc
    exact ⟨⟨x0⟩, rfl, s0⟩) hf1
  exact ⟨es, rfl, hm, hs, hx⟩
set_option maxRecDepth 100000 in
theorem open_StringS {H : Type} {enc : TypeId × Value → H} {W : World} {base : Nat} {v : Value} {d : DataW H} {p : List MemPlace}
    (hv : Value.okWide Tryd.prog W .any base 28 v) (h : DataW.Trod enc Tryd.prog W 0 (fun _ => true) true 28 v d p) :
    ∃ (a : Option Addr) (es : List StringV) (cap : Nat), v = .slice a es.length cap ∧ RecArg rowString W a es ∧ ∀ e ∈ es, e.f0.size ≤ maxLen := by
  obtain ⟨a0, len0, cap0, rfl⟩ := okWide_slice Tryd.underlying28 hv
  obtain ⟨fuel, hf⟩ := h
  obtain ⟨es, rfl, hm, hs, hx⟩ := readStringS (by simpa [Value.cells] using hf)
  exact ⟨a0, es, cap0, rfl, ⟨hm, hs⟩, hx⟩
def wtString (es : List StringV) : Nat := es.length + (es.map fun e => e.f0.size).sum
theorem wtString_len (es : List StringV) : es.length ≤ wtString es := Nat.le_add_right _ _
theorem wtString_at {es : List StringV} {m : Nat} (h : wtString es ≤ m) : ∀ e ∈ es, e.f0.size ≤ m := by
  intro e he
  unfold wtString at h
  have : e.f0.size ≤ (es.map fun e => e.f0.size).sum := le_sum_of_mem (List.mem_map.2 ⟨e, he, rfl⟩)
  omega
theorem run_make_strings (n : Nat) (hbytes : 16 * n ≤ 281474976710656) (w : World) :
    (Instr.makeSlice 28 (.int .i64 (n : Int)) (.int .i64 (n : Int))).run Tryd.prog w = .ok (.slice (some ⟨w.heap.size, 0, none⟩) n n) (w.alloc (.cells (List.replicate n zeroString).flatten.toArray 9)) := by
  obtain ⟨i, hi, hzz⟩ := Option.map_eq_some_iff.1 infoString
  simp only [Prod.mk.injEq] at hzz
  obtain ⟨hz1, hs, hb⟩ := hzz
  have hb2 : ((i.bytes : Int) * n) ≤ 281474976710656 := by rw [hb]; omega
  have hr := run_make (P := Tryd.prog) w 28 9 i _ Tryd.underlying28 hi hz1 .i64 .i64 n n (by omega) (by omega) hb2 (by omega)
  rw [hr]
  have e1 : (Value.string ByteArray.empty).cells = zeroString.toArray := rfl
  rw [e1, hs, Int.toNat_natCast]
  have e2 : n * 1 = n * zeroString.length := rfl
  rw [e2, made_flatten zeroString n (by simp [zeroString])]
end Go.Proofs.YtbckicdjbgfofaaDoor
