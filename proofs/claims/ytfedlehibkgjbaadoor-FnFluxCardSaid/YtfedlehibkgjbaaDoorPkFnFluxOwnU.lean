/- A row of bytes that '[]byte(s)' has made (its mark lies behind its cells), appended to: in place where there is room, else a row of the call's own. -/
import Derived.Test.YtfedlehibkgjbaaDoorPkFnFluxD
import Derived.Lib.AppendStr
namespace Go.Proofs.YtfedlehibkgjbaaDoor
open Go.RowKit
set_option linter.unusedVariables false
/-- Stores into a row whose mark lies behind all cells. -/
theorem storeSpare (g o : Nat) (t : TypeId) (fr : Nat × Nat) : ∀ (vs : List Value) (i : Nat) (cur : Array Value) (w : World), w.heap[g]? = some (.cells cur t fr) → cur.size ≤ fr.1 → o + i + vs.length ≤ cur.size → (∀ v ∈ vs, v.oneCell' = true) →
    (storeCells ⟨g, o, none⟩ vs i).run Tryd.prog w = .ok () (w.setRow g (cur.toList.take (o + i) ++ vs ++ cur.toList.drop (o + i + vs.length)).toArray) := by
  intro vs
  induction vs with
  | nil =>
    intro i cur w hg _ _ _
    have e : (cur.toList.take (o + i) ++ [] ++ cur.toList.drop (o + i + ([] : List Value).length)).toArray = cur := by simp
    rw [e, setRow_self w g cur t fr hg]
    rfl
  | cons v rest ih =>
    intro i cur w hg hfr hl h1
    have hl' : o + i + (rest.length + 1) ≤ cur.size := by simpa using hl
    have hi : o + i < cur.size := by omega
    have hcell : w.cell? ⟨g, o + i, none⟩ = some cur[o + i] := by simp [World.cell?, hg, hi]
    have hfree : w.frozen? ⟨g, o + i, none⟩ = false := by
      have : ¬ fr.1 ≤ o + i := by omega
      simp [World.frozen?, hg, this]
    have had : (⟨g, o, none⟩ : Addr).add i = ⟨g, o + i, none⟩ := by unfold Addr.add; split <;> simp_all
    have hst : (store ((⟨g, o, none⟩ : Addr).add i) v).run Tryd.prog w = .ok () (w.setRow g (cur.setIfInBounds (o + i) v)) := by
      rw [had, run_store Tryd.prog w _ v _ (h1 v (by simp)), hcell]
      simp [hfree, setCell_eq_setRow w g (o + i) cur t fr v hg]
    have hrest := ih (i + 1) (cur.setIfInBounds (o + i) v) (w.setRow g (cur.setIfInBounds (o + i) v)) (setRow_heap w g cur _ t _ hg) (by simpa using hfr) (by simp; omega) (fun x hx => h1 x (by simp [hx]))
    simp only [storeCells, Sem.run_bind, hst, Result.andThen_ok, hrest, setRow_setRow]
    congr 3
    have e := list_seg_step cur.toList (o + i) v rest (by simp; omega)
    simpa [Array.toList_setIfInBounds, Nat.add_assoc] using e
/-- v holds the bytes l, in a row of the call's own or in one that '[]byte(s)' has made. -/
def OwnU (w : World) (B : Nat) (v : Value) (l : List UInt8) : Prop :=
  OwnB w B v l ∨ ∃ g cap cur, v = .slice (some ⟨g, 0, none⟩) l.length cap ∧ B ≤ g ∧ w.heap[g]? = some (.cells cur 5 (cap, cap + 1)) ∧ l.length ≤ cap ∧ cap ≤ maxLen ∧ cur.size = cap ∧ cur.toList.take l.length = Lib.byteCells l
theorem OwnU.made (w : World) (B : Nat) (s : ByteArray) (cap : Nat) (hB : B ≤ w.heap.size) (hs : s.size ≤ cap) (hc : cap ≤ maxLen) :
    OwnU (w.alloc (.cells (bytesRow s cap) 5 (cap, cap + 1))) B (.slice (some ⟨w.heap.size, 0, none⟩) s.size cap) s.data.toList := by
  have hl : s.data.toList.length = s.size := by simp
  have hz : (bytesRow s cap).size = cap := by
    have : s.data.size = s.size := rfl
    simp [bytesRow]; omega
  refine .inr ⟨w.heap.size, cap, bytesRow s cap, by rw [hl], hB, heap_alloc_new w _, by rw [hl]; exact hs, hc, hz, ?_⟩
  apply List.ext_getElem?
  intro i
  rw [hl]
  by_cases hi : i < s.size
  · rw [List.getElem?_take_of_lt hi]
    have := bytesRow_at s cap i hi
    have e2 : (bytesRow s cap).toList[i]? = (bytesRow s cap)[i]? := by simp
    rw [e2, this]
    have hi' : i < s.data.size := hi
    simp only [Lib.byteCells, List.getElem?_map, Array.getElem?_toList]
    rw [Array.getElem?_eq_getElem hi']
    rfl
  · rw [List.getElem?_eq_none (by simp; omega), List.getElem?_eq_none (by simp [Lib.byteCells]; omega)]
theorem OwnU.conv {w : World} {B : Nat} {v : Value} {l : List UInt8} (h : OwnU w B v l) : (convert 30 9 v).run Tryd.prog w = .ok (.string ⟨l.toArray⟩) w := by
  rcases h with h | ⟨g, cap, cur, rfl, _, hh, hn, _, hs, ht⟩
  · exact conv_own h
  · refine conv_of _ _ cap l ?_
    intro j hj
    have hc : cur[j]? = some (.int .u8 (l[j].toNat : Int)) := by
      have h3 : (cur.toList.take l.length)[j]? = (Lib.byteCells l)[j]? := by rw [ht]
      rw [List.getElem?_take_of_lt hj] at h3
      simpa [Lib.byteCells, hj] using h3
    rw [add0]
    simp [World.cell?, hh, hc]
theorem OwnU.below {w w' : World} {B : Nat} {v : Value} {l : List UInt8} (h : OwnU w B v l) (hk : ∀ k, B ≤ k → k < w.heap.size → w'.heap[k]? = w.heap[k]?) : OwnU w' B v l := by
  rcases h with h | ⟨g, cap, cur, rfl, hB, hh, r⟩
  · left
    obtain ⟨h1, h2⟩ := h
    refine ⟨h1, ?_⟩
    rcases h2 with h3 | ⟨g, cap, cur, h3, h4, h5, r⟩
    · exact .inl h3
    · exact .inr ⟨g, cap, cur, h3, h4, by rw [hk g h4 (Array.getElem?_eq_some_iff.1 h5).1]; exact h5, r⟩
  · exact .inr ⟨g, cap, cur, rfl, hB, by rw [hk g hB (Array.getElem?_eq_some_iff.1 hh).1]; exact hh, r⟩
/-- A row of the call's own that has grown out of a marked one. -/
theorem ownU_grown (w : World) (B : Nat) (l k : List UInt8) (cap : Nat) (hc : (l ++ k).length ≤ cap) (hm : cap ≤ maxLen) (hB : B ≤ w.heap.size) :
    OwnU (w.drew.alloc (.cells ((Lib.byteCells l).toArray ++ (Lib.byteCells k).toArray ++ Builtin.zeroCells (Value.int IntKind.u8 0).cells (cap - (l.length + k.length))) 5)) B (.slice (some ⟨w.heap.size, 0, none⟩) (l.length + k.length) cap) (l ++ k) := by
  left
  have hl : (l ++ k).length = l.length + k.length := List.length_append
  refine ⟨by simp [Lib.byteCells], .inr ⟨w.heap.size, cap, _, by rw [hl], hB, heap_alloc_new w.drew _, hc, hm, ?_, ?_⟩⟩
  · have hz1 : (Value.int IntKind.u8 0).cells.size = 1 := rfl
    simp only [Array.size_append, List.size_toArray, size_zeroCells, hz1, Lib.byteCells_length]
    omega
  · simp only [Array.toList_append]
    rw [← Lib.byteCells_append]
    have : (l ++ k).length * 1 = (Lib.byteCells (l ++ k)).length := by rw [Lib.byteCells_length]; omega
    rw [this]
    exact List.take_left
theorem ownU_room (w : World) (B g cap : Nat) (cur : Array Value) (l k : List UInt8) (hgB : B ≤ g) (hh : w.heap[g]? = some (.cells cur 5 (cap, cap + 1))) (hroom : l.length + k.length ≤ cap) (hm : cap ≤ maxLen) (hs : cur.size = cap) (ht : cur.toList.take l.length = Lib.byteCells l) :
    OwnU (w.setRow g (cur.toList.take l.length ++ Lib.byteCells k ++ cur.toList.drop (l.length + k.length)).toArray) B (.slice (some ⟨g, 0, none⟩) (l.length + k.length) cap) (l ++ k) ∧
    Below B w (w.setRow g (cur.toList.take l.length ++ Lib.byteCells k ++ cur.toList.drop (l.length + k.length)).toArray) := by
  have hl : (l ++ k).length = l.length + k.length := List.length_append
  refine ⟨.inr ⟨g, cap, _, by rw [hl], hgB, setRow_heap w g cur _ _ _ hh, by omega, hm, ?_, ?_⟩, ⟨rfl, rfl, rfl, by simp, fun j hj => setRow_other w g j _ (by omega)⟩⟩
  · simp only [List.size_toArray, List.length_append, List.length_take, List.length_drop, Array.length_toList, Lib.byteCells_length]
    omega
  · rw [ht, ← Lib.byteCells_append]
    show (Lib.byteCells (l ++ k) ++ _).take (l ++ k).length = _
    have : (l ++ k).length = (Lib.byteCells (l ++ k)).length := by rw [Lib.byteCells_length]
    rw [this]
    exact List.take_left
theorem run_appendU_string (w : World) (B : Nat) (v : Value) (l : List UInt8) (h : OwnU w B v l) (s : ByteArray) (hl : l.length + s.size < 2147483648) (hB : B ≤ w.heap.size) (ty : TypeId) :
    ∃ v' w', (Builtin.append_ #[30, 9] ty #[v, .string s]).run Tryd.prog w = .ok v' w' ∧ OwnU w' B v' (l ++ s.data.toList) ∧ Below B w w' := by
  obtain ⟨i0, hi, hz0, hz1, hz2⟩ := info_parts u8info
  have hsl : s.data.toList.length = s.size := by simp
  rcases h with h | ⟨g, cap, cur, rfl, hgB, hh, hn, hm, hs, ht⟩
  · obtain ⟨v', w', h1, h2, h3, _⟩ := Lib.run_append_own_string (P := Tryd.prog) w B 30 9 ty 5 i0 Tryd.underlying30 Tryd.underlying9 hi hz0 hz1 hz2 v l.length (Lib.byteCells l) h s (by unfold maxLen; omega) (by omega) hB
    refine ⟨v', w', h1, .inl ?_, below_of_grown h hB h3⟩
    unfold OwnB
    rw [Lib.byteCells_append, List.length_append, hsl]
    exact h2
  · have hks : Lib.strCells s = Lib.byteCells s.data.toList := rfl
    by_cases hroom : l.length + s.size ≤ cap
    · have hf := Lib.run_firstCells_string (P := Tryd.prog) w 1 s
      have hst := storeSpare g l.length 5 (cap, cap + 1) (Lib.strCells s) 0 cur w hh (by simp; omega) (by rw [Lib.strCells_length]; omega) (Lib.strCells_oneCell s)
      simp only [Nat.add_zero, Lib.strCells_length] at hst
      obtain ⟨r1, r2⟩ := ownU_room w B g cap cur l s.data.toList hgB hh (by omega) hm hs ht
      rw [hsl] at r1 r2
      refine ⟨_, _, ?_, r1, r2⟩
      rw [hks] at hst
      simp [Builtin.append_, run_underlying Tryd.underlying30, run_underlying Tryd.underlying9, sizeOf, typeInfo, hi, hz1, Builtin.lenOf, hroom, hf, Addr.add_lit, hks, hst]
    · have holds : ∀ j u, (Lib.byteCells l)[j]? = some u → w.cell? ((⟨g, 0, none⟩ : Addr).add j) = some u := by
        intro j u hu
        rw [add0]
        rw [← ht, List.getElem?_take] at hu
        split at hu
        · simpa [World.cell?, hh] using hu
        · cases hu
      have hr := Lib.run_append_grow_string (P := Tryd.prog) w 30 9 ty 5 i0 (.int .u8 0) Tryd.underlying30 Tryd.underlying9 hi hz0 ⟨g, 0, none⟩ l.length cap (Lib.byteCells l) (by rw [hz1, Lib.byteCells_length]; omega) holds s (by omega) (by omega) (by rw [hz2]; exact growslice_fits (by omega) (by omega))
      refine ⟨_, _, hr, ?_, Below.alloc (Below.refl B w).drew hB _⟩
      have hge := grownCap_ge w (l.length + s.size) cap 5
      have hcm := grownCap_le_maxLen w (l.length + s.size) cap 5 (by unfold maxLen; omega)
      have := ownU_grown w B l s.data.toList (grownCap w (l.length + s.size) cap 5) (by rw [List.length_append]; omega) hcm hB
      rw [hsl] at this
      exact this
theorem run_appendU_byte (w : World) (B : Nat) (v : Value) (l : List UInt8) (h : OwnU w B v l) (x : UInt8) (ad : Addr) (c : Nat) (hx : w.cell? ad = some (.int .u8 (x.toNat : Int))) (hl : l.length < 2147483648) (hB : B ≤ w.heap.size) (ty : TypeId) :
    ∃ v' w', (Builtin.append_ #[30, 30] ty #[v, .slice (some ad) 1 c]).run Tryd.prog w = .ok v' w' ∧ OwnU w' B v' (l ++ [x]) ∧ Below B w w' := by
  obtain ⟨i0, hi, hz0, hz1, hz2⟩ := info_parts u8info
  have hbx : Lib.byteCells [x] = [Value.int .u8 (x.toNat : Int)] := rfl
  have hnews : ∀ j u, (Lib.byteCells [x])[j]? = some u → w.cell? (ad.add j) = some u := by
    intro j u hu
    rw [hbx] at hu
    match j, hu with
    | 0, hu =>
      cases hu
      have e : ad.add 0 = ad := by unfold Addr.add; split <;> simp_all
      rw [e]
      exact hx
    | j + 1, hu => simp at hu
  have h1 : ∀ u ∈ Lib.byteCells [x], u.oneCell' = true := by
    intro u hu
    rw [hbx] at hu
    simp at hu
    subst hu
    rfl
  rcases h with h | ⟨g, cap, cur, rfl, hgB, hh, hn, hm, hs, ht⟩
  · obtain ⟨v', w', r1, r2, r3, _⟩ := run_append_own (P := Tryd.prog) w B 30 ty 5 i0 (.int .u8 0) 1 1 Tryd.underlying30 hi hz0 hz1 hz2 rfl (by decide) v l.length (Lib.byteCells l) h ad 1 c (Lib.byteCells [x]) rfl hnews h1 (by unfold maxLen; omega) (by omega) hB
    refine ⟨v', w', r1, .inl ?_, below_of_grown h hB r3⟩
    unfold OwnB
    rw [Lib.byteCells_append, List.length_append]
    exact r2
  · by_cases hroom : l.length + 1 ≤ cap
    · have hf := run_firstCells_some (P := Tryd.prog) w i0.size 1 ad 1 c (Lib.byteCells [x]) (by rw [hz1]; rfl) hnews
      have hst := storeSpare g l.length 5 (cap, cap + 1) (Lib.byteCells [x]) 0 cur w hh (by simp; omega) (by rw [Lib.byteCells_length]; simp; omega) h1
      obtain ⟨r1, r2⟩ := ownU_room w B g cap cur l [x] hgB hh (by simp; omega) hm hs ht
      refine ⟨_, _, ?_, r1, r2⟩
      rw [hz1] at hf
      simp only [Nat.add_zero, Lib.byteCells_length] at hst
      simp [Builtin.append_, run_underlying Tryd.underlying30, sizeOf, typeInfo, hi, hz1, Builtin.lenOf, hroom, hf, Addr.add_lit, hst]
    · have holds : ∀ j u, (Lib.byteCells l)[j]? = some u → w.cell? ((⟨g, 0, none⟩ : Addr).add j) = some u := by
        intro j u hu
        rw [add0]
        rw [← ht, List.getElem?_take] at hu
        split at hu
        · simpa [World.cell?, hh] using hu
        · cases hu
      have hr := run_append_grow (P := Tryd.prog) w 30 ty 5 i0 (.int .u8 0) Tryd.underlying30 hi hz0 ⟨g, 0, none⟩ l.length cap (Lib.byteCells l) (by rw [hz1, Lib.byteCells_length]; omega) holds ad 1 c (Lib.byteCells [x]) (by rw [hz1]; rfl) hnews (by omega) (by omega) (by rw [hz2]; exact growslice_fits (by omega) (by omega))
      refine ⟨_, _, hr, ?_, Below.alloc (Below.refl B w).drew hB _⟩
      have hge := grownCap_ge w (l.length + 1) cap 5
      have hcm := grownCap_le_maxLen w (l.length + 1) cap 5 (by unfold maxLen; omega)
      exact ownU_grown w B l [x] (grownCap w (l.length + 1) cap 5) (by rw [List.length_append]; simpa using hge) hcm hB
section
variable {ops : Array Oper} {o : Oper} {a : Act} {Q : Exit → Act → World → Prop} {w : World}
theorem wpList_appendUS {rest : List Oper} (hgd : o.guard = none) (s x : Operand) (ho : o.op = .call { callee := .builtin .append, args := #[s, x], argTypes := #[30, 9] })
    {B : Nat} {v : Value} {l : List UInt8} (hs : a.eval s = v) (hown : OwnU w B v l) (t : ByteArray) (hx : a.eval x = .string t) (hl : l.length + t.size < 2147483648) (hB : B ≤ w.heap.size)
    (h : ∀ v' w', OwnU w' B v' (l ++ t.data.toList) → Below B w w' → wpList Tryd.prog ops Q rest (a.put o.dst v') w') : wpList Tryd.prog ops Q (o :: rest) a w := by
  refine wpList_plain hgd fun K hK => ?_
  obtain ⟨v', w', hr, h2, h3⟩ := run_appendU_string w B v l hown t hl hB o.type
  unfold Oper.wp execOp
  simp only [ho, resolve, invoke, builtin, Sem.run_bind, Sem.run_pure, Result.andThen_ok, List.map_toArray, List.map_cons, List.map_nil, hs, hx, hr]
  exact hK _ _ (h v' w' h2 h3)
theorem wpList_appendUB {rest : List Oper} (hgd : o.guard = none) (s x : Operand) (ho : o.op = .call { callee := .builtin .append, args := #[s, x], argTypes := #[30, 30] })
    {B : Nat} {v : Value} {l : List UInt8} (hs : a.eval s = v) (hown : OwnU w B v l) (y : UInt8) (ad : Addr) (c : Nat) (hx : a.eval x = .slice (some ad) 1 c) (hc : w.cell? ad = some (.int .u8 (y.toNat : Int))) (hl : l.length < 2147483648) (hB : B ≤ w.heap.size)
    (h : ∀ v' w', OwnU w' B v' (l ++ [y]) → Below B w w' → wpList Tryd.prog ops Q rest (a.put o.dst v') w') : wpList Tryd.prog ops Q (o :: rest) a w := by
  refine wpList_plain hgd fun K hK => ?_
  obtain ⟨v', w', hr, h2, h3⟩ := run_appendU_byte w B v l hown y ad c hc hl hB o.type
  unfold Oper.wp execOp
  simp only [ho, resolve, invoke, builtin, Sem.run_bind, Sem.run_pure, Result.andThen_ok, List.map_toArray, List.map_cons, List.map_nil, hs, hx, hr]
  exact hK _ _ (h v' w' h2 h3)
end
end Go.Proofs.YtfedlehibkgjbaaDoor
