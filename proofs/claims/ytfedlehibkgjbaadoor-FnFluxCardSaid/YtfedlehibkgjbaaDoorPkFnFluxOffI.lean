/- Rows of int64 that the call owns, from a place of their block on: what list[k:] and list[k:n] return. -/
import Derived.Test.YtfedlehibkgjbaaDoorPkFnFluxSm
namespace Go.Proofs.YtfedlehibkgjbaaDoor
open Go.RowKit
set_option linter.unusedVariables false
set_option linter.unusedSimpArgs false
def SlOP (w : World) (B : Nat) (a : Option Addr) (zs : List Int) : Prop :=
  zs = [] ∨ ∃ (g : Nat) (pre rest : Array Value), a = some ⟨g, pre.size, none⟩ ∧ B ≤ g ∧ w.heap[g]? = some (.cells (pre ++ ((zs.map (Value.int .i64)).toArray ++ rest)) 2 (0, 0))
def SlIP (w : World) (B C : Nat) (a : Option Addr) (zs : List Int) : Prop :=
  zs = [] ∨ ∃ (g : Nat) (pre rest : Array Value), a = some ⟨g, pre.size, none⟩ ∧ B ≤ g ∧ g < C ∧ w.heap[g]? = some (.cells (pre ++ ((zs.map (Value.int .i64)).toArray ++ rest)) 2 (0, 0))
theorem SlOP.within {w : World} {B : Nat} {a : Option Addr} {zs : List Int} (h : SlOP w B a zs) : SlIP w B w.heap.size a zs := by
  rcases h with rfl | ⟨g, pre, rest, rfl, hg, hh⟩
  · exact .inl rfl
  · exact .inr ⟨g, pre, rest, rfl, hg, (Array.getElem?_eq_some_iff.1 hh).1, hh⟩
theorem SlOP.mono {w : World} {B B' : Nat} {a : Option Addr} {zs : List Int} (h : SlOP w B a zs) (hB : B' ≤ B) : SlOP w B' a zs := by
  rcases h with rfl | ⟨g, pre, rest, rfl, hg, hh⟩
  · exact .inl rfl
  · exact .inr ⟨g, pre, rest, rfl, Nat.le_trans hB hg, hh⟩
theorem SlOP.below {w w' : World} {B C : Nat} {a : Option Addr} {zs : List Int} (h : SlOP w B a zs) (hb : Below C w w') (hC : w.heap.size ≤ C) : SlOP w' B a zs := by
  rcases h with rfl | ⟨g, pre, rest, rfl, hg, hh⟩
  · exact .inl rfl
  · have hl : g < w.heap.size := (Array.getElem?_eq_some_iff.1 hh).1
    exact .inr ⟨g, pre, rest, rfl, hg, by rw [hb.block g (by omega)]; exact hh⟩
theorem SlOP.setCell {w : World} {B : Nat} {a : Option Addr} {zs : List Int} (h : SlOP w B a zs) {p : Addr} (hp : p.block < B) (v : Value) : SlOP (w.setCell p v) B a zs := by
  rcases h with rfl | ⟨g, pre, rest, rfl, hg, hh⟩
  · exact .inl rfl
  · exact .inr ⟨g, pre, rest, rfl, hg, by rw [Below.heap_setCell _ _ _ _ (by omega)]; exact hh⟩
theorem SlOP.sl {w : World} {B : Nat} {a : Option Addr} {zs : List Int} (h : SlOP w B a zs) : SlA w a zs := by
  rcases h with rfl | ⟨g, pre, rest, rfl, hg, hh⟩
  · exact .inl rfl
  · refine .inr ⟨g, pre.size, rfl, (Array.getElem?_eq_some_iff.1 hh).1, ?_⟩
    intro i x hx
    have hi : i < zs.length := (List.getElem?_eq_some_iff.1 hx).1
    simp only [World.cell?, hh]
    rw [Array.getElem?_append_right (by omega), Nat.add_sub_cancel_left, Array.getElem?_append_left (by simpa using hi)]
    simp [hx]
theorem SlIP.sl {w : World} {B C : Nat} {a : Option Addr} {zs : List Int} (h : SlIP w B C a zs) : SlA w a zs := by
  rcases h with rfl | ⟨g, pre, rest, rfl, hg, _, hh⟩
  · exact .inl rfl
  · exact (show SlOP w B (some ⟨g, pre.size, none⟩) zs from .inr ⟨g, pre, rest, rfl, hg, hh⟩).sl
theorem SlIP.mono {w : World} {B B' C C' : Nat} {a : Option Addr} {zs : List Int} (h : SlIP w B C a zs) (hB : B' ≤ B) (hC : C ≤ C') : SlIP w B' C' a zs := by
  rcases h with rfl | ⟨g, pre, rest, rfl, hg, hl, hh⟩
  · exact .inl rfl
  · exact .inr ⟨g, pre, rest, rfl, by omega, by omega, hh⟩
theorem SlIP.below {w w' : World} {B C D : Nat} {a : Option Addr} {zs : List Int} (h : SlIP w B C a zs) (hb : Below D w w') (hD : C ≤ D) : SlIP w' B C a zs := by
  rcases h with rfl | ⟨g, pre, rest, rfl, hg, hC, hh⟩
  · exact .inl rfl
  · exact .inr ⟨g, pre, rest, rfl, hg, hC, by rw [hb.block g (by omega)]; exact hh⟩
theorem SlIP.sm {lo hi : Nat} {w w' : World} {B C : Nat} {a : Option Addr} {zs : List Int} (h : SlIP w B C a zs) (hs : Sm lo hi w w') (hp : C ≤ lo ∨ hi ≤ B) : SlIP w' B C a zs := by
  rcases h with rfl | ⟨g, pre, rest, rfl, hg, hC, hh⟩
  · exact .inl rfl
  · exact .inr ⟨g, pre, rest, rfl, hg, hC, by rw [hs.block g (Array.getElem?_eq_some_iff.1 hh).1 (by omega)]; exact hh⟩
theorem SlIP.drew {w : World} {B C : Nat} {a : Option Addr} {zs : List Int} (h : SlIP w B C a zs) : SlIP w.drew B C a zs := h
/-- A part of an owned row. -/
theorem SlO.part {w : World} {B g : Nat} {l : List Int} (h : SlO w B (some ⟨g, 0, none⟩) l) (k n : Nat) (hk : k + n ≤ l.length) : SlOP w B (some ⟨g, k, none⟩) ((l.drop k).take n) := by
  rcases h with rfl | ⟨g', rest, e, hg, hh⟩
  · left; simp
  · cases e
    right
    refine ⟨g, ((l.take k).map (Value.int .i64)).toArray, (((l.drop (k + n)).map (Value.int .i64)).toArray ++ rest), ?_, hg, ?_⟩
    · have : (((l.take k).map (Value.int .i64)).toArray).size = k := by simp; omega
      rw [this]
    · rw [hh]
      congr 2
      apply Array.ext'
      simp only [Array.toList_append]
      rw [← List.append_assoc, ← List.append_assoc, ← List.map_append, ← List.map_append]
      congr 2
      have e1 : l = l.take k ++ ((l.drop k).take n ++ l.drop (k + n)) := by
        rw [← List.drop_drop, List.take_append_drop, List.take_append_drop]
      conv => lhs; rw [e1]
      simp
theorem mkRowP_succ (k : Int) (zs : List Int) (i : Nat) (pre rest : Array Value) (h : i < zs.length) : (pre ++ mkRow k zs i rest).setIfInBounds (pre.size + i) (.int .i64 (k + i)) = pre ++ mkRow k zs (i + 1) rest := by
  rw [← mkRow_succ k zs i rest h]
  apply Array.ext'
  simp only [Array.toList_setIfInBounds, Array.toList_append]
  have hl : pre.toList.length = pre.size := by simp
  rw [List.set_append_right _ _ (by omega), hl, Nat.add_sub_cancel_left]
set_option maxHeartbeats 400000 in
theorem markIntP_any (a : Option Addr) (zs : List Int) (c : Nat) (k : Nat) (B : Nat) (w : World) (hl : zs.length ≤ 4194304) (hk : k ≤ 4194304) (h : SlOP w B a zs) :
    Calls Tryd.prog 27 #[.slice a zs.length c, .int .i64 k] w fun e w' => e = .returned (.int .i64 ((k + zs.length : Nat) : Int)) ∧ SlOP w' B a (fromK k zs.length) ∧ (Below B w w' ∧ w'.heap.size = w.heap.size ∧ ∀ b, (zs = [] ∨ a.map (·.block) ≠ some b) → w'.heap[b]? = w.heap[b]?) := by
  by_cases hnil : zs = []
  · subst hnil
    have hz : ¬ (0 : Int) < 0 := by omega
    go_enter Tryd.func27, Tryd.ntmps27
    go_wp2
    go_rounds 1
    all_goals
      go_ret
      exact ⟨ret_int (by simp), .inl rfl, Below.refl _ _, rfl, fun _ _ => rfl⟩
  · rcases h with h | ⟨g, pre, rest, rfl, hg, hh⟩
    · exact absurd h hnil
    go_enter Tryd.func27, Tryd.ntmps27
    go_wp2
    go_loopw [1, 5] (fun q i wr => ∃ j : Nat, j ≤ zs.length ∧ i = .int .i64 j ∧ q = .int .i64 ((k + j : Nat) : Int) ∧ wr.heap[g]? = some (.cells (pre ++ mkRow k zs j rest) 2 (0, 0)) ∧ Touch g w wr) (fun _ i _ => zs.length - (intOf i).toNat)
    case atStart => exact ⟨0, Nat.zero_le _, rfl, rfl, by rw [mkRow_zero]; exact hh, Touch.refl _ _⟩
    case round =>
      obtain ⟨j, hj, rfl, rfl, hC, ht⟩ := hrel
      by_cases hlt : j < zs.length
      · have hsz := mkRow_size k zs j rest hj
        have hsome : (pre ++ mkRow k zs j rest)[pre.size + j]?.isSome = true := by simp; omega
        obtain ⟨old, hold⟩ := Option.isSome_iff_exists.1 hsome
        have hcell : wr.cell? ⟨g, pre.size + j, none⟩ = some old := by simp [World.cell?, hC, hold]
        have hfz : wr.frozen? ⟨g, pre.size + j, none⟩ = false := by simp [World.frozen?, hC]
        have HS := Lib.hid (mkRowP_succ k zs j pre rest hlt)
        have HC := Lib.hid hC; clear hC hsome hold hsz
        have HH := Lib.hid hh; clear hh
        go_wp2
        go_roundw
        case rel =>
          refine ⟨j + 1, by omega, by go_num, by go_num, ?_, ht.setCell _ _⟩
          rw [heap_set_row wr g (pre.size + j) _ _ _ HC.out]
          rw [HS.out]
        case measure => simp [intOf]; omega
      · obtain rfl : j = zs.length := by omega
        rw [mkRow_all] at hC
        go_wp2
        go_ret
        exact ⟨rfl, .inr ⟨g, pre, rest, rfl, hg, hC⟩, ht.below hg, ht.size, fun b hb => ht.block b (hb.elim (fun h => absurd h hnil) (fun h => by simpa using Ne.symm (by simpa using h)))⟩
/-- What a mark of such a row in [B, C) has done. -/
def MarkedP (B C : Nat) (a : Option Addr) (k n : Nat) (w : World) (e : Ending) (w' : World) : Prop :=
  e = .returned (.int .i64 ((k + n : Nat) : Int)) ∧ SlIP w' B C a (fromK k n) ∧ (∀ D, D ≤ B → D ≤ w.heap.size → Below D w w') ∧ Sm B C w w'
theorem markIntP_sm (a : Option Addr) (zs : List Int) (cap k B C : Nat) (w : World) (hl : zs.length ≤ 4194304) (hk : k ≤ 4194304) (hC : C ≤ w.heap.size) (h : SlIP w B C a zs) :
    Calls Tryd.prog 27 #[.slice a zs.length cap, .int .i64 k] w (MarkedP B C a k zs.length w) := by
  have hO : SlOP w B a zs := by
    rcases h with rfl | ⟨g, pre, rest, rfl, hg, hg2, hh⟩
    · exact .inl rfl
    · exact .inr ⟨g, pre, rest, rfl, hg, hh⟩
  refine (markIntP_any a zs cap k B w hl hk hO).mono ?_
  rintro e w' ⟨rfl, hso, hb, hs, hoth⟩
  refine ⟨rfl, ?_, fun D hD _ => hb.mono hD, by omega, ?_⟩
  · rcases h with rfl | ⟨g, pre, rest, rfl, hg, hg2, hh⟩
    · exact .inl rfl
    · rcases hso with e | ⟨g', pre', rest', e, hg', hh'⟩
      · exact .inl e
      · have e1 : g = g' := by injection e with e; injection e
        have e2 : pre.size = pre'.size := by injection e with e; injection e
        subst e1
        exact .inr ⟨g, pre', rest', by rw [e2], hg, hg2, hh'⟩
  · intro b hbw hbc
    refine hoth b ?_
    rcases h with rfl | ⟨g, pre, rest, rfl, hg, hg2, hh⟩
    · exact .inl rfl
    · right; simp; omega
set_option maxHeartbeats 400000 in
theorem markFluxP_sm (c f : Int) (a : Option Addr) (zs : List Int) (cap k B C : Nat) (w : World) (hl : zs.length ≤ 4194304) (hk : k ≤ 4194304) (hC : C ≤ w.heap.size) (h : SlIP w B C a zs) :
    Calls Tryd.prog 8 #[.agg #[.int .i64 c, .int .i64 f, .slice a zs.length cap], .int .i64 k] w (MarkedP B C a k zs.length w) := by
  have HC := Lib.hid (fun w1 (hb : Below w.heap.size w w1) => markIntP_sm a zs cap k B C w1 hl hk (by have := hb.size; omega) (h.below hb hC))
  unfold MarkedP at HC ⊢
  have hlen := fromK_length (k : Int) zs.length
  generalize fromK (k : Int) zs.length = ys at *
  generalize hnn : zs.length = n at *
  generalize hm2 : k + n = m at *
  go_enter Tryd.func8, Tryd.ntmps8
  go_wp2_with fail
  refine (HC.out _ (by go_grown)).mono ?_
  rintro e w1 ⟨rfl, hso, hb1, hs1⟩
  have HS := Lib.hid (And.intro hso (And.intro hb1 hs1)); clear hso hb1 hs1
  go_wp2
  go_ret
  obtain ⟨hso, hb1, hs1⟩ := HS.out
  refine ⟨rfl, hso, ?_, ?_, ?_⟩
  · intro D hD hDw
    exact Below.trans (show Below D w _ from (Below.refl _ _).alloc hDw _) (hb1 D hD (by simp; omega))
  · have := hs1.size; simp at this; omega
  · intro b hbw hbc
    rw [hs1.block b (by simp; omega) hbc, Below.heap_alloc _ _ _ hbw]
end Go.Proofs.YtfedlehibkgjbaaDoor
