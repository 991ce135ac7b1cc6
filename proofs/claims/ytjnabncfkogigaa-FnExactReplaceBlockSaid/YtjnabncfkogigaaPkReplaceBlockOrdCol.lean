/- (impl.deviceShape).order: as a value; slices.Collect over it. -/
import Derived.Test.YtjnabncfkogigaaPkReplaceBlockOrdIt
import Derived.Maps.AppendAt
namespace Go.Proofs.Ytjnabncfkogigaa
open Go.RowKit
open Go.Shelf
set_option linter.unusedVariables false
attribute [local go_sem] Oper.semAt_some
/-- The cells of a shape. -/
abbrev shC (a b d sp : Int) (C S : Nat) : Array Value := #[.int .i64 a, .int .i64 b, .int .i64 (C : Int), .int .i64 d, .int .i64 (S : Int), .int .i64 sp]
def cellsO (W : World) (g : Nat) (C : Array Value) (T : TypeId) : Prop := W.heap[g]? = some (.cells C T (0, 0))
theorem cellsO_own {β : Type} (C : Array Value) (g : Nat) (T : TypeId) : Own (fun (_ : β) W => cellsO W g C T) := fun s W W' row hs hg hr => (grownBy_keeps_cells hg hr hs rfl).trans hs
theorem row_keptO {W W' : World} {B : Nat} {cs : Array Value} {t e : TypeId} (h : W.heap[B]? = some (.cells cs t (0, 0))) (hte : t ≠ e) {base size k : Nat} {v : Value} {xs : List Value} (hr : W.ownsRow base e size v k xs) (hg : W.grownBy W' v.ownBlock) :
    W'.heap[B]? = some (.cells cs t (0, 0)) := by
  refine (hg.block B (Array.getElem?_eq_some_iff.1 h).1 ?_).trans h
  rcases hr.2 with ⟨rfl, _⟩ | ⟨g, cap, cur, rfl, _, hgb, _⟩
  · simp [Value.ownBlock]
  · intro e'
    obtain rfl : B = g := by simpa [Value.ownBlock] using e'
    have := h.symm.trans hgb
    simp at this
    exact hte this.2
theorem cells_appO {W w1 : World} {B b : Nat} {cs : Array Value} {t e : TypeId} {tmp : Obj} (h : cellsO W B cs t) (hte : t ≠ e) {base size k : Nat} {v : Value} {xs : List Value} (hr : W.ownsRow base e size v k xs)
    (hg : (W.alloc tmp).grownBy w1 v.ownBlock) (hb : B ≠ b) (v' : Value) : cellsO (w1.setCell ⟨b, 0, none⟩ v') B cs t := by
  have h0 : (W.alloc tmp).heap[B]? = some (.cells cs t (0, 0)) := by rw [Below.heap_alloc _ _ _ (Array.getElem?_eq_some_iff.1 h).1]; exact h
  have h1 := row_keptO h0 hte (hr.alloc tmp) hg
  unfold cellsO
  rw [Below.heap_setCell _ _ _ _ hb]; exact h1
theorem order_stops (n Bs : Nat) (a b d sp : Int) (T C S N : Nat) (hg : geoB a b (C : Int) d = true) (hT : a * b = (T : Int)) (hN : N = T * C) (hS : S ≤ 7) (w : World) (hBs : cellsO w Bs (shC a b d sp C S) 67) :
    SeqStopsK Fence.wide n Try.prog 132 #[.pointer (some ⟨Bs, 0, none⟩)] (ordEnc C S (N := N)) (KBo Bs) (fun ys => ys = rndsO N N)
      (fun pre => ∃ k, k ≤ N ∧ pre = rndsO N k) N w := fun l J Jx W hW hJ _ hY h0 =>
  order1_in n l Bs a b d sp T C S N hg hT hN hS J Jx hY W hJ (by rw [hW.block Bs (Array.getElem?_eq_some_iff.1 hBs).1]; exact hBs) h0
theorem kbo_obj {Bs : Nat} {w : World} (hlt : Bs < w.heap.size) (W : World) (l : Nat) (o o' : Obj) (hl : w.heap.size ≤ l) (_ : W.heap[l]? = some o) (_ : o.isCells = false) (_ : o.isWalk = false) : KBo Bs W (W.putObj l o') :=
  (grownBy_putObj' W l o').block Bs (by rename_i h _ _; have := (Array.getElem?_eq_some_iff.1 h).1; omega) (by simp; omega)
set_option maxHeartbeats 1000000 in
theorem order_any (a b d sp : Int) (C S : Nat) (w : World) :
    Calls Try.prog 130 #[.agg (shC a b d sp C S)] w fun e w' => e = .returned (.func (.func 132) #[] #[.pointer (some ⟨w.heap.size, 0, none⟩)]) ∧ w' = w.alloc (.cells (shC a b d sp C S) 67) := by
  go_enter Try.func130, Try.ntmps130
  go_wp2
  go_ret
  exact ⟨rfl, rfl⟩
def ordP (C S : Nat) {N : Nat} (pre : List (Fin N)) : List Int := pre.map fun x => ((ordAt C S x.val : Nat) : Int)
theorem ordP_snoc (C S : Nat) {N : Nat} (pre : List (Fin N)) (x : Fin N) : ordP C S (pre ++ [x]) = ordP C S pre ++ [((ordAt C S x.val : Nat) : Int)] := by simp [ordP]
theorem ordP_len (C S : Nat) {N : Nat} (pre : List (Fin N)) : (ordP C S pre).length = pre.length := by simp [ordP]
/-- A row of numbers that the call made, with room for them. -/
def OrdRes (l : List Int) (w : World) (e : Ending) (w' : World) : Prop := ∃ g cap, e = .returned (.slice (some ⟨g, 0, none⟩) l.length cap) ∧ l.length ≤ cap ∧ cap ≤ maxLen ∧ OwnBlkI w' w.heap.size g l ∧ Below w.heap.size w w'
theorem OrdRes.of {w w' : World} {v : Value} {l : List Int} (hne : l ≠ []) (h : w'.ownsRow w.heap.size 2 1 v l.length (l.map (Value.int .i64))) (hb : Below w.heap.size w w') : OrdRes l w (.returned v) w' := by
  obtain ⟨h1, h2⟩ := h
  rcases h2 with ⟨rfl, hl⟩ | ⟨g, cap, cur, rfl, hg, hh, hn, hm, hs, ht⟩
  · exact absurd (List.length_eq_zero_iff.1 hl) hne
  · refine ⟨g, cap, rfl, hn, hm, ⟨(cur.toList.drop l.length).toArray, hg, ?_⟩, hb⟩
    rw [hh]
    congr 2
    apply Array.ext'
    simp only [Array.toList_append]
    rw [Nat.mul_one] at ht
    rw [← ht]
    simp
end Go.Proofs.Ytjnabncfkogigaa
