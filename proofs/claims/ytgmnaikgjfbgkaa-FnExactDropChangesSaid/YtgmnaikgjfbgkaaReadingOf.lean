/- impl.readingOf; times that are changed one after the other -/
import Derived.Test.YtgmnaikgjfbgkaaSpecMake
import Derived.Test.YtgmnaikgjfbgkaaScaleVal
namespace Go.Proofs.Ytgmnaikgjfbgkaa
open Go.RowKit
set_option linter.unusedVariables false
/-- The numbers when h has been put to the first k of them; h is told the place. -/
def idxTo (h : Nat → Int → Int) (ts : List Int) (k : Nat) : List Int := (List.range ts.length).map fun i => if i < k then h i (ts.getD i 0) else ts.getD i 0
theorem idxTo_length (h : Nat → Int → Int) (ts : List Int) (k : Nat) : (idxTo h ts k).length = ts.length := by simp [idxTo]
theorem idxTo_get (h : Nat → Int → Int) (ts : List Int) (k i : Nat) (x : Int) (hx : ts[i]? = some x) : (idxTo h ts k)[i]? = some (if i < k then h i x else x) := by
  have hi := (List.getElem?_eq_some_iff.1 hx).1
  simp [idxTo, hi]
  have := (List.getElem?_eq_some_iff.1 hx).2
  simp [this]
theorem idxTo_zero (h : Nat → Int → Int) (ts : List Int) : idxTo h ts 0 = ts := by
  apply List.ext_getElem?
  intro i
  by_cases hi : i < ts.length
  · obtain ⟨x, hx⟩ := getOf hi
    rw [idxTo_get h ts 0 i x hx, hx, if_neg (by omega)]
  · rw [List.getElem?_eq_none (by rw [idxTo_length]; omega), List.getElem?_eq_none (by omega)]
theorem idxTo_at (h : Nat → Int → Int) (ts : List Int) (k : Nat) (x : Int) (hx : ts[k]? = some x) : (idxTo h ts k)[k]? = some x := by
  rw [idxTo_get h ts k k x hx, if_neg (by omega)]
theorem idxTo_set (h : Nat → Int → Int) (ts : List Int) (k : Nat) (x : Int) (hx : ts[k]? = some x) : (idxTo h ts k).set k (h k x) = idxTo h ts (k + 1) := by
  have hk := (List.getElem?_eq_some_iff.1 hx).1
  apply List.ext_getElem?
  intro i
  by_cases hi : i < ts.length
  · obtain ⟨y, hy⟩ := getOf hi
    rw [idxTo_get h ts (k + 1) i y hy, List.getElem?_set]
    by_cases e : k = i
    · subst e
      rw [hx] at hy; cases hy
      rw [if_pos rfl, idxTo_length, if_pos hk, if_pos (by omega)]
    · rw [if_neg e, idxTo_get h ts k i y hy]
      by_cases c : i < k
      · rw [if_pos c, if_pos (by omega)]
      · rw [if_neg c, if_neg (by omega)]
  · rw [List.getElem?_eq_none (by rw [List.length_set, idxTo_length]; omega), List.getElem?_eq_none (by rw [idxTo_length]; omega)]
theorem idxTo_same {h : Nat → Int → Int} (hh : ∀ i x, h i x = x) (ts : List Int) (k : Nat) : idxTo h ts k = ts := by
  apply List.ext_getElem?
  intro i
  by_cases hi : i < ts.length
  · obtain ⟨x, hx⟩ := getOf hi
    rw [idxTo_get h ts k i x hx, hx, hh]; simp
  · rw [List.getElem?_eq_none (by rw [idxTo_length]; omega), List.getElem?_eq_none (by omega)]
/-- A reading that has just been made. -/
def ReadRes (c f : Int) (a : Option Addr) (n cap : Nat) (ts : List Int) (rev : Int) (w : World) (e : Ending) (w' : World) : Prop :=
  ∃ g, e = .returned (.agg #[.int .i64 c, .int .i64 f, .slice a n cap, .slice (some ⟨g, 0, none⟩) ts.length ts.length, .int .i64 rev]) ∧ RowAt w' g ts ∧ w.heap.size ≤ g ∧ Below w.heap.size w w'
def FiveAt (w : World) (p : Nat) : Prop := w.heap[p]? = some (.cells #[.int .i64 0, .int .i64 0, .slice none 0 0, .slice none 0 0, .int .i64 0] 100 (0, 0))
theorem FiveAt.facts {w : World} {p : Nat} (h : FiveAt w p) : (w.cell? ⟨p, 0, none⟩ = some (.int .i64 0) ∧ w.cell? ⟨p, 1, none⟩ = some (.int .i64 0) ∧ w.cell? ⟨p, 2, none⟩ = some (.slice none 0 0) ∧ w.cell? ⟨p, 3, none⟩ = some (.slice none 0 0) ∧ w.cell? ⟨p, 4, none⟩ = some (.int .i64 0)) ∧
    (w.frozen? ⟨p, 0, none⟩ = false ∧ w.frozen? ⟨p, 1, none⟩ = false ∧ w.frozen? ⟨p, 2, none⟩ = false ∧ w.frozen? ⟨p, 3, none⟩ = false ∧ w.frozen? ⟨p, 4, none⟩ = false) := by
  unfold FiveAt at h
  simp [World.cell?, World.frozen?, h]
theorem FiveAt.below {w w' : World} {B p : Nat} (h : FiveAt w p) (hb : Below B w w') (hp : p < B) : FiveAt w' p := by
  unfold FiveAt; rw [hb.block p hp]; exact h
theorem FiveAt.new (w : World) (p : Nat) (hp : w.heap.size = p) : FiveAt (w.alloc (.cells #[.int .i64 0, .int .i64 0, .slice none 0 0, .slice none 0 0, .int .i64 0] 100)) p := by
  subst hp; exact heap_alloc_new w _
theorem below_set5 {B p : Nat} {a w : World} (h : Below B a w) (hp : B ≤ p) (x y z u v : Value) : Below B a (((((w.setCell ⟨p, 0, none⟩ x).setCell ⟨p, 1, none⟩ y).setCell ⟨p, 2, none⟩ z).setCell ⟨p, 3, none⟩ u).setCell ⟨p, 4, none⟩ v) :=
  ((((h.setCell (p := ⟨p, 0, none⟩) hp x).setCell (p := ⟨p, 1, none⟩) hp y).setCell (p := ⟨p, 2, none⟩) hp z).setCell (p := ⟨p, 3, none⟩) hp u).setCell (p := ⟨p, 4, none⟩) hp v
theorem RowAt.set5 {w : World} {g p : Nat} {zs : List Int} (h : RowAt w g zs) (x y z u v : Value) (hq : g ≠ p) : RowAt (((((w.setCell ⟨p, 0, none⟩ x).setCell ⟨p, 1, none⟩ y).setCell ⟨p, 2, none⟩ z).setCell ⟨p, 3, none⟩ u).setCell ⟨p, 4, none⟩ v) g zs :=
  ((((h.setCell x hq).setCell y hq).setCell z hq).setCell u hq).setCell v hq
set_option maxHeartbeats 8000000 in
theorem readingOf_any (c f : Int) (a : Option Addr) (cap : Nat) (zs : List Int) (hl : zs.length ≤ 1048576) (hv : fluxOk c f zs = true) (w : World) (h : SlA w a zs) :
    Calls Try.prog 80 #[.agg #[.int .i64 c, .int .i64 f, .slice a zs.length cap]] w (ReadRes c f a zs.length cap (timesOf f zs) zs.sum w) := by
  have c1 := fun w' (hb : Below w.heap.size w w') => changesOf_yes c f a cap zs hl hv w' (h.below hb (Nat.le_refl _))
  have c2 := fun w' (hb : Below w.heap.size w w') => revolutionOf_any c f a zs cap w' hl (h.below hb (Nat.le_refl _))
  rw [show revOf c f zs = zs.sum by unfold revOf; rw [if_pos hv]] at c2
  have ht := timesOf_length f zs
  generalize timesOf f zs = ts at c1 ht ⊢
  generalize zs.sum = rev at c2 ⊢
  have HT := Lib.hid ht
  have C1 := Lib.hid c1; have C2 := Lib.hid c2; clear c1 c2 h hv ht
  obtain ⟨W, hW⟩ : ∃ W, (w.alloc (.cells #[.int .i64 c, .int .i64 f, .slice a zs.length cap] 39)).alloc (.cells #[.int .i64 0, .int .i64 0, .slice none 0 0, .slice none 0 0, .int .i64 0] 100) = W := ⟨_, rfl⟩
  have hBW : Below w.heap.size w W := by rw [← hW]; go_grown
  have hSW : W.heap.size = w.heap.size + 2 := by rw [← hW]; simp
  have hXW : FluxAt W w.heap.size c f a zs.length cap := by rw [← hW]; exact (FluxAt.new w c f a zs.length cap 39 w.heap.size rfl).below (Below.alloc (Below.refl _ _) (Nat.le_refl _) _) (by simp)
  have hFW : FiveAt W (w.heap.size + 1) := by rw [← hW]; exact FiveAt.new _ _ (by simp)
  have KS := Lib.hid (fun w' (hb : Below W.heap.size W w') => (show (w'.cell? ⟨w.heap.size, 0, none⟩ = some (.int .i64 c) ∧ w'.cell? ⟨w.heap.size, 1, none⟩ = some (.int .i64 f) ∧ w'.cell? ⟨w.heap.size, 2, none⟩ = some (.slice a zs.length cap)) ∧ ((w'.cell? ⟨w.heap.size + 1, 0, none⟩ = some (.int .i64 0) ∧ w'.cell? ⟨w.heap.size + 1, 1, none⟩ = some (.int .i64 0) ∧ w'.cell? ⟨w.heap.size + 1, 2, none⟩ = some (.slice none 0 0) ∧ w'.cell? ⟨w.heap.size + 1, 3, none⟩ = some (.slice none 0 0) ∧ w'.cell? ⟨w.heap.size + 1, 4, none⟩ = some (.int .i64 0)) ∧ (w'.frozen? ⟨w.heap.size + 1, 0, none⟩ = false ∧ w'.frozen? ⟨w.heap.size + 1, 1, none⟩ = false ∧ w'.frozen? ⟨w.heap.size + 1, 2, none⟩ = false ∧ w'.frozen? ⟨w.heap.size + 1, 3, none⟩ = false ∧ w'.frozen? ⟨w.heap.size + 1, 4, none⟩ = false)) from ⟨hXW.below hb (by omega), (hFW.below hb (by omega)).facts⟩))
  have hks := KS.out W (Below.refl _ _)
  obtain ⟨⟨x0, x1, x2⟩, ⟨z0, z1, z2, z3, z4⟩, ⟨y0, y1, y2, y3, y4⟩⟩ := hks
  have HC := Lib.hid (show Below W.heap.size W W.drew from (Below.refl _ _).drew)
  have HB := Lib.hid hBW
  have HS := Lib.hid hSW
  have HW := Lib.hid hW
  clear hBW hXW hFW hSW hW
  go_enter Try.func80, Try.ntmps80
  go_wp2_with fail
  rw [HW.out]
  go_wp2
  have hne : w.heap.size ≠ w.heap.size + 1 := by omega
  go_region_held3 (fun w' => w'.cell? ⟨w.heap.size, 0, none⟩ = some (.int .i64 c) ∧ w'.cell? ⟨w.heap.size, 1, none⟩ = some (.int .i64 f) ∧ w'.cell? ⟨w.heap.size, 2, none⟩ = some (.slice a zs.length cap))
    (first | (with_reducible exact (KS.out _ HC.out).1) | go_keep)
    (first
      | (go_at_call 51; refine (C1.out _ (HB.out.trans (HC.out.mono (by have := HS.out; omega)))).mono ?_; rintro e wa ⟨g, rfl, hrow, hg, hba⟩; have HC0 := HC; replace HC := Lib.hid (HC.out.trans (hba.mono HC.out.size)); have HR := Lib.hid hrow; have HG := Lib.hid (Nat.le_trans HC0.out.size hg); clear hrow hg; (try clear z0 z1 z2 z3 z4 y0 y1 y2 y3 y4); obtain ⟨⟨z0, z1, z2, z3, z4⟩, ⟨y0, y1, y2, y3, y4⟩⟩ := (KS.out _ HC.out).2)
      | (go_at_call 52; refine (C2.out _ (HB.out.trans (HC.out.mono (by have := HS.out; omega)))).mono ?_; rintro e wb ⟨rfl, hbb⟩; (try (replace HR := Lib.hid (HR.out.below hbb HR.out.lt))); replace HC := Lib.hid (HC.out.trans (hbb.mono HC.out.size)); clear hbb; (try clear z0 z1 z2 z3 z4 y0 y1 y2 y3 y4); obtain ⟨⟨z0, z1, z2, z3, z4⟩, ⟨y0, y1, y2, y3, y4⟩⟩ := (KS.out _ HC.out).2)
      | fail)
  all_goals
    have FB := Lib.hid (HB.out.trans (HC.out.mono (by have := HS.out; omega)))
    go_wp2
    refine bodyPost_ret (v := .agg #[.int .i64 c, .int .i64 f, .slice a zs.length cap, .slice (some ⟨g, 0, none⟩) zs.length zs.length, .int .i64 rev]) (by simp [results, Try.results80, go_sem, z0, z1, z2, z3, z4]) rfl ⟨g, by rw [HT.out], ?_, ?_, below_set5 FB.out (by omega) _ _ _ _ _⟩
    · exact HR.out.set5 _ _ _ _ _ (by have := HS.out; have := HG.out; omega)
    · have := HS.out; have := HG.out; omega
end Go.Proofs.Ytgmnaikgjfbgkaa
