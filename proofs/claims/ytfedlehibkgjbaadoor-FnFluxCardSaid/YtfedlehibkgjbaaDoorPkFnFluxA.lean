/- The base of this seat's texts: the walk's kit and small lemmas. -/
import Derived.Test.YtfedlehibkgjbaaDoorProg
import Derived.WalkKit
import Derived.WalkSpells
import Derived.WalkLawsBesides
import Derived.Handy
import Derived.LoopN
import Derived.Lib.Hide
import Derived.Deep.LoopGhost
import Derived.Deep.QuietTactic
import Derived.BigQuiet
import Derived.Deep.OwnRows
import Derived.Deep.RegionHeld3
import Derived.OwnWalk
import Derived.Maps.AppendAt
import Derived.Deep.AppendLies
import Derived.BigRegion
section
set_option linter.unusedVariables false
namespace Go.Proofs.YtfedlehibkgjbaaDoor
open Go.RowKit

theorem ret_bool {a b : Bool} (h : a = b) : Ending.returned (.bool a) = .returned (.bool b) := by rw [h]
theorem ret_int {k : IntKind} {a b : Int} (h : a = b) : Ending.returned (.int k a) = .returned (.int k b) := by rw [h]

theorem bcell {W w1 : World} (hb : Below W.heap.size W w1) : (∀ b o, b < W.heap.size → w1.cell? ⟨b, o, none⟩ = W.cell? ⟨b, o, none⟩) ∧ (∀ b o, b < W.heap.size → w1.frozen? ⟨b, o, none⟩ = W.frozen? ⟨b, o, none⟩) :=
  ⟨fun b o h => hb.cell (p := ⟨b, o, none⟩) h, fun b o h => hb.frozen (p := ⟨b, o, none⟩) h⟩

/-- What the walk is told of a slice of integers that came in: it is nil, or leads to a row of cells. -/
def IsRow (k : IntKind) (w : World) (a : Option Addr) (len cap : Nat) (zs : List Int) : Prop :=
  (a = none ∧ len = 0 ∧ cap = 0 ∧ zs = []) ∨
  ∃ x, a = some x ∧ len ≤ cap ∧ cap ≤ maxLen ∧ zs.length = cap ∧ (∀ i, i < zs.length → w.cell? (x.add i) = some (.int k (zs.getD i 0))) ∧ ∀ n ∈ zs, (Lit.int k n).wf = true

/-- lo ≤ n ≤ hi. -/
def inB (lo hi n : Int) : Bool := decide (lo ≤ n) && decide (n ≤ hi)
theorem inB_true {lo hi n : Int} (h1 : ¬ n < lo) (h2 : ¬ hi < n) : inB lo hi n = true := by unfold inB; simp; omega
theorem inB_lo {lo hi n : Int} (h1 : n < lo) : inB lo hi n = false := by unfold inB; simp; omega
theorem inB_hi {lo hi n : Int} (h1 : hi < n) : inB lo hi n = false := by unfold inB; simp; omega
theorem inB_iff {lo hi n : Int} : inB lo hi n = true ↔ lo ≤ n ∧ n ≤ hi := by unfold inB; simp

theorem all_take_snoc {p : Int → Bool} {zs : List Int} {k : Nat} {x : Int} (h : zs[k]? = some x) : (zs.take (k+1)).all p = ((zs.take k).all p && p x) := by
  rw [List.take_add_one, h]; simp
theorem all_false_of {p : Int → Bool} {zs : List Int} {k : Nat} {x : Int} (h : zs[k]? = some x) (hp : p x = false) : zs.all p = false := by
  rw [List.all_eq_false]
  exact ⟨x, List.mem_of_getElem? h, by simp [hp]⟩
/-- The cells from an address on hold these int64s. -/
def Ints (w : World) (b off : Nat) (zs : List Int) : Prop := ∀ i x, zs[i]? = some x → w.cell? ⟨b, off + i, none⟩ = some (.int .i64 x)
end Go.Proofs.YtfedlehibkgjbaaDoor
end
section
set_option linter.unusedVariables false
namespace Go.Proofs.YtfedlehibkgjbaaDoor
open Go.RowKit

set_option maxHeartbeats 400000 in
theorem within_list (lo hi : Int) (zs : List Int) (b off c : Nat) (w : World) (hl : zs.length ≤ maxLen) (hc : Ints w b off zs) :
    Calls Tryd.prog 35 #[.int .i64 lo, .int .i64 hi, .slice (some ⟨b, off, none⟩) zs.length c] w fun e w' => e = .returned (.bool (zs.all (inB lo hi))) ∧ w = w' := by
  unfold maxLen at hl
  go_enter Tryd.func35, Tryd.ntmps35
  go_wp2
  go_loop [11] (fun i => ∃ k : Nat, k ≤ zs.length ∧ i = .int .i64 k ∧ Hid ((zs.take k).all (inB lo hi) = true)) (fun i => zs.length - (intOf i).toNat)
  case atStart => exact ⟨0, Nat.zero_le _, rfl, by simp [Hid]⟩
  case round =>
    obtain ⟨k, hk, rfl, ha⟩ := hrel
    by_cases hlt : k < zs.length
    · obtain ⟨x, hx⟩ : ∃ x, zs[k]? = some x := ⟨zs[k], by simp [hlt]⟩
      have hcell := hc k x hx
      have HX := Lib.hid hx; clear hx
      by_cases h1 : x < lo
      · go_wp2
        go_ret
        exact ⟨ret_bool (by rw [all_false_of HX.out (inB_lo h1)]), rfl⟩
      · by_cases h2 : hi < x
        · go_wp2
          go_ret
          exact ⟨ret_bool (by rw [all_false_of HX.out (inB_hi h2)]), rfl⟩
        · go_wp2
          go_round
          case rel => exact ⟨k + 1, by omega, by go_num, by unfold Hid; rw [all_take_snoc HX.out, ha.out, inB_true h1 h2]; rfl⟩
          case measure => simp [intOf]; omega
    · go_wp2
      go_ret
      have e : zs.take k = zs := List.take_of_length_le (by omega)
      rw [e] at ha
      exact ⟨ret_bool ha.out.symm, rfl⟩

theorem within_one (lo hi n : Int) (b off c : Nat) (w : World) (hc : w.cell? ⟨b, off, none⟩ = some (.int .i64 n)) :
    Calls Tryd.prog 35 #[.int .i64 lo, .int .i64 hi, .slice (some ⟨b, off, none⟩) 1 c] w fun e w' => e = .returned (.bool (inB lo hi n)) ∧ w = w' := by
  have h := within_list lo hi [n] b off c w (by simp [maxLen]) (by
    intro i x hx
    cases i with
    | zero => simp at hx; subst hx; simpa using hc
    | succ i => simp at hx)
  simpa using h

theorem cell_new (w : World) (v : Value) (T : TypeId) : (w.alloc (.cells #[v] T)).cell? ⟨w.heap.size, 0, none⟩ = some v := by simp [go_sem]
theorem within_new (lo hi n : Int) (w : World) (T : TypeId) :
    Calls Tryd.prog 35 #[.int .i64 lo, .int .i64 hi, .slice (some ⟨w.heap.size, 0, none⟩) 1 1] (w.alloc (.cells #[.int .i64 n] T)) fun e w' => e = .returned (.bool (inB lo hi n)) ∧ (w.alloc (.cells #[.int .i64 n] T)) = w' :=
  within_one lo hi n w.heap.size 0 1 _ (cell_new w _ T)

theorem within_at (lo hi n : Int) (w : World) (T : TypeId) (b : Nat) (hb : w.heap.size = b) :
    Calls Tryd.prog 35 #[.int .i64 lo, .int .i64 hi, .slice (some ⟨b, 0, none⟩) 1 1] (w.alloc (.cells #[.int .i64 n] T)) fun e w' => e = .returned (.bool (inB lo hi n)) ∧ (w.alloc (.cells #[.int .i64 n] T)) = w' := by
  subst hb
  exact within_new lo hi n w T

theorem l00In_any (n lo hi : Int) (w : World) :
    Calls Tryd.prog 42 #[.int .i64 n, .int .i64 lo, .int .i64 hi] w fun e w' => e = .returned (.bool (inB lo hi n)) ∧ w = w' := by
  by_cases h1 : lo ≤ n <;> by_cases h2 : n ≤ hi
  all_goals
    go_enter Tryd.func42, Tryd.ntmps42
    go_wp2
    go_ret
    exact ⟨ret_bool (by unfold inB; simp; try omega), rfl⟩
end Go.Proofs.YtfedlehibkgjbaaDoor
end
section
set_option linter.unusedVariables false
namespace Go.Proofs.YtfedlehibkgjbaaDoor
open Go.RowKit
/-- A slice '.slice a zs.length c' reads as the numbers zs in the world w. -/
def SlA (w : World) (a : Option Addr) (zs : List Int) : Prop := zs = [] ∨ ∃ b off, a = some ⟨b, off, none⟩ ∧ b < w.heap.size ∧ Ints w b off zs
/-- Block g is a row that holds just zs. -/
def RowAt (w : World) (g : Nat) (zs : List Int) : Prop := w.heap[g]? = some (.cells (zs.map (Value.int .i64)).toArray 2 (0, 0))
theorem RowAt.lt {w : World} {g : Nat} {zs : List Int} (h : RowAt w g zs) : g < w.heap.size := (Array.getElem?_eq_some_iff.1 h).1
theorem RowAt.new (W : World) (zs : List Int) (g : Nat) (h : W.heap.size = g) : RowAt (W.alloc (.cells (zs.map (Value.int .i64)).toArray 2)) g zs := by
  subst h; exact heap_alloc_new W _
theorem RowAt.ints {w : World} {g : Nat} {zs : List Int} (h : RowAt w g zs) : Ints w g 0 zs := by
  intro i x hx
  have h' : w.heap[g]? = some (.cells (zs.map (Value.int .i64)).toArray 2 (0, 0)) := h
  simp [World.cell?, h', hx]
theorem RowAt.drew {w : World} {g : Nat} {zs : List Int} (h : RowAt w g zs) : RowAt w.drew g zs := h
theorem RowAt.sl {w : World} {g : Nat} {zs : List Int} (h : RowAt w g zs) : SlA w (some ⟨g, 0, none⟩) zs := .inr ⟨g, 0, rfl, h.lt, h.ints⟩
theorem RowAt.below {w w' : World} {B g : Nat} {zs : List Int} (h : RowAt w g zs) (hb : Below B w w') (hg : g < B) : RowAt w' g zs := by
  unfold RowAt; rw [hb.block g hg]; exact h
theorem Ints.below {w w' : World} {B b off : Nat} {zs : List Int} (h : Ints w b off zs) (hb : Below B w w') (hB : b < B) : Ints w' b off zs := by
  intro i x hx
  rw [hb.cell (p := ⟨b, off + i, none⟩) hB]; exact h i x hx
theorem SlA.below {w w' : World} {B : Nat} {a : Option Addr} {zs : List Int} (h : SlA w a zs) (hb : Below B w w') (hB : w.heap.size ≤ B) : SlA w' a zs := by
  rcases h with rfl | ⟨b, off, rfl, hlt, hi⟩
  · exact .inl rfl
  · exact .inr ⟨b, off, rfl, Nat.lt_of_lt_of_le hlt hb.size, hi.below hb (by omega)⟩
theorem SlA.cell {w : World} {a : Option Addr} {zs : List Int} (h : SlA w a zs) {i : Nat} {x : Int} (hx : zs[i]? = some x) : ∃ b off, a = some ⟨b, off, none⟩ ∧ w.cell? ⟨b, off + i, none⟩ = some (.int .i64 x) := by
  rcases h with rfl | ⟨b, off, rfl, _, hi⟩
  · simp at hx
  · exact ⟨b, off, rfl, hi i x hx⟩
theorem getOf {zs : List Int} {k : Nat} (h : k < zs.length) : ∃ x, zs[k]? = some x := ⟨zs[k], by simp [h]⟩

theorem within_sl (lo hi : Int) (zs : List Int) (a : Option Addr) (c : Nat) (w : World) (hl : zs.length ≤ maxLen) (h : SlA w a zs) :
    Calls Tryd.prog 35 #[.int .i64 lo, .int .i64 hi, .slice a zs.length c] w fun e w' => e = .returned (.bool (zs.all (inB lo hi))) ∧ w = w' := by
  rcases h with rfl | ⟨b, off, rfl, hlt, hints⟩
  · have hz : ¬ (0 : Int) < 0 := by omega
    go_enter Tryd.func35, Tryd.ntmps35
    go_wp2
    go_rounds 1
    all_goals
      go_ret
      exact ⟨ret_bool rfl, rfl⟩
  · exact within_list lo hi zs b off c w hl hints
end Go.Proofs.YtfedlehibkgjbaaDoor
end
section
set_option linter.unusedVariables false
namespace Go.Proofs.YtfedlehibkgjbaaDoor
open Go.RowKit
theorem i64info : (Tryd.prog.info? 2).map (fun i => (i.zero, i.size, i.bytes)) = some (some (.int .i64 0), 1, 8) := by kernel_rfl
/-- The row when k numbers have been copied. -/
def cpRow (zs : List Int) (k : Nat) : Array Value := ((zs.take k).map (Value.int .i64) ++ List.replicate (zs.length - k) (Value.int .i64 0)).toArray
theorem cpRow_zero (zs : List Int) : madeCells #[Value.int .i64 0] zs.length = cpRow zs 0 := by
  unfold cpRow
  apply Array.ext
  · simp [madeCells]
  · intro i h1 h2
    simp [madeCells, Nat.mod_one]
theorem cpRow_succ (zs : List Int) (k : Nat) (x : Int) (hx : zs[k]? = some x) : (cpRow zs k).setIfInBounds k (.int .i64 x) = cpRow zs (k + 1) := by
  have hk : k < zs.length := (List.getElem?_eq_some_iff.1 hx).1
  unfold cpRow
  apply Array.ext'
  simp only [Array.toList_setIfInBounds]
  have e : zs.length - k = (zs.length - (k + 1)) + 1 := by omega
  rw [List.take_add_one, hx, e, List.replicate_succ]
  have hl : (List.map (Value.int .i64) (List.take k zs)).length = k := by simp; omega
  rw [List.set_append_right _ _ (by omega), hl]
  simp
theorem cpRow_all (zs : List Int) : cpRow zs zs.length = (zs.map (Value.int .i64)).toArray := by
  unfold cpRow; simp
def ToIntsPost (zs : List Int) (w : World) (e : Ending) (w' : World) : Prop :=
  ∃ g, e = .returned (.slice (some ⟨g, 0, none⟩) zs.length zs.length) ∧ RowAt w' g zs ∧ w.heap.size ≤ g ∧ Below w.heap.size w w'
theorem eq_of_take {xs ys : List Int} (hl : xs.length = ys.length) (h : xs.take xs.length = ys.take xs.length) : xs = ys := by
  rw [List.take_length, hl, List.take_length] at h; exact h
set_option maxHeartbeats 400000 in
theorem eqInt64S_any (a b : Option Addr) (xs ys : List Int) (c d : Nat) (w : World) (hx : xs.length ≤ 4194304) (hy : ys.length ≤ 4194304) (h1 : SlA w a xs) (h2 : SlA w b ys) :
    Calls Tryd.prog 26 #[.slice a xs.length c, .slice b ys.length d] w fun e w' => e = .returned (.bool (xs == ys)) ∧ Below w.heap.size w w' := by
  by_cases hl : xs.length = ys.length
  · have hne : ((xs.length : Int) != ys.length) = false := by simp; omega
    have HL := Lib.hid hl; clear hl
    go_enter Tryd.func26, Tryd.ntmps26
    go_wp2
    go_loopw [5] (fun i wr => ∃ k : Nat, k ≤ xs.length ∧ i = .int .i64 k ∧ Hid (xs.take k = ys.take k) ∧ Below w.heap.size w wr) (fun i _ => xs.length - (intOf i).toNat)
    case atStart => exact ⟨0, Nat.zero_le _, rfl, by unfold Hid; rfl, Below.refl _ _⟩
    case round =>
      obtain ⟨k, hk, rfl, hT, hb⟩ := hrel
      have h1' := h1.below hb (Nat.le_refl _)
      have h2' := h2.below hb (Nat.le_refl _)
      by_cases hlt : k < xs.length
      · have hly : k < ys.length := by have := HL.out; omega
        obtain ⟨x, hxk⟩ := getOf hlt
        obtain ⟨y, hyk⟩ := getOf hly
        obtain ⟨bx, ox, rfl, hcx⟩ := h1'.cell hxk
        obtain ⟨b2, o2, rfl, hcy⟩ := h2'.cell hyk
        have HX := Lib.hid hxk; have HY := Lib.hid hyk; clear hxk hyk
        have e1 : (k : Int) < xs.length := by omega
        have e2 : (k : Int) < ys.length := by omega
        have H1 := Lib.hid (And.intro h1 h1'); have H2 := Lib.hid (And.intro h2 h2'); clear h1 h1' h2 h2'
        by_cases he : x = y
        · subst he
          go_wp2
          go_quiet (fail)
          go_wp2
          go_roundw
          case rel => exact ⟨k + 1, by omega, by go_num, by unfold Hid; rw [List.take_add_one, List.take_add_one, HX.out, HY.out, hT.out], below_drewN hb _⟩
          case measure => simp [intOf]; omega
        · have hb1 : (x != y) = true := by simp [he]
          have hb2 : (x == y) = false := by simp [he]
          go_wp2
          go_quiet (fail)
          go_wp2
          go_ret
          refine ⟨ret_bool ?_, below_drewN hb _⟩
          symm
          rw [beq_eq_false_iff_ne]
          intro e
          apply he
          have h3 := HX.out
          rw [e, HY.out] at h3
          exact (Option.some.inj h3).symm
      · go_wp2
        go_ret
        refine ⟨ret_bool ?_, hb⟩
        obtain rfl : k = xs.length := by omega
        rw [eq_of_take HL.out hT.out]; simp
  · have hne : ((xs.length : Int) != ys.length) = true := by simp; omega
    have hq : (xs == ys) = false := by
      rw [beq_eq_false_iff_ne]; intro e; exact hl (by rw [e])
    have HQ := Lib.hid hq; clear hq
    go_enter Tryd.func26, Tryd.ntmps26
    go_wp2
    go_ret
    exact ⟨ret_bool HQ.out.symm, Below.refl _ _⟩
end Go.Proofs.YtfedlehibkgjbaaDoor
end
section
set_option linter.unusedVariables false
namespace Go.Proofs.YtfedlehibkgjbaaDoor
open Go.RowKit
/-- v is a slice of int64s of the call's own, with the numbers l. -/
def OwnI (w : World) (B : Nat) (v : Value) (l : List Int) : Prop := w.ownsRow B 2 1 v l.length (l.map (Value.int .i64))
theorem OwnI.nil (w : World) (B : Nat) : OwnI w B (.slice none 0 0) [] := ⟨rfl, .inl ⟨rfl, rfl⟩⟩
theorem OwnI.empty (w : World) (B : Nat) (hB : B ≤ w.heap.size) : OwnI (w.alloc (.cells #[] 2)) B (.slice (some ⟨w.heap.size, 0, none⟩) 0 0) [] := by
  refine ⟨rfl, .inr ⟨w.heap.size, 0, #[], rfl, hB, heap_alloc_new w _, Nat.le_refl _, by simp [maxLen], rfl, rfl⟩⟩
theorem OwnI.alloc {w : World} {B : Nat} {v : Value} {l : List Int} (h : OwnI w B v l) (o : Obj) : OwnI (w.alloc o) B v l := World.ownsRow.alloc h o
theorem OwnI.drew {w : World} {B : Nat} {v : Value} {l : List Int} (h : OwnI w B v l) : OwnI w.drew B v l := h
theorem OwnI.snoc {w : World} {B : Nat} {v : Value} {l : List Int} {x : Int}
    (h : w.ownsRow B 2 1 v (l.length + 1) (l.map (Value.int .i64) ++ [.int .i64 x])) : OwnI w B v (l ++ [x]) := by
  unfold OwnI
  simpa using h
theorem OwnI.belowOf {B : Nat} {w w' : World} {v : Value} {l : List Int} (h : OwnI w B v l) (hB : B ≤ w.heap.size) (hg : w.grownBy w' v.ownBlock) : Below B w w' := by
  refine (Below.refl B w).grown hg hB ?_
  intro k hk
  rcases h.2 with ⟨rfl, _⟩ | ⟨g, cap, cur, rfl, hg, _⟩
  · cases hk
  · cases hk; exact hg
/-- In the world w the slice 'a' with this capacity has just the numbers zs, in a block of its own from B on. -/
def SlO (w : World) (B : Nat) (a : Option Addr) (zs : List Int) : Prop :=
  zs = [] ∨ ∃ g rest, a = some ⟨g, 0, none⟩ ∧ B ≤ g ∧ w.heap[g]? = some (.cells ((zs.map (Value.int .i64)).toArray ++ rest) 2 (0, 0))
theorem OwnI.slO {w : World} {B : Nat} {v : Value} {l : List Int} (h : OwnI w B v l) : ∃ a c, v = .slice a l.length c ∧ SlO w B a l := by
  obtain ⟨h1, h2⟩ := h
  rcases h2 with ⟨rfl, hl⟩ | ⟨g, cap, cur, rfl, hg, hh, hn, hm, hs, ht⟩
  · exact ⟨none, 0, by rw [hl], .inl (List.length_eq_zero_iff.1 hl)⟩
  · refine ⟨_, _, rfl, .inr ⟨g, (cur.toList.drop l.length).toArray, rfl, hg, ?_⟩⟩
    rw [hh]
    congr 2
    apply Array.ext'
    simp only [Array.toList_append]
    rw [← ht]
    simp
theorem RowAt.slO {w : World} {B g : Nat} {zs : List Int} (h : RowAt w g zs) (hg : B ≤ g) : SlO w B (some ⟨g, 0, none⟩) zs :=
  .inr ⟨g, #[], rfl, hg, by unfold RowAt at h; simpa using h⟩
theorem SlO.nil (w : World) (B : Nat) (a : Option Addr) : SlO w B a [] := .inl rfl
theorem SlO.mono {w : World} {B B' : Nat} {a : Option Addr} {zs : List Int} (h : SlO w B a zs) (hB : B' ≤ B) : SlO w B' a zs := by
  rcases h with rfl | ⟨g, rest, rfl, hg, hh⟩
  · exact .inl rfl
  · exact .inr ⟨g, rest, rfl, Nat.le_trans hB hg, hh⟩
theorem SlO.sl {w : World} {B : Nat} {a : Option Addr} {zs : List Int} (h : SlO w B a zs) : SlA w a zs := by
  rcases h with rfl | ⟨g, rest, rfl, hg, hh⟩
  · exact .inl rfl
  · refine .inr ⟨g, 0, rfl, (Array.getElem?_eq_some_iff.1 hh).1, ?_⟩
    intro i x hx
    have hi : i < zs.length := (List.getElem?_eq_some_iff.1 hx).1
    simp [World.cell?, hh, Array.getElem?_append, hi]
    obtain ⟨_, e⟩ := List.getElem?_eq_some_iff.1 hx
    exact e
theorem SlO.drew {w : World} {B : Nat} {a : Option Addr} {zs : List Int} (h : SlO w B a zs) : SlO w.drew B a zs := h
/-- An owned row that lies below a mark is kept by what leaves all below the mark. -/
theorem SlO.below {w w' : World} {B C : Nat} {a : Option Addr} {zs : List Int} (h : SlO w B a zs) (hb : Below C w w') (hC : w.heap.size ≤ C) : SlO w' B a zs := by
  rcases h with rfl | ⟨g, rest, rfl, hg, hh⟩
  · exact .inl rfl
  · have hl : g < w.heap.size := (Array.getElem?_eq_some_iff.1 hh).1
    exact .inr ⟨g, rest, rfl, hg, by rw [hb.block g (by omega)]; exact hh⟩

section
variable {ops : Array Oper} {o : Oper} {a : Act} {Q : Exit → Act → World → Prop} {w : World}
/-- 'append(out, x)' of one int64 to a row of the call's own, in a plain region. -/
theorem wpList_appendI {rest : List Oper} (T : TypeId) (hT : Tryd.prog.underlying T = some (.slice 2)) (hgd : o.guard = none) (s x : Operand) (ho : o.op = .call { callee := .builtin .append, args := #[s, x], argTypes := #[T, T] })
    {B : Nat} {v : Value} {l : List Int} (hs : a.eval s = v) (hown : OwnI w B v l) (n : Int) (ad : Addr) (c : Nat) (hx : a.eval x = .slice (some ad) 1 c)
    (hc : ∀ j u, [Value.int .i64 n][j]? = some u → w.cell? (ad.add j) = some u) (hl : l.length < 1073741824) (hB : B ≤ w.heap.size)
    (h : ∀ g cap w', OwnI w' B (.slice (some ⟨g, 0, none⟩) (l.length + 1) cap) (l ++ [n]) → Below B w w' → (v.ownBlock = some g ∨ g = w.heap.size) → wpList Tryd.prog ops Q rest (a.put o.dst (.slice (some ⟨g, 0, none⟩) (l.length + 1) cap)) w') : wpList Tryd.prog ops Q (o :: rest) a w := by
  obtain ⟨i0, hi, hz0, hz1, hz2⟩ := info_parts i64info
  refine wpList_append_lies w hgd s x T ho B 2 i0 (.int .i64 0) 1 8 hT hi hz0 hz1 hz2 rfl (by decide) v l.length (l.map (Value.int .i64)) hs hown ad 1 c [.int .i64 n] hx rfl hc (by simp [Value.oneCell']) (by decide) (by unfold maxLen; omega) (by omega) hB _ rfl ?_
  intro g cap w' h2 h3 h4 _
  exact h g cap w' (OwnI.snoc h2) (hown.belowOf hB h3) h4
/-- The same, in a region that draws its order. -/
theorem step_appendI {K : Act → World → Prop} {E : Prop} (T : TypeId) (hT : Tryd.prog.underlying T = some (.slice 2)) (hgd : o.guard = none) (s x : Operand) (ho : o.op = .call { callee := .builtin .append, args := #[s, x], argTypes := #[T, T] })
    {B : Nat} {v : Value} {l : List Int} (hs : a.eval s = v) (hown : OwnI w B v l) (n : Int) (ad : Addr) (c : Nat) (hx : a.eval x = .slice (some ad) 1 c)
    (hc : ∀ j u, [Value.int .i64 n][j]? = some u → w.cell? (ad.add j) = some u) (hl : l.length < 1073741824) (hB : B ≤ w.heap.size)
    (h : ∀ g cap w', OwnI w' B (.slice (some ⟨g, 0, none⟩) (l.length + 1) cap) (l ++ [n]) → Below B w w' → (v.ownBlock = some g ∨ g = w.heap.size) → K (a.put o.dst (.slice (some ⟨g, 0, none⟩) (l.length + 1) cap)) w') :
    if Region.wanted o (yielded ops a.tmps) = true then Oper.wp Tryd.prog o a w K Q else E := by
  obtain ⟨i0, hi, hz0, hz1, hz2⟩ := info_parts i64info
  refine step_append_lies w hgd s x T ho B 2 i0 (.int .i64 0) 1 8 hT hi hz0 hz1 hz2 rfl (by decide) v l.length (l.map (Value.int .i64)) hs hown ad 1 c [.int .i64 n] hx rfl hc (by simp [Value.oneCell']) (by decide) (by unfold maxLen; omega) (by omega) hB _ rfl ?_
  intro g cap w' h2 h3 h4 _
  exact h g cap w' (OwnI.snoc h2) (hown.belowOf hB h3) h4
end

/-- Only block g may differ, and no block has come. -/
structure Touch (g : Nat) (w w' : World) : Prop where
  os : w'.os = w.os
  tape : w'.tape = w.tape
  output : w'.output = w.output
  size : w'.heap.size = w.heap.size
  block : ∀ k, k ≠ g → w'.heap[k]? = w.heap[k]?
theorem Touch.refl (g : Nat) (w : World) : Touch g w w := ⟨rfl, rfl, rfl, rfl, fun _ _ => rfl⟩
theorem Touch.setCell {g : Nat} {w w' : World} (h : Touch g w w') (i : Nat) (v : Value) : Touch g w (w'.setCell ⟨g, i, none⟩ v) :=
  ⟨h.os, h.tape, h.output, by rw [← h.size]; simp [World.setCell], fun k hk => by rw [Below.heap_setCell _ _ _ _ hk]; exact h.block k hk⟩
theorem Touch.drew {g : Nat} {w w' : World} (h : Touch g w w') : Touch g w w'.drew := ⟨h.os, h.tape, h.output, h.size, h.block⟩
theorem Touch.below {g B : Nat} {w w' : World} (h : Touch g w w') (hB : B ≤ g) : Below B w w' :=
  ⟨h.os, h.tape, h.output, Nat.le_of_eq h.size.symm, fun k hk => h.block k (by omega)⟩
theorem heap_set_row (w : World) (g i : Nat) (cs : Array Value) (t : TypeId) (v : Value) (hg : w.heap[g]? = some (.cells cs t (0, 0))) :
    (w.setCell ⟨g, i, none⟩ v).heap[g]? = some (.cells (cs.setIfInBounds i v) t (0, 0)) := by
  simp [World.setCell, Array.getElem?_modify, hg]
/-- The numbers from k on, n of them. -/
def fromK (k : Int) : Nat → List Int
  | 0 => []
  | n + 1 => fromK k n ++ [k + n]
theorem fromK_length (k : Int) (n : Nat) : (fromK k n).length = n := by
  induction n with
  | zero => rfl
  | succ n ih => simp [fromK, ih]
theorem fromK_at (k : Int) (n i : Nat) (h : i < n) : (fromK k n)[i]? = some (k + i) := by
  induction n with
  | zero => omega
  | succ n ih =>
    unfold fromK
    by_cases e : i < n
    · rw [List.getElem?_append_left (by rw [fromK_length]; omega)]; exact ih e
    · obtain rfl : i = n := by omega
      rw [List.getElem?_append_right (by rw [fromK_length]; omega), fromK_length]; simp
/-- The row's cells when i of its numbers are overwritten. -/
def mkRow (k : Int) (zs : List Int) (i : Nat) (rest : Array Value) : Array Value := ((fromK k i ++ zs.drop i).map (Value.int .i64)).toArray ++ rest
theorem mkRow_zero (k : Int) (zs : List Int) (rest : Array Value) : mkRow k zs 0 rest = (zs.map (Value.int .i64)).toArray ++ rest := by simp [mkRow, fromK]
theorem mkRow_all (k : Int) (zs : List Int) (rest : Array Value) : mkRow k zs zs.length rest = ((fromK k zs.length).map (Value.int .i64)).toArray ++ rest := by simp [mkRow]
theorem mkRow_size (k : Int) (zs : List Int) (i : Nat) (rest : Array Value) (h : i ≤ zs.length) : (mkRow k zs i rest).size = zs.length + rest.size := by
  simp [mkRow, fromK_length]; omega
theorem mkRow_succ (k : Int) (zs : List Int) (i : Nat) (rest : Array Value) (h : i < zs.length) : (mkRow k zs i rest).setIfInBounds i (.int .i64 (k + i)) = mkRow k zs (i + 1) rest := by
  apply Array.ext'
  simp only [mkRow, Array.toList_setIfInBounds, Array.toList_append]
  have hd : zs.drop i = zs[i] :: zs.drop (i + 1) := by simp
  have hl : (List.map (Value.int .i64) (fromK k i)).length = i := by simp [fromK_length]
  rw [hd]
  simp only [fromK, List.map_append, List.append_assoc]
  rw [List.set_append_right _ _ (by omega), hl]
  simp only [Nat.sub_self, List.map_cons, List.map_nil, List.cons_append, List.nil_append, List.set_cons_zero]
set_option maxHeartbeats 400000 in
theorem markInt_any (a : Option Addr) (zs : List Int) (c : Nat) (k : Nat) (B : Nat) (w : World) (hl : zs.length ≤ 4194304) (hk : k ≤ 4194304) (h : SlO w B a zs) :
    Calls Tryd.prog 27 #[.slice a zs.length c, .int .i64 k] w fun e w' => e = .returned (.int .i64 ((k + zs.length : Nat) : Int)) ∧ SlO w' B a (fromK k zs.length) ∧ (Below B w w' ∧ w'.heap.size = w.heap.size ∧ ∀ b, (zs = [] ∨ a.map (·.block) ≠ some b) → w'.heap[b]? = w.heap[b]?) := by
  by_cases hnil : zs = []
  · subst hnil
    have hz : ¬ (0 : Int) < 0 := by omega
    go_enter Tryd.func27, Tryd.ntmps27
    go_wp2
    go_rounds 1
    all_goals
      go_ret
      exact ⟨ret_int (by simp), .inl rfl, Below.refl _ _, rfl, fun _ _ => rfl⟩
  · rcases h with h | ⟨g, rest, rfl, hg, hh⟩
    · exact absurd h hnil
    go_enter Tryd.func27, Tryd.ntmps27
    go_wp2
    go_loopw [1, 5] (fun q i wr => ∃ j : Nat, j ≤ zs.length ∧ i = .int .i64 j ∧ q = .int .i64 ((k + j : Nat) : Int) ∧ wr.heap[g]? = some (.cells (mkRow k zs j rest) 2 (0, 0)) ∧ Touch g w wr) (fun _ i _ => zs.length - (intOf i).toNat)
    case atStart => exact ⟨0, Nat.zero_le _, rfl, rfl, by rw [mkRow_zero]; exact hh, Touch.refl _ _⟩
    case round =>
      obtain ⟨j, hj, rfl, rfl, hC, ht⟩ := hrel
      by_cases hlt : j < zs.length
      · have hsz := mkRow_size k zs j rest hj
        have hsome : (mkRow k zs j rest)[j]?.isSome = true := by simp; omega
        obtain ⟨old, hold⟩ := Option.isSome_iff_exists.1 hsome
        have hcell : wr.cell? ⟨g, j, none⟩ = some old := by simp [World.cell?, hC, hold]
        have hfz : wr.frozen? ⟨g, j, none⟩ = false := by simp [World.frozen?, hC]
        have HS := Lib.hid (mkRow_succ k zs j rest hlt)
        have HC := Lib.hid hC; clear hC hsome hold hsz
        have HH := Lib.hid hh; clear hh
        go_wp2
        go_roundw
        case rel =>
          refine ⟨j + 1, by omega, by go_num, by go_num, ?_, ht.setCell _ _⟩
          rw [heap_set_row wr g j _ _ _ HC.out]
          rw [HS.out]
        case measure => simp [intOf]; omega
      · obtain rfl : j = zs.length := by omega
        rw [mkRow_all] at hC
        go_wp2
        go_ret
        exact ⟨rfl, .inr ⟨g, rest, rfl, hg, hC⟩, ht.below hg, ht.size, fun b hb => ht.block b (hb.elim (fun h => absurd h hnil) (fun h => by simpa using Ne.symm (by simpa using h)))⟩
set_option maxHeartbeats 400000 in
theorem heldInt_any (a : Option Addr) (n c : Nat) (k : Nat) (w : World) (hl : n ≤ 4194304) (hk : k ≤ 4194304) (h : SlA w a (fromK k n)) :
    Calls Tryd.prog 28 #[.slice a n c, .int .i64 k] w fun e w' => e = .returned (.int .i64 ((k + n : Nat) : Int)) ∧ w = w' := by
  go_enter Tryd.func28, Tryd.ntmps28
  go_wp2
  go_loop [1, 5] (fun q i => ∃ j : Nat, j ≤ n ∧ i = .int .i64 j ∧ q = .int .i64 ((k + j : Nat) : Int)) (fun _ i => n - (intOf i).toNat)
  case atStart => exact ⟨0, Nat.zero_le _, rfl, rfl⟩
  case round =>
    obtain ⟨j, hj, rfl, rfl⟩ := hrel
    by_cases hlt : j < n
    · obtain ⟨b, off, rfl, hc⟩ := h.cell (fromK_at k n j hlt)
      have H := Lib.hid h; clear h
      have e : (k : Int) + j = ((k + j : Nat) : Int) := by omega
      rw [e] at hc
      clear e
      obtain ⟨m, hm⟩ : ∃ m, k + j = m := ⟨_, rfl⟩
      rw [hm] at hc ⊢
      have hm1 : m ≤ 8388608 := by omega
      have hne : ((m : Int) != m) = false := by simp
      have HM := Lib.hid hm; clear hm
      go_wp2
      go_round
      case rel => exact ⟨j + 1, by omega, by go_num, by have := HM.out; subst this; go_num⟩
      case measure => simp [intOf]; omega
    · obtain rfl : j = n := by omega
      go_wp2
      go_ret
      exact ⟨rfl, rfl⟩
end Go.Proofs.YtfedlehibkgjbaaDoor
end
section
set_option linter.unusedVariables false
namespace Go.Proofs.YtfedlehibkgjbaaDoor
open Go.RowKit
theorem sum_snoc {zs : List Int} {k : Nat} {x : Int} (h : zs[k]? = some x) : (zs.take (k + 1)).sum = (zs.take k).sum + x := by
  rw [List.take_add_one, h]; simp
theorem bd_of_all {zs : List Int} {lo hi : Int} (h : zs.all (inB lo hi) = true) {k : Nat} {x : Int} (hx : zs[k]? = some x) : lo ≤ x ∧ x ≤ hi := by
  rw [List.all_eq_true] at h
  exact inB_iff.1 (h x (List.mem_of_getElem? hx))
theorem sum_bd {zs : List Int} (h : zs.all (inB 1 2000000) = true) (k : Nat) : 0 ≤ (zs.take k).sum ∧ (zs.take k).sum ≤ 2000000 * (k : Int) := by
  induction k with
  | zero => simp
  | succ k ih =>
    by_cases hk : k < zs.length
    · obtain ⟨x, hx⟩ := getOf hk
      have := bd_of_all h hx
      rw [sum_snoc hx]; omega
    · rw [List.take_of_length_le (by omega), ← List.take_of_length_le (i := k) (by omega : zs.length ≤ k)]
      omega
set_option maxHeartbeats 400000 in
theorem sum_any (a : Option Addr) (zs : List Int) (c : Nat) (w : World) (hl : zs.length ≤ 1048576) (hz : zs.all (inB 1 2000000) = true) (h : SlA w a zs) :
    Calls Tryd.prog 38 #[.slice a zs.length c] w fun e w' => e = .returned (.int .i64 zs.sum) ∧ w = w' := by
  have HZ := Lib.hid hz; clear hz
  go_enter Tryd.func38, Tryd.ntmps38
  go_wp2
  go_loop [3, 8] (fun s i => ∃ k : Nat, k ≤ zs.length ∧ i = .int .i64 k ∧ ∃ m : Int, s = .int .i64 m ∧ 0 ≤ m ∧ m ≤ 2000000 * (k : Int) ∧ Hid (m = (zs.take k).sum)) (fun _ i => zs.length - (intOf i).toNat)
  case atStart => exact ⟨0, Nat.zero_le _, rfl, 0, rfl, by omega, by omega, by unfold Hid; simp⟩
  case round =>
    obtain ⟨k, hk, rfl, m, rfl, hm0, hm1, hs⟩ := hrel
    by_cases hlt : k < zs.length
    · obtain ⟨x, hx⟩ := getOf hlt
      obtain ⟨b, off, rfl, hc⟩ := h.cell hx
      obtain ⟨hx0, hx1⟩ := bd_of_all HZ.out hx
      have HX := Lib.hid hx; clear hx
      go_wp2
      go_round
      case rel => exact ⟨k + 1, by omega, by go_num, m + x, rfl, by omega, by omega, by unfold Hid; rw [sum_snoc HX.out, hs.out]⟩
      case measure => simp [intOf]; omega
    · go_wp2
      go_ret
      obtain rfl : k = zs.length := by omega
      exact ⟨ret_int (by rw [hs.out, List.take_length]), rfl⟩
end Go.Proofs.YtfedlehibkgjbaaDoor
end
section
set_option linter.unusedVariables false
namespace Go.Proofs.YtfedlehibkgjbaaDoor
open Go.RowKit
/-- Is the flux valid? -/
def fluxOk (c f : Int) (zs : List Int) : Bool := inB 4 200 c && (inB 1 4000 (zs.length : Int) && (zs.all (inB 1 2000000) && (decide (zs.sum ≤ 2000000) && inB 0 (zs[zs.length - 1]?.getD 0 - 1) f)))
theorem fluxOk_iff {c f : Int} {zs : List Int} : fluxOk c f zs = true ↔ (4 ≤ c ∧ c ≤ 200) ∧ (1 ≤ zs.length ∧ zs.length ≤ 4000) ∧ zs.all (inB 1 2000000) = true ∧ zs.sum ≤ 2000000 ∧ (0 ≤ f ∧ f ≤ zs[zs.length - 1]?.getD 0 - 1) := by
  unfold fluxOk
  simp only [Bool.and_eq_true, inB_iff, decide_eq_true_eq]
  constructor
  · rintro ⟨h1, ⟨h2, h3⟩, h4, h5, h6⟩
    exact ⟨h1, ⟨by omega, by omega⟩, h4, h5, h6⟩
  · rintro ⟨h1, ⟨h2, h3⟩, h4, h5, h6⟩
    exact ⟨h1, ⟨by omega, by omega⟩, h4, h5, h6⟩
set_option maxHeartbeats 1000000 in
theorem validFlux_last (c f : Int) (a : Option Addr) (zs : List Int) (d : Nat) (w : World) (h : SlA w a zs) (h1 : inB 4 200 c = true) (h2 : inB 1 4000 (zs.length : Int) = true) (h3 : zs.all (inB 1 2000000) = true) (h4 : zs.sum ≤ 2000000) :
    Calls Tryd.prog 25 #[.agg #[.int .i64 c, .int .i64 f, .slice a zs.length d]] w fun e w' => e = .returned (.bool (inB 0 (zs[zs.length - 1]?.getD 0 - 1) f)) ∧ Below w.heap.size w w' := by
  have h2' := inB_iff.1 h2
  have hn : 0 < zs.length := by omega
  obtain ⟨x, hx⟩ := getOf (zs := zs) (k := zs.length - 1) (by omega)
  have hgl : zs[zs.length - 1]?.getD 0 = x := by rw [hx]; rfl
  rw [hgl]; clear hgl
  obtain ⟨b, off, rfl, hc⟩ := h.cell hx
  have hbl : b < w.heap.size := World.block_lt_of_cell? w _ hc
  obtain ⟨hx0, hx1⟩ := bd_of_all h3 hx
  have c1 : ∀ w' (_ : Below w.heap.size w w'), Calls Tryd.prog 35 #[.int .i64 1, .int .i64 2000000, .slice (some ⟨b, off, none⟩) zs.length d] w' fun e w'' => e = .returned (.bool true) ∧ w' = w'' := fun w' hb => (within_sl 1 2000000 zs (some ⟨b, off, none⟩) d w' (by unfold maxLen; omega) (h.below hb (Nat.le_refl _))).mono fun _ _ ⟨he, hw⟩ => ⟨by rw [he, h3], hw⟩
  have c2 : ∀ w' (_ : Below w.heap.size w w'), Calls Tryd.prog 38 #[.slice (some ⟨b, off, none⟩) zs.length d] w' fun e w'' => e = .returned (.int .i64 zs.sum) ∧ w' = w'' := fun w' hb => sum_any (some ⟨b, off, none⟩) zs d w' (by omega) h3 (h.below hb (Nat.le_refl _))
  have hs0 := sum_bd h3 zs.length
  rw [List.take_length] at hs0
  obtain ⟨s, hs⟩ : ∃ s, zs.sum = s := ⟨_, rfl⟩
  rw [hs] at c2 h4 hs0
  clear hs
  have C1 := Lib.hid c1; have C2 := Lib.hid c2; have H := Lib.hid (And.intro h (And.intro h3 hx)); clear c1 c2 h h3 hx
  have ei : ((zs.length - 1 : Nat) : Int) = (zs.length : Int) - 1 := by omega
  have ei2 : ((zs.length : Int) - 1).toNat = zs.length - 1 := by omega
  have ei3 : (0 : Int) ≤ (zs.length : Int) - 1 := by omega
  have EI := Lib.hid ei; clear ei
  have hcg : ∀ w' (_ : Below w.heap.size w w'), w'.cell? ⟨b, off + (zs.length - 1), none⟩ = some (.int .i64 x) := fun w' hb => by rw [hb.cell (p := ⟨b, off + (zs.length - 1), none⟩) hbl]; exact hc
  have HCG := Lib.hid hcg; clear hcg
  go_enter Tryd.func25, Tryd.ntmps25
  go_wp2_with fail
  refine (within_at _ _ _ _ _ _ (by simp)).mono ?_
  rintro e w' ⟨rfl, rfl⟩
  go_wp2_with fail
  refine (within_at _ _ _ _ _ _ (by simp)).mono ?_
  rintro e w' ⟨rfl, rfl⟩
  go_wp2_with fail
  refine (C1.out _ (by go_grown)).mono ?_
  rintro e w' ⟨rfl, rfl⟩
  go_wp2_with fail
  refine (C2.out _ (by go_grown)).mono ?_
  rintro e w' ⟨rfl, rfl⟩
  go_wp2_with fail
  have hcg := HCG.out (((w.alloc (.cells #[.int .i64 c, .int .i64 f, .slice (some ⟨b, off, none⟩) zs.length d] 24)).alloc (.cells #[.int .i64 c] 2)).alloc (.cells #[.int .i64 (zs.length : Int)] 2)) (by go_grown)
  have hbw : Below w.heap.size w (((w.alloc (.cells #[.int .i64 c, .int .i64 f, .slice (some ⟨b, off, none⟩) zs.length d] 24)).alloc (.cells #[.int .i64 c] 2)).alloc (.cells #[.int .i64 (zs.length : Int)] 2)) := by go_grown
  have hf : (((w.alloc (.cells #[.int .i64 c, .int .i64 f, .slice (some ⟨b, off, none⟩) zs.length d] 24)).alloc (.cells #[.int .i64 c] 2)).alloc (.cells #[.int .i64 (zs.length : Int)] 2)).cell? ⟨w.heap.size, 1, none⟩ = some (.int .i64 f) := by simp [go_sem]
  have hg : (((w.alloc (.cells #[.int .i64 c, .int .i64 f, .slice (some ⟨b, off, none⟩) zs.length d] 24)).alloc (.cells #[.int .i64 c] 2)).alloc (.cells #[.int .i64 (zs.length : Int)] 2)).cell? ⟨w.heap.size, 2, none⟩ = some (.slice (some ⟨b, off, none⟩) zs.length d) := by simp [go_sem]
  have hz : (((w.alloc (.cells #[.int .i64 c, .int .i64 f, .slice (some ⟨b, off, none⟩) zs.length d] 24)).alloc (.cells #[.int .i64 c] 2)).alloc (.cells #[.int .i64 (zs.length : Int)] 2)).heap.size = w.heap.size + 3 := by simp
  obtain ⟨W, hW⟩ : ∃ W, (((w.alloc (.cells #[.int .i64 c, .int .i64 f, .slice (some ⟨b, off, none⟩) zs.length d] 24)).alloc (.cells #[.int .i64 c] 2)).alloc (.cells #[.int .i64 (zs.length : Int)] 2)) = W := ⟨_, rfl⟩
  rw [hW] at hcg hbw hf hg hz ⊢
  clear hW HCG
  have HZ := Lib.hid hz; clear hz
  have HNEW := Lib.hid (show (W.alloc (.cells #[.int .i64 f] 2)).drew.cell? ⟨W.heap.size, 0, none⟩ = some (.int .i64 f) by simp [go_sem])
  have ew1 : IntKind.i64.wrap ((zs.length : Int) - 1) = (zs.length : Int) - 1 := IntWalk.i64_in _ (by omega)
  have ew2 : IntKind.i64.wrap (x - 1) = x - 1 := IntWalk.i64_in _ (by omega)
  have ei4 : (1 : Int) ≤ (zs.length : Int) := by omega
  have ei5 : (zs.length : Int) - 1 < (zs.length : Int) := by omega
  have ei6 : 1 ≤ zs.length := by omega
  go_region_held3 (fun w' => w'.cell? ⟨w.heap.size, 1, none⟩ = some (.int .i64 f) ∧ w'.cell? ⟨w.heap.size, 2, none⟩ = some (.slice (some ⟨b, off, none⟩) zs.length d) ∧ w'.cell? ⟨b, off + (zs.length - 1), none⟩ = some (.int .i64 x))
    (first | go_keep | (simp [go_sem, World.cell?_alloc_past]; done))
    ((go_at_call 35; refine (within_one _ _ f _ _ _ _ HNEW.out).mono ?_; rintro e w' ⟨rfl, rfl⟩))
  all_goals
    go_wp2
    go_ret
    exact ⟨rfl, Below.trans hbw (by have := HZ.out; go_grown)⟩

set_option maxHeartbeats 1000000 in
theorem validFlux_any (c f : Int) (a : Option Addr) (zs : List Int) (d : Nat) (w : World) (hl : zs.length ≤ 1048576) (h : SlA w a zs) :
    Calls Tryd.prog 25 #[.agg #[.int .i64 c, .int .i64 f, .slice a zs.length d]] w fun e w' => e = .returned (.bool (fluxOk c f zs)) ∧ Below w.heap.size w w' := by
  by_cases h1 : inB 4 200 c = true
  · by_cases h2 : inB 1 4000 (zs.length : Int) = true
    · have h2' := inB_iff.1 h2
      by_cases h3 : zs.all (inB 1 2000000) = true
      · by_cases h4 : zs.sum ≤ 2000000
        · refine (validFlux_last c f a zs d w h h1 h2 h3 h4).mono fun _ _ ⟨he, hb⟩ => ⟨?_, hb⟩
          rw [he]
          refine ret_bool ?_
          unfold fluxOk; rw [h1, h2, h3]; simp [h4]
        · have HE := Lib.hid (show fluxOk c f zs = false by unfold fluxOk; simp [h4])
          have c1 : ∀ w' (_ : Below w.heap.size w w'), Calls Tryd.prog 35 #[.int .i64 1, .int .i64 2000000, .slice a zs.length d] w' fun e w'' => e = .returned (.bool true) ∧ w' = w'' := fun w' hb => (within_sl 1 2000000 zs a d w' (by unfold maxLen; omega) (h.below hb (Nat.le_refl _))).mono fun _ _ ⟨he, hw⟩ => ⟨by rw [he, h3], hw⟩
          have c2 : ∀ w' (_ : Below w.heap.size w w'), Calls Tryd.prog 38 #[.slice a zs.length d] w' fun e w'' => e = .returned (.int .i64 zs.sum) ∧ w' = w'' := fun w' hb => sum_any a zs d w' (by omega) h3 (h.below hb (Nat.le_refl _))
          obtain ⟨s, hs⟩ : ∃ s, zs.sum = s := ⟨_, rfl⟩
          rw [hs] at c2 h4
          clear hs
          have C1 := Lib.hid c1; have C2 := Lib.hid c2; clear c1 c2 h h3
          go_enter Tryd.func25, Tryd.ntmps25
          go_wp2_with fail
          refine (within_at _ _ _ _ _ _ (by simp)).mono ?_
          rintro e w' ⟨rfl, rfl⟩
          go_wp2_with fail
          refine (within_at _ _ _ _ _ _ (by simp)).mono ?_
          rintro e w' ⟨rfl, rfl⟩
          go_wp2_with fail
          refine (C1.out _ (by go_grown)).mono ?_
          rintro e w' ⟨rfl, rfl⟩
          go_wp2_with fail
          refine (C2.out _ (by go_grown)).mono ?_
          rintro e w' ⟨rfl, rfl⟩
          go_wp2
          go_ret
          exact ⟨ret_bool HE.out.symm, by go_grown⟩
      · have h3 : zs.all (inB 1 2000000) = false := by simpa using h3
        have HE := Lib.hid (show fluxOk c f zs = false by unfold fluxOk; rw [h3]; simp)
        have c1 : ∀ w' (_ : Below w.heap.size w w'), Calls Tryd.prog 35 #[.int .i64 1, .int .i64 2000000, .slice a zs.length d] w' fun e w'' => e = .returned (.bool false) ∧ w' = w'' := fun w' hb => (within_sl 1 2000000 zs a d w' (by unfold maxLen; omega) (h.below hb (Nat.le_refl _))).mono fun _ _ ⟨he, hw⟩ => ⟨by rw [he, h3], hw⟩
        have C1 := Lib.hid c1; clear c1 h h3
        go_enter Tryd.func25, Tryd.ntmps25
        go_wp2_with fail
        refine (within_at _ _ _ _ _ _ (by simp)).mono ?_
        rintro e w' ⟨rfl, rfl⟩
        go_wp2_with fail
        refine (within_at _ _ _ _ _ _ (by simp)).mono ?_
        rintro e w' ⟨rfl, rfl⟩
        go_wp2_with fail
        refine (C1.out _ (by go_grown)).mono ?_
        rintro e w' ⟨rfl, rfl⟩
        go_wp2
        go_ret
        exact ⟨ret_bool HE.out.symm, by go_grown⟩
    · have h2 : inB 1 4000 (zs.length : Int) = false := by simpa using h2
      have HE := Lib.hid (show fluxOk c f zs = false by unfold fluxOk; rw [h2]; simp)
      go_enter Tryd.func25, Tryd.ntmps25
      go_wp2_with fail
      refine (within_at _ _ _ _ _ _ (by simp)).mono ?_
      rintro e w' ⟨rfl, rfl⟩
      go_wp2_with fail
      refine (within_at _ _ _ _ _ _ (by simp)).mono ?_
      rintro e w' ⟨rfl, rfl⟩
      go_wp2
      go_ret
      exact ⟨ret_bool HE.out.symm, by go_grown⟩
  · have h1 : inB 4 200 c = false := by simpa using h1
    have HE := Lib.hid (show fluxOk c f zs = false by unfold fluxOk; rw [h1]; simp)
    go_enter Tryd.func25, Tryd.ntmps25
    go_wp2_with fail
    refine (within_at _ _ _ _ _ _ (by simp)).mono ?_
    rintro e w' ⟨rfl, rfl⟩
    go_wp2
    go_ret
    exact ⟨ret_bool HE.out.symm, by go_grown⟩
end Go.Proofs.YtfedlehibkgjbaaDoor
end
section
set_option linter.unusedVariables false
namespace Go.Proofs.YtfedlehibkgjbaaDoor
open Go.RowKit
/-- In the world w the address p holds these three fields. -/
def FluxAt (w : World) (p : Nat) (c f : Int) (a : Option Addr) (n d : Nat) : Prop :=
  w.cell? ⟨p, 0, none⟩ = some (.int .i64 c) ∧ w.cell? ⟨p, 1, none⟩ = some (.int .i64 f) ∧ w.cell? ⟨p, 2, none⟩ = some (.slice a n d)
theorem FluxAt.below {w w' : World} {B p : Nat} {c f : Int} {a : Option Addr} {n d : Nat} (h : FluxAt w p c f a n d) (hb : Below B w w') (hp : p < B) : FluxAt w' p c f a n d :=
  ⟨by rw [hb.cell (p := ⟨p, 0, none⟩) hp]; exact h.1, by rw [hb.cell (p := ⟨p, 1, none⟩) hp]; exact h.2.1, by rw [hb.cell (p := ⟨p, 2, none⟩) hp]; exact h.2.2⟩
theorem FluxAt.new (w : World) (c f : Int) (a : Option Addr) (n d : Nat) (T : TypeId) (p : Nat) (hp : w.heap.size = p) : FluxAt (w.alloc (.cells #[.int .i64 c, .int .i64 f, .slice a n d] T)) p c f a n d := by
  subst hp
  exact ⟨by simp [go_sem], by simp [go_sem], by simp [go_sem]⟩
theorem FluxAt.drew {w : World} {p : Nat} {c f : Int} {a : Option Addr} {n d : Nat} (h : FluxAt w p c f a n d) : FluxAt w.drew p c f a n d := h
theorem FluxAt.lt {w : World} {p : Nat} {c f : Int} {a : Option Addr} {n d : Nat} (h : FluxAt w p c f a n d) : p < w.heap.size := World.block_lt_of_cell? w _ h.1
theorem fluxOk_all_no {c f : Int} {zs : List Int} {k : Nat} {x : Int} (h : zs[k]? = some x) (hx : inB 1 2000000 x = false) : fluxOk c f zs = false := by
  unfold fluxOk; rw [all_false_of h hx]; simp
set_option maxHeartbeats 1000000 in
theorem l02Ok_any (p : Nat) (c f : Int) (a : Option Addr) (zs : List Int) (d : Nat) (w : World) (hl : zs.length ≤ 1048576) (hf : FluxAt w p c f a zs.length d) (h : SlA w a zs) :
    Calls Tryd.prog 23 #[.pointer (some ⟨p, 0, none⟩)] w fun e w' => e = .returned (.bool (fluxOk c f zs)) ∧ Below w.heap.size w w' := by
  obtain ⟨hc0, hc1, hc2⟩ := hf
  by_cases h1 : inB 4 200 c = true
  · by_cases h2 : inB 1 4000 (zs.length : Int) = true
    · have h2' := inB_iff.1 h2
      have hn1 : ¬ zs.length < 1 := by omega
      have hn2 : ¬ 4000 < zs.length := by omega
      obtain ⟨g, hg⟩ := getOf (zs := zs) (k := zs.length - 1) (by omega)
      have hlast := Lib.hid hg; clear hg
      obtain ⟨b, off, rfl, hcl⟩ := h.cell hlast.out
      have H := Lib.hid h; clear h
      have H12 := Lib.hid (And.intro h1 h2); clear h2
      go_enter Tryd.func23, Tryd.ntmps23
      go_wp2_with (go_at_call 42; refine (l00In_any _ _ _ _).mono ?_; rintro e w' ⟨rfl, rfl⟩)
      clear h1
      go_loop [4, 5] (fun s i => ∃ k : Nat, k ≤ zs.length ∧ i = .int .i64 k ∧ Hid ((zs.take k).all (inB 1 2000000) = true) ∧ ∃ m : Int, s = .int .i64 m ∧ 0 ≤ m ∧ m ≤ 2000000 * (k : Int) ∧ Hid (m = (zs.take k).sum)) (fun _ i => zs.length - (intOf i).toNat)
      case atStart => exact ⟨0, Nat.zero_le _, rfl, by unfold Hid; rfl, 0, rfl, by omega, by omega, by unfold Hid; simp⟩
      case round =>
        obtain ⟨k, hk, rfl, ha, m, rfl, hm0, hm1, hs⟩ := hrel
        by_cases hlt : k < zs.length
        · obtain ⟨x, hx⟩ := getOf hlt
          obtain ⟨b', off', hbo, hcx⟩ := H.out.cell hx
          simp only [Option.some.injEq, Addr.mk.injEq, and_true] at hbo
          obtain ⟨rfl, rfl⟩ := hbo
          have HX := Lib.hid hx; clear hx
          have HCL := Lib.hid hcl
          by_cases hi : inB 1 2000000 x = true
          · have hi2 := inB_iff.1 hi
            go_wp2_with (go_at_call 42; refine (l00In_any _ _ _ _).mono ?_; rintro e w' ⟨rfl, rfl⟩)
            go_round
            case rel => exact ⟨k + 1, by omega, by go_num, by unfold Hid; rw [all_take_snoc HX.out, ha.out, hi]; rfl, m + x, rfl, by omega, by omega, by unfold Hid; rw [sum_snoc HX.out, hs.out]⟩
            case measure => simp [intOf]; omega
          · have hi0 : inB 1 2000000 x = false := by simpa using hi
            have HE := Lib.hid (fluxOk_all_no (c := c) (f := f) HX.out hi0); clear hi
            go_wp2_with (go_at_call 42; refine (l00In_any _ _ _ _).mono ?_; rintro e w' ⟨rfl, rfl⟩)
            go_ret
            exact ⟨ret_bool HE.out.symm, Below.refl _ _⟩
        · obtain rfl : k = zs.length := by omega
          have ha2 := ha.out
          have hs2 := hs.out
          rw [List.take_length] at ha2 hs2
          have hgx := bd_of_all ha2 hlast.out
          have hgl : zs[zs.length - 1]?.getD 0 = g := by rw [hlast.out]; rfl
          have HE := Lib.hid (show fluxOk c f zs = (decide (m ≤ 2000000) && inB 0 (g - 1) f) by unfold fluxOk; rw [H12.out.1, H12.out.2, ha2, hgl, hs2]; simp)
          have ei2 : ((zs.length : Int) - 1).toNat = zs.length - 1 := by omega
          have ei3 : (0 : Int) ≤ (zs.length : Int) - 1 := by omega
          have ew1 : IntKind.i64.wrap ((zs.length : Int) - 1) = (zs.length : Int) - 1 := IntWalk.i64_in _ (by omega)
          have ew2 : IntKind.i64.wrap (g - 1) = g - 1 := IntWalk.i64_in _ (by omega)
          have ei4 : (1 : Int) ≤ (zs.length : Int) := by omega
          have ei5 : (zs.length : Int) - 1 < (zs.length : Int) := by omega
          clear ha hs ha2 hs2 hgl
          by_cases hm : m ≤ 2000000
          · have hd : decide (m ≤ 2000000) = true := by simpa using hm
            go_wp2_with fail
            go_quiet ((go_at_call 42; exact Calls.quiet_of_same ((l00In_any _ _ _ _).mono fun _ _ ⟨he, hw⟩ => ⟨he, hw.symm⟩)))
            go_wp2
            go_ret
            refine ⟨ret_bool ?_, below_drewN (Below.refl _ _) _⟩
            rw [HE.out, hd]; rfl
          · have hd : decide (m ≤ 2000000) = false := by simpa using hm
            go_wp2_with fail
            go_quiet (fail)
            go_wp2
            go_ret
            refine ⟨ret_bool ?_, below_drewN (Below.refl _ _) _⟩
            rw [HE.out, hd]; rfl
    · have h2 : inB 1 4000 (zs.length : Int) = false := by simpa using h2
      have HE := Lib.hid (show fluxOk c f zs = false by unfold fluxOk; rw [h2]; simp)
      have h2n : zs.length < 1 ∨ 4000 < zs.length := by
        by_cases hq : zs.length < 1
        · exact .inl hq
        · right
          by_cases hq2 : 4000 < zs.length
          · exact hq2
          · have := inB_true (lo := 1) (hi := 4000) (n := (zs.length : Int)) (by omega) (by omega)
            rw [this] at h2; cases h2
      clear h2
      rcases h2n with hn | hn
      all_goals
        go_enter Tryd.func23, Tryd.ntmps23
        go_wp2_with (go_at_call 42; refine (l00In_any _ _ _ _).mono ?_; rintro e w' ⟨rfl, rfl⟩)
        go_ret
        exact ⟨ret_bool HE.out.symm, Below.refl _ _⟩
  · have h1 : inB 4 200 c = false := by simpa using h1
    have HE := Lib.hid (show fluxOk c f zs = false by unfold fluxOk; rw [h1]; simp)
    go_enter Tryd.func23, Tryd.ntmps23
    go_wp2_with (go_at_call 42; refine (l00In_any _ _ _ _).mono ?_; rintro e w' ⟨rfl, rfl⟩)
    go_ret
    exact ⟨ret_bool HE.out.symm, Below.refl _ _⟩
end Go.Proofs.YtfedlehibkgjbaaDoor
end
