/- The struct Found and slices of it: laws.szFoundS, laws.toFound, laws.toFoundS, laws.eqFound, laws.eqFoundS -/
import Derived.Test.YtccjjlfjbandfaaDoorRecs
import Derived.Test.YtccjjlfjbandfaaDoorRecKit
namespace Go.Proofs.YtccjjlfjbandfaaDoor
open Go.RowKit Go.ChangeShapes Go.WideShapes Go.ChangeAt Go.Joins Go.Deep
set_option linter.unusedVariables false
set_option linter.unusedSimpArgs false
set_option maxRecDepth 20000
structure FoundV where
  f0 : Int
  f1 : Int
  f2 : Int
  f3 : Int
  f4 : ByteArray
  f5 : Int
  f6 : Bool
  f7 : Int
def rowFound (e : FoundV) : List Value := [.int .i64 e.f0, .int .i64 e.f1, .int .i64 e.f2, .int .i64 e.f3, .string e.f4, .int .i64 e.f5, .bool e.f6, .int .i64 e.f7]
def zeroFound : List Value := [.int .i64 0, .int .i64 0, .int .i64 0, .int .i64 0, .string ByteArray.empty, .int .i64 0, .bool false, .int .i64 0]
theorem rowFound_len (e : FoundV) : (rowFound e).length = 8 := rfl
theorem infoFound : (Tryd.prog.info? 32).map (fun i => (i.zero, i.size, i.bytes)) = some (some (.agg zeroFound.toArray), 8, 72) := by kernel_rfl
theorem cellsFoundL : Tryd.prog.cellsOf 29 = 8 := by kernel_rfl
def wtFound (es : List FoundV) : Nat := es.length + (es.map fun e => e.f4.size).sum
theorem wtFound_len (es : List FoundV) : es.length ≤ wtFound es := Nat.le_add_right _ _
theorem wtFound_at {es : List FoundV} {m : Nat} (h : wtFound es ≤ m) : ∀ e ∈ es, e.f4.size ≤ m := by
  intro e he
  unfold wtFound at h
  have : e.f4.size ≤ (es.map fun e => e.f4.size).sum := le_sum_of_mem (List.mem_map.2 ⟨e, he, rfl⟩)
  omega
set_option maxHeartbeats 1000000 in
theorem szFound_any (e : FoundV) (left : Nat) (w : World) (hl : left ≤ 1048576) (hs : e.f4.size ≤ maxLen) :
    Calls Tryd.prog 8 #[.agg #[.int .i64 e.f0, .int .i64 e.f1, .int .i64 e.f2, .int .i64 e.f3, .string e.f4, .int .i64 e.f5, .bool e.f6, .int .i64 e.f7], .int .i64 (left : Nat)] w fun x w' => x = .returned (.int .i64 (szV left e.f4.size)) ∧ Below w.heap.size w w' := by
  unfold maxLen at hs
  unfold szV
  by_cases h : e.f4.size ≤ left
  · rw [if_pos h]
    have h0 : ¬ ((left : Int) - (e.f4.size : Int) < 0) := by omega
    go_enter Tryd.func8, Tryd.ntmps8
    go_wp2
    go_ret
    exact ⟨ret_int (by omega), by go_grown⟩
  · rw [if_neg h]
    have h0 : (left : Int) - (e.f4.size : Int) < 0 := by omega
    go_enter Tryd.func8, Tryd.ntmps8
    go_wp2
    go_ret
    exact ⟨rfl, by go_grown⟩
set_option maxHeartbeats 2000000 in
theorem toFound_any (e : FoundV) (w : World) :
    Calls Tryd.prog 10 #[.agg #[.int .i64 e.f0, .int .i64 e.f1, .int .i64 e.f2, .int .i64 e.f3, .string e.f4, .int .i64 e.f5, .bool e.f6, .int .i64 e.f7]] w fun x w' => x = .returned (.agg #[.int .i64 e.f0, .int .i64 e.f1, .int .i64 e.f2, .int .i64 e.f3, .string e.f4, .int .i64 e.f5, .bool e.f6, .int .i64 e.f7]) ∧ Below w.heap.size w w' := by
  go_enter Tryd.func10, Tryd.ntmps10
  go_wp2
  refine bodyPost_ret (v := .agg #[.int .i64 e.f0, .int .i64 e.f1, .int .i64 e.f2, .int .i64 e.f3, .string e.f4, .int .i64 e.f5, .bool e.f6, .int .i64 e.f7]) (by simp [results, Tryd.results10, go_sem]) rfl ⟨rfl, ?_⟩
  go_grown
def sameFound (x y : FoundV) : Bool := (x.f0 == y.f0) && (x.f1 == y.f1) && (x.f2 == y.f2) && (x.f3 == y.f3) && decide (x.f4 = y.f4) && (x.f5 == y.f5) && (x.f6 == y.f6) && (x.f7 == y.f7)
theorem sameFound_iff {x y : FoundV} : sameFound x y = true ↔ x = y := by
  cases x; cases y
  simp [sameFound, and_assoc]
end Go.Proofs.YtccjjlfjbandfaaDoor
