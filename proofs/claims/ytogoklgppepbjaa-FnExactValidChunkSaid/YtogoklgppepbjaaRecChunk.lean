/- The struct Chunk and slices of it: laws.szChunkS, laws.toChunk, laws.toChunkS, laws.eqChunk, laws.eqChunkS -/
import Derived.Test.YtogoklgppepbjaaRecs
import Derived.Test.YtogoklgppepbjaaRecKit
namespace Go.Proofs.Ytogoklgppepbjaa
open Go.RowKit Go.ChangeShapes Go.WideShapes Go.ChangeAt Go.Joins Go.Deep
set_option linter.unusedVariables false
set_option linter.unusedSimpArgs false
structure ChunkV where
  f0 : Int
  f1 : ByteArray
def rowChunk (e : ChunkV) : List Value := [.int .i64 e.f0, .string e.f1]
def zeroChunk : List Value := [.int .i64 0, .string ByteArray.empty]
theorem rowChunk_len (e : ChunkV) : (rowChunk e).length = 2 := rfl
theorem infoChunk : (Try.prog.info? 45).map (fun i => (i.zero, i.size, i.bytes)) = some (some (.agg zeroChunk.toArray), 2, 24) := by kernel_rfl
theorem cellsChunkL : Try.prog.cellsOf 42 = 2 := by kernel_rfl
def wtChunk (es : List ChunkV) : Nat := es.length + (es.map fun e => e.f1.size).sum
theorem wtChunk_len (es : List ChunkV) : es.length ≤ wtChunk es := Nat.le_add_right _ _
theorem wtChunk_at {es : List ChunkV} {m : Nat} (h : wtChunk es ≤ m) : ∀ e ∈ es, e.f1.size ≤ m := by
  intro e he
  unfold wtChunk at h
  have : e.f1.size ≤ (es.map fun e => e.f1.size).sum := le_sum_of_mem (List.mem_map.2 ⟨e, he, rfl⟩)
  omega
set_option maxHeartbeats 1000000 in
theorem szChunk_any (e : ChunkV) (left : Nat) (w : World) (hl : left ≤ 1048576) (hs : e.f1.size ≤ maxLen) :
    Calls Try.prog 28 #[.agg #[.int .i64 e.f0, .string e.f1], .int .i64 (left : Nat)] w fun x w' => x = .returned (.int .i64 (szV left e.f1.size)) ∧ Below w.heap.size w w' := by
  unfold maxLen at hs
  unfold szV
  by_cases h : e.f1.size ≤ left
  · rw [if_pos h]
    have h0 : ¬ ((left : Int) - (e.f1.size : Int) < 0) := by omega
    go_enter Try.func28, Try.ntmps28
    go_wp2
    go_ret
    exact ⟨ret_int (by omega), by go_grown⟩
  · rw [if_neg h]
    have h0 : (left : Int) - (e.f1.size : Int) < 0 := by omega
    go_enter Try.func28, Try.ntmps28
    go_wp2
    go_ret
    exact ⟨rfl, by go_grown⟩
set_option maxHeartbeats 2000000 in
theorem toChunk_any (e : ChunkV) (w : World) :
    Calls Try.prog 30 #[.agg #[.int .i64 e.f0, .string e.f1]] w fun x w' => x = .returned (.agg #[.int .i64 e.f0, .string e.f1]) ∧ Below w.heap.size w w' := by
  go_enter Try.func30, Try.ntmps30
  go_wp2
  refine bodyPost_ret (v := .agg #[.int .i64 e.f0, .string e.f1]) (by simp [results, Try.results30, go_sem]) rfl ⟨rfl, ?_⟩
  go_grown
def sameChunk (x y : ChunkV) : Bool := (x.f0 == y.f0) && decide (x.f1 = y.f1)
theorem sameChunk_iff {x y : ChunkV} : sameChunk x y = true ↔ x = y := by
  cases x; cases y
  simp [sameChunk, and_assoc]
end Go.Proofs.Ytogoklgppepbjaa
