/- The sectors in which two discs differ. -/
import Derived.Test.YtpcfhfnlpcpofaaSameDisc
import Derived.Test.YtpcfhfnlpcpofaaSlRes
namespace Go.Proofs.Ytpcfhfnlpcpofaa
open Go.RowKit
set_option linter.unusedVariables false
def SlRes2 (l : List Int) (code : Int) (w : World) (e : Ending) (w' : World) : Prop :=
  ∃ a cap, e = .returned (.tuple #[.slice a l.length cap, .int .i64 code]) ∧ SlO w' w.heap.size a l ∧ Below w.heap.size w w'
/-- The first k places, less those with the same sector. -/
def diffs (xs ys : List SectorV) : Nat → List Int
  | 0 => []
  | k + 1 => match xs[k]?, ys[k]? with
    | some u, some v => if sameSector u v = true then diffs xs ys k else diffs xs ys k ++ [(k : Int)]
    | _, _ => diffs xs ys k
theorem diffs_len (xs ys : List SectorV) (k : Nat) : (diffs xs ys k).length ≤ k := by
  induction k with
  | zero => simp [diffs]
  | succ k ih =>
    unfold diffs
    split
    · split
      · omega
      · simp; omega
    · omega
theorem diffs_same {xs ys : List SectorV} {k : Nat} {u v : SectorV} (h1 : xs[k]? = some u) (h2 : ys[k]? = some v) (h : sameSector u v = true) : diffs xs ys (k + 1) = diffs xs ys k := by
  show (match xs[k]?, ys[k]? with | some u, some v => _ | _, _ => _) = _
  rw [h1, h2]; simp [h]
theorem diffs_not {xs ys : List SectorV} {k : Nat} {u v : SectorV} (h1 : xs[k]? = some u) (h2 : ys[k]? = some v) (h : sameSector u v = false) : diffs xs ys (k + 1) = diffs xs ys k ++ [(k : Int)] := by
  show (match xs[k]?, ys[k]? with | some u, some v => _ | _, _ => _) = _
  rw [h1, h2]; simp [h]
def chgC (x y : DiscV) : Int := if discB x = true then (if discB y = true then (if sameGeo x.f0 x.f1 x.f2 x.f3 y.f0 y.f1 y.f2 y.f3 = true then 0 else 6) else 1) else 1
def chgV (x y : DiscV) : List Int := if discB x = true then (if discB y = true then (if sameGeo x.f0 x.f1 x.f2 x.f3 y.f0 y.f1 y.f2 y.f3 = true then diffs x.f4 y.f4 x.f4.length else []) else []) else []
theorem chgV_len (x y : DiscV) : (chgV x y).length ≤ 1048576 := by
  unfold chgV
  split
  · rename_i h
    have := discB_len h
    have := diffs_len x.f4 y.f4 x.f4.length
    split
    · split
      · omega
      · simp
    · simp
  · simp
theorem disc_len_geo {x y : DiscV} (hx : discB x = true) (hy : discB y = true) (hg : sameGeo x.f0 x.f1 x.f2 x.f3 y.f0 y.f1 y.f2 y.f3 = true) : x.f4.length = y.f4.length := by
  obtain ⟨e0, e1, e2, e3⟩ := sameGeo_iff.1 hg
  unfold discB at hx hy
  simp only [Bool.and_eq_true, decide_eq_true_eq] at hx hy
  have h1 := hx.2.1
  have h2 := hy.2.1
  rw [e0, e1, e2, ← h2] at h1
  omega
theorem neqGeo (a b c d a' b' c' d' : Int) (w : World) : (binOp .neq 81 (.agg #[.int .i64 a, .int .i64 b, .int .i64 c, .int .i64 d]) (.agg #[.int .i64 a', .int .i64 b', .int .i64 c', .int .i64 d'])).run Try.prog w = .ok (.bool (!(sameGeo a b c d a' b' c' d'))) w := by
  rw [run_neq_struct]
  have e := run_equalIn_struct (P := Try.prog) w 9999 81 #[.int .i64 a, .int .i64 b, .int .i64 c, .int .i64 d] #[.int .i64 a', .int .i64 b', .int .i64 c', .int .i64 d'] (by kernel_rfl) heldGeo
  rw [e]
  simp only [Program.fieldsOf, Try.underlying81]
  simp [Op.eqFields, go_sem, Try.underlying2]
  unfold sameGeo
  by_cases h0 : a = a'
  case neg => simp [h0]
  by_cases h1 : b = b'
  case neg => simp [h0, h1]
  by_cases h2 : c = c'
  case neg => simp [h0, h1, h2]
  by_cases h3 : d = d'
  case neg => simp [h0, h1, h2, h3]
  simp [h0, h1, h2, h3]
end Go.Proofs.Ytpcfhfnlpcpofaa
