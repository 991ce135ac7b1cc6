/- impl.PutSector, spec.PutSector -/
import Derived.Test.YtnfcalegnijobaaDiscOwn
import Derived.Test.YtnfcalegnijobaaBoxF
import Derived.Deep.RegionHeld3
import Derived.BigRegion
namespace Go.Proofs.Ytnfcalegnijobaa
open Go.RowKit
set_option linter.unusedVariables false
set_option linter.unusedSimpArgs false
set_option maxRecDepth 20000
/-- A disc of the call's own, and a code. -/
def DiscRes (r : DiscV) (code : Int) (w : World) (e : Ending) (w' : World) : Prop :=
  ∃ a cap, e = .returned (.tuple #[.agg #[.int .i64 r.f0, .int .i64 r.f1, .int .i64 r.f2, .int .i64 r.f3, .slice a r.f4.length cap], .int .i64 code]) ∧ SlSO rowSector 148 w' w.heap.size a r.f4 ∧ Below w.heap.size w w'
def noDisc : DiscV := ⟨0, 0, 0, 0, []⟩
def putC (x : DiscV) (i : Int) (s : SectorV) : Int := if discB x = true then (if secOkB (secN x.f3).toNat s = true then (if inB 0 ((x.f4.length : Int) - 1) i = true then 0 else 2) else 1) else 1
def putV (x : DiscV) (i : Int) (s : SectorV) : DiscV := if discB x = true then (if secOkB (secN x.f3).toNat s = true then (if inB 0 ((x.f4.length : Int) - 1) i = true then ⟨x.f0, x.f1, x.f2, x.f3, x.f4.set i.toNat s⟩ else noDisc) else noDisc) else noDisc
theorem putV_len (x : DiscV) (i : Int) (s : SectorV) : (putV x i s).f4.length ≤ 1048576 := by
  unfold putV
  split
  · rename_i h
    have := discB_len h
    split
    · split
      · simp; omega
      · simp [noDisc]
    · simp [noDisc]
  · simp [noDisc]
theorem one_at (w : World) (s : SectorV) (T : TypeId) : SlS rowSector (w.alloc (.cells #[.string s.f0, .int .i64 s.f1] T)) (some ⟨w.heap.size, 0, none⟩) [s] := by
  refine .inr ⟨w.heap.size, 0, rfl, by simp, fun i v hv => ?_⟩
  match i, hv with
  | 0, hv => simp [rowSector] at hv; subst hv; simp [go_sem]
  | 1, hv => simp [rowSector] at hv; subst hv; simp [go_sem]
  | n + 2, hv => simp [rowSector] at hv
end Go.Proofs.Ytnfcalegnijobaa
