/- The struct Device, which holds a struct: opened among the arguments; laws.szDevice, laws.toDevice, laws.eqDevice -/
import Derived.Test.YtllcbiafghhcmaaPkFnDeviceOrderNestKit
import Derived.Test.YtllcbiafghhcmaaPkFnDeviceOrderC
namespace Go.Proofs.Ytllcbiafghhcmaa
open Go.RowKit Go.ChangeShapes Go.WideShapes Go.ChangeAt Go.Joins Go.Deep
set_option linter.unusedVariables false
set_option linter.unusedSimpArgs false
set_option maxRecDepth 20000
structure DeviceV where
  f0 : DiscV
  f1 : Int
  f2 : Int
  f3 : List Int
theorem DeviceV.ext' {x y : DeviceV} (h : x.f0 = y.f0 ∧ x.f1 = y.f1 ∧ x.f2 = y.f2 ∧ x.f3 = y.f3) : x = y := by
  obtain ⟨x0, x1, x2, x3⟩ := x; obtain ⟨y0, y1, y2, y3⟩ := y
  simpa using h
theorem cellsDevice_1 : Try.prog.cellsOf 2 = 1 := by kernel_rfl
theorem cellsDevice_2 : Try.prog.cellsOf 2 = 1 := by kernel_rfl
theorem cellsDevice_3 : Try.prog.cellsOf 29 = 1 := by kernel_rfl
/-- No slice of it has more than m elements. -/
def LenDevice (m : Nat) (x : DeviceV) : Prop := x.f0.f4.length ≤ m ∧ x.f3.length ≤ m
def StrDevice (m : Nat) (x : DeviceV) : Prop := (∀ e ∈ x.f0.f4, e.f0.size ≤ m)
def SlDevice (w : World) (s0 s1 : Option Addr) (x : DeviceV) : Prop := SlS rowSector w s0 x.f0.f4 ∧ SlA w s1 x.f3
def SlIDevice (w : World) (B C : Nat) (s0 s1 : Option Addr) (x : DeviceV) : Prop := SlSI rowSector 39 w B C s0 x.f0.f4 ∧ SlI w B C s1 x.f3
def ArgDevice (W : World) (s0 s1 : Option Addr) (x : DeviceV) : Prop := LenDevice maxLen x ∧ SlDevice W s0 s1 x ∧ StrDevice maxLen x
theorem SlDevice.below {w w' : World} {B : Nat} {s0 s1 : Option Addr} {x : DeviceV} (h : SlDevice w s0 s1 x) (hb : Below B w w') (hB : w.heap.size ≤ B) : SlDevice w' s0 s1 x := ⟨(h.1).below hb hB, (h.2).below hb hB⟩
theorem SlIDevice.sl {w : World} {B C : Nat} {s0 s1 : Option Addr} {x : DeviceV} (h : SlIDevice w B C s0 s1 x) : SlDevice w s0 s1 x := ⟨(h.1).sl, (h.2).sl⟩
theorem SlIDevice.sm {lo hi : Nat} {w w' : World} {B C : Nat} {s0 s1 : Option Addr} {x : DeviceV} (h : SlIDevice w B C s0 s1 x) (hs : Sm lo hi w w') (hp : C ≤ lo ∨ hi ≤ B) : SlIDevice w' B C s0 s1 x := ⟨(h.1).sm hs hp, (h.2).sm hs hp⟩
theorem SlIDevice.mono {w : World} {B C B' C' : Nat} {s0 s1 : Option Addr} {x : DeviceV} (h : SlIDevice w B C s0 s1 x) (hB : B' ≤ B) (hC : C ≤ C') : SlIDevice w B' C' s0 s1 x := ⟨(h.1).mono hB hC, (h.2).mono hB hC⟩
theorem SlIDevice.drew {w : World} {B C : Nat} {s0 s1 : Option Addr} {x : DeviceV} (h : SlIDevice w B C s0 s1 x) : SlIDevice w.drew B C s0 s1 x := h
theorem SlIDevice.within {w : World} {B C : Nat} {s0 s1 : Option Addr} {x : DeviceV} (h : SlIDevice w B C s0 s1 x) : SlIDevice w B C s0 s1 x := h
/-- The size: of its parts, one after the other. -/
def wtDevice (x : DeviceV) : Nat := wtDisc x.f0 + x.f3.length
theorem wtDevice_len {x : DeviceV} {m : Nat} (h : wtDevice x ≤ m) : LenDevice m x := ⟨Nat.le_trans (Nat.le_trans (wtDisc_len x.f0) (by unfold wtDevice; omega)) h, Nat.le_trans (by unfold wtDevice; omega) h⟩
theorem wtDevice_str {x : DeviceV} {m : Nat} (h : wtDevice x ≤ m) : StrDevice m x := fun e he => wtSector_at (show wtSector (x.f0.f4) ≤ m from Nat.le_trans (show wtSector (x.f0.f4) ≤ wtDevice x from by have : wtDisc x.f0 = wtSector (x.f0.f4) := rfl; unfold wtDevice; omega) h) e he
def ToDevicePost (x : DeviceV) (w : World) (e : Ending) (w' : World) : Prop :=
  ∃ g0 g1, e = .returned (.agg #[.int .i64 x.f0.f0, .int .i64 x.f0.f1, .int .i64 x.f0.f2, .int .i64 x.f0.f3, .slice (some ⟨g0, 0, none⟩) x.f0.f4.length x.f0.f4.length, .int .i64 x.f1, .int .i64 x.f2, .slice (some ⟨g1, 0, none⟩) x.f3.length x.f3.length]) ∧ SlIDevice w' w.heap.size w'.heap.size (some ⟨g0, 0, none⟩) (some ⟨g1, 0, none⟩) x ∧ Below w.heap.size w w'
end Go.Proofs.Ytllcbiafghhcmaa
