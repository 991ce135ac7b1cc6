/- The struct ExtentLayout and slices of it: laws.szExtentLayoutS, laws.toExtentLayout, laws.toExtentLayoutS, laws.eqExtentLayout, laws.eqExtentLayoutS, laws.markExtentLayoutS, laws.heldExtentLayoutS -/
import Derived.Test.YtommbiddbgageaaPkFormatExtentsB
namespace Go.Proofs.Ytommbiddbgageaa
open Go.RowKit Go.ChangeShapes Go.WideShapes Go.ChangeAt Go.Joins Go.Deep
set_option linter.unusedVariables false
set_option linter.unusedSimpArgs false
structure ExtentLayoutV where
  f0 : Int
  f1 : Int
  f2 : Int
  f3 : Int
def rowExtentLayout (e : ExtentLayoutV) : List Value := [.int .i64 e.f0, .int .i64 e.f1, .int .i64 e.f2, .int .i64 e.f3]
def zeroExtentLayout : List Value := [.int .i64 0, .int .i64 0, .int .i64 0, .int .i64 0]
theorem rowExtentLayout_len (e : ExtentLayoutV) : (rowExtentLayout e).length = 4 := rfl
theorem infoExtentLayout : (Try.prog.info? 25).map (fun i => (i.zero, i.size, i.bytes)) = some (some (.agg zeroExtentLayout.toArray), 4, 32) := by kernel_rfl
def wtExtentLayout (es : List ExtentLayoutV) : Nat := es.length
theorem wtExtentLayout_len (es : List ExtentLayoutV) : es.length ≤ wtExtentLayout es := Nat.le_refl _
def sameExtentLayout (x y : ExtentLayoutV) : Bool := (x.f0 == y.f0) && (x.f1 == y.f1) && (x.f2 == y.f2) && (x.f3 == y.f3)
theorem sameExtentLayout_iff {x y : ExtentLayoutV} : sameExtentLayout x y = true ↔ x = y := by
  cases x; cases y
  simp [sameExtentLayout, and_assoc]
set_option maxHeartbeats 4000000 in
theorem eqExtentLayout_any (x y : ExtentLayoutV) (w : World) :
    Calls Try.prog 10 #[.agg #[.int .i64 x.f0, .int .i64 x.f1, .int .i64 x.f2, .int .i64 x.f3], .agg #[.int .i64 y.f0, .int .i64 y.f1, .int .i64 y.f2, .int .i64 y.f3]] w fun e w' => e = .returned (.bool (sameExtentLayout x y)) ∧ Below w.heap.size w w' := by
  obtain ⟨x0, x1, x2, x3⟩ := x
  obtain ⟨y0, y1, y2, y3⟩ := y
  dsimp only
  by_cases h0 : x0 = y0
  case neg =>
    have hb0 : (x0 != y0) = true := by simp [h0]
    have HE := Lib.hid (show sameExtentLayout ⟨x0, x1, x2, x3⟩ ⟨y0, y1, y2, y3⟩ = false by simp [sameExtentLayout, h0])
    clear h0
    go_enter Try.func10, Try.ntmps10
    go_wp2
    go_ret
    exact ⟨ret_bool HE.out.symm, by go_grown⟩
  subst h0
  by_cases h1 : x1 = y1
  case neg =>
    have hb1 : (x1 != y1) = true := by simp [h1]
    have HE := Lib.hid (show sameExtentLayout ⟨x0, x1, x2, x3⟩ ⟨x0, y1, y2, y3⟩ = false by simp [sameExtentLayout, h1])
    clear h1
    go_enter Try.func10, Try.ntmps10
    go_wp2
    go_ret
    exact ⟨ret_bool HE.out.symm, by go_grown⟩
  subst h1
  by_cases h2 : x2 = y2
  case neg =>
    have hb2 : (x2 != y2) = true := by simp [h2]
    have HE := Lib.hid (show sameExtentLayout ⟨x0, x1, x2, x3⟩ ⟨x0, x1, y2, y3⟩ = false by simp [sameExtentLayout, h2])
    clear h2
    go_enter Try.func10, Try.ntmps10
    go_wp2
    go_ret
    exact ⟨ret_bool HE.out.symm, by go_grown⟩
  subst h2
  by_cases h3 : x3 = y3
  case neg =>
    have hb3 : (x3 != y3) = true := by simp [h3]
    have HE := Lib.hid (show sameExtentLayout ⟨x0, x1, x2, x3⟩ ⟨x0, x1, x2, y3⟩ = false by simp [sameExtentLayout, h3])
    clear h3
    go_enter Try.func10, Try.ntmps10
    go_wp2
    go_ret
    exact ⟨ret_bool HE.out.symm, by go_grown⟩
  subst h3
  have HE := Lib.hid (show sameExtentLayout ⟨x0, x1, x2, x3⟩ ⟨x0, x1, x2, x3⟩ = true by simp [sameExtentLayout])
  go_enter Try.func10, Try.ntmps10
  go_wp2
  go_ret
  exact ⟨ret_bool HE.out.symm, by go_grown⟩
end Go.Proofs.Ytommbiddbgageaa
