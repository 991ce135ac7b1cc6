/- The struct ChainLayout and slices of it: laws.szChainLayoutS, laws.toChainLayout, laws.toChainLayoutS, laws.eqChainLayout, laws.eqChainLayoutS, laws.markChainLayoutS, laws.heldChainLayoutS -/
import Derived.Test.YthcbekfgkbhpeaaDoorPkFreeChainsB
namespace Go.Proofs.YthcbekfgkbhpeaaDoor
open Go.RowKit Go.ChangeShapes Go.WideShapes Go.ChangeAt Go.Joins Go.Deep
set_option linter.unusedVariables false
set_option linter.unusedSimpArgs false
set_option maxRecDepth 20000
structure ChainLayoutV where
  f0 : Int
  f1 : Int
  f2 : Int
  f3 : Int
  f4 : Int
def rowChainLayout (e : ChainLayoutV) : List Value := [.int .i64 e.f0, .int .i64 e.f1, .int .i64 e.f2, .int .i64 e.f3, .int .i64 e.f4]
def zeroChainLayout : List Value := [.int .i64 0, .int .i64 0, .int .i64 0, .int .i64 0, .int .i64 0]
theorem rowChainLayout_len (e : ChainLayoutV) : (rowChainLayout e).length = 5 := rfl
theorem infoChainLayout : (Tryd.prog.info? 25).map (fun i => (i.zero, i.size, i.bytes)) = some (some (.agg zeroChainLayout.toArray), 5, 40) := by kernel_rfl
def wtChainLayout (es : List ChainLayoutV) : Nat := es.length
theorem wtChainLayout_len (es : List ChainLayoutV) : es.length ≤ wtChainLayout es := Nat.le_refl _
def sameChainLayout (x y : ChainLayoutV) : Bool := (x.f0 == y.f0) && (x.f1 == y.f1) && (x.f2 == y.f2) && (x.f3 == y.f3) && (x.f4 == y.f4)
theorem sameChainLayout_iff {x y : ChainLayoutV} : sameChainLayout x y = true ↔ x = y := by
  cases x; cases y
  simp [sameChainLayout, and_assoc]
set_option maxHeartbeats 4000000 in
theorem eqChainLayout_any (x y : ChainLayoutV) (w : World) :
    Calls Tryd.prog 13 #[.agg #[.int .i64 x.f0, .int .i64 x.f1, .int .i64 x.f2, .int .i64 x.f3, .int .i64 x.f4], .agg #[.int .i64 y.f0, .int .i64 y.f1, .int .i64 y.f2, .int .i64 y.f3, .int .i64 y.f4]] w fun e w' => e = .returned (.bool (sameChainLayout x y)) ∧ Below w.heap.size w w' := by
  obtain ⟨x0, x1, x2, x3, x4⟩ := x
  obtain ⟨y0, y1, y2, y3, y4⟩ := y
  dsimp only
  by_cases h0 : x0 = y0
  case neg =>
    have hb0 : (x0 != y0) = true := by simp [h0]
    have HE := Lib.hid (show sameChainLayout ⟨x0, x1, x2, x3, x4⟩ ⟨y0, y1, y2, y3, y4⟩ = false by simp [sameChainLayout, h0])
    clear h0
    go_enter Tryd.func13, Tryd.ntmps13
    go_wp2
    go_ret
    exact ⟨ret_bool HE.out.symm, by go_grown⟩
  subst h0
  by_cases h1 : x1 = y1
  case neg =>
    have hb1 : (x1 != y1) = true := by simp [h1]
    have HE := Lib.hid (show sameChainLayout ⟨x0, x1, x2, x3, x4⟩ ⟨x0, y1, y2, y3, y4⟩ = false by simp [sameChainLayout, h1])
    clear h1
    go_enter Tryd.func13, Tryd.ntmps13
    go_wp2
    go_ret
    exact ⟨ret_bool HE.out.symm, by go_grown⟩
  subst h1
  by_cases h2 : x2 = y2
  case neg =>
    have hb2 : (x2 != y2) = true := by simp [h2]
    have HE := Lib.hid (show sameChainLayout ⟨x0, x1, x2, x3, x4⟩ ⟨x0, x1, y2, y3, y4⟩ = false by simp [sameChainLayout, h2])
    clear h2
    go_enter Tryd.func13, Tryd.ntmps13
    go_wp2
    go_ret
    exact ⟨ret_bool HE.out.symm, by go_grown⟩
  subst h2
  by_cases h3 : x3 = y3
  case neg =>
    have hb3 : (x3 != y3) = true := by simp [h3]
    have HE := Lib.hid (show sameChainLayout ⟨x0, x1, x2, x3, x4⟩ ⟨x0, x1, x2, y3, y4⟩ = false by simp [sameChainLayout, h3])
    clear h3
    go_enter Tryd.func13, Tryd.ntmps13
    go_wp2
    go_ret
    exact ⟨ret_bool HE.out.symm, by go_grown⟩
  subst h3
  by_cases h4 : x4 = y4
  case neg =>
    have hb4 : (x4 != y4) = true := by simp [h4]
    have HE := Lib.hid (show sameChainLayout ⟨x0, x1, x2, x3, x4⟩ ⟨x0, x1, x2, x3, y4⟩ = false by simp [sameChainLayout, h4])
    clear h4
    go_enter Tryd.func13, Tryd.ntmps13
    go_wp2
    go_ret
    exact ⟨ret_bool HE.out.symm, by go_grown⟩
  subst h4
  have HE := Lib.hid (show sameChainLayout ⟨x0, x1, x2, x3, x4⟩ ⟨x0, x1, x2, x3, x4⟩ = true by simp [sameChainLayout])
  go_enter Tryd.func13, Tryd.ntmps13
  go_wp2
  go_ret
  exact ⟨ret_bool HE.out.symm, by go_grown⟩
end Go.Proofs.YthcbekfgkbhpeaaDoor
