/- The group code's table; impl.groupText, impl.GcrCode, spec.l06Codes, spec.GcrCode -/
import Derived.Test.YtffefhgemmjkoaaDoorSpecDigits
import Derived.Test.YtffefhgemmjkoaaDoorRowB
import Derived.Test.YtffefhgemmjkoaaDoorWithin
namespace Go.Proofs.YtffefhgemmjkoaaDoor
open Go.RowKit
set_option maxRecDepth 20000
set_option linter.unusedVariables false
/-- The groups of the numbers 0 to 15. -/
def gcrL : List Nat := [10, 11, 18, 19, 14, 15, 22, 23, 9, 25, 26, 27, 13, 29, 30, 21]
def gcrN (k : Nat) : Nat := gcrL[k]?.getD 0
/-- The cells of a group. -/
def grpT (x : Nat) : List UInt8 := (digs1 x.toUInt8).drop 3
def grpS (x : Nat) : ByteArray := ⟨(grpT x).toArray⟩
theorem grpT_len (x : Nat) : (grpT x).length = 5 := rfl
def codeRow : Array Value := (gcrL.map fun (x : Nat) => Value.int .u8 (x : Int)).toArray
/-- The table's block. -/
def GrpTab (w : World) : Prop := ∃ T fr, w.heap[0]? = some (.cells codeRow T fr)
theorem codeRow_at (k : Nat) (h : k < 16) : codeRow[k]? = some (.int .u8 (gcrN k : Int)) := by
  have hl : k < gcrL.length := h
  unfold codeRow gcrN
  simp only [List.getElem?_toArray, List.getElem?_map, List.getElem?_eq_getElem hl, Option.map_some]
  rfl
theorem GrpTab.cell {w : World} (h : GrpTab w) (k : Nat) (hk : k < 16) : w.cell? ⟨0, k, none⟩ = some (.int .u8 (gcrN k : Int)) := by
  obtain ⟨T, fr, hc⟩ := h
  simp only [World.cell?, hc]
  exact codeRow_at k hk
theorem GrpTab.below {w w' : World} {n : Nat} (h : GrpTab w) (hb : Below n w w') (hn : 0 < n) : GrpTab w' := by
  obtain ⟨T, fr, hc⟩ := h
  exact ⟨T, fr, by rw [hb.block _ hn]; exact hc⟩
theorem gcrN_bd : ∀ k, k < 16 → gcrN k < 32 := by decide
theorem grp_cut : ∀ x, x < 32 → (bitsOfS ⟨#[x.toUInt8]⟩).extract 3 8 = grpS x ∧ (bitsOfS ⟨#[x.toUInt8]⟩).size = 8 := by decide +kernel
def gcrCodeV (n : Int) : ByteArray := if inB 0 15 n = true then grpS (gcrN n.toNat) else ⟨#[]⟩
def codesL : List ByteArray := [⟨#[48, 49, 48, 49, 48]⟩, ⟨#[48, 49, 48, 49, 49]⟩, ⟨#[49, 48, 48, 49, 48]⟩, ⟨#[49, 48, 48, 49, 49]⟩, ⟨#[48, 49, 49, 49, 48]⟩, ⟨#[48, 49, 49, 49, 49]⟩, ⟨#[49, 48, 49, 49, 48]⟩, ⟨#[49, 48, 49, 49, 49]⟩, ⟨#[48, 49, 48, 48, 49]⟩, ⟨#[49, 49, 48, 48, 49]⟩, ⟨#[49, 49, 48, 49, 48]⟩, ⟨#[49, 49, 48, 49, 49]⟩, ⟨#[48, 49, 49, 48, 49]⟩, ⟨#[49, 49, 49, 48, 49]⟩, ⟨#[49, 49, 49, 49, 48]⟩, ⟨#[49, 48, 49, 48, 49]⟩]
theorem codes_eq : codesL = gcrL.map grpS := by decide +kernel
theorem codes_at : ∀ k, k < 16 → codesL[k]? = some (grpS (gcrN k)) := by decide +kernel
def codesV : Array Value := (codesL.map Value.string).toArray
set_option maxHeartbeats 1000000 in
theorem groupText_any (x : Nat) (hx : x < 32) (w : World) :
    Calls Tryd.prog 55 #[.int .u8 (x : Int)] w fun e w' => e = .returned (.string (grpS x)) ∧ Below w.heap.size w w' := by
  have hcv := conv_new1 w (x : Int) (by omega) (by omega)
  have hb := fun w => bitsOf_any ⟨#[x.toUInt8]⟩ w (by show 1 ≤ 1048576; omega)
  obtain ⟨g1, g2⟩ := grp_cut x hx
  have e8 : ((x : Int)).toNat.toUInt8 = x.toUInt8 := by rw [Int.toNat_natCast]
  rw [e8] at hcv
  obtain ⟨b, hbb⟩ : ∃ b, bitsOfS ⟨#[x.toUInt8]⟩ = b := ⟨_, rfl⟩
  rw [hbb] at hb g1 g2
  have HB := Lib.hid hb; have HG := Lib.hid g1; clear hb hbb e8 g1
  go_enter Tryd.func55, Tryd.ntmps55
  go_wp2_with (go_at_call 101; refine (HB.out _).mono ?_; rintro e w2 ⟨rfl, hb2⟩)
  go_ret
  exact ⟨by rw [← HG.out]; rfl, Below.trans (show Below w.heap.size w _ from (Below.refl _ _).alloc (Nat.le_refl _) _) (hb2.mono (by simp))⟩
set_option maxHeartbeats 1000000 in
theorem l06Codes_any (w : World) :
    Calls Tryd.prog 93 #[] w fun e w' => e = .returned (.slice (some ⟨w.heap.size, 0, none⟩) 16 16) ∧ w' = w.alloc (.cells codesV 9) := by
  go_enter Tryd.func93, Tryd.ntmps93
  go_wp2
  go_ret
  exact ⟨rfl, rfl⟩
theorem codes_cell (w : World) (k : Nat) (hk : k < 16) : (w.alloc (.cells codesV 9)).cell? ⟨w.heap.size, k, none⟩ = some (.string (grpS (gcrN k))) := by
  have h := heap_alloc_new w (.cells codesV 9)
  simp only [World.cell?, h]
  have := codes_at k hk
  simp [codesV, this]
set_option maxHeartbeats 1000000 in
theorem specGcrCode_any (n : Int) (w : World) :
    Calls Tryd.prog 117 #[.int .i64 n] w fun e w' => e = .returned (.string (gcrCodeV n)) ∧ Below w.heap.size w w' := by
  by_cases hc : inB 0 15 n = true
  · obtain ⟨h0, h1⟩ := inB_iff.1 hc
    obtain ⟨k, rfl⟩ : ∃ k : Nat, n = k := ⟨n.toNat, by omega⟩
    have he : gcrCodeV k = grpS (gcrN k) := by unfold gcrCodeV; rw [if_pos hc]; rfl
    have hk : k < 16 := by omega
    have hx := codes_cell w k hk
    rw [he]
    generalize grpS (gcrN k) = x at *
    have hk16 : (k : Int) < 16 := by omega
    clear he
    go_enter Tryd.func117, Tryd.ntmps117
    go_wp2_with (first | (go_at_call 31; refine (l00In_any _ _ _ _).mono ?_; rintro e w1 ⟨rfl, rfl⟩) | (go_at_call 93; refine (l06Codes_any _).mono ?_; rintro e w2 ⟨rfl, rfl⟩))
    go_ret
    exact ⟨rfl, by go_grown⟩
  · have he : gcrCodeV n = ⟨#[]⟩ := by unfold gcrCodeV; rw [if_neg hc]
    have hf : inB 0 15 n = false := by simpa using hc
    rw [he]
    go_enter Tryd.func117, Tryd.ntmps117
    go_wp2_with (go_at_call 31; refine (l00In_any _ _ _ _).mono ?_; rintro e w1 ⟨rfl, rfl⟩)
    go_ret
    exact ⟨rfl, by go_grown⟩
end Go.Proofs.YtffefhgemmjkoaaDoor
