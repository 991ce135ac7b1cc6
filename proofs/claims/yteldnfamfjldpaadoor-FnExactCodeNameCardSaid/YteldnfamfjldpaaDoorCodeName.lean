/- impl.CodeName and spec.CodeName: the names of the codes. -/
import Derived.Test.YteldnfamfjldpaaDoorWithin
namespace Go.Proofs.YteldnfamfjldpaaDoor
open Go.RowKit
set_option linter.unusedVariables false
/-- The names. -/
def codeStrings : List ByteArray := [⟨#[111, 107]⟩, ⟨#[105, 110, 118, 97, 108, 105, 100]⟩, ⟨#[114, 97, 110, 103, 101]⟩, ⟨#[110, 111, 116, 45, 102, 111, 117, 110, 100]⟩, ⟨#[101, 120, 105, 115, 116, 115]⟩, ⟨#[102, 117, 108, 108]⟩, ⟨#[115, 116, 97, 116, 101]⟩, ⟨#[102, 111, 114, 109, 97, 116]⟩, ⟨#[99, 104, 101, 99, 107, 115, 117, 109]⟩, ⟨#[119, 101, 97, 107]⟩, ⟨#[100, 97, 109, 97, 103, 101, 100]⟩, ⟨#[97, 109, 98, 105, 103, 117, 111, 117, 115]⟩, ⟨#[115, 121, 110, 116, 97, 120]⟩]
def codeName (c : Int) : ByteArray := if inB 0 12 c = true then (codeStrings[c.toNat]?).getD ByteArray.empty else ByteArray.empty
/-- The table's cells. -/
def CodeTab (w : World) : Prop := ∀ (k : Nat) s, codeStrings[k]? = some s → w.cell? ⟨0, k, none⟩ = some (.string s)
theorem CodeTab.below {w w' : World} {n : Nat} (h : CodeTab w) (hb : Below n w w') (hn : 0 < n) : CodeTab w' := fun k s hs => by
  rw [hb.cell (p := ⟨0, k, none⟩) hn]
  exact h k s hs
set_option maxHeartbeats 400000 in
theorem codeName_any (c : Int) (w : World) (hw : 0 < w.heap.size) (h : CodeTab w) :
    Calls Tryd.prog 18 #[.int .i64 c] w fun e w' => e = .returned (.string (codeName c)) ∧ Below w.heap.size w w' := by
  by_cases hc : inB 0 12 c = true
  · obtain ⟨h0, h1⟩ := inB_iff.1 hc
    obtain ⟨k, rfl⟩ : ∃ k : Nat, c = k := ⟨c.toNat, by omega⟩
    obtain ⟨s, hs⟩ : ∃ s, codeStrings[k]? = some s := ⟨_, List.getElem?_eq_getElem (show k < codeStrings.length by simp [codeStrings]; omega)⟩
    have he : codeName k = s := by unfold codeName; rw [if_pos hc]; simp [hs]
    have hx := (h.below (Below.alloc (Below.refl _ w) (Nat.le_refl _) (.cells #[.int .i64 (k : Int)] 2)) hw) k s hs
    go_enter Tryd.func18, Tryd.ntmps18
    go_wp2_with fail
    refine (within_at _ _ _ _ _ _ (by simp)).mono ?_
    rintro e w' ⟨rfl, rfl⟩
    rw [hc]
    have hbl := Below.alloc (Below.refl _ w) (Nat.le_refl _) (.cells #[.int .i64 (k : Int)] 2)
    obtain ⟨W, hW⟩ : ∃ W, w.alloc (.cells #[.int .i64 (k : Int)] 2) = W := ⟨_, rfl⟩
    rw [hW] at hx hbl ⊢
    clear hW
    go_wp2
    go_ret
    exact ⟨by rw [he]; rfl, hbl⟩
  · have he : codeName c = ByteArray.empty := by unfold codeName; rw [if_neg hc]
    have hf : inB 0 12 c = false := by simpa using hc
    have hbl := Below.alloc (Below.refl _ w) (Nat.le_refl _) (.cells #[.int .i64 c] 2)
    go_enter Tryd.func18, Tryd.ntmps18
    go_wp2_with fail
    refine (within_at _ _ _ _ _ _ (by simp)).mono ?_
    rintro e w' ⟨rfl, rfl⟩
    rw [hf]
    obtain ⟨W, hW⟩ : ∃ W, w.alloc (.cells #[.int .i64 c] 2) = W := ⟨_, rfl⟩
    rw [hW] at hbl ⊢
    clear hW
    go_wp2
    go_ret
    exact ⟨by rw [he]; rfl, hbl⟩
set_option maxHeartbeats 4000000 in
theorem specCodeName_any (c : Int) (w : World) :
    Calls Tryd.prog 17 #[.int .i64 c] w fun e w' => e = .returned (.string (codeName c)) ∧ Below w.heap.size w w' := by
  by_cases hc : inB 0 12 c = true
  · obtain ⟨h0, h1⟩ := inB_iff.1 hc
    obtain rfl | rfl | rfl | rfl | rfl | rfl | rfl | rfl | rfl | rfl | rfl | rfl | rfl : c = 0 ∨ c = 1 ∨ c = 2 ∨ c = 3 ∨ c = 4 ∨ c = 5 ∨ c = 6 ∨ c = 7 ∨ c = 8 ∨ c = 9 ∨ c = 10 ∨ c = 11 ∨ c = 12 := by omega
    all_goals
      go_enter Tryd.func17, Tryd.ntmps17
      go_wp2_with fail
      refine (l00In_any _ _ _ _).mono ?_
      rintro e w' ⟨rfl, rfl⟩
      rw [hc]
      go_wp2
      go_ret
      exact ⟨rfl, by go_grown⟩
  · have he : codeName c = ByteArray.empty := by unfold codeName; rw [if_neg hc]
    have hf : inB 0 12 c = false := by simpa using hc
    go_enter Tryd.func17, Tryd.ntmps17
    go_wp2_with fail
    refine (l00In_any _ _ _ _).mono ?_
    rintro e w' ⟨rfl, rfl⟩
    rw [hf]
    go_wp2
    go_ret
    exact ⟨by rw [he]; rfl, by go_grown⟩
end Go.Proofs.YteldnfamfjldpaaDoor
