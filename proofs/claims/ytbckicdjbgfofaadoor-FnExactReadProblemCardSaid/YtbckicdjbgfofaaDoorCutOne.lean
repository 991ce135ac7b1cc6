/- strings.Cut at a blank. -/
import Derived.Test.YtbckicdjbgfofaaDoorRpVal
import Derived.Test.YtbckicdjbgfofaaDoorShelf
namespace Go.Proofs.YtbckicdjbgfofaaDoor
open Go.RowKit
set_option linter.unusedVariables false
set_option linter.unusedSimpArgs false
set_option maxRecDepth 20000
def cutRest (s : ByteArray) : ByteArray := ⟨(rpRest s.data.toList).toArray⟩
set_option maxHeartbeats 4000000 in
theorem liteCut_any (s : ByteArray) (hs : s.size ≤ 1048576) (w : World) :
    Calls Tryd.prog 16 #[.string s, .string ⟨#[32]⟩] w fun e w' => (∃ t b, e = .returned (.tuple #[.string t, .string (cutRest s), .bool b])) ∧ Below w.heap.size w w' := by
  have IX := Lib.hid (fun w => Tryd.stringslite_Index_one s 32 w)
  have hl : s.data.toList.length = s.size := by simp
  rcases rp_cases s.data.toList with ⟨h1, h2⟩ | ⟨i, h0, h1, h2⟩
  · have HC := Lib.hid (show cutRest s = ⟨#[]⟩ by unfold cutRest; rw [h2])
    rw [h1] at IX
    clear h1 h2
    go_enter Tryd.func16, Tryd.ntmps16
    go_wp2_with (go_at_call 19; refine (IX.out _).mono ?_; rintro e w1 ⟨rfl, rfl⟩)
    go_ret3
    exact ⟨⟨_, _, by rw [HC.out]; rfl⟩, Below.refl _ _⟩
  · have HC := Lib.hid (show cutRest s = s.extract (i + 1) s.size by
      unfold cutRest
      rw [h2]
      apply ByteArray.ext
      apply Array.toList_inj.1
      rw [ByteArray.data_extract, Array.toList_extract]
      show _ = List.take (s.size - (i + 1)) (List.drop (i + 1) s.data.toList)
      rw [List.take_of_length_le (by rw [List.length_drop]; omega)])
    rw [h1] at IX
    have hi : i < s.size := by omega
    have e1 : (i : Int) + 1 ≤ (s.size : Int) := by omega
    have e2 : (i : Int) ≤ (s.size : Int) := by omega
    clear h0 h1 h2
    go_enter Tryd.func16, Tryd.ntmps16
    go_wp2_with (go_at_call 19; refine (IX.out _).mono ?_; rintro e w1 ⟨rfl, rfl⟩)
    go_region
    go_wp2
    go_ret3
    exact ⟨⟨_, _, by rw [HC.out]; rfl⟩, by first | exact Below.refl _ _ | exact (Below.refl _ _).drew⟩
set_option maxHeartbeats 1000000 in
theorem cutBlank_any (s : ByteArray) (hs : s.size ≤ 1048576) (w : World) :
    Calls Tryd.prog 11 #[.string s, .string ⟨#[32]⟩] w fun e w' => (∃ t b, e = .returned (.tuple #[.string t, .string (cutRest s), .bool b])) ∧ Below w.heap.size w w' := by
  have LC := Lib.hid (liteCut_any s hs w)
  go_enter Tryd.func11, Tryd.ntmps11
  go_wp2_with (go_at_call 16; refine LC.out.mono ?_; rintro e w1 ⟨⟨t, b, rfl⟩, hb1⟩)
  go_ret3
  exact ⟨⟨_, _, rfl⟩, hb1⟩
end Go.Proofs.YtbckicdjbgfofaaDoor
