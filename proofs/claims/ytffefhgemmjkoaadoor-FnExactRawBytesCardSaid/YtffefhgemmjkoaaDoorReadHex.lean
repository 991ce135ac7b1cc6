/- impl.ReadHex, impl.BytesOf, spec.ReadHex, spec.BytesOf -/
import Derived.Test.YtffefhgemmjkoaaDoorOfDigits
import Derived.Test.YtffefhgemmjkoaaDoorSpecIsName
namespace Go.Proofs.YtffefhgemmjkoaaDoor
open Go.RowKit
set_option maxRecDepth 20000
set_option linter.unusedVariables false
theorem ofDig_none {p : Int} {e : Nat} {f : Nat → Int} {s : ByteArray} (h : ¬ (s.size % e = 0 ∧ s.size ≤ 4096 * e)) : ofDig p e f s = none := by unfold ofDig; rw [if_neg h]
theorem ofDig_bad {p : Int} {e : Nat} {f : Nat → Int} {s : ByteArray} (h : digOk f s s.size = false) : ofDig p e f s = none := by
  unfold ofDig
  split
  · rw [h]; rfl
  · rfl
set_option maxHeartbeats 1000000 in
theorem ofDigits_mod (s : ByteArray) (b e : Int) (hbe : (b = 1 ∧ e = 8) ∨ (b = 4 ∧ e = 2)) (h : ¬ (s.size : Int) % e = 0) (w : World) :
    Calls Tryd.prog 95 #[.string s, .int .i64 b] w fun e w' => e = .returned (ofDigText none) ∧ Below w.heap.size w w' := by
  rcases hbe with ⟨rfl, rfl⟩ | ⟨rfl, rfl⟩
  all_goals
    go_enter Tryd.func95, Tryd.ntmps95
    go_wp2
    go_ret2
    exact ⟨rfl, Below.refl _ _⟩
set_option maxHeartbeats 1000000 in
theorem ofDigits_big (s : ByteArray) (b e l : Int) (hbe : (b = 1 ∧ e = 8 ∧ l = 32768) ∨ (b = 4 ∧ e = 2 ∧ l = 8192)) (h : (s.size : Int) % e = 0) (h2 : l < (s.size : Int)) (w : World) :
    Calls Tryd.prog 95 #[.string s, .int .i64 b] w fun e w' => e = .returned (ofDigText none) ∧ Below w.heap.size w w' := by
  rcases hbe with ⟨rfl, rfl, rfl⟩ | ⟨rfl, rfl, rfl⟩
  all_goals
    go_enter Tryd.func95, Tryd.ntmps95
    go_wp2
    go_ret2
    exact ⟨rfl, Below.refl _ _⟩
theorem ofDigits4_any (s : ByteArray) (w : World) :
    Calls Tryd.prog 95 #[.string s, .int .i64 4] w fun e w' => e = .returned (ofDigText (ofDig 16 2 dig4 s)) ∧ Below w.heap.size w w' := by
  by_cases h1 : s.size % 2 = 0
  · by_cases h2 : s.size ≤ 8192
    · exact ofDigits4_yes s h1 h2 w
    · rw [ofDig_none (by omega)]; exact ofDigits_big s 4 2 8192 (by simp) (by omega) (by omega) w
  · rw [ofDig_none (by omega)]; exact ofDigits_mod s 4 2 (by simp) (by omega) w
theorem ofDigits1_any (s : ByteArray) (w : World) :
    Calls Tryd.prog 95 #[.string s, .int .i64 1] w fun e w' => e = .returned (ofDigText (ofDig 2 8 dig1 s)) ∧ Below w.heap.size w w' := by
  by_cases h1 : s.size % 8 = 0
  · by_cases h2 : s.size ≤ 32768
    · exact ofDigits1_yes s h1 h2 w
    · rw [ofDig_none (by omega)]; exact ofDigits_big s 1 8 32768 (by simp) (by omega) (by omega) w
  · rw [ofDig_none (by omega)]; exact ofDigits_mod s 1 8 (by simp) (by omega) w
theorem ofDigText_parts (r : Option (List UInt8)) : ∃ t b, ofDigText r = .tuple #[.string t, .bool b] := ⟨_, _, rfl⟩
set_option maxHeartbeats 400000 in
theorem readHex_any (s : ByteArray) (w : World) :
    Calls Tryd.prog 51 #[.string s] w fun e w' => e = .returned (ofDigText (ofDig 16 2 dig4 s)) ∧ Below w.heap.size w w' := by
  have hc := fun w => ofDigits4_any s w
  obtain ⟨t, b, ht⟩ := ofDigText_parts (ofDig 16 2 dig4 s)
  rw [ht] at hc ⊢
  have HC := Lib.hid hc; clear hc ht
  go_enter Tryd.func51, Tryd.ntmps51
  go_wp2_with (go_at_call 95; refine (HC.out _).mono ?_; rintro e w1 ⟨rfl, hb⟩)
  go_ret2
  exact ⟨rfl, hb⟩
set_option maxHeartbeats 400000 in
theorem bytesOf_any (s : ByteArray) (w : World) :
    Calls Tryd.prog 114 #[.string s] w fun e w' => e = .returned (ofDigText (ofDig 2 8 dig1 s)) ∧ Below w.heap.size w w' := by
  have hc := fun w => ofDigits1_any s w
  obtain ⟨t, b, ht⟩ := ofDigText_parts (ofDig 2 8 dig1 s)
  rw [ht] at hc ⊢
  have HC := Lib.hid hc; clear hc ht
  go_enter Tryd.func114, Tryd.ntmps114
  go_wp2_with (go_at_call 95; refine (HC.out _).mono ?_; rintro e w1 ⟨rfl, hb⟩)
  go_ret2
  exact ⟨rfl, hb⟩
end Go.Proofs.YtffefhgemmjkoaaDoor
