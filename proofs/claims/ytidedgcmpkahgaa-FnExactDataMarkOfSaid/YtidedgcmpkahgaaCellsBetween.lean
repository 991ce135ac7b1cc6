/- impl.CellsBetween, spec.CellsBetween -/
import Derived.Test.YtidedgcmpkahgaaSliceCells
namespace Go.Proofs.Ytidedgcmpkahgaa
open Go.RowKit
set_option linter.unusedVariables false
def betB (t f o : Int) : Bool := inB 1 8000 t && (inB 0 (t - 1) f && inB 0 (t - 1) o)
def betV (t f o : Int) : Int := if betB t f o = true then (o - f + t) % t else 0
set_option maxHeartbeats 1000000 in
theorem cellsBetween_any (t f o : Int) (w : World) :
    Calls Try.prog 59 #[.int .i64 t, .int .i64 f, .int .i64 o] w fun e w' => e = .returned (.int .i64 (betV t f o)) ∧ Below w.heap.size w w' := by
  have HT := Lib.hid (fun w b hb => within_b 1 8000 t w 2 b hb)
  by_cases ht : inB 1 8000 t = true
  · obtain ⟨t0, t1⟩ := inB_iff.1 ht
    rw [ht] at HT
    have HF := Lib.hid (fun w => isPlace_any f t w (by omega) (by omega))
    have HO := Lib.hid (fun w => isPlace_any o t w (by omega) (by omega))
    by_cases hf : inB 0 (t - 1) f = true
    · obtain ⟨f0, f1⟩ := inB_iff.1 hf
      rw [hf] at HF
      by_cases ho : inB 0 (t - 1) o = true
      · obtain ⟨o0, o1⟩ := inB_iff.1 ho
        rw [ho] at HO
        have hV : betV t f o = (o - f + t) % t := by unfold betV; rw [if_pos (by unfold betB; rw [ht, hf, ho]; rfl)]
        rw [hV]
        have hz : ¬ t = 0 := by omega
        have b1 := Int.emod_nonneg (o - f + t) hz
        have b2 := Int.emod_lt_of_pos (o - f + t) (b := t) (by omega)
        clear ht hf ho hV
        go_enter Try.func59, Try.ntmps59
        go_wp2_with (first | (go_at_call 41; refine (HT.out _ _ (by simp)).mono ?_; rintro e w1 ⟨rfl, hb1⟩) | (go_at_call 58; first | ((with_reducible refine (HF.out _).mono ?_); rintro e w2 ⟨rfl, hb2⟩) | ((with_reducible refine (HO.out _).mono ?_); rintro e w3 ⟨rfl, hb3⟩)))
        go_ret
        exact ⟨rfl, (hb1.trans (hb2.mono hb1.size)).trans (hb3.mono (Nat.le_trans hb1.size hb2.size))⟩
      · have ho0 : inB 0 (t - 1) o = false := by simpa using ho
        have hV : betV t f o = 0 := by unfold betV; rw [if_neg (by unfold betB; rw [ho0]; simp)]
        rw [hV]
        rw [ho0] at HO
        clear ht hf ho ho0 hV
        go_enter Try.func59, Try.ntmps59
        go_wp2_with (first | (go_at_call 41; refine (HT.out _ _ (by simp)).mono ?_; rintro e w1 ⟨rfl, hb1⟩) | (go_at_call 58; first | ((with_reducible refine (HF.out _).mono ?_); rintro e w2 ⟨rfl, hb2⟩) | ((with_reducible refine (HO.out _).mono ?_); rintro e w3 ⟨rfl, hb3⟩)))
        go_ret
        exact ⟨rfl, (hb1.trans (hb2.mono hb1.size)).trans (hb3.mono (Nat.le_trans hb1.size hb2.size))⟩
    · have hf0 : inB 0 (t - 1) f = false := by simpa using hf
      have hV : betV t f o = 0 := by unfold betV; rw [if_neg (by unfold betB; rw [hf0]; simp)]
      rw [hV]
      rw [hf0] at HF
      clear ht hf hf0 hV HO
      go_enter Try.func59, Try.ntmps59
      go_wp2_with (first | (go_at_call 41; refine (HT.out _ _ (by simp)).mono ?_; rintro e w1 ⟨rfl, hb1⟩) | (go_at_call 58; with_reducible refine (HF.out _).mono ?_; rintro e w2 ⟨rfl, hb2⟩))
      go_ret
      exact ⟨rfl, hb1.trans (hb2.mono hb1.size)⟩
  · have ht0 : inB 1 8000 t = false := by simpa using ht
    have hV : betV t f o = 0 := by unfold betV; rw [if_neg (by unfold betB; rw [ht0]; simp)]
    rw [hV]
    rw [ht0] at HT
    clear ht ht0 hV
    go_enter Try.func59, Try.ntmps59
    go_wp2_with (first | (go_at_call 41; refine (HT.out _ _ (by simp)).mono ?_; rintro e w1 ⟨rfl, hb1⟩))
    go_ret
    exact ⟨rfl, hb1⟩
set_option maxHeartbeats 1000000 in
theorem specCellsBetween_any (t f o : Int) (w : World) :
    Calls Try.prog 56 #[.int .i64 t, .int .i64 f, .int .i64 o] w fun e w' => e = .returned (.int .i64 (betV t f o)) ∧ Below w.heap.size w w' := by
  have HT := Lib.hid (fun w => l00In_any t 1 8000 w)
  have HF := Lib.hid (fun w => l00In_any f 0 (t - 1) w)
  have HO := Lib.hid (fun w => l00In_any o 0 (t - 1) w)
  by_cases ht : inB 1 8000 t = true
  · obtain ⟨t0, t1⟩ := inB_iff.1 ht
    rw [ht] at HT
    by_cases hf : inB 0 (t - 1) f = true
    · obtain ⟨f0, f1⟩ := inB_iff.1 hf
      rw [hf] at HF
      by_cases ho : inB 0 (t - 1) o = true
      · obtain ⟨o0, o1⟩ := inB_iff.1 ho
        rw [ho] at HO
        have hV : betV t f o = (o - f + t) % t := by unfold betV; rw [if_pos (by unfold betB; rw [ht, hf, ho]; rfl)]
        rw [hV]
        have hz : ¬ t = 0 := by omega
        have b1 := Int.emod_nonneg (o - f + t) hz
        have b2 := Int.emod_lt_of_pos (o - f + t) (b := t) (by omega)
        clear ht hf ho hV
        go_enter Try.func56, Try.ntmps56
        go_wp2_with (go_at_call 35; first | ((with_reducible refine (HT.out _).mono ?_); rintro e w1 ⟨rfl, rfl⟩) | ((with_reducible refine (HF.out _).mono ?_); rintro e w1 ⟨rfl, rfl⟩) | ((with_reducible refine (HO.out _).mono ?_); rintro e w1 ⟨rfl, rfl⟩))
        go_ret
        exact ⟨rfl, Below.refl _ _⟩
      · have ho0 : inB 0 (t - 1) o = false := by simpa using ho
        have hV : betV t f o = 0 := by unfold betV; rw [if_neg (by unfold betB; rw [ho0]; simp)]
        rw [hV]
        rw [ho0] at HO
        clear ht hf ho ho0 hV
        go_enter Try.func56, Try.ntmps56
        go_wp2_with (go_at_call 35; first | ((with_reducible refine (HT.out _).mono ?_); rintro e w1 ⟨rfl, rfl⟩) | ((with_reducible refine (HF.out _).mono ?_); rintro e w1 ⟨rfl, rfl⟩) | ((with_reducible refine (HO.out _).mono ?_); rintro e w1 ⟨rfl, rfl⟩))
        go_ret
        exact ⟨rfl, Below.refl _ _⟩
    · have hf0 : inB 0 (t - 1) f = false := by simpa using hf
      have hV : betV t f o = 0 := by unfold betV; rw [if_neg (by unfold betB; rw [hf0]; simp)]
      rw [hV]
      rw [hf0] at HF
      clear ht hf hf0 hV HO
      go_enter Try.func56, Try.ntmps56
      go_wp2_with (go_at_call 35; first | ((with_reducible refine (HT.out _).mono ?_); rintro e w1 ⟨rfl, rfl⟩) | ((with_reducible refine (HF.out _).mono ?_); rintro e w1 ⟨rfl, rfl⟩))
      go_ret
      exact ⟨rfl, Below.refl _ _⟩
  · have ht0 : inB 1 8000 t = false := by simpa using ht
    have hV : betV t f o = 0 := by unfold betV; rw [if_neg (by unfold betB; rw [ht0]; simp)]
    rw [hV]
    rw [ht0] at HT
    clear ht ht0 hV HF HO
    go_enter Try.func56, Try.ntmps56
    go_wp2_with (go_at_call 35; with_reducible refine (HT.out _).mono ?_; rintro e w1 ⟨rfl, rfl⟩)
    go_ret
    exact ⟨rfl, Below.refl _ _⟩
end Go.Proofs.Ytidedgcmpkahgaa
