/- spec.l00Has: is a number among some? -/
import Derived.Test.YtjnabncfkogigaaPkReplaceBlockSlRes
import Derived.Test.YtjnabncfkogigaaPkReplaceBlockA
namespace Go.Proofs.Ytjnabncfkogigaa
open Go.RowKit
set_option linter.unusedVariables false
/-- Is the number among them? -/
def hasB (ys : List Int) (t : Int) : Bool := ys.contains t
theorem hasB_yes {ys : List Int} {t : Int} {k : Nat} (h : ys[k]? = some t) : hasB ys t = true := by
  unfold hasB; simpa using List.mem_of_getElem? h
theorem hasB_no {ys : List Int} {t : Int} (h : (ys.take ys.length).contains t = false) : hasB ys t = false := by
  unfold hasB; rw [List.take_length] at h; exact h
set_option maxHeartbeats 400000 in
theorem l00Has_any (a : Option Addr) (zs : List Int) (d : Nat) (t : Int) (w : World) (hl : zs.length ≤ 1048576) (h : SlA w a zs) :
    Calls Try.prog 68 #[.slice a zs.length d, .int .i64 t] w fun e w' => e = .returned (.bool (hasB zs t)) ∧ w = w' := by
  have H := Lib.hid h; clear h
  go_enter Try.func68, Try.ntmps68
  go_wp2
  go_loop [5] (fun i => ∃ k : Nat, k ≤ zs.length ∧ i = .int .i64 k ∧ Hid ((zs.take k).contains t = false)) (fun i => zs.length - (intOf i).toNat)
  case atStart => exact ⟨0, Nat.zero_le _, rfl, Lib.hid (by simp)⟩
  case round =>
    obtain ⟨k, hk, rfl, hn⟩ := hrel
    by_cases hlt : k < zs.length
    · obtain ⟨x, hx⟩ := getOf hlt
      obtain ⟨b, off, rfl, hcx⟩ := H.out.cell hx
      have HX := Lib.hid hx; clear hx
      by_cases hxt : x = t
      · subst hxt
        have HE := Lib.hid (hasB_yes HX.out)
        go_wp2
        go_ret
        exact ⟨ret_bool HE.out.symm, rfl⟩
      · have he : (x == t) = false := by simpa using hxt
        clear hxt
        go_wp2
        go_round
        case rel => exact ⟨k + 1, by omega, by go_num, Lib.hid (by rw [List.take_add_one, HX.out]; have := hn.out; simp at this he ⊢; exact ⟨this, fun h => he h.symm⟩)⟩
        case measure => simp [intOf]; omega
    · obtain rfl : k = zs.length := by omega
      clear H
      go_wp2
      go_ret
      exact ⟨ret_bool (hasB_no hn.out).symm, rfl⟩
end Go.Proofs.Ytjnabncfkogigaa
