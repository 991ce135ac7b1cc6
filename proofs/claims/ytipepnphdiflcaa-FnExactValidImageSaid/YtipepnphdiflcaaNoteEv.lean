/- impl.every over notes -/
import Derived.Test.YtipepnphdiflcaaNoteIm
import Derived.Test.YtipepnphdiflcaaRecString
namespace Go.Proofs.Ytipepnphdiflcaa
open Go.RowKit Go.ChangeShapes Go.WideShapes Go.ChangeAt Go.Joins Go.Deep
set_option linter.unusedVariables false
set_option linter.unusedSimpArgs false
set_option maxRecDepth 20000
def noteE (e : StringV) : Bool := noteB e.f0
theorem noteE_any (e : StringV) (w : World) (hs : e.f0.size ≤ maxLen) :
    Calls Try.prog 108 #[.string e.f0] w fun x w' => x = .returned (.bool (noteE e)) ∧ Below w.heap.size w w' := isNote_any e.f0 w hs
set_option maxHeartbeats 2000000 in
theorem everyNote_any (a : Option Addr) (es : List StringV) (c : Nat) (w : World) (hm : es.length ≤ 1048576) (hs : ∀ e ∈ es, e.f0.size ≤ maxLen) (h : SlS rowString w a es) :
    Calls Try.prog 105 #[.slice a es.length c, .func (.func 108) #[] #[]] w fun x w' => x = .returned (.bool (es.all noteE)) ∧ Below w.heap.size w w' := by
  go_enter Try.func105, Try.ntmps105
  go_wp2
  go_loopw [9] (fun i wr => ∃ (k : Nat), k ≤ es.length ∧ i = .int .i64 k ∧ Hid ((es.take k).all noteE = true) ∧ Below w.heap.size w wr) (fun i _ => es.length - (intOf i).toNat)
  case atStart => exact ⟨0, Nat.zero_le _, rfl, by unfold Hid; rfl, Below.refl _ _⟩
  case round =>
    obtain ⟨k, hk, rfl, hR, hb⟩ := hrel
    by_cases hlt2 : k < es.length
    · obtain ⟨e, hx⟩ : ∃ e, es[k]? = some e := ⟨es[k], by simp [hlt2]⟩
      obtain ⟨b, off, rfl, hbl, hc⟩ := (h.below hb (Nat.le_refl _)).at rowString_len hx
      have c0 : wr.cell? ⟨b, off + k, none⟩ = some (.string e.f0) := by have := hc 0 _ rfl; simpa [rowString] using this
      have CL := Lib.hid (fun w => noteE_any e w (hs e (List.mem_of_getElem? hx)))
      have H := Lib.hid (And.intro h (And.intro hc (And.intro hx trivial))); clear h hc hx
      obtain ⟨q, hq⟩ : ∃ q, noteE e = q := ⟨_, rfl⟩
      rw [hq] at CL
      have HQ := Lib.hid hq; clear hq
      cases q with
      | false =>
        have HR := Lib.hid (show es.all noteE = false from List.all_eq_false.2 ⟨e, List.mem_of_getElem? H.out.2.2.1, by rw [HQ.out]; simp⟩)
        go_wp2_with fail
        refine (CL.out _).mono ?_
        rintro e_ w1 ⟨rfl, hb1⟩
        go_wp2
        go_ret
        exact ⟨ret_bool HR.out.symm, hb.trans (hb1.mono hb.size)⟩
      | true =>
        go_wp2_with fail
        refine (CL.out _).mono ?_
        rintro e_ w1 ⟨rfl, hb1⟩
        clear c0
        go_wp2
        go_roundw
        case rel => exact ⟨k + 1, by omega, by go_num, by unfold Hid; rw [List.take_add_one, H.out.2.2.1, List.all_append, hR.out]; simp [HQ.out], hb.trans (hb1.mono hb.size)⟩
        case measure => simp [intOf]; omega
    · obtain rfl : k = es.length := by omega
      have HR := Lib.hid (show es.all noteE = true by have := hR.out; rwa [List.take_length] at this)
      go_wp2
      go_ret
      exact ⟨ret_bool HR.out.symm, hb⟩
end Go.Proofs.Ytipepnphdiflcaa
