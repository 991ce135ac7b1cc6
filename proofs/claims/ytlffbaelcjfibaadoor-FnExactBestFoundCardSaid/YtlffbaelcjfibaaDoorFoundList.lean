/- impl.validFoundList, spec.l09List -/
import Derived.Test.YtlffbaelcjfibaaDoorFoundOk
namespace Go.Proofs.YtlffbaelcjfibaaDoor
open Go.RowKit
set_option linter.unusedVariables false
set_option linter.unusedSimpArgs false
set_option maxRecDepth 20000
def foundsB (es : List FoundV) : Bool := decide (es.length ≤ 64) && es.all foundB
set_option maxHeartbeats 2000000 in
theorem everyFound_any (a : Option Addr) (es : List FoundV) (c : Nat) (w : World) (hm : es.length ≤ 1048576) (hs : ∀ e ∈ es, e.f4.size ≤ maxLen) (h : SlS rowFound w a es) :
    Calls Tryd.prog 18 #[.slice a es.length c, .func (.func 19) #[] #[]] w fun x w' => x = .returned (.bool (es.all foundB)) ∧ Below w.heap.size w w' := by
  go_enter Tryd.func18, Tryd.ntmps18
  go_wp2
  go_loopw [9] (fun i wr => ∃ (k : Nat), k ≤ es.length ∧ i = .int .i64 k ∧ Hid ((es.take k).all foundB = true) ∧ Below w.heap.size w wr) (fun i _ => es.length - (intOf i).toNat)
  case atStart => exact ⟨0, Nat.zero_le _, rfl, by unfold Hid; rfl, Below.refl _ _⟩
  case round =>
    obtain ⟨k, hk, rfl, hR, hb⟩ := hrel
    by_cases hlt2 : k < es.length
    · obtain ⟨e, hx⟩ : ∃ e, es[k]? = some e := ⟨es[k], by simp [hlt2]⟩
      obtain ⟨b, off, rfl, hbl, hc⟩ := (h.below hb (Nat.le_refl _)).at rowFound_len hx
      have c0 : wr.cell? ⟨b, off + k * 8, none⟩ = some (.int .i64 e.f0) := hc 0 _ rfl
      have c1 : wr.cell? ⟨b, off + k * 8 + 1, none⟩ = some (.int .i64 e.f1) := hc 1 _ rfl
      have c2 : wr.cell? ⟨b, off + k * 8 + 2, none⟩ = some (.int .i64 e.f2) := hc 2 _ rfl
      have c3 : wr.cell? ⟨b, off + k * 8 + 3, none⟩ = some (.int .i64 e.f3) := hc 3 _ rfl
      have c4 : wr.cell? ⟨b, off + k * 8 + 4, none⟩ = some (.string e.f4) := hc 4 _ rfl
      have c5 : wr.cell? ⟨b, off + k * 8 + 5, none⟩ = some (.int .i64 e.f5) := hc 5 _ rfl
      have c6 : wr.cell? ⟨b, off + k * 8 + 6, none⟩ = some (.bool e.f6) := hc 6 _ rfl
      have c7 : wr.cell? ⟨b, off + k * 8 + 7, none⟩ = some (.int .i64 e.f7) := hc 7 _ rfl
      have CL := Lib.hid (fun w => validFound_any e w (hs e (List.mem_of_getElem? hx)))
      have H := Lib.hid (And.intro h (And.intro hc (And.intro hx trivial))); clear h hc hx
      obtain ⟨q, hq⟩ : ∃ q, foundB e = q := ⟨_, rfl⟩
      rw [hq] at CL
      have HQ := Lib.hid hq; clear hq
      cases q with
      | false =>
        have HR := Lib.hid (show es.all foundB = false from List.all_eq_false.2 ⟨e, List.mem_of_getElem? H.out.2.2.1, by rw [HQ.out]; simp⟩)
        go_wp2_with fail
        refine (CL.out _).mono ?_
        rintro e_ w1 ⟨rfl, hb1⟩
        go_wp2
        go_ret
        exact ⟨ret_bool HR.out.symm, hb.trans (Below.trans (show Below w.heap.size wr _ from (Below.refl _ _).alloc hb.size _) (hb1.mono (by have := hb.size; simp <;> omega)))⟩
      | true =>
        go_wp2_with fail
        refine (CL.out _).mono ?_
        rintro e_ w1 ⟨rfl, hb1⟩
        clear c0 c1 c2 c3 c4 c5 c6 c7
        go_wp2
        go_roundw
        case rel => exact ⟨k + 1, by omega, by go_num, by unfold Hid; rw [List.take_add_one, H.out.2.2.1, List.all_append, hR.out]; simp [HQ.out], hb.trans (Below.trans (show Below w.heap.size wr _ from (Below.refl _ _).alloc hb.size _) (hb1.mono (by have := hb.size; simp <;> omega)))⟩
        case measure => simp [intOf]; omega
    · obtain rfl : k = es.length := by omega
      have HR := Lib.hid (show es.all foundB = true by have := hR.out; rwa [List.take_length] at this)
      go_wp2
      go_ret
      exact ⟨ret_bool HR.out.symm, hb⟩
set_option maxHeartbeats 2000000 in
theorem validFoundList_any (a : Option Addr) (es : List FoundV) (c : Nat) (w : World) (hm : es.length ≤ 1048576) (hs : ∀ e ∈ es, e.f4.size ≤ maxLen) (h : SlS rowFound w a es) :
    Calls Tryd.prog 12 #[.slice a es.length c] w fun x w' => x = .returned (.bool (foundsB es)) ∧ Below w.heap.size w w' := by
  have EV := Lib.hid (everyFound_any a es c w hm hs h)
  unfold foundsB
  by_cases hl : es.length ≤ 64
  · have hl2 : (es.length : Int) ≤ 64 := by omega
    have HD := Lib.hid (show decide (es.length ≤ 64) = true by simpa using hl)
    clear hl h hs
    go_enter Tryd.func12, Tryd.ntmps12
    go_wp2_with fail
    refine EV.out.mono ?_
    rintro e w1 ⟨rfl, hb1⟩
    go_wp2
    go_ret
    exact ⟨ret_bool (by rw [HD.out]; simp), hb1⟩
  · have hl2 : ¬ (es.length : Int) ≤ 64 := by omega
    have HD := Lib.hid (show decide (es.length ≤ 64) = false by simpa using hl)
    clear hl h hs
    go_enter Tryd.func12, Tryd.ntmps12
    go_wp2
    go_ret
    exact ⟨ret_bool (by rw [HD.out]; simp), Below.refl _ _⟩
set_option maxHeartbeats 2000000 in
theorem l09List_any (a : Option Addr) (es : List FoundV) (c : Nat) (w : World) (hm : es.length ≤ 1048576) (hs : ∀ e ∈ es, e.f4.size ≤ maxLen) (h : SlS rowFound w a es) :
    Calls Tryd.prog 10 #[.slice a es.length c] w fun x w' => x = .returned (.bool (foundsB es)) ∧ Below w.heap.size w w' := by
  unfold foundsB
  have HS := Lib.hid (fun w' (hb : Below w.heap.size w w') => h.below hb (Nat.le_refl _)); have HV := Lib.hid hs
  clear h hs
  go_enter Tryd.func10, Tryd.ntmps10
  go_wp2
  go_loopw [3] (fun i wr => ∃ k : Nat, k ≤ es.length ∧ i = .int .i64 k ∧ Hid ((es.take k).all foundB = true) ∧ Below w.heap.size w wr) (fun i _ => es.length - (intOf i).toNat)
  case atStart => exact ⟨0, Nat.zero_le _, rfl, by unfold Hid; rfl, Below.refl _ _⟩
  case round =>
    obtain ⟨k, hk, rfl, hR, hb⟩ := hrel
    by_cases hlt2 : k < es.length
    · obtain ⟨e, hxk⟩ : ∃ e, es[k]? = some e := ⟨es[k], by simp [hlt2]⟩
      obtain ⟨b, off, rfl, hbl, hc⟩ := (HS.out _ hb).at rowFound_len hxk
      have CL := Lib.hid (fun w hp => l09Ok_any e b (off + k * 8) w (HV.out e (List.mem_of_getElem? hxk)) hp)
      have HC := Lib.hid (show FoundAt wr b (off + k * 8) e from hc)
      have HX := Lib.hid hxk; clear hc hxk hbl
      obtain ⟨q, hq⟩ : ∃ q, foundB e = q := ⟨_, rfl⟩
      rw [hq] at CL
      have HQ := Lib.hid hq; clear hq
      cases q with
      | false =>
        have HR := Lib.hid (show es.all foundB = false from List.all_eq_false.2 ⟨e, List.mem_of_getElem? HX.out, by rw [HQ.out]; simp⟩)
        go_wp2_with fail
        refine (CL.out _ HC.out).mono ?_
        rintro e_ w1 ⟨rfl, hb1⟩
        go_wp2
        go_ret
        exact ⟨ret_bool (by rw [HR.out]; simp), hb.trans (hb1.mono hb.size)⟩
      | true =>
        go_wp2_with fail
        refine (CL.out _ HC.out).mono ?_
        rintro e_ w1 ⟨rfl, hb1⟩
        go_wp2
        go_roundw
        case rel => exact ⟨k + 1, by omega, by go_num, by unfold Hid; rw [List.take_add_one, HX.out, List.all_append, hR.out]; simp [HQ.out], hb.trans (hb1.mono hb.size)⟩
        case measure => simp [intOf]; omega
    · obtain rfl : k = es.length := by omega
      have HR := Lib.hid (show es.all foundB = true by have := hR.out; rwa [List.take_length] at this)
      by_cases hl : es.length ≤ 64
      · have hl2 : (es.length : Int) ≤ 64 := by omega
        have HD := Lib.hid (show decide (es.length ≤ 64) = true by simpa using hl)
        clear hl
        go_wp2
        go_ret
        exact ⟨ret_bool (by rw [HR.out, HD.out]; simp), hb⟩
      · have hl2 : ¬ (es.length : Int) ≤ 64 := by omega
        have HD := Lib.hid (show decide (es.length ≤ 64) = false by simpa using hl)
        clear hl
        go_wp2
        go_ret
        exact ⟨ret_bool (by rw [HD.out]; simp), hb⟩
end Go.Proofs.YtlffbaelcjfibaaDoor
