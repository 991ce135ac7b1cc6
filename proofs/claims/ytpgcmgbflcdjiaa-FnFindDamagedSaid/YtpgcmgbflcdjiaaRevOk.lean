/- impl.every/string, impl.isOneLength, impl.ValidRevolutions; spec.l10Ok, spec.ValidRevolutions -/
import Derived.Test.YtpgcmgbflcdjiaaRecString
import Derived.Test.YtpgcmgbflcdjiaaBoxes
import Derived.Test.YtpgcmgbflcdjiaaSpecValidCells
namespace Go.Proofs.Ytpgcmgbflcdjiaa
open Go.RowKit
set_option linter.unusedVariables false
def len0 (xs : List StringV) : Nat := ((xs[0]?).map (fun e => e.f0.size)).getD 0
def allCells (xs : List StringV) : Bool := xs.all (fun e => validCells e.f0)
def allLen (n : Nat) (xs : List StringV) : Bool := xs.all (fun e => decide (e.f0.size = n))
def revOk (xs : List StringV) : Bool := inB 1 5 xs.length && (allCells xs && allLen (len0 xs) xs)
theorem all_take_snocE {E : Type} {p : E → Bool} {zs : List E} {k : Nat} {x : E} (h : zs[k]? = some x) : (zs.take (k+1)).all p = ((zs.take k).all p && p x) := by
  rw [List.take_add_one, h]; simp
theorem all_false_ofE {E : Type} {p : E → Bool} {zs : List E} {k : Nat} {x : E} (h : zs[k]? = some x) (hp : p x = false) : zs.all p = false := by
  rw [List.all_eq_false]
  exact ⟨x, List.mem_of_getElem? h, by simp [hp]⟩
set_option maxHeartbeats 1000000 in
theorem isOne1_any (s : ByteArray) (p b off n c : Nat) (e0 : ByteArray) (w : World) (hs : s.size ≤ maxLen) (he : e0.size ≤ maxLen) (hn : 0 < n) (hp : w.cell? ⟨p, 0, none⟩ = some (.slice (some ⟨b, off, none⟩) n c)) (h0 : w.cell? ⟨b, off, none⟩ = some (.string e0)) :
    Calls Try.prog 62 #[.string s, .pointer (some ⟨p, 0, none⟩)] w fun x w' => x = .returned (.bool (decide (s.size = e0.size))) ∧ w = w' := by
  unfold maxLen at hs he
  by_cases hq : s.size = e0.size
  · have hd : ((s.size : Int) == (e0.size : Int)) = true := by simp; omega
    have HD := Lib.hid (show decide (s.size = e0.size) = true by simp [hq]); clear hq
    go_enter Try.func62, Try.ntmps62
    go_wp2
    go_ret
    exact ⟨ret_bool HD.out.symm, rfl⟩
  · have hd : ((s.size : Int) == (e0.size : Int)) = false := by rw [beq_eq_false_iff_ne]; omega
    have HD := Lib.hid (show decide (s.size = e0.size) = false by simp [hq]); clear hq
    go_enter Try.func62, Try.ntmps62
    go_wp2
    go_ret
    exact ⟨ret_bool HD.out.symm, rfl⟩
set_option maxHeartbeats 1000000 in
theorem everyOne_any (a : Option Addr) (es : List StringV) (c p : Nat) (w : World) (hm : es.length ≤ 1048576) (hs : ∀ e ∈ es, e.f0.size ≤ maxLen) (hp : w.cell? ⟨p, 0, none⟩ = some (.slice a es.length c)) (h : SlS rowString w a es) :
    Calls Try.prog 61 #[.slice a es.length c, .func (.func 62) #[] #[.pointer (some ⟨p, 0, none⟩)]] w fun x w' => x = .returned (.bool (allLen (len0 es) es)) ∧ Below w.heap.size w w' := by
  have hplt := World.block_lt_of_cell? w _ hp
  have HP := Lib.hid hp; clear hp
  go_enter Try.func61, Try.ntmps61
  go_wp2
  go_loopw [9] (fun i wr => ∃ (k : Nat), k ≤ es.length ∧ i = .int .i64 k ∧ Hid (allLen (len0 es) (es.take k) = true) ∧ Below w.heap.size w wr) (fun i _ => es.length - (intOf i).toNat)
  case atStart => exact ⟨0, Nat.zero_le _, rfl, by unfold Hid; rfl, Below.refl _ _⟩
  case round =>
    obtain ⟨k, hk, rfl, hR, hb⟩ := hrel
    by_cases hlt2 : k < es.length
    · obtain ⟨e, hx⟩ : ∃ e, es[k]? = some e := ⟨es[k], by simp [hlt2]⟩
      obtain ⟨e0, hx0⟩ : ∃ e, es[0]? = some e := ⟨es[0], by simp⟩
      have hl0 : len0 es = e0.f0.size := by unfold len0; rw [hx0]; rfl
      have hsl := h.below hb (Nat.le_refl _)
      obtain ⟨b, off, rfl, hbl, hc⟩ := hsl.at rowString_len hx
      have c0 : wr.cell? ⟨b, off + k * 1, none⟩ = some (.string e.f0) := hc 0 _ rfl
      rw [Nat.mul_one] at c0
      obtain ⟨b', off', eq', _, hc'⟩ := hsl.at rowString_len hx0
      cases eq'
      have d0 : wr.cell? ⟨b, off, none⟩ = some (.string e0.f0) := by have := hc' 0 _ rfl; simpa using this
      have CL := Lib.hid (isOne1_any e.f0 p b off es.length c e0.f0 wr (hs e (List.mem_of_getElem? hx)) (hs e0 (List.mem_of_getElem? hx0)) (by omega) (by rw [hb.cell (p := ⟨p, 0, none⟩) hplt]; exact HP.out) d0)
      have H := Lib.hid (And.intro h (And.intro hc (And.intro hx hs))); clear h hc hx hs hsl d0 hc' hx0
      rw [← hl0] at CL
      have HL0 := Lib.hid hl0; clear hl0
      obtain ⟨q, hq⟩ : ∃ q, decide (e.f0.size = len0 es) = q := ⟨_, rfl⟩
      rw [hq] at CL
      have HQ := Lib.hid hq; clear hq
      cases q with
      | false =>
        have HR := Lib.hid (show allLen (len0 es) es = false from all_false_ofE H.out.2.2.1 HQ.out)
        go_wp2_with fail
        refine CL.out.mono ?_
        rintro e_ w1 ⟨rfl, rfl⟩
        go_wp2
        go_ret
        exact ⟨ret_bool HR.out.symm, hb⟩
      | true =>
        go_wp2_with fail
        refine CL.out.mono ?_
        rintro e_ w1 ⟨rfl, rfl⟩
        clear c0
        go_wp2
        go_roundw
        case rel => exact ⟨k + 1, by omega, by go_num, by unfold Hid allLen; rw [all_take_snocE H.out.2.2.1, HQ.out]; have := hR.out; unfold allLen at this; rw [this]; rfl, hb⟩
        case measure => simp [intOf]; omega
    · obtain rfl : k = es.length := by omega
      have HR := Lib.hid (show allLen (len0 es) es = true by have := hR.out; rwa [List.take_length] at this)
      go_wp2
      go_ret
      exact ⟨ret_bool HR.out.symm, hb⟩
set_option maxHeartbeats 1000000 in
theorem isOneLength_any (a : Option Addr) (es : List StringV) (c : Nat) (w : World) (hm : es.length ≤ 1048576) (hs : ∀ e ∈ es, e.f0.size ≤ maxLen) (h : SlS rowString w a es) :
    Calls Try.prog 52 #[.slice a es.length c] w fun x w' => x = .returned (.bool (allLen (len0 es) es)) ∧ Below w.heap.size w w' := by
  have EV := Lib.hid (fun w' (hb : Below w.heap.size w w') hp => everyOne_any a es c w.heap.size w' hm hs hp (h.below hb (Nat.le_refl _)))
  clear h hs
  go_enter Try.func52, Try.ntmps52
  go_wp2_with (go_at_call 61; refine (EV.out _ ((Below.refl _ _).alloc (Nat.le_refl _) _) (cell_new w _ _)).mono ?_; rintro e w1 ⟨rfl, hb1⟩)
  go_ret
  exact ⟨rfl, Below.trans (by go_grown) (hb1.mono (by simp))⟩
theorem within_r (lo hi n : Int) (w : World) (T : TypeId) (b : Nat) (hb : w.heap.size = b) :
    Calls Try.prog 51 #[.int .i64 lo, .int .i64 hi, .slice (some ⟨b, 0, none⟩) 1 1] (w.alloc (.cells #[.int .i64 n] T)) fun e w' => e = .returned (.bool (inB lo hi n)) ∧ Below w.heap.size w w' :=
  (within_at lo hi n w T b hb).mono fun e w' ⟨he, hw⟩ => ⟨he, by rw [← hw]; exact (Below.refl _ _).alloc (Nat.le_refl _) _⟩
end Go.Proofs.Ytpgcmgbflcdjiaa
