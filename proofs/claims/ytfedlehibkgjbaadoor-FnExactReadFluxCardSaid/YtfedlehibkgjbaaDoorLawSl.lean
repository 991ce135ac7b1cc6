/- laws.szInt64S, laws.toInt64S, laws.eqInt64S. -/
import Derived.Test.YtfedlehibkgjbaaDoorSlices
namespace Go.Proofs.YtfedlehibkgjbaaDoor
open Go.RowKit
set_option linter.unusedVariables false
theorem i64info : (Tryd.prog.info? 2).map (fun i => (i.zero, i.size, i.bytes)) = some (some (.int .i64 0), 1, 8) := by kernel_rfl
/-- The row when k numbers have been copied. -/
def cpRow (zs : List Int) (k : Nat) : Array Value := ((zs.take k).map (Value.int .i64) ++ List.replicate (zs.length - k) (Value.int .i64 0)).toArray
theorem cpRow_zero (zs : List Int) : madeCells #[Value.int .i64 0] zs.length = cpRow zs 0 := by
  unfold cpRow
  apply Array.ext
  · simp [madeCells]
  · intro i h1 h2
    simp [madeCells, Nat.mod_one]
theorem cpRow_succ (zs : List Int) (k : Nat) (x : Int) (hx : zs[k]? = some x) : (cpRow zs k).setIfInBounds k (.int .i64 x) = cpRow zs (k + 1) := by
  have hk : k < zs.length := (List.getElem?_eq_some_iff.1 hx).1
  unfold cpRow
  apply Array.ext'
  simp only [Array.toList_setIfInBounds]
  have e : zs.length - k = (zs.length - (k + 1)) + 1 := by omega
  rw [List.take_add_one, hx, e, List.replicate_succ]
  have hl : (List.map (Value.int .i64) (List.take k zs)).length = k := by simp; omega
  rw [List.set_append_right _ _ (by omega), hl]
  simp
theorem cpRow_all (zs : List Int) : cpRow zs zs.length = (zs.map (Value.int .i64)).toArray := by
  unfold cpRow; simp
def ToIntsPost (zs : List Int) (w : World) (e : Ending) (w' : World) : Prop :=
  ∃ g, e = .returned (.slice (some ⟨g, 0, none⟩) zs.length zs.length) ∧ RowAt w' g zs ∧ w.heap.size ≤ g ∧ Below w.heap.size w w'
theorem eq_of_take {xs ys : List Int} (hl : xs.length = ys.length) (h : xs.take xs.length = ys.take xs.length) : xs = ys := by
  rw [List.take_length, hl, List.take_length] at h; exact h
set_option maxHeartbeats 400000 in
theorem eqInt64S_any (a b : Option Addr) (xs ys : List Int) (c d : Nat) (w : World) (hx : xs.length ≤ 4194304) (hy : ys.length ≤ 4194304) (h1 : SlA w a xs) (h2 : SlA w b ys) :
    Calls Tryd.prog 26 #[.slice a xs.length c, .slice b ys.length d] w fun e w' => e = .returned (.bool (xs == ys)) ∧ Below w.heap.size w w' := by
  by_cases hl : xs.length = ys.length
  · have hne : ((xs.length : Int) != ys.length) = false := by simp; omega
    have HL := Lib.hid hl; clear hl
    go_enter Tryd.func26, Tryd.ntmps26
    go_wp2
    go_loopw [5] (fun i wr => ∃ k : Nat, k ≤ xs.length ∧ i = .int .i64 k ∧ Hid (xs.take k = ys.take k) ∧ Below w.heap.size w wr) (fun i _ => xs.length - (intOf i).toNat)
    case atStart => exact ⟨0, Nat.zero_le _, rfl, by unfold Hid; rfl, Below.refl _ _⟩
    case round =>
      obtain ⟨k, hk, rfl, hT, hb⟩ := hrel
      have h1' := h1.below hb (Nat.le_refl _)
      have h2' := h2.below hb (Nat.le_refl _)
      by_cases hlt : k < xs.length
      · have hly : k < ys.length := by have := HL.out; omega
        obtain ⟨x, hxk⟩ := getOf hlt
        obtain ⟨y, hyk⟩ := getOf hly
        obtain ⟨bx, ox, rfl, hcx⟩ := h1'.cell hxk
        obtain ⟨b2, o2, rfl, hcy⟩ := h2'.cell hyk
        have HX := Lib.hid hxk; have HY := Lib.hid hyk; clear hxk hyk
        have e1 : (k : Int) < xs.length := by omega
        have e2 : (k : Int) < ys.length := by omega
        have H1 := Lib.hid (And.intro h1 h1'); have H2 := Lib.hid (And.intro h2 h2'); clear h1 h1' h2 h2'
        by_cases he : x = y
        · subst he
          go_wp2
          go_quiet (fail)
          go_wp2
          go_roundw
          case rel => exact ⟨k + 1, by omega, by go_num, by unfold Hid; rw [List.take_add_one, List.take_add_one, HX.out, HY.out, hT.out], below_drewN hb _⟩
          case measure => simp [intOf]; omega
        · have hb1 : (x != y) = true := by simp [he]
          have hb2 : (x == y) = false := by simp [he]
          go_wp2
          go_quiet (fail)
          go_wp2
          go_ret
          refine ⟨ret_bool ?_, below_drewN hb _⟩
          symm
          rw [beq_eq_false_iff_ne]
          intro e
          apply he
          have h3 := HX.out
          rw [e, HY.out] at h3
          exact (Option.some.inj h3).symm
      · go_wp2
        go_ret
        refine ⟨ret_bool ?_, hb⟩
        obtain rfl : k = xs.length := by omega
        rw [eq_of_take HL.out hT.out]; simp
  · have hne : ((xs.length : Int) != ys.length) = true := by simp; omega
    have hq : (xs == ys) = false := by
      rw [beq_eq_false_iff_ne]; intro e; exact hl (by rw [e])
    have HQ := Lib.hid hq; clear hq
    go_enter Tryd.func26, Tryd.ntmps26
    go_wp2
    go_ret
    exact ⟨ret_bool HQ.out.symm, Below.refl _ _⟩
end Go.Proofs.YtfedlehibkgjbaaDoor
