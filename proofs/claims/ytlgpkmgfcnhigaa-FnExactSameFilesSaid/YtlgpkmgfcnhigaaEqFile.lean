/- Slices of File compared by '!=': slices.Equal/impl.File, spec.SameFiles -/
import Derived.Test.YtlgpkmgfcnhigaaRecFile
import Derived.Laws.StructEq
namespace Go.Proofs.Ytlgpkmgfcnhigaa
open Go.RowKit
set_option linter.unusedVariables false
set_option linter.unusedSimpArgs false
set_option maxRecDepth 20000
theorem heldFile : Try.prog.stoodInHeld 46 = false := by kernel_rfl
theorem toListIffFile {m s : ByteArray} : m.toList = s.toList ↔ m = s := by
  constructor
  · intro h
    rw [ByteArray.toList_eq, ByteArray.toList_eq] at h
    apply ByteArray.ext
    exact Array.toList_inj.1 h
  · rintro rfl; rfl
set_option maxHeartbeats 2000000 in
theorem neqFile (x y : FileV) (w : World) : (binOp .neq 46 (.agg #[.string x.f0, .string x.f1]) (.agg #[.string y.f0, .string y.f1])).run Try.prog w = .ok (.bool (!(sameFile x y))) w := by
  rw [run_neq_struct]
  have e := run_equalIn_struct (P := Try.prog) w 9999 46 #[.string x.f0, .string x.f1] #[.string y.f0, .string y.f1] (by kernel_rfl) heldFile
  rw [e]
  simp only [Program.fieldsOf, Try.underlying46]
  simp [Op.eqFields, go_sem, Try.underlying9]
  try simp only [toListIffFile]
  unfold sameFile
  by_cases h0 : x.f0 = y.f0
  case neg => simp [h0]
  by_cases h1 : x.f1 = y.f1
  case neg => simp [h0, h1]
  simp [h0, h1]
set_option maxHeartbeats 4000000 in
theorem slicesEqualFile_any (r : Bool) (a b : Option Addr) (xs ys : List FileV) (c d : Nat) (w : World) (hr : r = true ↔ xs = ys) (hx : xs.length ≤ 4194304) (hy : ys.length ≤ 4194304) (h1 : SlS rowFile w a xs) (h2 : SlS rowFile w b ys) :
    Calls Try.prog 31 #[.slice a xs.length c, .slice b ys.length d] w fun e w' => e = .returned (.bool r) ∧ Below w.heap.size w w' := by
  have HR := Lib.hid hr; clear hr
  by_cases hl : xs.length = ys.length
  · have hne : ((xs.length : Int) != ys.length) = false := by simp; omega
    have HL := Lib.hid hl; clear hl
    go_enter Try.func31, Try.ntmps31
    go_wp2
    go_loopw [13] (fun i wr => ∃ k : Nat, k ≤ xs.length ∧ i = .int .i64 k ∧ Hid (xs.take k = ys.take k) ∧ Below w.heap.size w wr) (fun i _ => xs.length - (intOf i).toNat)
    case atStart => exact ⟨0, Nat.zero_le _, rfl, by unfold Hid; rfl, Below.refl _ _⟩
    case round =>
      obtain ⟨k, hk, rfl, hT, hb⟩ := hrel
      have h1' := h1.below hb (Nat.le_refl _)
      have h2' := h2.below hb (Nat.le_refl _)
      by_cases hlt : k < xs.length
      · have hly : k < ys.length := by have := HL.out; omega
        obtain ⟨x, hxk⟩ : ∃ e, xs[k]? = some e := ⟨xs[k], by simp [hlt]⟩
        obtain ⟨y, hyk⟩ : ∃ e, ys[k]? = some e := ⟨ys[k], by simp [hly]⟩
        obtain ⟨bx, ox, rfl, hlx, hcx⟩ := h1'.at rowFile_len hxk
        obtain ⟨b2, o2, rfl, hly2, hcy⟩ := h2'.at rowFile_len hyk
        have c0 : wr.cell? ⟨bx, ox + k * 2, none⟩ = some (.string x.f0) := hcx 0 _ rfl
        have d0 : wr.cell? ⟨b2, o2 + k * 2, none⟩ = some (.string y.f0) := hcy 0 _ rfl
        have c1 : wr.cell? ⟨bx, ox + k * 2 + 1, none⟩ = some (.string x.f1) := hcx 1 _ rfl
        have d1 : wr.cell? ⟨b2, o2 + k * 2 + 1, none⟩ = some (.string y.f1) := hcy 1 _ rfl
        have HX := Lib.hid hxk; have HY := Lib.hid hyk; clear hxk hyk
        have e1 : (k : Int) < xs.length := by omega
        have e2 : (k : Int) < ys.length := by omega
        have H1 := Lib.hid (And.intro h1 (And.intro h1' hcx)); have H2 := Lib.hid (And.intro h2 (And.intro h2' hcy)); clear h1 h1' h2 h2' hcx hcy hlx hly2
        have nq := fun w => neqFile x y w
        obtain ⟨q, hq⟩ : ∃ q, sameFile x y = q := ⟨_, rfl⟩
        rw [hq] at nq
        have HQ := Lib.hid hq; clear hq
        cases q
        · simp only [Bool.not_false] at nq
          go_wp2
          go_quiet (fail)
          go_wp2
          go_ret
          refine ⟨ret_bool ?_, below_drewN' hb _⟩
          cases r with
          | false => rfl
          | true =>
          exfalso
          have e := HR.out.1 rfl
          have h3 := HX.out
          rw [e, HY.out] at h3
          have h4 := sameFile_iff.2 (Option.some.inj h3).symm
          rw [HQ.out] at h4
          cases h4
        · simp only [Bool.not_true] at nq
          go_wp2
          go_quiet (fail)
          go_wp2
          go_roundw
          case rel => exact ⟨k + 1, by omega, by go_num, by unfold Hid; rw [List.take_add_one, List.take_add_one, HX.out, HY.out, hT.out, sameFile_iff.1 HQ.out], below_drewN' hb _⟩
          case measure => simp [intOf]; omega
      · go_wp2
        go_ret
        refine ⟨ret_bool ?_, hb⟩
        obtain rfl : k = xs.length := by omega
        exact (HR.out.2 (take_eq HL.out hT.out)).symm
  · have hne : ((xs.length : Int) != ys.length) = true := by simp; omega
    have HQ := Lib.hid (show r = false by
      cases r with
      | false => rfl
      | true => exact absurd (by rw [HR.out.1 rfl]) hl)
    go_enter Try.func31, Try.ntmps31
    go_wp2
    go_ret
    exact ⟨ret_bool HQ.out.symm, Below.refl _ _⟩
set_option maxHeartbeats 4000000 in
theorem specSameFilesR_any (r : Bool) (a b : Option Addr) (xs ys : List FileV) (c d : Nat) (w : World) (hr : r = true ↔ xs = ys) (hx : xs.length ≤ 4194304) (hy : ys.length ≤ 4194304) (h1 : SlS rowFile w a xs) (h2 : SlS rowFile w b ys) :
    Calls Try.prog 10 #[.slice a xs.length c, .slice b ys.length d] w fun e w' => e = .returned (.bool r) ∧ Below w.heap.size w w' := by
  have HR := Lib.hid hr; clear hr
  by_cases hl : xs.length = ys.length
  · have hne : ((xs.length : Int) != ys.length) = false := by simp; omega
    have HL := Lib.hid hl; clear hl
    go_enter Try.func10, Try.ntmps10
    go_wp2
    go_loopw [5] (fun i wr => ∃ k : Nat, k ≤ xs.length ∧ i = .int .i64 k ∧ Hid (xs.take k = ys.take k) ∧ Below w.heap.size w wr) (fun i _ => xs.length - (intOf i).toNat)
    case atStart => exact ⟨0, Nat.zero_le _, rfl, by unfold Hid; rfl, Below.refl _ _⟩
    case round =>
      obtain ⟨k, hk, rfl, hT, hb⟩ := hrel
      have h1' := h1.below hb (Nat.le_refl _)
      have h2' := h2.below hb (Nat.le_refl _)
      by_cases hlt : k < xs.length
      · have hly : k < ys.length := by have := HL.out; omega
        obtain ⟨x, hxk⟩ : ∃ e, xs[k]? = some e := ⟨xs[k], by simp [hlt]⟩
        obtain ⟨y, hyk⟩ : ∃ e, ys[k]? = some e := ⟨ys[k], by simp [hly]⟩
        obtain ⟨bx, ox, rfl, hlx, hcx⟩ := h1'.at rowFile_len hxk
        obtain ⟨b2, o2, rfl, hly2, hcy⟩ := h2'.at rowFile_len hyk
        have c0 : wr.cell? ⟨bx, ox + k * 2, none⟩ = some (.string x.f0) := hcx 0 _ rfl
        have d0 : wr.cell? ⟨b2, o2 + k * 2, none⟩ = some (.string y.f0) := hcy 0 _ rfl
        have c1 : wr.cell? ⟨bx, ox + k * 2 + 1, none⟩ = some (.string x.f1) := hcx 1 _ rfl
        have d1 : wr.cell? ⟨b2, o2 + k * 2 + 1, none⟩ = some (.string y.f1) := hcy 1 _ rfl
        have HX := Lib.hid hxk; have HY := Lib.hid hyk; clear hxk hyk
        have e1 : (k : Int) < xs.length := by omega
        have e2 : (k : Int) < ys.length := by omega
        have H1 := Lib.hid (And.intro h1 (And.intro h1' hcx)); have H2 := Lib.hid (And.intro h2 (And.intro h2' hcy)); clear h1 h1' h2 h2' hcx hcy hlx hly2
        have nq := fun w => neqFile x y w
        obtain ⟨q, hq⟩ : ∃ q, sameFile x y = q := ⟨_, rfl⟩
        rw [hq] at nq
        have HQ := Lib.hid hq; clear hq
        cases q
        · simp only [Bool.not_false] at nq
          go_wp2
          go_quiet (fail)
          go_wp2
          go_ret
          refine ⟨ret_bool ?_, below_drewN' hb _⟩
          cases r with
          | false => rfl
          | true =>
          exfalso
          have e := HR.out.1 rfl
          have h3 := HX.out
          rw [e, HY.out] at h3
          have h4 := sameFile_iff.2 (Option.some.inj h3).symm
          rw [HQ.out] at h4
          cases h4
        · simp only [Bool.not_true] at nq
          go_wp2
          go_quiet (fail)
          go_wp2
          go_roundw
          case rel => exact ⟨k + 1, by omega, by go_num, by unfold Hid; rw [List.take_add_one, List.take_add_one, HX.out, HY.out, hT.out, sameFile_iff.1 HQ.out], below_drewN' hb _⟩
          case measure => simp [intOf]; omega
      · go_wp2
        go_ret
        refine ⟨ret_bool ?_, hb⟩
        obtain rfl : k = xs.length := by omega
        exact (HR.out.2 (take_eq HL.out hT.out)).symm
  · have hne : ((xs.length : Int) != ys.length) = true := by simp; omega
    have HQ := Lib.hid (show r = false by
      cases r with
      | false => rfl
      | true => exact absurd (by rw [HR.out.1 rfl]) hl)
    go_enter Try.func10, Try.ntmps10
    go_wp2
    go_ret
    exact ⟨ret_bool HQ.out.symm, Below.refl _ _⟩
end Go.Proofs.Ytlgpkmgfcnhigaa
