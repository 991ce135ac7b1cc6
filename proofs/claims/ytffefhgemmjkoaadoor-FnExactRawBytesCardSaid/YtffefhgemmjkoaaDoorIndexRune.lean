/- strings.IndexRune in a text of bytes below 128. -/
import Derived.Test.YtffefhgemmjkoaaDoorConv
import Derived.Test.YtffefhgemmjkoaaDoorShelf
import Derived.Lib.Bytealg
import Derived.Laws.Runes
import Derived.WalkMore
import Derived.WalkSmall
import Derived.Laws.RangeAny
import Derived.Laws.RangeString
namespace Go.Proofs.YtffefhgemmjkoaaDoor
open Go.RowKit
set_option maxRecDepth 20000
set_option linter.unusedVariables false
theorem indexByte_high (l : List UInt8) (hl : ∀ b ∈ l, b.toNat < 128) (c : UInt8) (hc : 128 ≤ c.toNat) : Lib.indexByte l c = -1 := by
  induction l with
  | nil => rfl
  | cons x l ih =>
    have hx := hl x (by simp)
    have hne : ¬ x = c := by intro e; rw [e] at hx; omega
    have := ih (fun b hb => hl b (by simp [hb]))
    simp [Lib.indexByte, hne, this]
set_option maxHeartbeats 4000000 in
set_option maxRecDepth 1000000 in
theorem indexRune_high (s : ByteArray) (hs : ∀ b ∈ s.data.toList, b.toNat < 128) (hl : s.size ≤ 16) (r : Int) (h : 128 ≤ r) (w : World) :
    Calls Tryd.prog 126 #[.string s, .int .i32 r] w fun e w' => e = .returned (.int .i64 (-1)) ∧ Below w.heap.size w w' := by
  have h0 : ¬ r < 128 := by omega
  by_cases hE : r = 65533
  · subst hE
    go_enter Tryd.func126, Tryd.ntmps126
    go_wp2
    go_loopw [5, 6] (fun _ _ wr => ∃ pos, pos ≤ s.size ∧ wr = w.iter s pos) (fun _ _ wr => s.size - wr.iterPos w.heap.size)
    case atStart => exact ⟨0, Nat.zero_le _, rfl⟩
    case round =>
      obtain ⟨pos, hk, rfl⟩ := hrel
      by_cases hp : pos < s.size
      · have hb : s[pos].toNat < 128 := hs s[pos] (Array.getElem_mem_toList (xs := s.data) hp)
        have hn : ∀ ty, (Instr.next (.pointer (some ⟨w.heap.size, 0, none⟩)) true ty).run Tryd.prog (w.iter s pos) = _ := fun ty => run_next_any w s pos ty hp
        rw [decode_ascii s pos hp hb] at hn
        generalize s[pos].toNat = c at hn hb
        have hc : ((c : Int) == 65533) = false := by rw [beq_eq_false_iff_ne]; omega
        go_wp2
        go_roundw
        case rel => exact ⟨pos + 1, by omega, rfl⟩
        case measure => simp; omega
      · have hn : ∀ ty, (Instr.next (.pointer (some ⟨w.heap.size, 0, none⟩)) true ty).run Tryd.prog (w.iter s pos) = _ := fun ty => run_next_end w s pos ty hp
        go_wp2
        go_ret
        exact ⟨rfl, (Below.refl _ _).alloc (Nat.le_refl _) _⟩
  · have hE1 : (r == 65533) = false := by simpa using hE
    by_cases hV : Lib.validRune r = true
    · have hval : Utf8.valid r = true := by
        rw [validRune_eq]
        have : Lib.validRune r = validRune r := by unfold Lib.validRune validRune; rfl
        rw [← this]; exact hV
      obtain ⟨n2, n4, nb⟩ := encode_facts r hval h
      go_enter Tryd.func126, Tryd.ntmps126
      go_wp2_with (go_at_call 142; refine (Tryd.utf8_ValidRune _ _).mono ?_; rintro e w' ⟨rfl, rfl⟩; rw [hV])
      have hcv : (convert 21 9 (.int .i32 r)).run Tryd.prog w' = _ := run_convert_int_string w' _ _ _ r (by kernel_rfl) Tryd.underlying9
      obtain ⟨rs, hrs⟩ : ∃ rs, Utf8.encode r = rs := ⟨_, rfl⟩
      rw [hrs] at hcv n2 n4 nb
      obtain ⟨m, hm⟩ : ∃ m : Nat, rs.size = m + 1 := ⟨rs.size - 1, by omega⟩
      have hmr : m < rs.size := by omega
      have hm1 : 1 ≤ m := by omega
      have hm3 : m ≤ 3 := by omega
      have hu : 128 ≤ rs[m].toNat := by
        have := nb (by omega)
        have e : rs.size - 1 = m := by omega
        simpa only [e] using this
      clear nb hval hV hrs n2 n4
      go_step3
      go_wp2
      go_loopw [9, 10, 11, 12] (fun i q _ _ wr => i = .int .i64 (m : Int) ∧ q = .int .i64 0 ∧ wr = w') (fun _ _ _ _ _ => 0)
      case atStart => exact ⟨rfl, rfl, rfl⟩
      case round =>
        obtain ⟨rfl, rfl, rfl⟩ := hrel
        by_cases hlt : m < s.size
        · have hb : s[m].toNat < 128 := hs s[m] (Array.getElem_mem_toList (xs := s.data) hlt)
          have hu2 := rs[m].toNat_lt
          obtain ⟨x, hx⟩ : ∃ x, s[m].toNat = x := ⟨_, rfl⟩
          obtain ⟨u, hu1⟩ : ∃ u, rs[m].toNat = u := ⟨_, rfl⟩
          rw [hx] at hb
          rw [hu1] at hu hu2
          have hne : ((x : Int) == (u : Int)) = false := by rw [beq_eq_false_iff_ne]; omega
          have hne2 : ¬ x = u := by omega
          have hne3 : ((x : Int) != (u : Int)) = true := by rw [bne_iff_ne]; omega
          have HX := Lib.hid (And.intro hne hne2); clear hne hne2
          have HC := Lib.hid (show ∀ w0, Calls Tryd.prog 141 #[.string (s.extract (m + 1) s.size), .int .u8 (u : Int)] w0 fun e w1 => e = .returned (.int .i64 (-1)) ∧ w1 = w0 from fun w0 => by
            refine (Tryd.strings_IndexByte _ _ _).mono ?_
            rintro e w1 ⟨rfl, rfl⟩
            refine ⟨?_, rfl⟩
            rw [indexByte_high _ (fun b hb => hs b (mem_extract hb)) _ (by
              have : (u : Int).toNat.toUInt8.toNat = u := by simp; omega
              omega)])
          have e1 : (m : Int) < (s.size : Int) := by omega
          have e2 : (m : Int) < (rs.size : Int) := by omega
          clear hm
          have hm9 : ¬ (9223372036854775808 : Int) ≤ (m : Int) + 1 := by omega
          have hwr : IntKind.i64.wrap ((m : Int) + 1) = (m : Int) + 1 := wrap_small _ (by omega) (by omega)
          go_wp2
          go_step3
          go_wp2
          go_quiet (fail)
          rename_i nq
          have hbq : Below wr.heap.size wr (wr.drewN nq) := below_drewN (Below.refl _ _) nq
          generalize wr.drewN nq = wq at hbq ⊢
          go_wp2
          go_quiet ((go_at_call 141; exact Calls.quiet_of_same (HC.out _)))
          go_wp2
          rw [Exit.noGoto_ret]
          go_wp2
          rw [Exit.noGoto_ret]
          go_ret
          exact ⟨rfl, below_drewN hbq _⟩
        · go_wp2
          rw [Exit.noGoto_ret]
          go_ret
          exact ⟨rfl, Below.refl _ _⟩
    · have hV' : Lib.validRune r = false := by simpa using hV
      go_enter Tryd.func126, Tryd.ntmps126
      go_wp2_with (go_at_call 142; refine (Tryd.utf8_ValidRune _ _).mono ?_; rintro e w' ⟨rfl, rfl⟩; rw [hV'])
      go_ret
      exact ⟨rfl, Below.refl _ _⟩
end Go.Proofs.YtffefhgemmjkoaaDoor
