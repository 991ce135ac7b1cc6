/- impl.ClockFaults, spec.ClockFaults, spec.l05Bit -/
import Derived.Test.YtffefhgemmjkoaaCellStr
import Derived.Test.YtffefhgemmjkoaaSlRes
import Derived.Test.YtffefhgemmjkoaaBit05
namespace Go.Proofs.Ytffefhgemmjkoaa
open Go.RowKit
set_option linter.unusedVariables false
def isOne (s : ByteArray) (k : Nat) : Bool := decide ((s[k]?.getD 0).toNat = 49)
theorem isOne_at (s : ByteArray) (k : Nat) (h : k < s.size) : isOne s k = decide (s[k].toNat = 49) := by simp [isOne, h]
/-- The data bit ahead of pair j. -/
def lastR (s : ByteArray) (last : Bool) : Nat → Bool
  | 0 => last
  | j + 1 => isOne s (2 * j + 1)
def faultsR (s : ByteArray) (last mfm : Bool) : Nat → List Int
  | 0 => []
  | j + 1 => if isOne s (2 * j) = wantB mfm (lastR s last j) (isOne s (2 * j + 1)) then faultsR s last mfm j else faultsR s last mfm j ++ [((2 * j : Nat) : Int)]
theorem faultsR_len (s : ByteArray) (last mfm : Bool) (k : Nat) : (faultsR s last mfm k).length ≤ k := by
  induction k with
  | zero => simp [faultsR]
  | succ k ih =>
    unfold faultsR
    split
    · omega
    · simp; omega
def faultsV (s : ByteArray) (last mfm : Bool) : List Int := if cellStr s = true ∧ s.size % 2 = 0 then faultsR s last mfm (s.size / 2) else []
theorem faultsV_len (s : ByteArray) (last mfm : Bool) (h : s.size ≤ 1048576) : (faultsV s last mfm).length ≤ 1048576 := by
  unfold faultsV
  split
  · exact Nat.le_trans (faultsR_len s last mfm _) (by omega)
  · simp
theorem faults_step (s : ByteArray) (last mfm : Bool) (j : Nat) (l x y : Bool) (hl : lastR s last j = l) (hx : isOne s (2 * j) = x) (hy : isOne s (2 * j + 1) = y) :
    faultsR s last mfm (j + 1) = if x = wantB mfm l y then faultsR s last mfm j else faultsR s last mfm j ++ [((2 * j : Nat) : Int)] := by
  rw [← hl, ← hx, ← hy]; rfl
set_option maxHeartbeats 8000000 in
theorem clockFaults_any (s : ByteArray) (last mfm : Bool) (h : s.size ≤ 1048576) (w : World) :
    Calls Try.prog 19 #[.string s, .bool last, .bool mfm] w (SlRes (faultsV s last mfm) w) := by
  have hv := fun w => isCellString_any s w (by unfold maxLen; omega)
  by_cases hc : cellStr s = true
  · by_cases h2 : s.size % 2 = 0
    · have hE : faultsV s last mfm = faultsR s last mfm (s.size / 2) := by unfold faultsV; rw [if_pos ⟨hc, h2⟩]
      have hs8 := cellStr_size hc
      rw [hE]
      have HCELL := Lib.hid (fun k hk => cellStr_cell hc k hk)
      rw [hc] at hv
      have HV := Lib.hid hv; clear hv hE hc
      have h2' : (s.size : Int) % 2 = 0 := by omega
      have H2 := Lib.hid h2; clear h2
      go_enter Try.func19, Try.ntmps19
      go_wp2_with (go_at_call 36; refine (HV.out _).mono ?_; rintro e w1 ⟨rfl, hb1⟩)
      clear h2'
      have hsz1 := hb1.size
      go_loopw [1, 7, 8, 9, 10, 11] (fun la v i _ _ _ wr => ∃ j : Nat, 2 * j ≤ s.size ∧ i = .int .i64 ((2 * j : Nat) : Int) ∧ la = .bool (lastR s last j) ∧ OwnI wr w1.heap.size v (faultsR s last mfm j) ∧ Below w1.heap.size w1 wr) (fun _ _ i _ _ _ _ => s.size - (intOf i).toNat)
      case atStart => exact ⟨0, Nat.zero_le _, rfl, rfl, ⟨rfl, .inl ⟨rfl, rfl⟩⟩, Below.refl _ _⟩
      case round =>
        obtain ⟨j, hj, rfl, rfl, hown, hbr⟩ := hrel
        have hsz := hbr.size
        obtain ⟨k, hk⟩ : ∃ k, 2 * j = k := ⟨_, rfl⟩
        have hln := faultsR_len s last mfm j
        have HST := Lib.hid (faults_step s last mfm j)
        obtain ⟨la, hla⟩ : ∃ la, lastR s last j = la := ⟨_, rfl⟩
        have HLA := Lib.hid (show lastR s last (j + 1) = isOne s (2 * j + 1) from rfl)
        rw [hla]
        have HL := Lib.hid hla; clear hla
        rw [hk] at hj HST HLA ⊢
        have HJ := Lib.hid hk; clear hk
        by_cases hlt : k < s.size
        · have hlt1 : k + 1 < s.size := by have := H2.out; have := HJ.out; omega
          have hx := isOne_at s k hlt
          have hy := isOne_at s (k + 1) hlt1
          have hc0 := HCELL.out k hlt
          have hc1 := HCELL.out (k + 1) hlt1
          have hl4 : (faultsR s last mfm j).length < 1073741824 := by have := HJ.out; omega
          have e1 : (k : Int) < s.size := by omega
          have e2 : (k : Int) + 1 < s.size := by omega
          have e3 : (0 : Int) ≤ (k : Int) + 1 := by omega
          have e4 : ((k : Int) + 1).toNat = k + 1 := by omega
          have e5 : IntKind.i64.wrap ((k : Int) + 1) = (k : Int) + 1 := wrap_small _ (by omega) (by omega)
          have hkb : (k : Int) ≤ 8000 := by omega
          generalize faultsR s last mfm j = l at *
          rcases hc0 with q0 | q0 <;> rcases hc1 with q1 | q1 <;> cases la <;> cases mfm
          all_goals
            rw [q0] at hx
            rw [q1] at hy
            have HR := Lib.hid (HST.out _ _ _ HL.out hx hy)
            have HY := Lib.hid (HLA.out.trans hy)
            clear hx hy
            go_wp2
            go_quiet (fail)
            go_wp2_with (at_builtin; refine wpList_appendI 40 Try.underlying40 rfl _ _ rfl rfl (hown.alloc _) (k : Int) ⟨wr.heap.size, 0, none⟩ 1 rfl (World.news_of_block (cs := #[.int .i64 (k : Int)]) (t := 2) (fr := (0, 0)) (heap_alloc_new wr _)) hl4 (by simp; omega) ?_; intro g cap w3 hown3 hb3 _)
            go_roundw
            case rel =>
              have hj2 := HJ.out
              refine ⟨j + 1, by omega, by rw [show ((2 * (j + 1) : Nat) : Int) = (k : Int) + 2 by omega], by rw [HY.out]; rfl, ?_, ?_⟩
              · first
                  | (rw [HR.out, if_pos (by decide)]; exact hown)
                  | (rw [HR.out, if_neg (by decide)]; exact hown3)
                  | fail
              · first
                  | exact below_drewN hbr _
                  | exact ((below_drewN hbr _).alloc hsz _).trans hb3
                  | fail
            case measure => simp [intOf]; omega
        · have HJJ := Lib.hid (show s.size / 2 = j by have := H2.out; have := HJ.out; omega)
          obtain ⟨a, c, rfl, hs⟩ := hown.slO
          have HS := Lib.hid hs; clear hs hown
          go_wp2
          go_ret
          rw [HJJ.out]
          exact ⟨_, _, rfl, HS.out.mono hsz1, hb1.trans (hbr.mono hsz1)⟩
    · have h2' : ¬ (s.size : Int) % 2 = 0 := by omega
      have hE : faultsV s last mfm = [] := by unfold faultsV; rw [if_neg (by omega)]
      rw [hc] at hv
      rw [hE]
      have HV := Lib.hid hv; clear hv hE hc h2
      go_enter Try.func19, Try.ntmps19
      go_wp2_with (go_at_call 36; refine (HV.out _).mono ?_; rintro e w1 ⟨rfl, hb1⟩)
      go_ret
      exact ⟨_, _, rfl, .inl rfl, hb1⟩
  · have hc0 : cellStr s = false := by simpa using hc
    have hE : faultsV s last mfm = [] := by unfold faultsV; rw [if_neg (fun h => hc h.1)]
    rw [hc0] at hv
    rw [hE]
    have HV := Lib.hid hv; clear hv hE hc hc0
    go_enter Try.func19, Try.ntmps19
    go_wp2_with (go_at_call 36; refine (HV.out _).mono ?_; rintro e w1 ⟨rfl, hb1⟩)
    go_ret
    exact ⟨_, _, rfl, .inl rfl, hb1⟩
end Go.Proofs.Ytffefhgemmjkoaa
