/- impl.RunsOf, spec.RunsOf -/
import Derived.Test.YtffefhgemmjkoaaDoorCellStr
import Derived.Test.YtffefhgemmjkoaaDoorSlRes
namespace Go.Proofs.YtffefhgemmjkoaaDoor
open Go.RowKit
set_option maxRecDepth 20000
set_option linter.unusedVariables false
/-- The last change ahead of place k, or -1. -/
def befR (s : ByteArray) : Nat → Int
  | 0 => -1
  | k + 1 => if (s[k]?.getD 0).toNat = 49 then (k : Int) else befR s k
def runsR (s : ByteArray) : Nat → List Int
  | 0 => []
  | k + 1 => if (s[k]?.getD 0).toNat = 49 ∧ 0 ≤ befR s k then runsR s k ++ [(k : Int) - befR s k] else runsR s k
theorem befR_bd (s : ByteArray) (k : Nat) : -1 ≤ befR s k ∧ befR s k < k := by
  induction k with
  | zero => simp [befR]
  | succ k ih => unfold befR; split <;> omega
theorem runsR_len (s : ByteArray) (k : Nat) : (runsR s k).length ≤ k := by
  induction k with
  | zero => simp [runsR]
  | succ k ih =>
    unfold runsR
    split
    · simp; omega
    · omega
theorem getD_at' (s : ByteArray) (k : Nat) (h : k < s.size) : s[k]?.getD 0 = s[k] := by simp [h]
theorem runs_no (s : ByteArray) (k : Nat) (hk : k < s.size) (h : s[k].toNat = 48) : befR s (k + 1) = befR s k ∧ runsR s (k + 1) = runsR s k := by
  constructor
  · show (if (s[k]?.getD 0).toNat = 49 then _ else _) = _
    rw [getD_at' s k hk, if_neg (by omega)]
  · show (if (s[k]?.getD 0).toNat = 49 ∧ 0 ≤ befR s k then _ else _) = _
    rw [getD_at' s k hk, if_neg (by omega)]
theorem runs_first (s : ByteArray) (k : Nat) (hk : k < s.size) (h : s[k].toNat = 49) (hb : befR s k < 0) : befR s (k + 1) = k ∧ runsR s (k + 1) = runsR s k := by
  constructor
  · show (if (s[k]?.getD 0).toNat = 49 then _ else _) = _
    rw [getD_at' s k hk, if_pos h]
  · show (if (s[k]?.getD 0).toNat = 49 ∧ 0 ≤ befR s k then _ else _) = _
    rw [getD_at' s k hk, if_neg (by omega)]
theorem runs_next (s : ByteArray) (k : Nat) (hk : k < s.size) (h : s[k].toNat = 49) (hb : 0 ≤ befR s k) : befR s (k + 1) = k ∧ runsR s (k + 1) = runsR s k ++ [(k : Int) - befR s k] := by
  constructor
  · show (if (s[k]?.getD 0).toNat = 49 then _ else _) = _
    rw [getD_at' s k hk, if_pos h]
  · show (if (s[k]?.getD 0).toNat = 49 ∧ 0 ≤ befR s k then _ else _) = _
    rw [getD_at' s k hk, if_pos ⟨h, hb⟩]
def runsV (s : ByteArray) : List Int := if cellStr s = true then runsR s s.size else []
theorem runsV_len (s : ByteArray) (h : s.size ≤ 1048576) : (runsV s).length ≤ 1048576 := by
  unfold runsV
  split
  · exact Nat.le_trans (runsR_len s _) h
  · simp
set_option maxHeartbeats 2000000 in
theorem runsOf_any (s : ByteArray) (h : s.size ≤ 1048576) (w : World) :
    Calls Tryd.prog 25 #[.string s] w (SlRes (runsV s) w) := by
  have hv := fun w => isCellString_any s w (by unfold maxLen; omega)
  by_cases hc : cellStr s = true
  · have hE : runsV s = runsR s s.size := by unfold runsV; rw [if_pos hc]
    have hs8 := cellStr_size hc
    rw [hE]
    have HCELL := Lib.hid (fun k hk => cellStr_cell hc k hk)
    rw [hc] at hv
    have HV := Lib.hid hv; clear hv hE hc
    go_enter Tryd.func25, Tryd.ntmps25
    go_wp2_with (go_at_call 59; refine (HV.out _).mono ?_; rintro e w1 ⟨rfl, hb1⟩)
    have hsz1 := hb1.size
    go_loopw [3, 4, 5, 6] (fun v b _ _ wr => ∃ pos, pos ≤ s.size ∧ wr.heap[w1.heap.size]? = some (.stringIter s pos) ∧ OwnI wr (w1.heap.size + 1) v (runsR s pos) ∧ b = .int .i64 (befR s pos) ∧ Below w1.heap.size w1 wr) (fun _ _ _ _ wr => s.size - wr.iterPos w1.heap.size)
    case atStart => exact ⟨0, Nat.zero_le _, World.iter_heap w1 s 0, ⟨rfl, .inl ⟨rfl, rfl⟩⟩, rfl, (Below.refl _ _).alloc (Nat.le_refl _) _⟩
    case round =>
      obtain ⟨pos, hk, hit, hown, rfl, hbr⟩ := hrel
      have hmes := Lib.hid (iterPos_of hit)
      by_cases hp : pos < s.size
      · have hnx : ∀ ty, (Instr.next (.pointer (some ⟨w1.heap.size, 0, none⟩)) true ty).run Tryd.prog wr = _ := fun ty => Lib.run_next_any_at wr w1.heap.size s pos ty hit hp
        have hit2 := Lib.iterAt_heap wr w1.heap.size s pos (pos + 1) hit
        have hown2 := hown.iterAt (k := w1.heap.size) (by omega) s (pos + 1)
        have hbr2 := Lib.below_iterAt hbr (k := w1.heap.size) (Nat.le_refl _) s (pos + 1)
        have hsz3 : w1.heap.size + 1 ≤ (wr.iterAt w1.heap.size s (pos + 1)).heap.size := by
          rw [Lib.iterAt_size]; exact (Array.getElem?_eq_some_iff.1 hit).1
        have hc2 := HCELL.out pos hp
        rw [decode_ascii s pos hp (by omega)] at hnx
        obtain ⟨V, hV⟩ : ∃ V, wr.iterAt w1.heap.size s (pos + 1) = V := ⟨_, rfl⟩
        rw [hV] at hnx hit2 hown2 hbr2 hsz3
        have hbd := befR_bd s pos
        have hln := runsR_len s pos
        have HF := Lib.hid (And.intro hit (And.intro hown hbr)); clear hit hown hbr hV
        have HIT := Lib.hid hit2; clear hit2
        rcases hc2 with h48 | h49
        · have HR := Lib.hid (runs_no s pos hp h48)
          rw [h48] at hnx
          clear h48
          generalize befR s pos = b at *
          generalize runsR s pos = l at *
          go_wp2
          go_roundw
          case rel => exact ⟨pos + 1, by omega, HIT.out, by rw [HR.out.2]; exact hown2, by rw [HR.out.1], hbr2⟩
          case measure => rw [iterPos_of HIT.out, hmes.out]; omega
        · by_cases hb0 : befR s pos < 0
          · have HR := Lib.hid (runs_first s pos hp h49 hb0)
            rw [h49] at hnx
            clear h49
            generalize befR s pos = b at *
            generalize runsR s pos = l at *
            go_wp2
            go_roundw
            case rel => exact ⟨pos + 1, by omega, HIT.out, by rw [HR.out.2]; exact hown2, by rw [HR.out.1], hbr2⟩
            case measure => rw [iterPos_of HIT.out, hmes.out]; omega
          · have hb0' : 0 ≤ befR s pos := by omega
            have HR := Lib.hid (runs_next s pos hp h49 hb0')
            rw [h49] at hnx
            clear h49
            generalize befR s pos = b at *
            generalize runsR s pos = l at *
            have hl4 : l.length < 1073741824 := by omega
            go_wp2_with (at_builtin; refine wpList_appendI 37 Tryd.underlying37 rfl _ _ rfl rfl (hown2.alloc _) ((pos : Int) - b) ⟨V.heap.size, 0, none⟩ 1 rfl (World.news_of_block (cs := #[.int .i64 ((pos : Int) - b)]) (t := 2) (fr := (0, 0)) (heap_alloc_new V _)) hl4 (by simp; omega) ?_; intro g cap w3 hown3 hb3 _)
            have hit3 : w3.heap[w1.heap.size]? = some (.stringIter s (pos + 1)) := by
              rw [hb3.block _ (by omega), Below.heap_alloc _ _ _ (by omega)]; exact HIT.out
            go_roundw
            case rel => exact ⟨pos + 1, by omega, hit3, by rw [HR.out.2]; simpa using hown3, by rw [HR.out.1], (hbr2.alloc (by omega) _).trans (hb3.mono (by omega))⟩
            case measure => rw [iterPos_of hit3, hmes.out]; omega
      · have hnx : ∀ ty, (Instr.next (.pointer (some ⟨w1.heap.size, 0, none⟩)) true ty).run Tryd.prog wr = _ := fun ty => Lib.run_next_end_at wr w1.heap.size s pos ty hit hp
        obtain rfl : pos = s.size := by omega
        have HOWN := Lib.hid hown; clear hown
        obtain ⟨a, c, rfl, hs⟩ := HOWN.out.slO
        have HS := Lib.hid hs; clear hs
        go_wp2
        go_ret
        exact ⟨_, _, rfl, HS.out.mono (by omega), hb1.trans (hbr.mono hsz1)⟩
  · have hc0 : cellStr s = false := by simpa using hc
    have hE : runsV s = [] := by unfold runsV; rw [if_neg hc]
    rw [hc0] at hv
    rw [hE]
    have HV := Lib.hid hv; clear hv hE hc hc0
    go_enter Tryd.func25, Tryd.ntmps25
    go_wp2_with (go_at_call 59; refine (HV.out _).mono ?_; rintro e w1 ⟨rfl, hb1⟩)
    go_ret
    exact ⟨_, _, rfl, .inl rfl, hb1⟩
end Go.Proofs.YtffefhgemmjkoaaDoor
