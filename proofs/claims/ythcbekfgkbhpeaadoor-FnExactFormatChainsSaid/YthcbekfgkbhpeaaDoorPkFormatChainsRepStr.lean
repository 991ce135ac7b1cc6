/- slices.Repeat of one string -/
import Derived.Test.YthcbekfgkbhpeaaDoorPkFormatChainsCopyN
import Derived.Test.YthcbekfgkbhpeaaDoorPkFormatChainsOwnBS
import Derived.Test.YthcbekfgkbhpeaaDoorShelf
import Derived.IntWalk
namespace Go.Proofs.YthcbekfgkbhpeaaDoor
open Go.RowKit
set_option maxRecDepth 20000
set_option linter.unusedVariables false
set_option linter.unusedSimpArgs false
set_option maxRecDepth 20000
def repD (s : StringV) (m : Nat) : List Value := (List.replicate m (rowString s)).flatten
theorem repD_len (s : StringV) (m : Nat) : (repD s m).length = m * 1 := by
  induction m with
  | zero => rfl
  | succ m ih => simp only [repD, List.replicate_succ, List.flatten_cons, List.length_append] at ih ⊢; rw [ih, rowString_len]; omega
theorem repD_add (s : StringV) (m k : Nat) : repD s (m + k) = repD s m ++ repD s k := by unfold repD; rw [← List.replicate_append_replicate, List.flatten_append]
theorem repD_one (s : StringV) (m : Nat) : ∀ v ∈ repD s m, v.oneCell' = true := by
  intro v hv
  unfold repD at hv
  simp [rowString] at hv
  rw [hv.2]
  rfl
theorem repD_splice (s : StringV) (m k : Nat) (rest : List Value) (h : k ≤ rest.length) : splice (repD s m ++ rest) m (repD s k) = repD s (m + k) ++ rest.drop k := by
  have e0 : (repD s m).length = m := by rw [repD_len, Nat.mul_one]
  have e1 : (repD s k).length = k := by rw [repD_len, Nat.mul_one]
  unfold splice
  rw [List.take_left' e0, e1, List.drop_append, repD_add]
  have e : m + k - (repD s m).length = k := by rw [e0]; omega
  rw [List.drop_of_length_le (by rw [e0]; omega), e]
  simp
theorem repD_at (s : StringV) (m k : Nat) (rest : List Value) (h : k ≤ m) {w : World} {g : Nat} {T : TypeId} {fr : Nat × Nat} (hg : w.heap[g]? = some (.cells (repD s m ++ rest).toArray T fr)) :
    ∀ j v, (repD s k)[j]? = some v → w.cell? ((⟨g, 0, none⟩ : Addr).add j) = some v := by
  intro j v hv
  have hj : j < (repD s k).length := (List.getElem?_eq_some_iff.1 hv).1
  have e : (repD s m ++ rest)[j]? = some v := by
    obtain ⟨d, rfl⟩ : ∃ d, m = k + d := ⟨m - k, by omega⟩
    rw [repD_add, List.append_assoc, List.getElem?_append_left hj]; exact hv
  rw [add_plain]
  simp only [World.cell?, hg, Nat.zero_add]
  simp only [List.getElem?_toArray]
  rw [e]; rfl
set_option maxHeartbeats 8000000 in
theorem repString_any (s : StringV) (n b off c : Nat) (w : World) (h1 : 1 ≤ n) (h2 : n ≤ 128) (c0 : w.cell? ⟨b, off, none⟩ = some (.string s.f0)) :
    Calls Tryd.prog 67 #[.slice (some ⟨b, off, none⟩) 1 c, .int .i64 (n : Int)] w fun e w' => ∃ g, e = .returned (.slice (some ⟨g, 0, none⟩) n n) ∧ OwnBS w' w.heap.size g (List.replicate n s) ∧ Below w.heap.size w w' := by
  have hbl : b < w.heap.size := by
    rcases Nat.lt_or_ge b w.heap.size with h | h
    · exact h
    · exfalso
      have : w.heap[b]? = none := Array.getElem?_eq_none h
      simp [World.cell?, this] at c0
  have MU := Lib.hid (fun w => Tryd.bits_Mul 1 n (by omega) (by omega) w)
  have hm1 : 1 * n / 18446744073709551616 = 0 := by omega
  have hm2 : 1 * n % 18446744073709551616 = n := by omega
  rw [hm1, hm2] at MU
  obtain ⟨i0, hi, hz0, hz1, hz2⟩ := info_parts infoString
  have hmk : ∀ w : World, (Instr.makeSlice 22 (.int .i64 (n : Int)) (.int .i64 (n : Int))).run Tryd.prog w = .ok (.slice (some ⟨w.heap.size, 0, none⟩) n n) (w.alloc (.cells (madeCells zeroString.toArray n) 9)) := fun w => by
    have h := run_make (P := Tryd.prog) w 22 9 i0 (.string ByteArray.empty) Tryd.underlying22 hi hz0 .i64 .i64 n n (by omega) (by omega) (by rw [hz2]; omega) (by omega)
    rw [hz1] at h
    simp only [Int.toNat_natCast, Nat.mul_one] at h
    exact h
  have HSZ := Lib.hid (show (Tryd.prog.info? 9).map (·.size) = some 1 by rw [hi]; simp [hz1])
  have HCS := Lib.hid (And.intro c0 hbl)
  clear c0 hbl hi hz0 hz1 hz2 hm1 hm2
  go_enter Tryd.func67, Tryd.ntmps67
  go_wp2_with fail
  refine (MU.out _).mono ?_
  rintro e w0 ⟨rfl, h0⟩
  rw [h0]
  clear h0 w0
  have hn1 : ((n : Nat) : Int) ≤ 9223372036854775807 := by omega
  go_upto_region 7 with (fail)
  have hZs := size_madeCells zeroString.toArray n
  have hbA := (Below.refl w.heap.size w).alloc (Nat.le_refl _) (.cells (madeCells zeroString.toArray n) 9)
  have hgA : (w.alloc (.cells (madeCells zeroString.toArray n) 9)).heap[w.heap.size]? = some (.cells (madeCells zeroString.toArray n).toList.toArray 9 (0, 0)) := by simpa using heap_alloc_new w (.cells (madeCells zeroString.toArray n) 9)
  generalize w.alloc (.cells (madeCells zeroString.toArray n) 9) = W at *
  generalize madeCells zeroString.toArray n = Z at *
  obtain ⟨Z⟩ := Z
  have hZl : Z.length = n * 1 := by simpa using hZs
  clear hZs hmk
  obtain ⟨c0, hbl⟩ := HCS.out
  have d0 : W.cell? ⟨b, off, none⟩ = some (.string s.f0) := by rw [hbA.cell (p := ⟨b, off, none⟩) hbl]; exact c0
  have HS1 := Lib.hid (show ∀ j v, (repD s 1)[j]? = some v → W.cell? ((⟨b, off, none⟩ : Addr).add j) = some v from fun j v hv => by
    rw [add_plain]
    match j, hv with
    | 0, hv => simp [repD, rowString] at hv; subst hv; simpa using d0
    | j + 1, hv => simp [repD, rowString] at hv)
  clear c0 d0
  have HBA := Lib.hid hbA
  have HGA := Lib.hid hgA
  have HZL := Lib.hid hZl
  clear hbA hgA hZl
  have HMIN := Lib.hid (show (1 : Nat) = Nat.min 1 n by simp [Nat.min_def]; omega)
  go_wp2_with (refine wpList_copyN rfl _ _ _ _ rfl 9 Tryd.underlying22 1 1 HSZ.out w.heap.size 0 n n ⟨b, off, none⟩ 1 c rfl rfl Z 9 (by simpa using HGA.out) (repD s 1) HMIN.out (repD_len s 1) HS1.out (by rw [repD_len, HZL.out]; omega) (repD_one s 1) w.heap.size w HBA.out (Nat.le_refl _) ?_; intro w2 HG2 hb2 hz2)
  have HG3 := Lib.hid (show w2.heap[w.heap.size]? = some (.cells (repD s 1 ++ Z.drop 1).toArray 9 (0, 0)) by
    have h := HG2.out
    have e := repD_splice s 0 1 Z (by have := HZL.out; omega)
    simp only [repD, List.replicate_zero, List.flatten_nil, List.nil_append, Nat.zero_add] at e
    unfold repD
    rw [← e]
    exact h)
  clear HG2
  have HB2 := Lib.hid hb2
  clear hb2 HS1
  go_loopw [8] (fun i wr => ∃ m : Nat, 1 ≤ m ∧ m ≤ n ∧ i = .int .i64 m ∧ ∃ rest : List Value, Hid (rest.length = (n - m) * 1 ∧ wr.heap[w.heap.size]? = some (.cells (repD s m ++ rest).toArray 9 (0, 0))) ∧ Below w.heap.size w wr) (fun i _ => n - (intOf i).toNat)
  case atStart => exact ⟨1, Nat.le_refl _, h1, rfl, _, Lib.hid ⟨by rw [List.length_drop, HZL.out]; omega, HG3.out⟩, HB2.out⟩
  case round =>
    obtain ⟨m, hm1, hm2, rfl, rest, hR, hb⟩ := hrel
    by_cases hlt : m < n
    · have e1 : (m : Int) < (n : Int) := by omega
      have e2 : (0 : Int) ≤ (m : Int) := by omega
      have e3 : (m : Int) ≤ (n : Int) := by omega
      obtain ⟨k, hk⟩ : ∃ k, k = Nat.min m (n - m) := ⟨_, rfl⟩
      have hk1 : k ≤ m := by rw [hk]; exact Nat.min_le_left _ _
      have hk2 : k ≤ n - m := by rw [hk]; exact Nat.min_le_right _ _
      have hk3 : 1 ≤ k := by rw [hk]; exact Nat.le_min.2 ⟨by omega, by omega⟩
      have HK := Lib.hid hk
      have HKK := Lib.hid (And.intro hm1 (And.intro hlt (And.intro hk1 (And.intro hk2 hk3))))
      have hz := hb.size
      have HB := Lib.hid hb
      clear hk hb
      have hnm : ¬ n = m := by omega
      have hwk : IntKind.i64.wrap ((m : Int) + (k : Int)) = (m : Int) + (k : Int) := IntWalk.i64_in _ (by omega)
      have hks : wr.heap.size = wr.heap.size := rfl
      go_wp2
      go_region_held3 (fun w' => w'.heap.size = w'.heap.size) (exact rfl) (first | (refine step_copyN rfl _ _ _ _ rfl 9 Tryd.underlying22 1 k HSZ.out w.heap.size m (n - m) (n - m) ⟨w.heap.size, 0, none⟩ m n (by rfl) (by rfl) (repD s m ++ rest) 9 hR.out.2 (repD s k) HK.out (repD_len s k) (repD_at s m k rest hk1 hR.out.2) (by rw [List.length_append, repD_len, repD_len, hR.out.1]; omega) (repD_one s k) w.heap.size w HB.out.drew (Nat.le_refl _) ?_; intro w4 HG4 hb4 hz4) | fail)
      have HG5 := Lib.hid (show w4.heap[w.heap.size]? = some (.cells (repD s (m + k) ++ rest.drop k).toArray 9 (0, 0)) by
        rw [← repD_splice s m k rest (by rw [hR.out.1]; omega)]; exact HG4.out)
      go_wp2
      go_roundw
      case rel =>
        obtain ⟨q1, q2, q3, q4, q5⟩ := HKK.out
        exact ⟨m + k, by omega, by omega, by go_num, rest.drop k, Lib.hid ⟨by rw [List.length_drop, hR.out.1]; omega, HG5.out⟩, hb4⟩
      case measure =>
        obtain ⟨q1, q2, q3, q4, q5⟩ := HKK.out
        simp [intOf]; omega
    · obtain rfl : m = n := by omega
      have e1 : ¬ ((m : Int) < (m : Int)) := by omega
      have HR0 := Lib.hid (show wr.heap[w.heap.size]? = some (.cells (repD s m).toArray 9 (0, 0)) by
        obtain ⟨h1, h2⟩ := hR.out
        rw [Nat.sub_self, Nat.zero_mul] at h1
        rw [List.eq_nil_of_length_eq_zero h1, List.append_nil] at h2
        exact h2)
      go_wp2
      go_ret
      exact ⟨w.heap.size, rfl, ⟨#[], Nat.le_refl _, by rw [HR0.out, List.map_replicate]; simp [repD]⟩, hb⟩
end Go.Proofs.YthcbekfgkbhpeaaDoor
