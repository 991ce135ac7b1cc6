/- spec.DiscOfData -/
import Derived.Test.YtpcfhfnlpcpofaaDodIm
namespace Go.Proofs.Ytpcfhfnlpcpofaa
open Go.RowKit
set_option linter.unusedVariables false
set_option linter.unusedSimpArgs false
set_option maxRecDepth 20000
/-- The first k sectors have their bytes, the others none. -/
def halfS (s : ByteArray) (m n k : Nat) : List SectorV := cutS s m k ++ List.replicate (n - k) (missS m)
theorem halfS_len (s : ByteArray) (m n k : Nat) (h : k ≤ n) : (halfS s m n k).length = n := by simp [halfS, cutS_len]; omega
theorem halfS_zero (s : ByteArray) (m n : Nat) : halfS s m n 0 = List.replicate n (missS m) := by simp [halfS, cutS]
theorem halfS_all (s : ByteArray) (m n : Nat) : halfS s m n n = cutS s m n := by simp [halfS]
theorem halfS_at (s : ByteArray) (m n k : Nat) (h : k < n) : (halfS s m n k)[k]? = some (missS m) := by
  unfold halfS
  rw [List.getElem?_append_right (by rw [cutS_len]; exact Nat.le_refl _), cutS_len, Nat.sub_self, List.getElem?_replicate, if_pos (by omega)]
theorem halfS_set (s : ByteArray) (m n k : Nat) (h : k < n) : (halfS s m n k).set k (cutAt s m k) = halfS s m n (k + 1) := by
  unfold halfS
  rw [show n - k = (n - (k + 1)) + 1 by omega, List.replicate_succ, cutS_succ]
  rw [List.set_append_right _ _ (by rw [cutS_len]; exact Nat.le_refl _), cutS_len, Nat.sub_self, List.set_cons_zero]
  simp
set_option maxHeartbeats 8000000 in
theorem sdod8 (a b c d : Int) (n : Nat) (s : ByteArray) (hs : s.size ≤ 1048576) (w : World) (h3 : 1 ≤ n) (h4 : n ≤ 128)
    (GE : Hid (∀ w : World, Calls Try.prog 65 #[.int .i64 a, .int .i64 b, .int .i64 c, .int .i64 d] w fun e w' => e = .returned (.bool true) ∧ w = w'))
    (BY : Hid (∀ w : World, Calls Try.prog 75 #[.int .i64 d] w fun e w' => e = .returned (.int .i64 8) ∧ w = w'))
    (NW : Hid (∀ w : World, Calls Try.prog 66 #[.int .i64 a, .int .i64 b, .int .i64 c, .int .i64 d] w fun e w' => ∃ g cap, e = .returned (.agg #[.int .i64 a, .int .i64 b, .int .i64 c, .int .i64 d, .slice (some ⟨g, 0, none⟩) n cap]) ∧ OwnBlk w' w.heap.size g (List.replicate n (missS 8)) ∧ Below w.heap.size w w')) :
    Calls Try.prog 44 #[.int .i64 a, .int .i64 b, .int .i64 c, .int .i64 d, .string s] w (DiscRes (if s.size = n * 8 then ⟨a, b, c, d, cutS s 8 n⟩ else noDisc) (if s.size = n * 8 then 0 else 7) w) := by
  by_cases hd : s.size = n * 8
  case neg =>
    rw [if_neg hd, if_neg hd]
    have hne : ((s.size : Int) != 8 * (n : Int)) = true := by rw [bne_iff_ne]; omega
    clear hd
    go_enter Try.func44, Try.ntmps44
    go_wp2_with fail
    refine (GE.out _).mono ?_
    rintro e _ ⟨rfl, rfl⟩
    go_wp2_with fail
    refine (NW.out _).mono ?_
    rintro e w1 ⟨g, cap, rfl, hown, hb1⟩
    have R1 := Lib.hid (show BoxF w1 w.heap.size #[.int .i64 0, .int .i64 0, .int .i64 0, .int .i64 0, .slice none 0 0] from BoxF.below (boxF5 (by simp [go_sem]) (by simp [go_sem]) (by simp [go_sem]) (by simp [go_sem]) (by simp [go_sem])) hb1 (by simp))
    have F1 := Lib.hid (show Below w.heap.size w w1 from Below.trans (by go_grown) (hb1.mono (by simp)))
    have hgB : w.heap.size + 1 ≤ g := by have := hown.choose_spec.1; simpa using this
    have hgl : g < w1.heap.size := hown.lt
    have hl1 : w.heap.size < w1.heap.size := by omega
    have HO := Lib.hid (hown.mono (B' := w.heap.size + 1) (by simp))
    clear hown hb1
    go_upto_region 4 with (fail)
    have O2 := Lib.hid (show BoxF (w1.alloc (.cells #[.int .i64 a, .int .i64 b, .int .i64 c, .int .i64 d, .slice (some ⟨g, 0, none⟩) n cap] 29)) w1.heap.size #[.int .i64 a, .int .i64 b, .int .i64 c, .int .i64 d, .slice (some ⟨g, 0, none⟩) n cap] from BoxF.new w1 _ _ _ rfl)
    have F2 := Lib.hid (show Below w.heap.size w (w1.alloc (.cells #[.int .i64 a, .int .i64 b, .int .i64 c, .int .i64 d, .slice (some ⟨g, 0, none⟩) n cap] 29)) from F1.out.alloc F1.out.size _)
    have R2 := Lib.hid (R1.out.below ((Below.refl w1.heap.size w1).alloc (Nat.le_refl _) (.cells #[.int .i64 a, .int .i64 b, .int .i64 c, .int .i64 d, .slice (some ⟨g, 0, none⟩) n cap] 29)) hl1)
    generalize (w1.alloc (.cells #[.int .i64 a, .int .i64 b, .int .i64 c, .int .i64 d, .slice (some ⟨g, 0, none⟩) n cap] 29)) = W2 at *
    clear R1 F1 HO
    obtain ⟨xO4, _⟩ := O2.out 4 _ rfl
    obtain ⟨xR0, yR0⟩ := R2.out 0 _ rfl
    obtain ⟨xR1, yR1⟩ := R2.out 1 _ rfl
    obtain ⟨xR2, yR2⟩ := R2.out 2 _ rfl
    obtain ⟨xR3, yR3⟩ := R2.out 3 _ rfl
    obtain ⟨xR4, yR4⟩ := R2.out 4 _ rfl
    go_wp2_with (go_at_call 75; (with_reducible refine (BY.out _).mono ?_); rintro e _ ⟨rfl, rfl⟩)
    refine bodyPost_ret (v := .tuple #[.agg #[.int .i64 0, .int .i64 0, .int .i64 0, .int .i64 0, .slice none 0 0], .int .i64 7]) (by simp [results, Try.results44, go_sem, xR0, yR0, xR1, yR1, xR2, yR2, xR3, yR3, xR4, yR4]) rfl ⟨none, 0, rfl, .inl rfl, ?_⟩
    exact ((((F2.out.setCell (by simp <;> omega) _).setCell (by simp <;> omega) _).setCell (by simp <;> omega) _).setCell (by simp <;> omega) _).setCell (by simp <;> omega) _
  rw [if_pos hd, if_pos hd]
  have hne : ((s.size : Int) != 8 * (n : Int)) = false := by simp; omega
  have HD := Lib.hid hd
  have HLN := Lib.hid (halfS_len s 8 n)
  have HZ := Lib.hid (halfS_zero s 8 n)
  have HALL := Lib.hid (halfS_all s 8 n)
  have HAT := Lib.hid (halfS_at s 8 n)
  have HSET := Lib.hid (show ∀ k, k < n → (halfS s 8 n k).set k ⟨s.extract (8 * k) (8 * k + 8), 1⟩ = halfS s 8 n (k + 1) from fun k h => halfS_set s 8 n k h)
  have HMS := Lib.hid (show ∃ z, missS 8 = ⟨z, 3⟩ from ⟨_, rfl⟩)
  generalize halfS s 8 n = HS at *
  generalize missS 8 = ms at *
  clear hd
  go_enter Try.func44, Try.ntmps44
  go_wp2_with fail
  refine (GE.out _).mono ?_
  rintro e _ ⟨rfl, rfl⟩
  go_wp2_with fail
  refine (NW.out _).mono ?_
  rintro e w1 ⟨g, cap, rfl, hown, hb1⟩
  have R1 := Lib.hid (show BoxF w1 w.heap.size #[.int .i64 0, .int .i64 0, .int .i64 0, .int .i64 0, .slice none 0 0] from BoxF.below (boxF5 (by simp [go_sem]) (by simp [go_sem]) (by simp [go_sem]) (by simp [go_sem]) (by simp [go_sem])) hb1 (by simp))
  have F1 := Lib.hid (show Below w.heap.size w w1 from Below.trans (by go_grown) (hb1.mono (by simp)))
  have hgB : w.heap.size + 1 ≤ g := by have := hown.choose_spec.1; simpa using this
  have hgl : g < w1.heap.size := hown.lt
  have hl1 : w.heap.size < w1.heap.size := by omega
  have HO := Lib.hid (hown.mono (B' := w.heap.size + 1) (by simp))
  clear hown hb1
  go_wp2_with (go_at_call 75; (with_reducible refine (BY.out _).mono ?_); rintro e _ ⟨rfl, rfl⟩)
  clear hne
  have O2 := Lib.hid (show BoxF (w1.alloc (.cells #[.int .i64 a, .int .i64 b, .int .i64 c, .int .i64 d, .slice (some ⟨g, 0, none⟩) n cap] 29)) w1.heap.size #[.int .i64 a, .int .i64 b, .int .i64 c, .int .i64 d, .slice (some ⟨g, 0, none⟩) n cap] from BoxF.new w1 _ _ _ rfl)
  have F2 := Lib.hid (show Below w.heap.size w (w1.alloc (.cells #[.int .i64 a, .int .i64 b, .int .i64 c, .int .i64 d, .slice (some ⟨g, 0, none⟩) n cap] 29)) from F1.out.alloc F1.out.size _)
  have R2 := Lib.hid (R1.out.below ((Below.refl w1.heap.size w1).alloc (Nat.le_refl _) (.cells #[.int .i64 a, .int .i64 b, .int .i64 c, .int .i64 d, .slice (some ⟨g, 0, none⟩) n cap] 29)) hl1)
  have HO2 := Lib.hid (HO.out.below ((Below.refl w1.heap.size w1).alloc (Nat.le_refl _) (.cells #[.int .i64 a, .int .i64 b, .int .i64 c, .int .i64 d, .slice (some ⟨g, 0, none⟩) n cap] 29)) hgl)
  have hl2 : w1.heap.size + 1 ≤ (w1.alloc (.cells #[.int .i64 a, .int .i64 b, .int .i64 c, .int .i64 d, .slice (some ⟨g, 0, none⟩) n cap] 29)).heap.size := by simp
  generalize w1.alloc (.cells #[.int .i64 a, .int .i64 b, .int .i64 c, .int .i64 d, .slice (some ⟨g, 0, none⟩) n cap] 29) = W2 at *
  clear R1 F1 HO
  go_loopw [14] (fun i wr => ∃ k : Nat, k ≤ n ∧ i = .int .i64 k ∧ Hid (OwnBlk wr (w.heap.size + 1) g (HS k)) ∧ Hid (BoxF wr w1.heap.size #[.int .i64 a, .int .i64 b, .int .i64 c, .int .i64 d, .slice (some ⟨g, 0, none⟩) n cap]) ∧ Hid (BoxF wr w.heap.size #[.int .i64 0, .int .i64 0, .int .i64 0, .int .i64 0, .slice none 0 0]) ∧ Below w.heap.size w wr ∧ w1.heap.size + 1 ≤ wr.heap.size) (fun i _ => n - (intOf i).toNat)
  case atStart => exact ⟨0, Nat.zero_le _, rfl, Lib.hid (by rw [HZ.out]; exact HO2.out), O2, R2, F2.out, hl2⟩
  case round =>
    obtain ⟨k, hk, rfl, hown, hbo, hbr, hb, hl⟩ := hrel
    obtain ⟨xO4, yO4⟩ := hbo.out 4 _ rfl
    have hq1 : ¬ g = w1.heap.size := by omega
    have hq2 : ¬ w1.heap.size = g := by omega
    by_cases hlt : k < n
    · have e1 : (k : Int) < (n : Int) := by omega
      have hk8 : (k : Int) * 8 + 8 ≤ (s.size : Int) := by have := HD.out; omega
      obtain ⟨z, hz⟩ := HMS.out
      have hc := hown.out.cell (HAT.out k hlt)
      rw [hz] at hc
      obtain ⟨c0, c1⟩ := hc
      dsimp only at c0 c1
      have z0 := hown.out.free (k * 2)
      have z1 := hown.out.free (k * 2 + 1)
      clear hz
      go_wp2
      go_region
      go_wp2
      go_roundw
      case rel =>
        refine ⟨k + 1, by omega, by go_num, ?_, ?_, ?_, ?_, by simpa using hl⟩
        · have h9 := hown.out.put k ⟨s.extract (k * 8) (k * 8 + 8), 1⟩ (by rw [HLN.out k hk]; exact hlt)
          rw [Nat.mul_comm k 8, HSET.out k hlt] at h9
          exact Lib.hid (h9.keep (by rw [Nat.mul_comm k 8]; rfl))
        · refine Lib.hid (hbo.out.keep ?_)
          simp only [World.setCell, World.drew, Array.getElem?_modify]
          rw [if_neg (by omega), if_neg (by omega)]
        · refine Lib.hid (hbr.out.keep ?_)
          simp only [World.setCell, World.drew, Array.getElem?_modify]
          rw [if_neg (by omega), if_neg (by omega)]
        · first | exact ((hb.setCell (by simp <;> omega) _).setCell (by simp <;> omega) _).drew | exact (hb.setCell (by simp <;> omega) _).drew.setCell (by simp <;> omega) _
      case measure => simp [intOf]; omega
    · obtain rfl : k = n := by omega
      have e1 : ¬ ((k : Int) < (k : Int)) := by omega
      have HO3 := Lib.hid hown.out
      obtain ⟨xO0, yO0⟩ := hbo.out 0 _ rfl
      obtain ⟨xO1, yO1⟩ := hbo.out 1 _ rfl
      obtain ⟨xO2, yO2⟩ := hbo.out 2 _ rfl
      obtain ⟨xO3, yO3⟩ := hbo.out 3 _ rfl
      obtain ⟨xR0, yR0⟩ := hbr.out 0 _ rfl
      obtain ⟨xR1, yR1⟩ := hbr.out 1 _ rfl
      obtain ⟨xR2, yR2⟩ := hbr.out 2 _ rfl
      obtain ⟨xR3, yR3⟩ := hbr.out 3 _ rfl
      obtain ⟨xR4, yR4⟩ := hbr.out 4 _ rfl
      go_wp2
      have hlen := HLN.out k (Nat.le_refl _)
      refine bodyPost_ret (v := .tuple #[.agg #[.int .i64 a, .int .i64 b, .int .i64 c, .int .i64 d, .slice (some ⟨g, 0, none⟩) k cap], .int .i64 0]) (by simp [results, Try.results44, go_sem, xR0, yR0, xR1, yR1, xR2, yR2, xR3, yR3, xR4, yR4, xO0, xO1, xO2, xO3, xO4]) rfl ⟨some ⟨g, 0, none⟩, cap, by rw [← HALL.out, hlen], ?_, ?_⟩
      · rw [← HALL.out]
        refine OwnBlk.so ((HO3.out.mono (by omega)).keep ?_)
        simp only [World.setCell, Array.getElem?_modify]
        rw [if_neg (by omega), if_neg (by omega), if_neg (by omega), if_neg (by omega), if_neg (by omega)]
      · exact ((((hb.setCell (by simp <;> omega) _).setCell (by simp <;> omega) _).setCell (by simp <;> omega) _).setCell (by simp <;> omega) _).setCell (by simp <;> omega) _
set_option maxHeartbeats 8000000 in
theorem sdod16 (a b c d : Int) (n : Nat) (s : ByteArray) (hs : s.size ≤ 1048576) (w : World) (h3 : 1 ≤ n) (h4 : n ≤ 128)
    (GE : Hid (∀ w : World, Calls Try.prog 65 #[.int .i64 a, .int .i64 b, .int .i64 c, .int .i64 d] w fun e w' => e = .returned (.bool true) ∧ w = w'))
    (BY : Hid (∀ w : World, Calls Try.prog 75 #[.int .i64 d] w fun e w' => e = .returned (.int .i64 16) ∧ w = w'))
    (NW : Hid (∀ w : World, Calls Try.prog 66 #[.int .i64 a, .int .i64 b, .int .i64 c, .int .i64 d] w fun e w' => ∃ g cap, e = .returned (.agg #[.int .i64 a, .int .i64 b, .int .i64 c, .int .i64 d, .slice (some ⟨g, 0, none⟩) n cap]) ∧ OwnBlk w' w.heap.size g (List.replicate n (missS 16)) ∧ Below w.heap.size w w')) :
    Calls Try.prog 44 #[.int .i64 a, .int .i64 b, .int .i64 c, .int .i64 d, .string s] w (DiscRes (if s.size = n * 16 then ⟨a, b, c, d, cutS s 16 n⟩ else noDisc) (if s.size = n * 16 then 0 else 7) w) := by
  by_cases hd : s.size = n * 16
  case neg =>
    rw [if_neg hd, if_neg hd]
    have hne : ((s.size : Int) != 16 * (n : Int)) = true := by rw [bne_iff_ne]; omega
    clear hd
    go_enter Try.func44, Try.ntmps44
    go_wp2_with fail
    refine (GE.out _).mono ?_
    rintro e _ ⟨rfl, rfl⟩
    go_wp2_with fail
    refine (NW.out _).mono ?_
    rintro e w1 ⟨g, cap, rfl, hown, hb1⟩
    have R1 := Lib.hid (show BoxF w1 w.heap.size #[.int .i64 0, .int .i64 0, .int .i64 0, .int .i64 0, .slice none 0 0] from BoxF.below (boxF5 (by simp [go_sem]) (by simp [go_sem]) (by simp [go_sem]) (by simp [go_sem]) (by simp [go_sem])) hb1 (by simp))
    have F1 := Lib.hid (show Below w.heap.size w w1 from Below.trans (by go_grown) (hb1.mono (by simp)))
    have hgB : w.heap.size + 1 ≤ g := by have := hown.choose_spec.1; simpa using this
    have hgl : g < w1.heap.size := hown.lt
    have hl1 : w.heap.size < w1.heap.size := by omega
    have HO := Lib.hid (hown.mono (B' := w.heap.size + 1) (by simp))
    clear hown hb1
    go_upto_region 4 with (fail)
    have O2 := Lib.hid (show BoxF (w1.alloc (.cells #[.int .i64 a, .int .i64 b, .int .i64 c, .int .i64 d, .slice (some ⟨g, 0, none⟩) n cap] 29)) w1.heap.size #[.int .i64 a, .int .i64 b, .int .i64 c, .int .i64 d, .slice (some ⟨g, 0, none⟩) n cap] from BoxF.new w1 _ _ _ rfl)
    have F2 := Lib.hid (show Below w.heap.size w (w1.alloc (.cells #[.int .i64 a, .int .i64 b, .int .i64 c, .int .i64 d, .slice (some ⟨g, 0, none⟩) n cap] 29)) from F1.out.alloc F1.out.size _)
    have R2 := Lib.hid (R1.out.below ((Below.refl w1.heap.size w1).alloc (Nat.le_refl _) (.cells #[.int .i64 a, .int .i64 b, .int .i64 c, .int .i64 d, .slice (some ⟨g, 0, none⟩) n cap] 29)) hl1)
    generalize (w1.alloc (.cells #[.int .i64 a, .int .i64 b, .int .i64 c, .int .i64 d, .slice (some ⟨g, 0, none⟩) n cap] 29)) = W2 at *
    clear R1 F1 HO
    obtain ⟨xO4, _⟩ := O2.out 4 _ rfl
    obtain ⟨xR0, yR0⟩ := R2.out 0 _ rfl
    obtain ⟨xR1, yR1⟩ := R2.out 1 _ rfl
    obtain ⟨xR2, yR2⟩ := R2.out 2 _ rfl
    obtain ⟨xR3, yR3⟩ := R2.out 3 _ rfl
    obtain ⟨xR4, yR4⟩ := R2.out 4 _ rfl
    go_wp2_with (go_at_call 75; (with_reducible refine (BY.out _).mono ?_); rintro e _ ⟨rfl, rfl⟩)
    refine bodyPost_ret (v := .tuple #[.agg #[.int .i64 0, .int .i64 0, .int .i64 0, .int .i64 0, .slice none 0 0], .int .i64 7]) (by simp [results, Try.results44, go_sem, xR0, yR0, xR1, yR1, xR2, yR2, xR3, yR3, xR4, yR4]) rfl ⟨none, 0, rfl, .inl rfl, ?_⟩
    exact ((((F2.out.setCell (by simp <;> omega) _).setCell (by simp <;> omega) _).setCell (by simp <;> omega) _).setCell (by simp <;> omega) _).setCell (by simp <;> omega) _
  rw [if_pos hd, if_pos hd]
  have hne : ((s.size : Int) != 16 * (n : Int)) = false := by simp; omega
  have HD := Lib.hid hd
  have HLN := Lib.hid (halfS_len s 16 n)
  have HZ := Lib.hid (halfS_zero s 16 n)
  have HALL := Lib.hid (halfS_all s 16 n)
  have HAT := Lib.hid (halfS_at s 16 n)
  have HSET := Lib.hid (show ∀ k, k < n → (halfS s 16 n k).set k ⟨s.extract (16 * k) (16 * k + 16), 1⟩ = halfS s 16 n (k + 1) from fun k h => halfS_set s 16 n k h)
  have HMS := Lib.hid (show ∃ z, missS 16 = ⟨z, 3⟩ from ⟨_, rfl⟩)
  generalize halfS s 16 n = HS at *
  generalize missS 16 = ms at *
  clear hd
  go_enter Try.func44, Try.ntmps44
  go_wp2_with fail
  refine (GE.out _).mono ?_
  rintro e _ ⟨rfl, rfl⟩
  go_wp2_with fail
  refine (NW.out _).mono ?_
  rintro e w1 ⟨g, cap, rfl, hown, hb1⟩
  have R1 := Lib.hid (show BoxF w1 w.heap.size #[.int .i64 0, .int .i64 0, .int .i64 0, .int .i64 0, .slice none 0 0] from BoxF.below (boxF5 (by simp [go_sem]) (by simp [go_sem]) (by simp [go_sem]) (by simp [go_sem]) (by simp [go_sem])) hb1 (by simp))
  have F1 := Lib.hid (show Below w.heap.size w w1 from Below.trans (by go_grown) (hb1.mono (by simp)))
  have hgB : w.heap.size + 1 ≤ g := by have := hown.choose_spec.1; simpa using this
  have hgl : g < w1.heap.size := hown.lt
  have hl1 : w.heap.size < w1.heap.size := by omega
  have HO := Lib.hid (hown.mono (B' := w.heap.size + 1) (by simp))
  clear hown hb1
  go_wp2_with (go_at_call 75; (with_reducible refine (BY.out _).mono ?_); rintro e _ ⟨rfl, rfl⟩)
  clear hne
  have O2 := Lib.hid (show BoxF (w1.alloc (.cells #[.int .i64 a, .int .i64 b, .int .i64 c, .int .i64 d, .slice (some ⟨g, 0, none⟩) n cap] 29)) w1.heap.size #[.int .i64 a, .int .i64 b, .int .i64 c, .int .i64 d, .slice (some ⟨g, 0, none⟩) n cap] from BoxF.new w1 _ _ _ rfl)
  have F2 := Lib.hid (show Below w.heap.size w (w1.alloc (.cells #[.int .i64 a, .int .i64 b, .int .i64 c, .int .i64 d, .slice (some ⟨g, 0, none⟩) n cap] 29)) from F1.out.alloc F1.out.size _)
  have R2 := Lib.hid (R1.out.below ((Below.refl w1.heap.size w1).alloc (Nat.le_refl _) (.cells #[.int .i64 a, .int .i64 b, .int .i64 c, .int .i64 d, .slice (some ⟨g, 0, none⟩) n cap] 29)) hl1)
  have HO2 := Lib.hid (HO.out.below ((Below.refl w1.heap.size w1).alloc (Nat.le_refl _) (.cells #[.int .i64 a, .int .i64 b, .int .i64 c, .int .i64 d, .slice (some ⟨g, 0, none⟩) n cap] 29)) hgl)
  have hl2 : w1.heap.size + 1 ≤ (w1.alloc (.cells #[.int .i64 a, .int .i64 b, .int .i64 c, .int .i64 d, .slice (some ⟨g, 0, none⟩) n cap] 29)).heap.size := by simp
  generalize w1.alloc (.cells #[.int .i64 a, .int .i64 b, .int .i64 c, .int .i64 d, .slice (some ⟨g, 0, none⟩) n cap] 29) = W2 at *
  clear R1 F1 HO
  go_loopw [14] (fun i wr => ∃ k : Nat, k ≤ n ∧ i = .int .i64 k ∧ Hid (OwnBlk wr (w.heap.size + 1) g (HS k)) ∧ Hid (BoxF wr w1.heap.size #[.int .i64 a, .int .i64 b, .int .i64 c, .int .i64 d, .slice (some ⟨g, 0, none⟩) n cap]) ∧ Hid (BoxF wr w.heap.size #[.int .i64 0, .int .i64 0, .int .i64 0, .int .i64 0, .slice none 0 0]) ∧ Below w.heap.size w wr ∧ w1.heap.size + 1 ≤ wr.heap.size) (fun i _ => n - (intOf i).toNat)
  case atStart => exact ⟨0, Nat.zero_le _, rfl, Lib.hid (by rw [HZ.out]; exact HO2.out), O2, R2, F2.out, hl2⟩
  case round =>
    obtain ⟨k, hk, rfl, hown, hbo, hbr, hb, hl⟩ := hrel
    obtain ⟨xO4, yO4⟩ := hbo.out 4 _ rfl
    have hq1 : ¬ g = w1.heap.size := by omega
    have hq2 : ¬ w1.heap.size = g := by omega
    by_cases hlt : k < n
    · have e1 : (k : Int) < (n : Int) := by omega
      have hk8 : (k : Int) * 16 + 16 ≤ (s.size : Int) := by have := HD.out; omega
      obtain ⟨z, hz⟩ := HMS.out
      have hc := hown.out.cell (HAT.out k hlt)
      rw [hz] at hc
      obtain ⟨c0, c1⟩ := hc
      dsimp only at c0 c1
      have z0 := hown.out.free (k * 2)
      have z1 := hown.out.free (k * 2 + 1)
      clear hz
      go_wp2
      go_region
      go_wp2
      go_roundw
      case rel =>
        refine ⟨k + 1, by omega, by go_num, ?_, ?_, ?_, ?_, by simpa using hl⟩
        · have h9 := hown.out.put k ⟨s.extract (k * 16) (k * 16 + 16), 1⟩ (by rw [HLN.out k hk]; exact hlt)
          rw [Nat.mul_comm k 16, HSET.out k hlt] at h9
          exact Lib.hid (h9.keep (by rw [Nat.mul_comm k 16]; rfl))
        · refine Lib.hid (hbo.out.keep ?_)
          simp only [World.setCell, World.drew, Array.getElem?_modify]
          rw [if_neg (by omega), if_neg (by omega)]
        · refine Lib.hid (hbr.out.keep ?_)
          simp only [World.setCell, World.drew, Array.getElem?_modify]
          rw [if_neg (by omega), if_neg (by omega)]
        · first | exact ((hb.setCell (by simp <;> omega) _).setCell (by simp <;> omega) _).drew | exact (hb.setCell (by simp <;> omega) _).drew.setCell (by simp <;> omega) _
      case measure => simp [intOf]; omega
    · obtain rfl : k = n := by omega
      have e1 : ¬ ((k : Int) < (k : Int)) := by omega
      have HO3 := Lib.hid hown.out
      obtain ⟨xO0, yO0⟩ := hbo.out 0 _ rfl
      obtain ⟨xO1, yO1⟩ := hbo.out 1 _ rfl
      obtain ⟨xO2, yO2⟩ := hbo.out 2 _ rfl
      obtain ⟨xO3, yO3⟩ := hbo.out 3 _ rfl
      obtain ⟨xR0, yR0⟩ := hbr.out 0 _ rfl
      obtain ⟨xR1, yR1⟩ := hbr.out 1 _ rfl
      obtain ⟨xR2, yR2⟩ := hbr.out 2 _ rfl
      obtain ⟨xR3, yR3⟩ := hbr.out 3 _ rfl
      obtain ⟨xR4, yR4⟩ := hbr.out 4 _ rfl
      go_wp2
      have hlen := HLN.out k (Nat.le_refl _)
      refine bodyPost_ret (v := .tuple #[.agg #[.int .i64 a, .int .i64 b, .int .i64 c, .int .i64 d, .slice (some ⟨g, 0, none⟩) k cap], .int .i64 0]) (by simp [results, Try.results44, go_sem, xR0, yR0, xR1, yR1, xR2, yR2, xR3, yR3, xR4, yR4, xO0, xO1, xO2, xO3, xO4]) rfl ⟨some ⟨g, 0, none⟩, cap, by rw [← HALL.out, hlen], ?_, ?_⟩
      · rw [← HALL.out]
        refine OwnBlk.so ((HO3.out.mono (by omega)).keep ?_)
        simp only [World.setCell, Array.getElem?_modify]
        rw [if_neg (by omega), if_neg (by omega), if_neg (by omega), if_neg (by omega), if_neg (by omega)]
      · exact ((((hb.setCell (by simp <;> omega) _).setCell (by simp <;> omega) _).setCell (by simp <;> omega) _).setCell (by simp <;> omega) _).setCell (by simp <;> omega) _
set_option maxHeartbeats 8000000 in
theorem sdod32 (a b c d : Int) (n : Nat) (s : ByteArray) (hs : s.size ≤ 1048576) (w : World) (h3 : 1 ≤ n) (h4 : n ≤ 128)
    (GE : Hid (∀ w : World, Calls Try.prog 65 #[.int .i64 a, .int .i64 b, .int .i64 c, .int .i64 d] w fun e w' => e = .returned (.bool true) ∧ w = w'))
    (BY : Hid (∀ w : World, Calls Try.prog 75 #[.int .i64 d] w fun e w' => e = .returned (.int .i64 32) ∧ w = w'))
    (NW : Hid (∀ w : World, Calls Try.prog 66 #[.int .i64 a, .int .i64 b, .int .i64 c, .int .i64 d] w fun e w' => ∃ g cap, e = .returned (.agg #[.int .i64 a, .int .i64 b, .int .i64 c, .int .i64 d, .slice (some ⟨g, 0, none⟩) n cap]) ∧ OwnBlk w' w.heap.size g (List.replicate n (missS 32)) ∧ Below w.heap.size w w')) :
    Calls Try.prog 44 #[.int .i64 a, .int .i64 b, .int .i64 c, .int .i64 d, .string s] w (DiscRes (if s.size = n * 32 then ⟨a, b, c, d, cutS s 32 n⟩ else noDisc) (if s.size = n * 32 then 0 else 7) w) := by
  by_cases hd : s.size = n * 32
  case neg =>
    rw [if_neg hd, if_neg hd]
    have hne : ((s.size : Int) != 32 * (n : Int)) = true := by rw [bne_iff_ne]; omega
    clear hd
    go_enter Try.func44, Try.ntmps44
    go_wp2_with fail
    refine (GE.out _).mono ?_
    rintro e _ ⟨rfl, rfl⟩
    go_wp2_with fail
    refine (NW.out _).mono ?_
    rintro e w1 ⟨g, cap, rfl, hown, hb1⟩
    have R1 := Lib.hid (show BoxF w1 w.heap.size #[.int .i64 0, .int .i64 0, .int .i64 0, .int .i64 0, .slice none 0 0] from BoxF.below (boxF5 (by simp [go_sem]) (by simp [go_sem]) (by simp [go_sem]) (by simp [go_sem]) (by simp [go_sem])) hb1 (by simp))
    have F1 := Lib.hid (show Below w.heap.size w w1 from Below.trans (by go_grown) (hb1.mono (by simp)))
    have hgB : w.heap.size + 1 ≤ g := by have := hown.choose_spec.1; simpa using this
    have hgl : g < w1.heap.size := hown.lt
    have hl1 : w.heap.size < w1.heap.size := by omega
    have HO := Lib.hid (hown.mono (B' := w.heap.size + 1) (by simp))
    clear hown hb1
    go_upto_region 4 with (fail)
    have O2 := Lib.hid (show BoxF (w1.alloc (.cells #[.int .i64 a, .int .i64 b, .int .i64 c, .int .i64 d, .slice (some ⟨g, 0, none⟩) n cap] 29)) w1.heap.size #[.int .i64 a, .int .i64 b, .int .i64 c, .int .i64 d, .slice (some ⟨g, 0, none⟩) n cap] from BoxF.new w1 _ _ _ rfl)
    have F2 := Lib.hid (show Below w.heap.size w (w1.alloc (.cells #[.int .i64 a, .int .i64 b, .int .i64 c, .int .i64 d, .slice (some ⟨g, 0, none⟩) n cap] 29)) from F1.out.alloc F1.out.size _)
    have R2 := Lib.hid (R1.out.below ((Below.refl w1.heap.size w1).alloc (Nat.le_refl _) (.cells #[.int .i64 a, .int .i64 b, .int .i64 c, .int .i64 d, .slice (some ⟨g, 0, none⟩) n cap] 29)) hl1)
    generalize (w1.alloc (.cells #[.int .i64 a, .int .i64 b, .int .i64 c, .int .i64 d, .slice (some ⟨g, 0, none⟩) n cap] 29)) = W2 at *
    clear R1 F1 HO
    obtain ⟨xO4, _⟩ := O2.out 4 _ rfl
    obtain ⟨xR0, yR0⟩ := R2.out 0 _ rfl
    obtain ⟨xR1, yR1⟩ := R2.out 1 _ rfl
    obtain ⟨xR2, yR2⟩ := R2.out 2 _ rfl
    obtain ⟨xR3, yR3⟩ := R2.out 3 _ rfl
    obtain ⟨xR4, yR4⟩ := R2.out 4 _ rfl
    go_wp2_with (go_at_call 75; (with_reducible refine (BY.out _).mono ?_); rintro e _ ⟨rfl, rfl⟩)
    refine bodyPost_ret (v := .tuple #[.agg #[.int .i64 0, .int .i64 0, .int .i64 0, .int .i64 0, .slice none 0 0], .int .i64 7]) (by simp [results, Try.results44, go_sem, xR0, yR0, xR1, yR1, xR2, yR2, xR3, yR3, xR4, yR4]) rfl ⟨none, 0, rfl, .inl rfl, ?_⟩
    exact ((((F2.out.setCell (by simp <;> omega) _).setCell (by simp <;> omega) _).setCell (by simp <;> omega) _).setCell (by simp <;> omega) _).setCell (by simp <;> omega) _
  rw [if_pos hd, if_pos hd]
  have hne : ((s.size : Int) != 32 * (n : Int)) = false := by simp; omega
  have HD := Lib.hid hd
  have HLN := Lib.hid (halfS_len s 32 n)
  have HZ := Lib.hid (halfS_zero s 32 n)
  have HALL := Lib.hid (halfS_all s 32 n)
  have HAT := Lib.hid (halfS_at s 32 n)
  have HSET := Lib.hid (show ∀ k, k < n → (halfS s 32 n k).set k ⟨s.extract (32 * k) (32 * k + 32), 1⟩ = halfS s 32 n (k + 1) from fun k h => halfS_set s 32 n k h)
  have HMS := Lib.hid (show ∃ z, missS 32 = ⟨z, 3⟩ from ⟨_, rfl⟩)
  generalize halfS s 32 n = HS at *
  generalize missS 32 = ms at *
  clear hd
  go_enter Try.func44, Try.ntmps44
  go_wp2_with fail
  refine (GE.out _).mono ?_
  rintro e _ ⟨rfl, rfl⟩
  go_wp2_with fail
  refine (NW.out _).mono ?_
  rintro e w1 ⟨g, cap, rfl, hown, hb1⟩
  have R1 := Lib.hid (show BoxF w1 w.heap.size #[.int .i64 0, .int .i64 0, .int .i64 0, .int .i64 0, .slice none 0 0] from BoxF.below (boxF5 (by simp [go_sem]) (by simp [go_sem]) (by simp [go_sem]) (by simp [go_sem]) (by simp [go_sem])) hb1 (by simp))
  have F1 := Lib.hid (show Below w.heap.size w w1 from Below.trans (by go_grown) (hb1.mono (by simp)))
  have hgB : w.heap.size + 1 ≤ g := by have := hown.choose_spec.1; simpa using this
  have hgl : g < w1.heap.size := hown.lt
  have hl1 : w.heap.size < w1.heap.size := by omega
  have HO := Lib.hid (hown.mono (B' := w.heap.size + 1) (by simp))
  clear hown hb1
  go_wp2_with (go_at_call 75; (with_reducible refine (BY.out _).mono ?_); rintro e _ ⟨rfl, rfl⟩)
  clear hne
  have O2 := Lib.hid (show BoxF (w1.alloc (.cells #[.int .i64 a, .int .i64 b, .int .i64 c, .int .i64 d, .slice (some ⟨g, 0, none⟩) n cap] 29)) w1.heap.size #[.int .i64 a, .int .i64 b, .int .i64 c, .int .i64 d, .slice (some ⟨g, 0, none⟩) n cap] from BoxF.new w1 _ _ _ rfl)
  have F2 := Lib.hid (show Below w.heap.size w (w1.alloc (.cells #[.int .i64 a, .int .i64 b, .int .i64 c, .int .i64 d, .slice (some ⟨g, 0, none⟩) n cap] 29)) from F1.out.alloc F1.out.size _)
  have R2 := Lib.hid (R1.out.below ((Below.refl w1.heap.size w1).alloc (Nat.le_refl _) (.cells #[.int .i64 a, .int .i64 b, .int .i64 c, .int .i64 d, .slice (some ⟨g, 0, none⟩) n cap] 29)) hl1)
  have HO2 := Lib.hid (HO.out.below ((Below.refl w1.heap.size w1).alloc (Nat.le_refl _) (.cells #[.int .i64 a, .int .i64 b, .int .i64 c, .int .i64 d, .slice (some ⟨g, 0, none⟩) n cap] 29)) hgl)
  have hl2 : w1.heap.size + 1 ≤ (w1.alloc (.cells #[.int .i64 a, .int .i64 b, .int .i64 c, .int .i64 d, .slice (some ⟨g, 0, none⟩) n cap] 29)).heap.size := by simp
  generalize w1.alloc (.cells #[.int .i64 a, .int .i64 b, .int .i64 c, .int .i64 d, .slice (some ⟨g, 0, none⟩) n cap] 29) = W2 at *
  clear R1 F1 HO
  go_loopw [14] (fun i wr => ∃ k : Nat, k ≤ n ∧ i = .int .i64 k ∧ Hid (OwnBlk wr (w.heap.size + 1) g (HS k)) ∧ Hid (BoxF wr w1.heap.size #[.int .i64 a, .int .i64 b, .int .i64 c, .int .i64 d, .slice (some ⟨g, 0, none⟩) n cap]) ∧ Hid (BoxF wr w.heap.size #[.int .i64 0, .int .i64 0, .int .i64 0, .int .i64 0, .slice none 0 0]) ∧ Below w.heap.size w wr ∧ w1.heap.size + 1 ≤ wr.heap.size) (fun i _ => n - (intOf i).toNat)
  case atStart => exact ⟨0, Nat.zero_le _, rfl, Lib.hid (by rw [HZ.out]; exact HO2.out), O2, R2, F2.out, hl2⟩
  case round =>
    obtain ⟨k, hk, rfl, hown, hbo, hbr, hb, hl⟩ := hrel
    obtain ⟨xO4, yO4⟩ := hbo.out 4 _ rfl
    have hq1 : ¬ g = w1.heap.size := by omega
    have hq2 : ¬ w1.heap.size = g := by omega
    by_cases hlt : k < n
    · have e1 : (k : Int) < (n : Int) := by omega
      have hk8 : (k : Int) * 32 + 32 ≤ (s.size : Int) := by have := HD.out; omega
      obtain ⟨z, hz⟩ := HMS.out
      have hc := hown.out.cell (HAT.out k hlt)
      rw [hz] at hc
      obtain ⟨c0, c1⟩ := hc
      dsimp only at c0 c1
      have z0 := hown.out.free (k * 2)
      have z1 := hown.out.free (k * 2 + 1)
      clear hz
      go_wp2
      go_region
      go_wp2
      go_roundw
      case rel =>
        refine ⟨k + 1, by omega, by go_num, ?_, ?_, ?_, ?_, by simpa using hl⟩
        · have h9 := hown.out.put k ⟨s.extract (k * 32) (k * 32 + 32), 1⟩ (by rw [HLN.out k hk]; exact hlt)
          rw [Nat.mul_comm k 32, HSET.out k hlt] at h9
          exact Lib.hid (h9.keep (by rw [Nat.mul_comm k 32]; rfl))
        · refine Lib.hid (hbo.out.keep ?_)
          simp only [World.setCell, World.drew, Array.getElem?_modify]
          rw [if_neg (by omega), if_neg (by omega)]
        · refine Lib.hid (hbr.out.keep ?_)
          simp only [World.setCell, World.drew, Array.getElem?_modify]
          rw [if_neg (by omega), if_neg (by omega)]
        · first | exact ((hb.setCell (by simp <;> omega) _).setCell (by simp <;> omega) _).drew | exact (hb.setCell (by simp <;> omega) _).drew.setCell (by simp <;> omega) _
      case measure => simp [intOf]; omega
    · obtain rfl : k = n := by omega
      have e1 : ¬ ((k : Int) < (k : Int)) := by omega
      have HO3 := Lib.hid hown.out
      obtain ⟨xO0, yO0⟩ := hbo.out 0 _ rfl
      obtain ⟨xO1, yO1⟩ := hbo.out 1 _ rfl
      obtain ⟨xO2, yO2⟩ := hbo.out 2 _ rfl
      obtain ⟨xO3, yO3⟩ := hbo.out 3 _ rfl
      obtain ⟨xR0, yR0⟩ := hbr.out 0 _ rfl
      obtain ⟨xR1, yR1⟩ := hbr.out 1 _ rfl
      obtain ⟨xR2, yR2⟩ := hbr.out 2 _ rfl
      obtain ⟨xR3, yR3⟩ := hbr.out 3 _ rfl
      obtain ⟨xR4, yR4⟩ := hbr.out 4 _ rfl
      go_wp2
      have hlen := HLN.out k (Nat.le_refl _)
      refine bodyPost_ret (v := .tuple #[.agg #[.int .i64 a, .int .i64 b, .int .i64 c, .int .i64 d, .slice (some ⟨g, 0, none⟩) k cap], .int .i64 0]) (by simp [results, Try.results44, go_sem, xR0, yR0, xR1, yR1, xR2, yR2, xR3, yR3, xR4, yR4, xO0, xO1, xO2, xO3, xO4]) rfl ⟨some ⟨g, 0, none⟩, cap, by rw [← HALL.out, hlen], ?_, ?_⟩
      · rw [← HALL.out]
        refine OwnBlk.so ((HO3.out.mono (by omega)).keep ?_)
        simp only [World.setCell, Array.getElem?_modify]
        rw [if_neg (by omega), if_neg (by omega), if_neg (by omega), if_neg (by omega), if_neg (by omega)]
      · exact ((((hb.setCell (by simp <;> omega) _).setCell (by simp <;> omega) _).setCell (by simp <;> omega) _).setCell (by simp <;> omega) _).setCell (by simp <;> omega) _
theorem specDiscOfData_g (a b c d : Int) (s : ByteArray) (hs : s.size ≤ 1048576) (w : World) :
    Calls Try.prog 44 #[.int .i64 a, .int .i64 b, .int .i64 c, .int .i64 d, .string s] w (DiscRes (dodV a b c d s) (dodC a b c d s) w) := by
  have ge := fun w => l12Geometry_any a b c d w
  unfold dodV dodC
  by_cases hg : geoB a b c d = true
  case neg =>
    have hf : geoB a b c d = false := by simpa using hg
    rw [hf] at ge
    have GE := Lib.hid ge
    rw [if_neg hg, if_neg hg]
    clear hg hf ge
    go_enter Try.func44, Try.ntmps44
    go_wp2_with fail
    refine (GE.out _).mono ?_
    rintro e w1 ⟨rfl, rfl⟩
    go_wp2
    refine bodyPost_ret (v := .tuple #[.agg #[.int .i64 0, .int .i64 0, .int .i64 0, .int .i64 0, .slice none 0 0], .int .i64 2]) (by simp [results, Try.results44, go_sem]) rfl ⟨none, 0, rfl, .inl rfl, ?_⟩
    go_grown
  rw [hg] at ge
  have GE := Lib.hid ge
  rw [if_pos hg, if_pos hg]
  unfold dodB
  obtain ⟨n, m, h1, h2, h3, h4, h5, h6, h7⟩ := geo_nm hg
  have NW := Lib.hid (fun w => l12New_any a b c d n m w hg h1 h5)
  have BY := Lib.hid (fun w => l12Bytes_any d m w (inB_iff.2 (geoB_iff.1 hg).2.2.2) h5)
  rw [h2, h6]
  have HDD : (if (decide (s.size = n * m)) = true then (0 : Int) else 7) = if s.size = n * m then 0 else 7 := by by_cases h : s.size = n * m <;> simp [h]
  have HDV : (if (decide (s.size = n * m)) = true then (⟨a, b, c, d, cutS s m n⟩ : DiscV) else noDisc) = if s.size = n * m then ⟨a, b, c, d, cutS s m n⟩ else noDisc := by by_cases h : s.size = n * m <;> simp [h]
  rw [HDD, HDV]
  rcases h7 with rfl | rfl | rfl
  · exact sdod8 a b c d n s hs w h3 h4 GE BY NW
  · exact sdod16 a b c d n s hs w h3 h4 GE BY NW
  · exact sdod32 a b c d n s hs w h3 h4 GE BY NW
end Go.Proofs.Ytpcfhfnlpcpofaa
