/- impl.DiscOfData -/
import Derived.Test.YtpcfhfnlpcpofaaNewSpec
namespace Go.Proofs.Ytpcfhfnlpcpofaa
open Go.RowKit
set_option linter.unusedVariables false
set_option linter.unusedSimpArgs false
set_option maxRecDepth 20000
def cutAt (data : ByteArray) (m i : Nat) : SectorV := ⟨data.extract (m * i) (m * i + m), 1⟩
def cutS (data : ByteArray) (m k : Nat) : List SectorV := (List.range k).map (cutAt data m)
theorem cutS_len (data : ByteArray) (m k : Nat) : (cutS data m k).length = k := by simp [cutS]
theorem cutS_succ (data : ByteArray) (m k : Nat) : cutS data m (k + 1) = cutS data m k ++ [cutAt data m k] := by simp [cutS, List.range_succ]
def dodB (a b c d : Int) (data : ByteArray) : Bool := decide (data.size = (a * b * c).toNat * (secN d).toNat)
def dodC (a b c d : Int) (data : ByteArray) : Int := if geoB a b c d = true then (if dodB a b c d data = true then 0 else 7) else 2
def dodV (a b c d : Int) (data : ByteArray) : DiscV := if geoB a b c d = true then (if dodB a b c d data = true then ⟨a, b, c, d, cutS data (secN d).toNat (a * b * c).toNat⟩ else noDisc) else noDisc
theorem dodV_len (a b c d : Int) (data : ByteArray) : (dodV a b c d data).f4.length ≤ 1048576 := by
  unfold dodV
  split
  · rename_i h
    obtain ⟨n, m, _, h2, _, h4, _⟩ := geo_nm h
    split
    · simp [cutS_len]; omega
    · simp [noDisc]
  · simp [noDisc]
set_option maxHeartbeats 8000000 in
theorem dod8 (a b c d : Int) (n : Nat) (s : ByteArray) (hs : s.size ≤ 1048576) (w : World) (h3 : 1 ≤ n) (h4 : n ≤ 128)
    (EX : Hid (∀ w : World, Calls Try.prog 67 #[.agg #[.int .i64 a, .int .i64 b, .int .i64 c, .int .i64 d]] w fun e w' => e = .returned (.bool true) ∧ Below w.heap.size w w'))
    (BI : Hid (∀ w : World, Calls Try.prog 77 #[.int .i64 d] w fun e w' => e = .returned (.int .i64 8) ∧ w = w'))
    (TO : Hid (∀ w : World, Calls Try.prog 71 #[.agg #[.int .i64 a, .int .i64 b, .int .i64 c, .int .i64 d]] w fun e w' => e = .returned (.int .i64 (n : Int)) ∧ Below w.heap.size w w')) :
    Calls Try.prog 45 #[.int .i64 a, .int .i64 b, .int .i64 c, .int .i64 d, .string s] w (DiscRes (if s.size = n * 8 then ⟨a, b, c, d, cutS s 8 n⟩ else noDisc) (if s.size = n * 8 then 0 else 7) w) := by
  by_cases hd : s.size = n * 8
  case neg =>
    rw [if_neg hd, if_neg hd]
    have hne : ((s.size : Int) != (n : Int) * 8) = true := by rw [bne_iff_ne]; omega
    clear hd
    go_enter Try.func45, Try.ntmps45
    go_wp2_with fail
    refine (EX.out _).mono ?_
    rintro e w1 ⟨rfl, hb1⟩
    have R : BoxF w1 w.heap.size #[.int .i64 0, .int .i64 0, .int .i64 0, .int .i64 0, .slice none 0 0] := BoxF.below (boxF5 (by simp [go_sem]) (by simp [go_sem]) (by simp [go_sem]) (by simp [go_sem]) (by simp [go_sem])) hb1 (by simp <;> omega)
    have G : BoxF w1 (w.heap.size + 1) #[.int .i64 a, .int .i64 b, .int .i64 c, .int .i64 d] := BoxF.below (boxF4 (by simp [go_sem]) (by simp [go_sem]) (by simp [go_sem]) (by simp [go_sem])) hb1 (by simp <;> omega)
    have F1 := Lib.hid (show Below w.heap.size w w1 from Below.trans (by go_grown) (hb1.mono (by simp <;> omega)))
    have hl1 : w.heap.size + 2 ≤ w1.heap.size := by have := hb1.size; simp at this; omega
    clear hb1
    go_wp2_with fail
    refine (BI.out _).mono ?_
    rintro e _ ⟨rfl, rfl⟩
    obtain ⟨xG0, _⟩ := G 0 _ rfl
    obtain ⟨xG1, _⟩ := G 1 _ rfl
    obtain ⟨xG2, _⟩ := G 2 _ rfl
    obtain ⟨xG3, _⟩ := G 3 _ rfl
    go_wp2_with fail
    refine (TO.out _).mono ?_
    rintro e w2 ⟨rfl, hb2⟩
    clear xG0 xG1 xG2 xG3
    have R2 := R.below hb2 (by omega)
    have F2 := Lib.hid (F1.out.trans (hb2.mono (by omega)))
    obtain ⟨xR0, yR0⟩ := R2 0 _ rfl
    obtain ⟨xR1, yR1⟩ := R2 1 _ rfl
    obtain ⟨xR2, yR2⟩ := R2 2 _ rfl
    obtain ⟨xR3, yR3⟩ := R2 3 _ rfl
    obtain ⟨xR4, yR4⟩ := R2 4 _ rfl
    clear hb2 R R2 G
    go_wp2
    refine bodyPost_ret (v := .tuple #[.agg #[.int .i64 0, .int .i64 0, .int .i64 0, .int .i64 0, .slice none 0 0], .int .i64 7]) (by simp [results, Try.results45, go_sem, xR0, yR0, xR1, yR1, xR2, yR2, xR3, yR3, xR4, yR4]) rfl ⟨none, 0, rfl, .inl rfl, ?_⟩
    exact ((((F2.out.setCell (by simp) _).setCell (by simp) _).setCell (by simp) _).setCell (by simp) _).setCell (by simp) _
  rw [if_pos hd, if_pos hd]
  have HK := Lib.hid (fun k => cutS_succ s 8 k)
  have HL := Lib.hid (fun k => cutS_len s 8 k)
  have HA := Lib.hid (show ∀ k, cutAt s 8 k = ⟨s.extract (8 * k) (8 * k + 8), 1⟩ from fun k => rfl)
  have HZ := Lib.hid (show cutS s 8 0 = [] from rfl)
  generalize cutS s 8 = CS at *
  generalize cutAt s 8 = CA at *
  have HD := Lib.hid hd
  have hne : ((s.size : Int) != (n : Int) * 8) = false := by simp; omega
  clear hd
  go_enter Try.func45, Try.ntmps45
  go_wp2_with fail
  refine (EX.out _).mono ?_
  rintro e w1 ⟨rfl, hb1⟩
  have R : BoxF w1 w.heap.size #[.int .i64 0, .int .i64 0, .int .i64 0, .int .i64 0, .slice none 0 0] := BoxF.below (boxF5 (by simp [go_sem]) (by simp [go_sem]) (by simp [go_sem]) (by simp [go_sem]) (by simp [go_sem])) hb1 (by simp <;> omega)
  have G : BoxF w1 (w.heap.size + 1) #[.int .i64 a, .int .i64 b, .int .i64 c, .int .i64 d] := BoxF.below (boxF4 (by simp [go_sem]) (by simp [go_sem]) (by simp [go_sem]) (by simp [go_sem])) hb1 (by simp <;> omega)
  have F1 := Lib.hid (show Below w.heap.size w w1 from Below.trans (by go_grown) (hb1.mono (by simp <;> omega)))
  have hl1 : w.heap.size + 2 ≤ w1.heap.size := by have := hb1.size; simp at this; omega
  clear hb1
  go_wp2_with fail
  refine (BI.out _).mono ?_
  rintro e _ ⟨rfl, rfl⟩
  obtain ⟨xG0, _⟩ := G 0 _ rfl
  obtain ⟨xG1, _⟩ := G 1 _ rfl
  obtain ⟨xG2, _⟩ := G 2 _ rfl
  obtain ⟨xG3, _⟩ := G 3 _ rfl
  go_wp2_with fail
  refine (TO.out _).mono ?_
  rintro e w2 ⟨rfl, hb2⟩
  clear xG0 xG1 xG2 xG3
  have R2 := Lib.hid (R.below hb2 (by omega))
  have G2 := Lib.hid (G.below hb2 (by omega))
  have F2 := Lib.hid (F1.out.trans (hb2.mono (by omega)))
  have hl2 : w.heap.size + 2 ≤ w2.heap.size := Nat.le_trans hl1 hb2.size
  clear R G hb2 F1
  go_wp2
  clear hne
  have FN2 := F2.out.size
  go_loopw [14, 15] (fun v i wr => ∃ k p : Nat, k ≤ n ∧ i = .int .i64 p ∧ Hid (p = 8 * k) ∧ p ≤ s.size ∧ OwnR rowSector 41 2 wr w2.heap.size v (CS k) ∧ Below w2.heap.size w2 wr) (fun _ i _ => s.size - (intOf i).toNat)
  case atStart => exact ⟨0, 0, Nat.zero_le _, rfl, by unfold Hid; rfl, Nat.zero_le _, by rw [HZ.out]; exact OwnR.nil _ _, Below.refl _ _⟩
  case round =>
    obtain ⟨k, p, hk, rfl, hp, hps, hown, hb⟩ := hrel
    have hz := hb.size
    have hpk := hp.out
    have hll := HL.out k
    by_cases hlt : p < s.size
    · have e1 : (p : Int) < s.size := by omega
      have hkn : k < n := by have := HD.out; omega
      have HCA := Lib.hid (HA.out k)
      have HCK := Lib.hid (HK.out k)
      have hll2 : (CS k).length < 1073741824 := by omega
      have hp8 : (p : Int) + 8 ≤ s.size := by have := HD.out; omega
      have HPK := Lib.hid (And.intro hpk hll)
      clear hpk hll
      go_wp2_with (at_builtin; (refine wpList_appendR 27 41 (.agg zeroSector.toArray) 24 Try.underlying27 infoSector rfl (by omega) (by omega) rfl _ _ rfl rfl (hown.alloc _) ⟨s.extract p (p + 8), 1⟩ rfl (by simp [rowSector, Value.oneCell']) ⟨wr.heap.size, 0, none⟩ 1 rfl (World.news_of_block (cs := #[.string (s.extract p (p + 8)), .int .i64 1]) (t := 41) (fr := (0, 0)) (heap_alloc_new wr _)) hll2 (by simp; omega) ?_; intro g cap w4 hown4 hgr hb4))
      go_roundw
      case rel =>
        obtain ⟨hpk, hll⟩ := HPK.out
        refine ⟨k + 1, p + 8, by omega, by go_num, by unfold Hid; omega, by have := HD.out; omega, ?_, (hb.alloc hz _).trans hb4⟩
        rw [HCK.out, HCA.out, ← hpk]
        simpa [hll] using hown4
      case measure => simp [intOf]; omega
    · have hkn : k = n := by have := HD.out; omega
      have e1 : ¬ (p : Int) < s.size := by omega
      clear hpk
      obtain rfl := hkn
      rcases hown.2 with ⟨hv, h2⟩ | ⟨g, cap, cur, hv, hrest⟩
      · rw [hll] at h2; omega
      cases hv
      clear hrest
      have HO := Lib.hid (own_of (w := wr) (B := w2.heap.size) (g := g) (cap := cap) (es := CS k) (by intro h9; rw [h9] at hll; simp at hll; omega) hown)
      have DI := Lib.hid (fun w => disc_any a b c d (some ⟨g, 0, none⟩) (CS k).length cap w)
      clear hll
      have FR := Lib.hid (F2.out.trans (hb.mono FN2))
      obtain ⟨xG0, _⟩ := G2.out.below hb (by omega) 0 _ rfl
      obtain ⟨xG1, _⟩ := G2.out.below hb (by omega) 1 _ rfl
      obtain ⟨xG2, _⟩ := G2.out.below hb (by omega) 2 _ rfl
      obtain ⟨xG3, _⟩ := G2.out.below hb (by omega) 3 _ rfl
      have R3 := Lib.hid (R2.out.below hb (by omega))
      clear hown
      go_wp2_with fail
      refine (DI.out _).mono ?_
      rintro e w5 ⟨rfl, hb5⟩
      clear xG0 xG1 xG2 xG3
      have hgl := HO.out.lt
      have hgB : w2.heap.size ≤ g := HO.out.choose_spec.1
      have HO5 := Lib.hid (HO.out.below hb5 hgl)
      obtain ⟨xR0, yR0⟩ := R3.out.below hb5 (by omega) 0 _ rfl
      obtain ⟨xR1, yR1⟩ := R3.out.below hb5 (by omega) 1 _ rfl
      obtain ⟨xR2, yR2⟩ := R3.out.below hb5 (by omega) 2 _ rfl
      obtain ⟨xR3, yR3⟩ := R3.out.below hb5 (by omega) 3 _ rfl
      obtain ⟨xR4, yR4⟩ := R3.out.below hb5 (by omega) 4 _ rfl
      have F5 := Lib.hid (FR.out.trans (hb5.mono FR.out.size))
      clear hb5
      go_wp2
      refine bodyPost_ret (v := .tuple #[.agg #[.int .i64 a, .int .i64 b, .int .i64 c, .int .i64 d, .slice (some ⟨g, 0, none⟩) (CS k).length cap], .int .i64 0]) (by simp [results, Try.results45, go_sem, xR0, yR0, xR1, yR1, xR2, yR2, xR3, yR3, xR4, yR4]) rfl ⟨some ⟨g, 0, none⟩, cap, rfl, ?_, ?_⟩
      · refine OwnBlk.so ((HO5.out.mono (by omega)).keep ?_)
        simp only [World.setCell, Array.getElem?_modify]
        rw [if_neg (by omega), if_neg (by omega), if_neg (by omega), if_neg (by omega), if_neg (by omega)]
      · exact ((((F5.out.setCell (by simp) _).setCell (by simp) _).setCell (by simp) _).setCell (by simp) _).setCell (by simp) _
set_option maxHeartbeats 8000000 in
theorem dod16 (a b c d : Int) (n : Nat) (s : ByteArray) (hs : s.size ≤ 1048576) (w : World) (h3 : 1 ≤ n) (h4 : n ≤ 128)
    (EX : Hid (∀ w : World, Calls Try.prog 67 #[.agg #[.int .i64 a, .int .i64 b, .int .i64 c, .int .i64 d]] w fun e w' => e = .returned (.bool true) ∧ Below w.heap.size w w'))
    (BI : Hid (∀ w : World, Calls Try.prog 77 #[.int .i64 d] w fun e w' => e = .returned (.int .i64 16) ∧ w = w'))
    (TO : Hid (∀ w : World, Calls Try.prog 71 #[.agg #[.int .i64 a, .int .i64 b, .int .i64 c, .int .i64 d]] w fun e w' => e = .returned (.int .i64 (n : Int)) ∧ Below w.heap.size w w')) :
    Calls Try.prog 45 #[.int .i64 a, .int .i64 b, .int .i64 c, .int .i64 d, .string s] w (DiscRes (if s.size = n * 16 then ⟨a, b, c, d, cutS s 16 n⟩ else noDisc) (if s.size = n * 16 then 0 else 7) w) := by
  by_cases hd : s.size = n * 16
  case neg =>
    rw [if_neg hd, if_neg hd]
    have hne : ((s.size : Int) != (n : Int) * 16) = true := by rw [bne_iff_ne]; omega
    clear hd
    go_enter Try.func45, Try.ntmps45
    go_wp2_with fail
    refine (EX.out _).mono ?_
    rintro e w1 ⟨rfl, hb1⟩
    have R : BoxF w1 w.heap.size #[.int .i64 0, .int .i64 0, .int .i64 0, .int .i64 0, .slice none 0 0] := BoxF.below (boxF5 (by simp [go_sem]) (by simp [go_sem]) (by simp [go_sem]) (by simp [go_sem]) (by simp [go_sem])) hb1 (by simp <;> omega)
    have G : BoxF w1 (w.heap.size + 1) #[.int .i64 a, .int .i64 b, .int .i64 c, .int .i64 d] := BoxF.below (boxF4 (by simp [go_sem]) (by simp [go_sem]) (by simp [go_sem]) (by simp [go_sem])) hb1 (by simp <;> omega)
    have F1 := Lib.hid (show Below w.heap.size w w1 from Below.trans (by go_grown) (hb1.mono (by simp <;> omega)))
    have hl1 : w.heap.size + 2 ≤ w1.heap.size := by have := hb1.size; simp at this; omega
    clear hb1
    go_wp2_with fail
    refine (BI.out _).mono ?_
    rintro e _ ⟨rfl, rfl⟩
    obtain ⟨xG0, _⟩ := G 0 _ rfl
    obtain ⟨xG1, _⟩ := G 1 _ rfl
    obtain ⟨xG2, _⟩ := G 2 _ rfl
    obtain ⟨xG3, _⟩ := G 3 _ rfl
    go_wp2_with fail
    refine (TO.out _).mono ?_
    rintro e w2 ⟨rfl, hb2⟩
    clear xG0 xG1 xG2 xG3
    have R2 := R.below hb2 (by omega)
    have F2 := Lib.hid (F1.out.trans (hb2.mono (by omega)))
    obtain ⟨xR0, yR0⟩ := R2 0 _ rfl
    obtain ⟨xR1, yR1⟩ := R2 1 _ rfl
    obtain ⟨xR2, yR2⟩ := R2 2 _ rfl
    obtain ⟨xR3, yR3⟩ := R2 3 _ rfl
    obtain ⟨xR4, yR4⟩ := R2 4 _ rfl
    clear hb2 R R2 G
    go_wp2
    refine bodyPost_ret (v := .tuple #[.agg #[.int .i64 0, .int .i64 0, .int .i64 0, .int .i64 0, .slice none 0 0], .int .i64 7]) (by simp [results, Try.results45, go_sem, xR0, yR0, xR1, yR1, xR2, yR2, xR3, yR3, xR4, yR4]) rfl ⟨none, 0, rfl, .inl rfl, ?_⟩
    exact ((((F2.out.setCell (by simp) _).setCell (by simp) _).setCell (by simp) _).setCell (by simp) _).setCell (by simp) _
  rw [if_pos hd, if_pos hd]
  have HK := Lib.hid (fun k => cutS_succ s 16 k)
  have HL := Lib.hid (fun k => cutS_len s 16 k)
  have HA := Lib.hid (show ∀ k, cutAt s 16 k = ⟨s.extract (16 * k) (16 * k + 16), 1⟩ from fun k => rfl)
  have HZ := Lib.hid (show cutS s 16 0 = [] from rfl)
  generalize cutS s 16 = CS at *
  generalize cutAt s 16 = CA at *
  have HD := Lib.hid hd
  have hne : ((s.size : Int) != (n : Int) * 16) = false := by simp; omega
  clear hd
  go_enter Try.func45, Try.ntmps45
  go_wp2_with fail
  refine (EX.out _).mono ?_
  rintro e w1 ⟨rfl, hb1⟩
  have R : BoxF w1 w.heap.size #[.int .i64 0, .int .i64 0, .int .i64 0, .int .i64 0, .slice none 0 0] := BoxF.below (boxF5 (by simp [go_sem]) (by simp [go_sem]) (by simp [go_sem]) (by simp [go_sem]) (by simp [go_sem])) hb1 (by simp <;> omega)
  have G : BoxF w1 (w.heap.size + 1) #[.int .i64 a, .int .i64 b, .int .i64 c, .int .i64 d] := BoxF.below (boxF4 (by simp [go_sem]) (by simp [go_sem]) (by simp [go_sem]) (by simp [go_sem])) hb1 (by simp <;> omega)
  have F1 := Lib.hid (show Below w.heap.size w w1 from Below.trans (by go_grown) (hb1.mono (by simp <;> omega)))
  have hl1 : w.heap.size + 2 ≤ w1.heap.size := by have := hb1.size; simp at this; omega
  clear hb1
  go_wp2_with fail
  refine (BI.out _).mono ?_
  rintro e _ ⟨rfl, rfl⟩
  obtain ⟨xG0, _⟩ := G 0 _ rfl
  obtain ⟨xG1, _⟩ := G 1 _ rfl
  obtain ⟨xG2, _⟩ := G 2 _ rfl
  obtain ⟨xG3, _⟩ := G 3 _ rfl
  go_wp2_with fail
  refine (TO.out _).mono ?_
  rintro e w2 ⟨rfl, hb2⟩
  clear xG0 xG1 xG2 xG3
  have R2 := Lib.hid (R.below hb2 (by omega))
  have G2 := Lib.hid (G.below hb2 (by omega))
  have F2 := Lib.hid (F1.out.trans (hb2.mono (by omega)))
  have hl2 : w.heap.size + 2 ≤ w2.heap.size := Nat.le_trans hl1 hb2.size
  clear R G hb2 F1
  go_wp2
  clear hne
  have FN2 := F2.out.size
  go_loopw [14, 15] (fun v i wr => ∃ k p : Nat, k ≤ n ∧ i = .int .i64 p ∧ Hid (p = 16 * k) ∧ p ≤ s.size ∧ OwnR rowSector 41 2 wr w2.heap.size v (CS k) ∧ Below w2.heap.size w2 wr) (fun _ i _ => s.size - (intOf i).toNat)
  case atStart => exact ⟨0, 0, Nat.zero_le _, rfl, by unfold Hid; rfl, Nat.zero_le _, by rw [HZ.out]; exact OwnR.nil _ _, Below.refl _ _⟩
  case round =>
    obtain ⟨k, p, hk, rfl, hp, hps, hown, hb⟩ := hrel
    have hz := hb.size
    have hpk := hp.out
    have hll := HL.out k
    by_cases hlt : p < s.size
    · have e1 : (p : Int) < s.size := by omega
      have hkn : k < n := by have := HD.out; omega
      have HCA := Lib.hid (HA.out k)
      have HCK := Lib.hid (HK.out k)
      have hll2 : (CS k).length < 1073741824 := by omega
      have hp8 : (p : Int) + 16 ≤ s.size := by have := HD.out; omega
      have HPK := Lib.hid (And.intro hpk hll)
      clear hpk hll
      go_wp2_with (at_builtin; (refine wpList_appendR 27 41 (.agg zeroSector.toArray) 24 Try.underlying27 infoSector rfl (by omega) (by omega) rfl _ _ rfl rfl (hown.alloc _) ⟨s.extract p (p + 16), 1⟩ rfl (by simp [rowSector, Value.oneCell']) ⟨wr.heap.size, 0, none⟩ 1 rfl (World.news_of_block (cs := #[.string (s.extract p (p + 16)), .int .i64 1]) (t := 41) (fr := (0, 0)) (heap_alloc_new wr _)) hll2 (by simp; omega) ?_; intro g cap w4 hown4 hgr hb4))
      go_roundw
      case rel =>
        obtain ⟨hpk, hll⟩ := HPK.out
        refine ⟨k + 1, p + 16, by omega, by go_num, by unfold Hid; omega, by have := HD.out; omega, ?_, (hb.alloc hz _).trans hb4⟩
        rw [HCK.out, HCA.out, ← hpk]
        simpa [hll] using hown4
      case measure => simp [intOf]; omega
    · have hkn : k = n := by have := HD.out; omega
      have e1 : ¬ (p : Int) < s.size := by omega
      clear hpk
      obtain rfl := hkn
      rcases hown.2 with ⟨hv, h2⟩ | ⟨g, cap, cur, hv, hrest⟩
      · rw [hll] at h2; omega
      cases hv
      clear hrest
      have HO := Lib.hid (own_of (w := wr) (B := w2.heap.size) (g := g) (cap := cap) (es := CS k) (by intro h9; rw [h9] at hll; simp at hll; omega) hown)
      have DI := Lib.hid (fun w => disc_any a b c d (some ⟨g, 0, none⟩) (CS k).length cap w)
      clear hll
      have FR := Lib.hid (F2.out.trans (hb.mono FN2))
      obtain ⟨xG0, _⟩ := G2.out.below hb (by omega) 0 _ rfl
      obtain ⟨xG1, _⟩ := G2.out.below hb (by omega) 1 _ rfl
      obtain ⟨xG2, _⟩ := G2.out.below hb (by omega) 2 _ rfl
      obtain ⟨xG3, _⟩ := G2.out.below hb (by omega) 3 _ rfl
      have R3 := Lib.hid (R2.out.below hb (by omega))
      clear hown
      go_wp2_with fail
      refine (DI.out _).mono ?_
      rintro e w5 ⟨rfl, hb5⟩
      clear xG0 xG1 xG2 xG3
      have hgl := HO.out.lt
      have hgB : w2.heap.size ≤ g := HO.out.choose_spec.1
      have HO5 := Lib.hid (HO.out.below hb5 hgl)
      obtain ⟨xR0, yR0⟩ := R3.out.below hb5 (by omega) 0 _ rfl
      obtain ⟨xR1, yR1⟩ := R3.out.below hb5 (by omega) 1 _ rfl
      obtain ⟨xR2, yR2⟩ := R3.out.below hb5 (by omega) 2 _ rfl
      obtain ⟨xR3, yR3⟩ := R3.out.below hb5 (by omega) 3 _ rfl
      obtain ⟨xR4, yR4⟩ := R3.out.below hb5 (by omega) 4 _ rfl
      have F5 := Lib.hid (FR.out.trans (hb5.mono FR.out.size))
      clear hb5
      go_wp2
      refine bodyPost_ret (v := .tuple #[.agg #[.int .i64 a, .int .i64 b, .int .i64 c, .int .i64 d, .slice (some ⟨g, 0, none⟩) (CS k).length cap], .int .i64 0]) (by simp [results, Try.results45, go_sem, xR0, yR0, xR1, yR1, xR2, yR2, xR3, yR3, xR4, yR4]) rfl ⟨some ⟨g, 0, none⟩, cap, rfl, ?_, ?_⟩
      · refine OwnBlk.so ((HO5.out.mono (by omega)).keep ?_)
        simp only [World.setCell, Array.getElem?_modify]
        rw [if_neg (by omega), if_neg (by omega), if_neg (by omega), if_neg (by omega), if_neg (by omega)]
      · exact ((((F5.out.setCell (by simp) _).setCell (by simp) _).setCell (by simp) _).setCell (by simp) _).setCell (by simp) _
set_option maxHeartbeats 8000000 in
theorem dod32 (a b c d : Int) (n : Nat) (s : ByteArray) (hs : s.size ≤ 1048576) (w : World) (h3 : 1 ≤ n) (h4 : n ≤ 128)
    (EX : Hid (∀ w : World, Calls Try.prog 67 #[.agg #[.int .i64 a, .int .i64 b, .int .i64 c, .int .i64 d]] w fun e w' => e = .returned (.bool true) ∧ Below w.heap.size w w'))
    (BI : Hid (∀ w : World, Calls Try.prog 77 #[.int .i64 d] w fun e w' => e = .returned (.int .i64 32) ∧ w = w'))
    (TO : Hid (∀ w : World, Calls Try.prog 71 #[.agg #[.int .i64 a, .int .i64 b, .int .i64 c, .int .i64 d]] w fun e w' => e = .returned (.int .i64 (n : Int)) ∧ Below w.heap.size w w')) :
    Calls Try.prog 45 #[.int .i64 a, .int .i64 b, .int .i64 c, .int .i64 d, .string s] w (DiscRes (if s.size = n * 32 then ⟨a, b, c, d, cutS s 32 n⟩ else noDisc) (if s.size = n * 32 then 0 else 7) w) := by
  by_cases hd : s.size = n * 32
  case neg =>
    rw [if_neg hd, if_neg hd]
    have hne : ((s.size : Int) != (n : Int) * 32) = true := by rw [bne_iff_ne]; omega
    clear hd
    go_enter Try.func45, Try.ntmps45
    go_wp2_with fail
    refine (EX.out _).mono ?_
    rintro e w1 ⟨rfl, hb1⟩
    have R : BoxF w1 w.heap.size #[.int .i64 0, .int .i64 0, .int .i64 0, .int .i64 0, .slice none 0 0] := BoxF.below (boxF5 (by simp [go_sem]) (by simp [go_sem]) (by simp [go_sem]) (by simp [go_sem]) (by simp [go_sem])) hb1 (by simp <;> omega)
    have G : BoxF w1 (w.heap.size + 1) #[.int .i64 a, .int .i64 b, .int .i64 c, .int .i64 d] := BoxF.below (boxF4 (by simp [go_sem]) (by simp [go_sem]) (by simp [go_sem]) (by simp [go_sem])) hb1 (by simp <;> omega)
    have F1 := Lib.hid (show Below w.heap.size w w1 from Below.trans (by go_grown) (hb1.mono (by simp <;> omega)))
    have hl1 : w.heap.size + 2 ≤ w1.heap.size := by have := hb1.size; simp at this; omega
    clear hb1
    go_wp2_with fail
    refine (BI.out _).mono ?_
    rintro e _ ⟨rfl, rfl⟩
    obtain ⟨xG0, _⟩ := G 0 _ rfl
    obtain ⟨xG1, _⟩ := G 1 _ rfl
    obtain ⟨xG2, _⟩ := G 2 _ rfl
    obtain ⟨xG3, _⟩ := G 3 _ rfl
    go_wp2_with fail
    refine (TO.out _).mono ?_
    rintro e w2 ⟨rfl, hb2⟩
    clear xG0 xG1 xG2 xG3
    have R2 := R.below hb2 (by omega)
    have F2 := Lib.hid (F1.out.trans (hb2.mono (by omega)))
    obtain ⟨xR0, yR0⟩ := R2 0 _ rfl
    obtain ⟨xR1, yR1⟩ := R2 1 _ rfl
    obtain ⟨xR2, yR2⟩ := R2 2 _ rfl
    obtain ⟨xR3, yR3⟩ := R2 3 _ rfl
    obtain ⟨xR4, yR4⟩ := R2 4 _ rfl
    clear hb2 R R2 G
    go_wp2
    refine bodyPost_ret (v := .tuple #[.agg #[.int .i64 0, .int .i64 0, .int .i64 0, .int .i64 0, .slice none 0 0], .int .i64 7]) (by simp [results, Try.results45, go_sem, xR0, yR0, xR1, yR1, xR2, yR2, xR3, yR3, xR4, yR4]) rfl ⟨none, 0, rfl, .inl rfl, ?_⟩
    exact ((((F2.out.setCell (by simp) _).setCell (by simp) _).setCell (by simp) _).setCell (by simp) _).setCell (by simp) _
  rw [if_pos hd, if_pos hd]
  have HK := Lib.hid (fun k => cutS_succ s 32 k)
  have HL := Lib.hid (fun k => cutS_len s 32 k)
  have HA := Lib.hid (show ∀ k, cutAt s 32 k = ⟨s.extract (32 * k) (32 * k + 32), 1⟩ from fun k => rfl)
  have HZ := Lib.hid (show cutS s 32 0 = [] from rfl)
  generalize cutS s 32 = CS at *
  generalize cutAt s 32 = CA at *
  have HD := Lib.hid hd
  have hne : ((s.size : Int) != (n : Int) * 32) = false := by simp; omega
  clear hd
  go_enter Try.func45, Try.ntmps45
  go_wp2_with fail
  refine (EX.out _).mono ?_
  rintro e w1 ⟨rfl, hb1⟩
  have R : BoxF w1 w.heap.size #[.int .i64 0, .int .i64 0, .int .i64 0, .int .i64 0, .slice none 0 0] := BoxF.below (boxF5 (by simp [go_sem]) (by simp [go_sem]) (by simp [go_sem]) (by simp [go_sem]) (by simp [go_sem])) hb1 (by simp <;> omega)
  have G : BoxF w1 (w.heap.size + 1) #[.int .i64 a, .int .i64 b, .int .i64 c, .int .i64 d] := BoxF.below (boxF4 (by simp [go_sem]) (by simp [go_sem]) (by simp [go_sem]) (by simp [go_sem])) hb1 (by simp <;> omega)
  have F1 := Lib.hid (show Below w.heap.size w w1 from Below.trans (by go_grown) (hb1.mono (by simp <;> omega)))
  have hl1 : w.heap.size + 2 ≤ w1.heap.size := by have := hb1.size; simp at this; omega
  clear hb1
  go_wp2_with fail
  refine (BI.out _).mono ?_
  rintro e _ ⟨rfl, rfl⟩
  obtain ⟨xG0, _⟩ := G 0 _ rfl
  obtain ⟨xG1, _⟩ := G 1 _ rfl
  obtain ⟨xG2, _⟩ := G 2 _ rfl
  obtain ⟨xG3, _⟩ := G 3 _ rfl
  go_wp2_with fail
  refine (TO.out _).mono ?_
  rintro e w2 ⟨rfl, hb2⟩
  clear xG0 xG1 xG2 xG3
  have R2 := Lib.hid (R.below hb2 (by omega))
  have G2 := Lib.hid (G.below hb2 (by omega))
  have F2 := Lib.hid (F1.out.trans (hb2.mono (by omega)))
  have hl2 : w.heap.size + 2 ≤ w2.heap.size := Nat.le_trans hl1 hb2.size
  clear R G hb2 F1
  go_wp2
  clear hne
  have FN2 := F2.out.size
  go_loopw [14, 15] (fun v i wr => ∃ k p : Nat, k ≤ n ∧ i = .int .i64 p ∧ Hid (p = 32 * k) ∧ p ≤ s.size ∧ OwnR rowSector 41 2 wr w2.heap.size v (CS k) ∧ Below w2.heap.size w2 wr) (fun _ i _ => s.size - (intOf i).toNat)
  case atStart => exact ⟨0, 0, Nat.zero_le _, rfl, by unfold Hid; rfl, Nat.zero_le _, by rw [HZ.out]; exact OwnR.nil _ _, Below.refl _ _⟩
  case round =>
    obtain ⟨k, p, hk, rfl, hp, hps, hown, hb⟩ := hrel
    have hz := hb.size
    have hpk := hp.out
    have hll := HL.out k
    by_cases hlt : p < s.size
    · have e1 : (p : Int) < s.size := by omega
      have hkn : k < n := by have := HD.out; omega
      have HCA := Lib.hid (HA.out k)
      have HCK := Lib.hid (HK.out k)
      have hll2 : (CS k).length < 1073741824 := by omega
      have hp8 : (p : Int) + 32 ≤ s.size := by have := HD.out; omega
      have HPK := Lib.hid (And.intro hpk hll)
      clear hpk hll
      go_wp2_with (at_builtin; (refine wpList_appendR 27 41 (.agg zeroSector.toArray) 24 Try.underlying27 infoSector rfl (by omega) (by omega) rfl _ _ rfl rfl (hown.alloc _) ⟨s.extract p (p + 32), 1⟩ rfl (by simp [rowSector, Value.oneCell']) ⟨wr.heap.size, 0, none⟩ 1 rfl (World.news_of_block (cs := #[.string (s.extract p (p + 32)), .int .i64 1]) (t := 41) (fr := (0, 0)) (heap_alloc_new wr _)) hll2 (by simp; omega) ?_; intro g cap w4 hown4 hgr hb4))
      go_roundw
      case rel =>
        obtain ⟨hpk, hll⟩ := HPK.out
        refine ⟨k + 1, p + 32, by omega, by go_num, by unfold Hid; omega, by have := HD.out; omega, ?_, (hb.alloc hz _).trans hb4⟩
        rw [HCK.out, HCA.out, ← hpk]
        simpa [hll] using hown4
      case measure => simp [intOf]; omega
    · have hkn : k = n := by have := HD.out; omega
      have e1 : ¬ (p : Int) < s.size := by omega
      clear hpk
      obtain rfl := hkn
      rcases hown.2 with ⟨hv, h2⟩ | ⟨g, cap, cur, hv, hrest⟩
      · rw [hll] at h2; omega
      cases hv
      clear hrest
      have HO := Lib.hid (own_of (w := wr) (B := w2.heap.size) (g := g) (cap := cap) (es := CS k) (by intro h9; rw [h9] at hll; simp at hll; omega) hown)
      have DI := Lib.hid (fun w => disc_any a b c d (some ⟨g, 0, none⟩) (CS k).length cap w)
      clear hll
      have FR := Lib.hid (F2.out.trans (hb.mono FN2))
      obtain ⟨xG0, _⟩ := G2.out.below hb (by omega) 0 _ rfl
      obtain ⟨xG1, _⟩ := G2.out.below hb (by omega) 1 _ rfl
      obtain ⟨xG2, _⟩ := G2.out.below hb (by omega) 2 _ rfl
      obtain ⟨xG3, _⟩ := G2.out.below hb (by omega) 3 _ rfl
      have R3 := Lib.hid (R2.out.below hb (by omega))
      clear hown
      go_wp2_with fail
      refine (DI.out _).mono ?_
      rintro e w5 ⟨rfl, hb5⟩
      clear xG0 xG1 xG2 xG3
      have hgl := HO.out.lt
      have hgB : w2.heap.size ≤ g := HO.out.choose_spec.1
      have HO5 := Lib.hid (HO.out.below hb5 hgl)
      obtain ⟨xR0, yR0⟩ := R3.out.below hb5 (by omega) 0 _ rfl
      obtain ⟨xR1, yR1⟩ := R3.out.below hb5 (by omega) 1 _ rfl
      obtain ⟨xR2, yR2⟩ := R3.out.below hb5 (by omega) 2 _ rfl
      obtain ⟨xR3, yR3⟩ := R3.out.below hb5 (by omega) 3 _ rfl
      obtain ⟨xR4, yR4⟩ := R3.out.below hb5 (by omega) 4 _ rfl
      have F5 := Lib.hid (FR.out.trans (hb5.mono FR.out.size))
      clear hb5
      go_wp2
      refine bodyPost_ret (v := .tuple #[.agg #[.int .i64 a, .int .i64 b, .int .i64 c, .int .i64 d, .slice (some ⟨g, 0, none⟩) (CS k).length cap], .int .i64 0]) (by simp [results, Try.results45, go_sem, xR0, yR0, xR1, yR1, xR2, yR2, xR3, yR3, xR4, yR4]) rfl ⟨some ⟨g, 0, none⟩, cap, rfl, ?_, ?_⟩
      · refine OwnBlk.so ((HO5.out.mono (by omega)).keep ?_)
        simp only [World.setCell, Array.getElem?_modify]
        rw [if_neg (by omega), if_neg (by omega), if_neg (by omega), if_neg (by omega), if_neg (by omega)]
      · exact ((((F5.out.setCell (by simp) _).setCell (by simp) _).setCell (by simp) _).setCell (by simp) _).setCell (by simp) _
set_option maxHeartbeats 8000000 in
theorem discOfData_g (a b c d : Int) (s : ByteArray) (hs : s.size ≤ 1048576) (w : World) :
    Calls Try.prog 45 #[.int .i64 a, .int .i64 b, .int .i64 c, .int .i64 d, .string s] w (DiscRes (dodV a b c d s) (dodC a b c d s) w) := by
  have ex := fun w => exists_any a b c d w
  unfold dodV dodC
  by_cases hg : geoB a b c d = true
  case neg =>
    have hf : geoB a b c d = false := by simpa using hg
    rw [hf] at ex
    have EX := Lib.hid ex
    rw [if_neg hg, if_neg hg]
    clear hg hf ex
    go_enter Try.func45, Try.ntmps45
    go_wp2_with fail
    refine (EX.out _).mono ?_
    rintro e w1 ⟨rfl, hb1⟩
    have R : BoxF w1 w.heap.size #[.int .i64 0, .int .i64 0, .int .i64 0, .int .i64 0, .slice none 0 0] := BoxF.below (boxF5 (by simp [go_sem]) (by simp [go_sem]) (by simp [go_sem]) (by simp [go_sem]) (by simp [go_sem])) hb1 (by simp <;> omega)
    have F1 := Lib.hid (show Below w.heap.size w w1 from Below.trans (by go_grown) (hb1.mono (by simp <;> omega)))
    obtain ⟨xR0, yR0⟩ := R 0 _ rfl
    obtain ⟨xR1, yR1⟩ := R 1 _ rfl
    obtain ⟨xR2, yR2⟩ := R 2 _ rfl
    obtain ⟨xR3, yR3⟩ := R 3 _ rfl
    obtain ⟨xR4, yR4⟩ := R 4 _ rfl
    clear hb1 R
    go_wp2
    refine bodyPost_ret (v := .tuple #[.agg #[.int .i64 0, .int .i64 0, .int .i64 0, .int .i64 0, .slice none 0 0], .int .i64 2]) (by simp [results, Try.results45, go_sem, xR0, yR0, xR1, yR1, xR2, yR2, xR3, yR3, xR4, yR4]) rfl ⟨none, 0, rfl, .inl rfl, ?_⟩
    exact ((((F1.out.setCell (by simp) _).setCell (by simp) _).setCell (by simp) _).setCell (by simp) _).setCell (by simp) _
  rw [hg] at ex
  have EX := Lib.hid ex
  have BI := Lib.hid (fun w => bytesIn_any d w (inB_iff.2 (geoB_iff.1 hg).2.2.2))
  have TO := Lib.hid (fun w => total_any a b c d w hg)
  rw [if_pos hg, if_pos hg]
  unfold dodB
  obtain ⟨n, m, h1, h2, h3, h4, h5, h6, h7⟩ := geo_nm hg
  rw [h1] at TO
  rw [h5] at BI
  rw [h2, h6]
  clear hg ex h1 h2 h5 h6
  have HDD : (if (decide (s.size = n * m)) = true then (0 : Int) else 7) = if s.size = n * m then 0 else 7 := by by_cases h : s.size = n * m <;> simp [h]
  have HDV : (if (decide (s.size = n * m)) = true then (⟨a, b, c, d, cutS s m n⟩ : DiscV) else noDisc) = if s.size = n * m then ⟨a, b, c, d, cutS s m n⟩ else noDisc := by by_cases h : s.size = n * m <;> simp [h]
  rw [HDD, HDV]
  rcases h7 with rfl | rfl | rfl
  · exact dod8 a b c d n s hs w h3 h4 EX BI TO
  · exact dod16 a b c d n s hs w h3 h4 EX BI TO
  · exact dod32 a b c d n s hs w h3 h4 EX BI TO
end Go.Proofs.Ytpcfhfnlpcpofaa
