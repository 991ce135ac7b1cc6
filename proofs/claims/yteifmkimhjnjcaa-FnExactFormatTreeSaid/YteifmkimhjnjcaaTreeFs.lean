/- spec.l18Format, spec.FormatTree -/
import Derived.Test.YteifmkimhjnjcaaTreeFm
namespace Go.Proofs.Yteifmkimhjnjcaa
open Go.RowKit
set_option linter.unusedVariables false
set_option linter.unusedSimpArgs false
set_option maxRecDepth 20000
theorem ownR_oneT (w : World) (B b : Nat) (s : ByteArray) (hB : B ≤ w.heap.size) (hb : w.heap.size = b) : OwnR rowString 9 1 (w.alloc (.cells #[.string s] 9)) B (.slice (some ⟨b, 0, none⟩) 1 1) [⟨s⟩] := by
  subst hb
  exact ⟨by simp [rowString], .inr ⟨w.heap.size, 1, #[.string s], rfl, hB, heap_alloc_new w _, Nat.le_refl _, by unfold maxLen; omega, rfl, by simp [rowString]⟩⟩
theorem diskL_one (bs : List UInt8) : diskL bs 1 = [rowOf bs] := rfl
theorem diskL_next (bs : List UInt8) (n : Nat) (h : 1 ≤ n) : diskL bs (n + 1) = diskL bs n ++ [⟨⟨zero32.toArray⟩⟩] := by
  rw [diskL_snoc]
  unfold tblk rowOf
  rw [if_neg (by omega)]
set_option maxHeartbeats 4000000 in
theorem l18Format_any (n : Nat) (w : World) (h4 : 4 ≤ n) (hn : n ≤ 128) :
    Calls Try.prog 22 #[.int .i64 (n : Int)] w (RecRes rowString 9 (diskL (r3L n) n) w) := by
  have hmk := make32
  have SE := Lib.hid (fun g cap bs W ht (hl : bs.length = 32) => specSeal_any g cap bs W ht hl)
  have ZE := Lib.hid (fun w => tzero_any w)
  have RE := Lib.hid (show sealL (((zero32.set 0 1).set 2 n.toUInt8).set 12 1) = r3L n from (r3_eq ⟨n, by omega⟩).symm)
  have SN := Lib.hid (fun k (hk : 1 ≤ k) => diskL_next (r3L n) k hk)
  have LN := Lib.hid (fun k => diskL_len (r3L n) k)
  have L1 := Lib.hid (diskL_one (r3L n))
  unfold rowOf at L1
  generalize hr : r3L n = r at *
  go_enter Try.func22, Try.ntmps22
  go_upto_region 2 with (fail)
  have ht0 := TBk.zeros w 5
  have hb0 : Below w.heap.size w (w.alloc (.cells (madeCells #[Value.int .u8 0] 32) 5)) := (Below.refl _ _).alloc (Nat.le_refl _) _
  generalize w.alloc (.cells (madeCells #[Value.int .u8 0] 32) 5) = W at *
  obtain ⟨c0, f0⟩ := ht0 0 (by decide)
  obtain ⟨c2, f2⟩ := ht0 2 (by decide)
  obtain ⟨c12, f12⟩ := ht0 12 (by decide)
  have ht3 := TBk.set (TBk.set (TBk.set ht0 0 1 1 (by decide) (by decide)) 2 n.toUInt8 (n : Int) (by rw [byteV9 n (by omega)]) (by rw [List.length_set]; decide)) 12 1 1 (by decide) (by rw [List.length_set, List.length_set]; decide)
  have hw8 : (n : Int) % 256 = (n : Int) := by omega
  have HT := Lib.hid ht3
  have HB := Lib.hid hb0
  clear ht0 ht3 hb0 hmk
  go_wp2_with fail
  refine (SE.out _ 32 _ _ HT.out (by simp; decide)).mono ?_
  rintro e w1 ⟨rfl, -, ho1⟩
  rw [RE.out]
  have HB1 := Lib.hid (show Below w.heap.size w w1 from (((HB.out.setCell (p := ⟨w.heap.size, 0, none⟩) (Nat.le_refl _) _).setCell (p := ⟨w.heap.size, 2, none⟩) (Nat.le_refl _) _).setCell (p := ⟨w.heap.size, 12, none⟩) (Nat.le_refl _) _).trans ho1.2.2)
  have hz1 := HB1.out.size
  clear HT HB ho1 c0 c2 c12 f0 f2 f12
  generalize (⟨r.toArray⟩ : ByteArray) = hd at *
  generalize (⟨zero32.toArray⟩ : ByteArray) = zz at *
  go_wp2
  go_loopw [4] (fun v wr => ∃ k : Nat, 1 ≤ k ∧ k ≤ n ∧ OwnR rowString 9 1 wr w1.heap.size v (diskL r k) ∧ Below w1.heap.size w1 wr) (fun v _ => match v with | .slice _ k _ => n - k | _ => 0)
  case atStart => exact ⟨1, by omega, by omega, by rw [L1.out]; exact ownR_oneT _ _ _ _ (Nat.le_refl _) rfl, (Below.refl _ _).alloc (Nat.le_refl _) _⟩
  case round =>
    obtain ⟨k, hk1, hk, hown, hb⟩ := hrel
    obtain ⟨a, c, hv, hsl⟩ := hown.slSI
    rw [LN.out k] at hv
    subst hv
    have hzb := hb.size
    by_cases hlt : k < n
    · have e1 : (k : Int) < (n : Int) := by omega
      have hll : (diskL r k).length < 1073741824 := by rw [LN.out k]; omega
      have hl3 := LN.out k
      have HSN := Lib.hid (SN.out k hk1)
      have HB := Lib.hid hb; clear hb hsl
      generalize diskL r k = l at *
      have HL3 := Lib.hid hl3; clear hl3
      go_wp2_with fail
      refine (ZE.out _).mono ?_
      rintro e w2 ⟨rfl, hb2⟩
      have hz2 := hb2.size
      have hown2 := OwnR.below hown hb2
      have HB2 := Lib.hid (HB.out.trans (hb2.mono hzb))
      have hzb2 := HB2.out.size
      clear hb2 hown HB
      have HN := Lib.hid (heap_alloc_new w2 (.cells #[.string zz] 9))
      go_wp2_with (at_builtin; refine wpList_appendR 25 9 (.string ByteArray.empty) 16 Try.underlying25 infoString rfl (by omega) (by omega) rfl _ _ rfl rfl (OwnR.alloc hown2 _) ⟨zz⟩ rfl (by intro u hu; simp only [rowString, List.mem_singleton] at hu; subst hu; rfl) ⟨w2.heap.size, 0, none⟩ 1 rfl (World.news_of_block (cs := #[.string zz]) (t := 9) (fr := (0, 0)) HN.out) hll (by simp; omega) ?_; intro g cap w4 hown4 hgr hb4; clear hgr)
      go_roundw
      case rel => exact ⟨k + 1, by omega, by omega, by rw [HSN.out]; exact hown4, HB2.out.trans (Below.trans ((Below.refl _ _).alloc hzb2 _) hb4)⟩
      case measure => simp [HL3.out]; omega
    · obtain rfl : k = n := by omega
      have hnl : ¬ ((k : Int) < (k : Int)) := by omega
      go_wp2
      go_ret
      exact ⟨a, c, by rw [LN.out k]; rfl, hsl.mono hz1 (Nat.le_refl _), HB1.out.trans (hb.mono hz1)⟩
theorem specFormatTree_any (n : Int) (w : World) :
    Calls Try.prog 10 #[.int .i64 n] w (RecRes2 rowString 9 (ftL n) (ftC n) w) := by
  have IN := Lib.hid (fun w => l00In_any n 4 128 w)
  unfold RecRes2
  by_cases h1 : inB 4 128 n = true
  case neg =>
    have h1 : inB 4 128 n = false := by simpa using h1
    have hC : ftC n = 2 := by unfold ftC; rw [h1]; rfl
    have hL : ftL n = [] := by unfold ftL; rw [h1]; rfl
    rw [h1] at IN
    rw [hC, hL]
    clear h1 hC hL
    go_enter Try.func10, Try.ntmps10
    go_wp2_with fail
    refine (IN.out _).mono ?_
    rintro e w1 ⟨rfl, rfl⟩
    go_wp2
    go_ret2
    obtain ⟨a, c, hv, hsl⟩ := (OwnR.empty (row := rowString) (T := 9) (n := 1) w w.heap.size (Nat.le_refl _)).slSI
    cases hv
    exact ⟨_, 0, rfl, hsl.mono (Nat.le_refl _) (Nat.le_refl _), (Below.refl _ _).alloc (Nat.le_refl _) _⟩
  have hn := inB_iff.1 h1
  obtain ⟨n, rfl⟩ : ∃ k : Nat, n = (k : Int) := ⟨n.toNat, by omega⟩
  have hC : ftC (n : Int) = 0 := by unfold ftC; rw [h1]; rfl
  have hL : ftL (n : Int) = diskL (r3L n) n := by unfold ftL; rw [if_pos h1, Int.toNat_natCast]
  rw [h1] at IN
  rw [hC, hL]
  have FM := Lib.hid (fun w => l18Format_any n w (by omega) (by omega))
  clear h1 hC hL hn
  generalize r3L n = r at *
  generalize diskL r n = D at *
  go_enter Try.func10, Try.ntmps10
  go_wp2_with fail
  refine (IN.out _).mono ?_
  rintro e w1 ⟨rfl, rfl⟩
  go_wp2_with fail
  refine (FM.out _).mono ?_
  rintro e w1 ⟨a, c, rfl, hsl, hb⟩
  go_wp2
  go_ret2
  exact ⟨a, c, rfl, hsl, hb⟩
end Go.Proofs.Yteifmkimhjnjcaa
