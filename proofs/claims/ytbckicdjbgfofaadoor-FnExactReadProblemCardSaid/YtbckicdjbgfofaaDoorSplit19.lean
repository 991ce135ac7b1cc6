/- spec.l19Split: a text divided at blanks. -/
import Derived.Test.YtbckicdjbgfofaaDoorSplitSp
namespace Go.Proofs.YtbckicdjbgfofaaDoor
open Go.RowKit
set_option linter.unusedVariables false
set_option linter.unusedSimpArgs false
set_option maxRecDepth 20000
set_option maxHeartbeats 8000000 in
theorem split19_any (s : ByteArray) (hs : s.size ≤ 1048576) (w : World) :
    Calls Tryd.prog 7 #[.string s] w (SplRes w.heap.size (splV s 32) w) := by
  go_enter Tryd.func7, Tryd.ntmps7
  go_wp2
  go_loopw [3, 4, 5] (fun lv fv kv wr => ∃ k : Nat, k ≤ s.size ∧ kv = .int .i64 k ∧ fv = .int .i64 ((spl s 32 k).2 : Nat) ∧ OwnR rowString 9 1 wr w.heap.size lv (spl s 32 k).1 ∧ Below w.heap.size w wr) (fun _ _ kv _ => s.size - (intOf kv).toNat)
  case atStart => exact ⟨0, Nat.zero_le _, rfl, rfl, OwnR.empty _ _ (Nat.le_refl _), (Below.refl _ _).alloc (Nat.le_refl _) _⟩
  case round =>
    obtain ⟨k, hk, rfl, rfl, hown, hbr⟩ := hrel
    have hz : w.heap.size ≤ wr.heap.size := hbr.size
    have HB := Lib.hid hbr; clear hbr
    obtain ⟨hf, hlen⟩ := spl_bd s 32 k
    by_cases hp : k < s.size
    · have hl : (spl s 32 k).1.length < 1073741824 := by omega
      by_cases he : s[k].toNat = 32
      · have HS := Lib.hid (spl_hit hp he)
        have hq : ((s[k].toNat : Int) == 32) = true := by simp [he]
        generalize (spl s 32 k).2 = f at *
        generalize (spl s 32 k).1 = L at *
        clear he
        have hsl1 : f ≤ k ∧ k ≤ s.size := ⟨hf, hk⟩
        go_wp2_with (at_builtin; refine wpList_appendR (B := w.heap.size) (es := L) 28 9 (.string ByteArray.empty) 16 Tryd.underlying28 infoString rfl (by omega) (by omega) rfl _ _ rfl rfl (hown.alloc _) ⟨s.extract f k⟩ rfl (by intro u hu; simp only [rowString, List.mem_singleton] at hu; subst hu; rfl) ⟨wr.heap.size, 0, none⟩ 1 rfl (World.news_of_block (cs := #[.string (s.extract f k)]) (t := 9) (fr := (0, 0)) (heap_alloc_new wr _)) hl (Nat.le_trans hz (by simp)) ?_; intro g cap w3 hown3 _ hb3)
        go_roundw
        case rel => exact ⟨k + 1, by omega, by go_num, by rw [HS.out]; go_num, by rw [HS.out]; exact hown3, (HB.out.alloc hz _).trans hb3⟩
        case measure => simp [intOf]; omega
      · have HS := Lib.hid (spl_miss hp he)
        have hq : ((s[k].toNat : Int) == 32) = false := by simp; omega
        clear he
        go_wp2
        go_roundw
        case rel => exact ⟨k + 1, by omega, by go_num, by rw [HS.out], by rw [HS.out]; exact hown, HB.out⟩
        case measure => simp [intOf]; omega
    · obtain rfl : k = s.size := by omega
      have HV := Lib.hid (show splV s 32 = (spl s 32 s.size).1 ++ [⟨s.extract (spl s 32 s.size).2 s.size⟩] from rfl)
      have hl : (spl s 32 s.size).1.length < 1073741824 := by omega
      generalize (spl s 32 s.size).2 = f at *
      generalize (spl s 32 s.size).1 = L at *
      go_wp2_with (at_builtin; refine wpList_appendR (B := w.heap.size) (es := L) 28 9 (.string ByteArray.empty) 16 Tryd.underlying28 infoString rfl (by omega) (by omega) rfl _ _ rfl rfl (hown.alloc _) ⟨s.extract f s.size⟩ rfl (by intro u hu; simp only [rowString, List.mem_singleton] at hu; subst hu; rfl) ⟨wr.heap.size, 0, none⟩ 1 rfl (World.news_of_block (cs := #[.string (s.extract f s.size)]) (t := 9) (fr := (0, 0)) (heap_alloc_new wr _)) hl (Nat.le_trans hz (by simp)) ?_; intro g cap w3 hown3 _ hb3)
      go_ret
      refine ⟨⟨_, rfl, ?_⟩, (HB.out.alloc hz _).trans hb3⟩
      rw [HV.out]
      exact hown3
end Go.Proofs.YtbckicdjbgfofaaDoor
