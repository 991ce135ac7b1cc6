/- spec.l01Split: a text divided at a byte. -/
import Derived.Test.YtfedlehibkgjbaaDoorRecString
import Derived.Test.YtfedlehibkgjbaaDoorOwnR
namespace Go.Proofs.YtfedlehibkgjbaaDoor
open Go.RowKit
set_option linter.unusedVariables false
set_option linter.unusedSimpArgs false
set_option maxRecDepth 20000
/-- The words before position k, and where the word at k begins. -/
def spl (s : ByteArray) (b : Nat) : Nat → List StringV × Nat
  | 0 => ([], 0)
  | k + 1 => if (s.data.toList[k]?.map UInt8.toNat) = some b then ((spl s b k).1 ++ [⟨s.extract (spl s b k).2 k⟩], k + 1) else spl s b k
theorem spl_hit {s : ByteArray} {b k : Nat} (h : k < s.size) (e : s[k].toNat = b) : spl s b (k + 1) = ((spl s b k).1 ++ [⟨s.extract (spl s b k).2 k⟩], k + 1) := by
  have hl : k < s.data.toList.length := by simpa using h
  have h2 : s.data.toList[k]? = some s[k] := by rw [List.getElem?_eq_getElem hl]; rfl
  rw [spl, h2, if_pos (by simp [e])]
theorem spl_miss {s : ByteArray} {b k : Nat} (h : k < s.size) (e : ¬ s[k].toNat = b) : spl s b (k + 1) = spl s b k := by
  have hl : k < s.data.toList.length := by simpa using h
  have h2 : s.data.toList[k]? = some s[k] := by rw [List.getElem?_eq_getElem hl]; rfl
  rw [spl, h2, if_neg (by simpa using e)]
theorem spl_bd (s : ByteArray) (b k : Nat) : (spl s b k).2 ≤ k ∧ (spl s b k).1.length ≤ k := by
  induction k with
  | zero => exact ⟨Nat.le_refl _, Nat.le_refl _⟩
  | succ k ih =>
    rw [spl]
    split
    · simp; omega
    · omega
def splV (s : ByteArray) (b : Nat) : List StringV := (spl s b s.size).1 ++ [⟨s.extract (spl s b s.size).2 s.size⟩]
/-- What l01Split returns. -/
def SplRes (B : Nat) (es : List StringV) (w : World) (e : Ending) (w' : World) : Prop := (∃ v, e = .returned v ∧ OwnR rowString 9 1 w' B v es) ∧ Below B w w'
set_option maxHeartbeats 8000000 in
theorem split_any (s : ByteArray) (b : Nat) (hb : b < 256) (hs : s.size ≤ 1048576) (w : World) :
    Calls Tryd.prog 21 #[.string s, .int .u8 b] w (SplRes w.heap.size (splV s b) w) := by
  go_enter Tryd.func21, Tryd.ntmps21
  go_wp2
  go_loopw [5, 6, 7] (fun lv fv kv wr => ∃ k : Nat, k ≤ s.size ∧ kv = .int .i64 k ∧ fv = .int .i64 ((spl s b k).2 : Nat) ∧ OwnR rowString 9 1 wr w.heap.size lv (spl s b k).1 ∧ Below w.heap.size w wr) (fun _ _ kv _ => s.size - (intOf kv).toNat)
  case atStart => exact ⟨0, Nat.zero_le _, rfl, rfl, OwnR.empty _ _ (Nat.le_refl _), (Below.refl _ _).alloc (Nat.le_refl _) _⟩
  case round =>
    obtain ⟨k, hk, rfl, rfl, hown, hbr⟩ := hrel
    have hz : w.heap.size ≤ wr.heap.size := hbr.size
    have HB := Lib.hid hbr; clear hbr
    obtain ⟨hf, hlen⟩ := spl_bd s b k
    by_cases hp : k < s.size
    · have hl : (spl s b k).1.length < 1073741824 := by omega
      by_cases he : s[k].toNat = b
      · have HS := Lib.hid (spl_hit hp he)
        have hq : ((s[k].toNat : Int) == (b : Int)) = true := by simp [he]
        generalize (spl s b k).2 = f at *
        generalize (spl s b k).1 = L at *
        clear he
        have hsl1 : f ≤ k ∧ k ≤ s.size := ⟨hf, hk⟩
        go_wp2_with (at_builtin; refine wpList_appendR (B := w.heap.size) (es := L) 45 9 (.string ByteArray.empty) 16 Tryd.underlying45 infoString rfl (by omega) (by omega) rfl _ _ rfl rfl (hown.alloc _) ⟨s.extract f k⟩ rfl (by intro u hu; simp only [rowString, List.mem_singleton] at hu; subst hu; rfl) ⟨wr.heap.size, 0, none⟩ 1 rfl (World.news_of_block (cs := #[.string (s.extract f k)]) (t := 9) (fr := (0, 0)) (heap_alloc_new wr _)) hl (Nat.le_trans hz (by simp)) ?_; intro g cap w3 hown3 _ hb3)
        go_roundw
        case rel => exact ⟨k + 1, by omega, by go_num, by rw [HS.out]; go_num, by rw [HS.out]; exact hown3, (HB.out.alloc hz _).trans hb3⟩
        case measure => simp [intOf]; omega
      · have HS := Lib.hid (spl_miss hp he)
        have hq : ((s[k].toNat : Int) == (b : Int)) = false := by simp; omega
        clear he
        go_wp2
        go_roundw
        case rel => exact ⟨k + 1, by omega, by go_num, by rw [HS.out], by rw [HS.out]; exact hown, HB.out⟩
        case measure => simp [intOf]; omega
    · obtain rfl : k = s.size := by omega
      have HV := Lib.hid (show splV s b = (spl s b s.size).1 ++ [⟨s.extract (spl s b s.size).2 s.size⟩] from rfl)
      have hl : (spl s b s.size).1.length < 1073741824 := by omega
      generalize (spl s b s.size).2 = f at *
      generalize (spl s b s.size).1 = L at *
      go_wp2_with (at_builtin; refine wpList_appendR (B := w.heap.size) (es := L) 45 9 (.string ByteArray.empty) 16 Tryd.underlying45 infoString rfl (by omega) (by omega) rfl _ _ rfl rfl (hown.alloc _) ⟨s.extract f s.size⟩ rfl (by intro u hu; simp only [rowString, List.mem_singleton] at hu; subst hu; rfl) ⟨wr.heap.size, 0, none⟩ 1 rfl (World.news_of_block (cs := #[.string (s.extract f s.size)]) (t := 9) (fr := (0, 0)) (heap_alloc_new wr _)) hl (Nat.le_trans hz (by simp)) ?_; intro g cap w3 hown3 _ hb3)
      go_ret
      refine ⟨⟨_, rfl, ?_⟩, (HB.out.alloc hz _).trans hb3⟩
      rw [HV.out]
      exact hown3
end Go.Proofs.YtfedlehibkgjbaaDoor
