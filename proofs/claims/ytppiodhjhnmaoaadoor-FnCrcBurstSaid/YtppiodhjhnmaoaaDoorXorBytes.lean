/- impl.XorBytes -/
import Derived.Test.YtppiodhjhnmaoaaDoorConv
import Derived.BigRegion
namespace Go.Proofs.YtppiodhjhnmaoaaDoor
open Go.RowKit
set_option maxRecDepth 20000
set_option linter.unusedVariables false
def xorL (a b : List UInt8) : List UInt8 := List.zipWith (· ^^^ ·) a b
theorem xorL_length (a b : ByteArray) (h : a.size = b.size) : (xorL a.data.toList b.data.toList).length = a.size := by
  have h1 : a.data.toList.length = a.size := by simp
  have h2 : b.data.toList.length = b.size := by simp
  simp only [xorL, List.length_zipWith, h1, h2]; omega
theorem xorL_at (a b : ByteArray) (j : Nat) (h1 : j < a.size) (h2 : j < b.size) (h : j < (xorL a.data.toList b.data.toList).length) : (xorL a.data.toList b.data.toList)[j] = a[j] ^^^ b[j] := by
  simp [xorL]; rfl
/-- Which cells the row has when k places are combined. -/
def XRow (a b : ByteArray) (k cap : Nat) (C : Array Value) : Prop :=
  C.size = cap ∧ a.size ≤ cap ∧ (∀ j (h : j < a.size) (h' : j < b.size), j < k → C[j]? = some (.int .u8 ((a[j].toNat ^^^ b[j].toNat : Nat) : Int))) ∧ (∀ j (h : j < a.size), k ≤ j → C[j]? = some (.int .u8 (a[j].toNat : Int)))
theorem XRow.next {a b : ByteArray} {k cap : Nat} {C : Array Value} (h : XRow a b k cap C) (hk : k < a.size) (hk' : k < b.size) :
    XRow a b (k + 1) cap (C.setIfInBounds k (.int .u8 (bits .xor .u8 (a[k].toNat : Int) (b[k].toNat : Int)))) := by
  obtain ⟨h1, h2, h3, h4⟩ := h
  have hx1 := a[k].toNat_lt
  have hx2 := b[k].toNat_lt
  refine ⟨by simpa using h1, h2, ?_, ?_⟩
  · intro j hj hj' hjk
    rw [Array.getElem?_setIfInBounds]
    by_cases e : k = j
    · subst e
      rw [if_pos rfl, if_pos (by omega), u8_xor_nat _ _ (by omega) (by omega)]
    · rw [if_neg e]; exact h3 j hj hj' (by omega)
  · intro j hj hkj
    rw [Array.getElem?_setIfInBounds, if_neg (by omega)]
    exact h4 j hj (by omega)

set_option maxHeartbeats 400000 in
theorem xorBytes_yes (a b : ByteArray) (w : World) (hs : a.size = b.size) (h20 : a.size ≤ 1048576) :
    Calls Tryd.prog 7 #[.string a, .string b] w fun e w' => e = .returned (.tuple #[.string ⟨(xorL a.data.toList b.data.toList).toArray⟩, .bool true]) ∧ Below w.heap.size w w' := by
  have hcv2 := fun w s => run_bytes_of_string (P := Tryd.prog) w 9 22 5 s Tryd.underlying9 Tryd.underlying22 Tryd.underlying5
  have heq : ((a.size : Int) == b.size) = true := by simp; omega
  have hne : ((a.size : Int) != b.size) = false := by simp; omega
  have HS := Lib.hid hs; clear hs
  go_enter Tryd.func7, Tryd.ntmps7
  go_wp2
  clear hcv2
  have hcap1 := Lib.hid (show a.size ≤ grownCap w a.size 0 5 ∧ (bytesRow a (grownCap w a.size 0 5)).size = grownCap w a.size 0 5 by
    have h1 : a.size ≤ grownCap w a.size 0 5 := grownCap_ge _ _ _ _
    refine ⟨h1, ?_⟩
    have : a.data.size = a.size := rfl
    simp [bytesRow]; omega)
  obtain ⟨cap, hcap⟩ : ∃ cap, grownCap w a.size 0 5 = cap := ⟨_, rfl⟩
  rw [hcap] at hcap1 ⊢
  clear hcap
  go_loopw [7, 17] (fun _ i wr => ∃ k : Nat, k ≤ a.size ∧ i = .int .i64 k ∧ (∃ C, wr.heap[w.heap.size]? = some (.cells C 5 (cap, cap + 1)) ∧ XRow a b k cap C) ∧ Below w.heap.size w wr) (fun _ i _ => a.size - (intOf i).toNat)
  case atStart =>
    refine ⟨0, Nat.zero_le _, rfl, ⟨bytesRow a cap, ?_, hcap1.out.2, hcap1.out.1, fun j _ _ h => by omega, fun j h _ => bytesRow_at a cap j h⟩, ((Below.refl _ _).alloc (Nat.le_refl _) _).drew⟩
    rw [hcap1.out.2]
    show (w.heap.push _)[w.heap.size]? = _
    simp
  case round =>
    obtain ⟨k, hk, rfl, ⟨C, hC, hX⟩, hb⟩ := hrel
    by_cases hlt : k < a.size
    · have hlb : k < b.size := by have := HS.out; omega
      have hx1 := a[k].toNat_lt
      have hx2 := b[k].toNat_lt
      have hcell : wr.cell? ⟨w.heap.size, k, none⟩ = some (.int .u8 (a[k].toNat : Int)) := by simp [World.cell?, hC, hX.2.2.2 k hlt (Nat.le_refl _)]
      have hfz : wr.frozen? ⟨w.heap.size, k, none⟩ = false := by
        have := hX.1; have := hX.2.1
        simp [World.frozen?, hC]; omega
      have HC := Lib.hid hC; clear hC
      have HX := Lib.hid hX; clear hX
      go_wp2
      go_region
      all_goals go_wp2
      all_goals go_roundw
      case rel =>
        refine ⟨k + 1, by omega, by go_num, ⟨_, ?_, HX.out.next hlt hlb⟩, (hb.setCell (Nat.le_refl _) _).drew⟩
        exact heap_set_marked wr w.heap.size k C _ _ _ HC.out
      case measure => simp [intOf]; omega
    · have hcv : (convert 22 9 (.slice (some ⟨w.heap.size, 0, none⟩) a.size cap)).run Tryd.prog wr = .ok (.string ⟨(xorL a.data.toList b.data.toList).toArray⟩) wr := by
        have hl := xorL_length a b HS.out
        rw [← hl]
        refine conv_of _ _ _ _ ?_
        intro j hj
        rw [add0]
        have h1 : j < a.size := by omega
        have h2 : j < b.size := by have := HS.out; omega
        rw [xorL_at a b j h1 h2 hj]
        simp [World.cell?, hC, hX.2.2.1 j h1 h2 (by omega)]
      have HC := Lib.hid hC; clear hC
      have HX := Lib.hid hX; clear hX
      go_wp2
      go_ret2
      exact ⟨rfl, hb⟩

set_option maxHeartbeats 400000 in
theorem xorBytes_no (a b : ByteArray) (w : World) (hs : ¬ a.size = b.size) (_h1 : a.size ≤ 1048576) (_h2 : b.size ≤ 1048576) :
    Calls Tryd.prog 7 #[.string a, .string b] w fun e w' => e = .returned (.tuple #[.string ⟨#[]⟩, .bool false]) ∧ Below w.heap.size w w' := by
  have heq : ((a.size : Int) == b.size) = false := by simp; omega
  have hne : ((a.size : Int) != b.size) = true := by simp; omega
  go_enter Tryd.func7, Tryd.ntmps7
  go_wp2
  go_ret2
  exact ⟨rfl, Below.refl _ _⟩
end Go.Proofs.YtppiodhjhnmaoaaDoor
