/- spec.l01Dec -/
import Derived.Test.YtfedlehibkgjbaaDoorPkFnFluxTimesText
namespace Go.Proofs.YtfedlehibkgjbaaDoor
open Go.RowKit
set_option linter.unusedVariables false
set_option linter.unusedSimpArgs false
set_option maxRecDepth 20000
theorem bcellE {W w1 : World} (hb : Below W.heap.size W w1) : (∀ b o, b < W.heap.size → w1.cell? ⟨b, o, none⟩ = W.cell? ⟨b, o, none⟩) :=
  fun b o h => hb.cell (p := ⟨b, o, none⟩) h
theorem cellN1 (w : World) (x : Value) (T : TypeId) : (w.alloc (.cells #[x] T)).drew.cell? ⟨w.heap.size, 0, none⟩ = some x := by
  show (w.alloc (.cells #[x] T)).cell? ⟨w.heap.size, 0, none⟩ = some x
  simp [go_sem]
theorem cellK1 {w w3 : World} {x : Value} {T : TypeId} (hb : Below (w.alloc (.cells #[x] T)).drew.heap.size (w.alloc (.cells #[x] T)).drew w3) : w3.cell? ⟨w.heap.size, 0, none⟩ = some x := by
  rw [hb.cell (p := ⟨w.heap.size, 0, none⟩) (by show w.heap.size < (w.alloc (.cells #[x] T)).heap.size; simp)]
  exact cellN1 w x T
theorem ba_ext1 {a b : ByteArray} (h : a.data.toList = b.data.toList) : a = b := by
  apply ByteArray.ext
  exact Array.toList_inj.1 h
theorem decT_small1 {n : Nat} (h : n < 10) : decT (n : Int) = ⟨#[UInt8.ofNat (48 + n)]⟩ := by
  unfold decT Lib.itoa
  rw [if_neg (by omega), Int.toNat_natCast, decDigits_small h]
theorem decT_step1 {n : Nat} (h : ¬ n < 10) : decT (n : Int) = decT ((n : Int) / 10) ++ ⟨#[UInt8.ofNat (48 + n % 10)]⟩ := by
  have e10 : (n : Int) / 10 = ((n / 10 : Nat) : Int) := by omega
  unfold decT Lib.itoa
  rw [if_neg (by omega), if_neg (by omega), Int.toNat_natCast, e10, Int.toNat_natCast, decDigits_step h]
  apply ba_ext1
  simp [ByteArray.data_append]
end Go.Proofs.YtfedlehibkgjbaaDoor
