/- impl.dataCells, impl.fmCells, impl.mfmCells, impl.cellText -/
import Derived.Test.YtffefhgemmjkoaaDoorSpecDigits
import Derived.Test.YtffefhgemmjkoaaDoorPutWord
namespace Go.Proofs.YtffefhgemmjkoaaDoor
open Go.RowKit
set_option maxRecDepth 20000
set_option linter.unusedVariables false
theorem all256 {P : Nat → Prop} (h : ∀ c, c < 256 → P c) (c : Nat) (hc : c < 256) : P c := h c hc
/-- The data cells of the lower k bits of a byte. -/
def dataP (c : Nat) : Nat → Int
  | 0 => 0
  | k + 1 => dataP c k + ((c / 2 ^ k % 2 * 4 ^ k : Nat) : Int)
def dataN (c : Nat) : Int := dataP c 8
set_option maxRecDepth 100000 in
theorem dataN_raw : ∀ c : Nat, c < 256 → bits .or .u16 (bits .or .u16 (bits .or .u16 (bits .or .u16 (bits .or .u16 (bits .or .u16 (bits .or .u16 (bits .or .u16 0 (IntKind.u16.wrap (IntKind.u16.wrap (bits .and .u8 (c : Int) 1)))) (IntKind.u16.wrap (IntKind.u16.wrap (bits .and .u8 ((c : Int) / 2) 1) * 4))) (IntKind.u16.wrap (IntKind.u16.wrap (bits .and .u8 ((c : Int) / 4) 1) * 16))) (IntKind.u16.wrap (IntKind.u16.wrap (bits .and .u8 ((c : Int) / 8) 1) * 64))) (IntKind.u16.wrap (IntKind.u16.wrap (bits .and .u8 ((c : Int) / 16) 1) * 256))) (IntKind.u16.wrap (IntKind.u16.wrap (bits .and .u8 ((c : Int) / 32) 1) * 1024))) (IntKind.u16.wrap (IntKind.u16.wrap (bits .and .u8 ((c : Int) / 64) 1) * 4096))) (IntKind.u16.wrap (IntKind.u16.wrap (bits .and .u8 ((c : Int) / 128) 1) * 16384)) = dataN c := by decide +kernel
theorem dataN_bd : ∀ c, c < 256 → 0 ≤ dataN c ∧ dataN c ≤ 21845 := by decide +kernel
/-- The cells of a byte in FM, and in MFM behind a bit 0, and behind a bit 1. -/
def fmN (c : Nat) : Int := bits .or .u16 43690 (dataN c)
def mfmN (c : Nat) : Int := bits .or .u16 (dataN c) (bits .andNot .u16 43690 (bits .or .u16 (IntKind.u16.wrap (dataN c * 2)) (dataN c / 2)))
def mfmN1 (c : Nat) : Int := bits .andNot .u16 (mfmN c) 32768
theorem fmN_bd : ∀ c, c < 256 → 0 ≤ fmN c ∧ fmN c ≤ 65535 := by decide +kernel
theorem mfmN_bd : ∀ c, c < 256 → 0 ≤ mfmN c ∧ mfmN c ≤ 65535 := by decide +kernel
theorem mfmN1_bd : ∀ c, c < 256 → 0 ≤ mfmN1 c ∧ mfmN1 c ≤ 65535 := by decide +kernel
set_option maxRecDepth 100000 in
set_option maxHeartbeats 4000000 in
theorem dataCells_any (c : Nat) (hc : c < 256) (w : World) :
    Calls Tryd.prog 77 #[.int .u8 (c : Int)] w fun e w' => e = .returned (.int .u16 (dataN c)) ∧ w = w' := by
  go_enter Tryd.func77, Tryd.ntmps77
  go_wp2
  refine wp_loop_rounds 9 ?_
  rw [rounds_succ]
  go_wp2
  rw [rounds_succ]
  go_wp2
  rw [rounds_succ]
  go_wp2
  rw [rounds_succ]
  go_wp2
  rw [rounds_succ]
  go_wp2
  rw [rounds_succ]
  go_wp2
  rw [rounds_succ]
  go_wp2
  rw [rounds_succ]
  go_wp2
  rw [rounds_succ]
  go_wp2
  go_ret
  refine ⟨ret_int ?_, rfl⟩
  exact dataN_raw c hc
set_option maxHeartbeats 1000000 in
theorem mfmCells_any (c : Nat) (hc : c < 256) (w : World) :
    Calls Tryd.prog 83 #[.int .u8 (c : Int)] w fun e w' => e = .returned (.int .u16 (mfmN c)) ∧ w = w' := by
  go_enter Tryd.func83, Tryd.ntmps83
  go_wp2_with (go_at_call 77; refine (dataCells_any c hc _).mono ?_; rintro e w1 ⟨rfl, rfl⟩)
  go_ret
  refine ⟨ret_int ?_, rfl⟩
  revert hc
  decide +kernel +revert
/-- The text of sixteen cells. -/
def cellsT (n : Int) : List UInt8 := digits1 [(n / 256).toNat.toUInt8, (n % 256).toNat.toUInt8]
theorem cellsT_len (n : Int) : (cellsT n).length = 16 := by unfold cellsT; rw [digits1_length]; rfl
theorem bitsOfS_word (n : Int) : bitsOfS (wordBytes n) = ⟨(cellsT n).toArray⟩ := bitsOfS_ok (by show ¬ 4096 < 2; omega)
set_option maxHeartbeats 1000000 in
theorem cellText_any (n : Int) (h0 : 0 ≤ n) (h1 : n ≤ 65535) (w : World) :
    Calls Tryd.prog 76 #[.int .u16 n] w fun e w' => e = .returned (.string ⟨(cellsT n).toArray⟩) ∧ Below w.heap.size w w' := by
  have hb := fun w => bitsOf_any (wordBytes n) w (by show 2 ≤ 1048576; omega)
  rw [bitsOfS_word] at hb
  have HB := Lib.hid hb; clear hb
  go_enter Tryd.func76, Tryd.ntmps76
  go_wp2_with (first
    | (go_at_call 91; refine (putWord_yes n _ h0 h1).mono ?_; rintro e w1 ⟨rfl, hb1⟩)
    | (go_at_call 101; refine (HB.out _).mono ?_; rintro e w2 ⟨rfl, hb2⟩))
  go_ret
  exact ⟨rfl, hb1.trans (hb2.mono hb1.size)⟩
end Go.Proofs.YtffefhgemmjkoaaDoor
