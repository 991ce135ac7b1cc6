/- Disks with chains: the layout and the header, in pure words. -/
import Derived.Test.YtpdodpnhohmjaaaGreatDoorPkGoneChainsD
import Derived.Test.YtpdodpnhohmjaaaGreatDoorPkGoneChainsRecChainLayout
import Derived.Test.YtpdodpnhohmjaaaGreatDoorPkGoneChainsCrc
import Derived.Test.YtpdodpnhohmjaaaGreatDoorPkGoneChainsC
namespace Go.Proofs.YtpdodpnhohmjaaaGreatDoor
open Go.RowKit
set_option maxRecDepth 20000
set_option linter.unusedVariables false
def chDir (n z : Nat) : Nat := 1 + (n + z - 1) / z
def chData (n z : Nat) : Nat := chDir n z + (n / 8 * 12 + z - 1) / z
def chStart (n : Nat) : ByteArray := ⟨#[67, 72, n.toUInt8, (n / 8).toUInt8]⟩
def chTop (n : Nat) : ByteArray := chStart n ++ wordBytes (crcV (chStart n) 65535)
def chHead (n z : Nat) : ByteArray := padB (chTop n) z 0
theorem chCrc_bd (s : ByteArray) : 0 ≤ crcV s 65535 ∧ crcV s 65535 ≤ 65535 := by
  have h := crcT_bd s 65535 s.size (by omega)
  unfold crcV
  rw [if_pos (inB_iff.2 (by omega))]
  have e : (65535 : Int).toNat = 65535 := rfl
  rw [e]
  omega
theorem chTop_size (n : Nat) : (chTop n).size = 6 := by
  unfold chTop
  rw [ByteArray.size_append]
  rfl
theorem chHead_size {n z : Nat} (h : z = 8 ∨ z = 16 ∨ z = 32) : (chHead n z).size = z := by
  unfold chHead
  apply padB_size
  rw [chTop_size]
  omega
def chCode (es : List StringV) : Int := if diskB es = true then (if blkAt es 0 = chHead es.length (len0 es) then 0 else 7) else 1
def chLay (n z : Nat) : ChainLayoutV := ⟨(n : Int), (z : Int), ((n / 8 : Nat) : Int), (chDir n z : Int), (chData n z : Int)⟩
def chL (es : List StringV) : ChainLayoutV := if chCode es = 0 then chLay es.length (len0 es) else ⟨0, 0, 0, 0, 0⟩
theorem chCode_facts {es : List StringV} (h : chCode es = 0) : diskB es = true ∧ blkAt es 0 = chHead es.length (len0 es) := by
  unfold chCode at h
  split at h
  case isFalse => omega
  rename_i h1
  split at h
  case isFalse => omega
  rename_i h2
  exact ⟨h1, h2⟩
theorem chDir_bd {n z : Nat} (hn : n ≤ 128) (hz : z = 8 ∨ z = 16 ∨ z = 32) : chDir n z ≤ 17 ∧ 1 ≤ chDir n z ∧ chDir n z ≤ chData n z ∧ chData n z ≤ 41 := by
  unfold chData chDir
  rcases hz with rfl | rfl | rfl <;> omega
end Go.Proofs.YtpdodpnhohmjaaaGreatDoor
