/- A block of bytes that reads as a list; '[]byte(s)', a store into it, 'string(b)'. -/
import Derived.Test.YtpgcmgbflcdjiaaConv
import Derived.BigRegion
namespace Go.Proofs.Ytpgcmgbflcdjiaa
open Go.RowKit
set_option linter.unusedVariables false
def RowB (C : Array Value) (l : List UInt8) (cap : Nat) : Prop := C.size = cap ∧ l.length ≤ cap ∧ ∀ j (h : j < l.length), C[j]? = some (.int .u8 (l[j].toNat : Int))
theorem RowB.ofBytes (s : ByteArray) (cap : Nat) (h : s.size ≤ cap) : RowB (bytesRow s cap) s.data.toList cap := by
  have hl : s.data.toList.length = s.size := by simp
  refine ⟨?_, by omega, ?_⟩
  · have : s.data.size = s.size := rfl
    simp [bytesRow]; omega
  · intro j hj
    have := bytesRow_at s cap j (by omega)
    rw [this]
    simp
theorem RowB.set {C : Array Value} {l : List UInt8} {cap : Nat} (h : RowB C l cap) (k : Nat) (x : UInt8) (hk : k < l.length) : RowB (C.setIfInBounds k (.int .u8 (x.toNat : Int))) (l.set k x) cap := by
  obtain ⟨h1, h2, h3⟩ := h
  refine ⟨by simpa using h1, by simpa using h2, ?_⟩
  intro j hj
  rw [List.length_set] at hj
  rw [Array.getElem?_setIfInBounds, List.getElem_set]
  by_cases e : k = j
  · subst e
    rw [if_pos rfl, if_pos (by omega), if_pos rfl]
  · rw [if_neg e, if_neg e]
    exact h3 j hj
theorem RowB.cell {C : Array Value} {l : List UInt8} {cap : Nat} (h : RowB C l cap) {w : World} {b : Nat} {fr : Nat × Nat} {T : TypeId} (hC : w.heap[b]? = some (.cells C T fr)) (k : Nat) (hk : k < l.length) : w.cell? ⟨b, k, none⟩ = some (.int .u8 (l[k].toNat : Int)) := by
  simp [World.cell?, hC, h.2.2 k hk]
theorem RowB.conv {C : Array Value} {l : List UInt8} {cap : Nat} (h : RowB C l cap) {w : World} {b : Nat} {fr : Nat × Nat} {T : TypeId} (hC : w.heap[b]? = some (.cells C T fr)) (n c : Nat) (hn : l.length = n) :
    (convert 26 9 (.slice (some ⟨b, 0, none⟩) n c)).run Try.prog w = .ok (.string ⟨l.toArray⟩) w := by
  subst hn
  refine conv_of _ _ _ _ ?_
  intro j hj
  rw [add0]
  exact h.cell hC j hj
theorem conv_new1 (W : World) (x : Int) (h1 : 0 ≤ x) (h2 : x < 256) :
    (convert 26 9 (.slice (some ⟨W.heap.size, 0, none⟩) 1 1)).run Try.prog (W.alloc (.cells #[.int .u8 x] 5)) = .ok (.string ⟨#[x.toNat.toUInt8]⟩) (W.alloc (.cells #[.int .u8 x] 5)) := by
  refine conv_of _ _ 1 [x.toNat.toUInt8] ?_
  intro j hj
  have e := add0 W.heap.size j
  have hx : x.toNat % 256 = x.toNat := Nat.mod_eq_of_lt (by omega)
  match j, hj with
  | 0, _ => rw [e]; simp [go_sem, hx]; omega
  | j + 1, hj => simp at hj
end Go.Proofs.Ytpgcmgbflcdjiaa
