/- Discs as values: what a valid disc is; strings of zero bytes. -/
import Derived.Test.YtllcbiafghhcmaaPkFnDeviceOrderC
import Derived.Test.YtllcbiafghhcmaaPkFnDeviceOrderSecData
import Derived.Test.YtllcbiafghhcmaaPkFnDeviceOrderA
namespace Go.Proofs.Ytllcbiafghhcmaa
open Go.RowKit
set_option linter.unusedVariables false
/-- n zero bytes. -/
def zerosS (n : Nat) : ByteArray := ⟨(List.replicate n (0 : UInt8)).toArray⟩
theorem zerosS_size (n : Nat) : (zerosS n).size = n := by show (List.replicate n (0 : UInt8)).toArray.size = n; simp
/-- A sector that is valid where each has n bytes. -/
def secOkB (n : Nat) (e : SectorV) : Bool := decide (e.f0.size = n) && (inB 1 4 e.f1 && (!decide (e.f1 = 3) || decide (e.f0 = zerosS n)))
def geoB (a b c d : Int) : Bool := inB 1 8 a && (inB 1 2 b && (inB 1 8 c && inB 0 2 d))
def discB (x : DiscV) : Bool := geoB x.f0 x.f1 x.f2 x.f3 && (decide ((x.f4.length : Int) = x.f0 * x.f1 * x.f2) && x.f4.all (secOkB (secN x.f3).toNat))
theorem geoB_iff {a b c d : Int} : geoB a b c d = true ↔ (1 ≤ a ∧ a ≤ 8) ∧ (1 ≤ b ∧ b ≤ 2) ∧ (1 ≤ c ∧ c ≤ 8) ∧ (0 ≤ d ∧ d ≤ 2) := by
  unfold geoB
  simp only [Bool.and_eq_true, inB_iff]
theorem mul_bound {a b c : Int} (ha : 1 ≤ a ∧ a ≤ 8) (hb : 1 ≤ b ∧ b ≤ 2) (hc : 1 ≤ c ∧ c ≤ 8) : 1 ≤ a * b * c ∧ a * b * c ≤ 128 ∧ 1 ≤ a * b ∧ a * b ≤ 16 := by
  have h : b = 1 ∨ b = 2 := by omega
  have h2 : c = 1 ∨ c = 2 ∨ c = 3 ∨ c = 4 ∨ c = 5 ∨ c = 6 ∨ c = 7 ∨ c = 8 := by omega
  rcases h with rfl | rfl <;> rcases h2 with rfl | rfl | rfl | rfl | rfl | rfl | rfl | rfl <;> omega
theorem discB_len {x : DiscV} (h : discB x = true) : x.f4.length ≤ 128 := by
  unfold discB at h
  simp only [Bool.and_eq_true, decide_eq_true_eq] at h
  obtain ⟨hg, hl, _⟩ := h
  obtain ⟨h0, h1, h2, _⟩ := geoB_iff.1 hg
  have := mul_bound h0 h1 h2
  omega
theorem u8iZ : (Try.prog.info? 5).map (fun i => (i.zero, i.size, i.bytes)) = some (some (.int .u8 0), 1, 1) := by kernel_rfl
theorem made_u8Z (n j : Nat) (h : j < n) : (madeCells #[Value.int .u8 0] n)[j]? = some (.int .u8 0) := by
  have hs : (madeCells #[Value.int .u8 0] n).size = n := by simp [madeCells]
  rw [Array.getElem?_eq_getElem (by omega)]
  simp [madeCells, Nat.mod_one]
theorem conv_zerosZ (W : World) (n : Nat) :
    (convert 22 9 (.slice (some ⟨W.heap.size, 0, none⟩) n n)).run Try.prog (W.alloc (.cells (madeCells #[Value.int .u8 0] n) 5)) = .ok (.string (zerosS n)) (W.alloc (.cells (madeCells #[Value.int .u8 0] n) 5)) := by
  have h := conv_of (W.alloc (.cells (madeCells #[Value.int .u8 0] n) 5)) ⟨W.heap.size, 0, none⟩ n (List.replicate n (0 : UInt8)) (by
    intro j hj
    rw [add0]
    have e := heap_alloc_new W (.cells (madeCells #[Value.int .u8 0] n) 5)
    have hj2 : j < n := by simpa using hj
    simp only [World.cell?, e]
    rw [made_u8Z n j hj2]
    simp)
  rw [List.length_replicate] at h
  exact h
end Go.Proofs.Ytllcbiafghhcmaa
