/- Sizes and comparisons of slices of numbers, in the form that nested structs want. -/
import Derived.Test.YtllcbiafghhcmaaPkFnDeviceOrderNest
import Derived.Test.YtllcbiafghhcmaaPkFnDeviceOrderB
import Derived.Test.YtllcbiafghhcmaaPkFnDeviceOrderC
import Derived.Test.YtllcbiafghhcmaaPkFnDeviceOrderOpenFlux
namespace Go.Proofs.Ytllcbiafghhcmaa
open Go.RowKit Go.ChangeShapes Go.WideShapes Go.ChangeAt Go.Joins Go.Deep
/-- A block of known content stays through stores to other blocks. -/
theorem heap_setCell_at {w : World} {g p i : Nat} {v : Value} {o : Obj} (h : w.heap[g]? = some o) (hne : g ≠ p) : (w.setCell ⟨p, i, none⟩ v).heap[g]? = some o := by
  rw [← h]
  simp only [World.setCell, Array.getElem?_modify]
  rw [if_neg (by omega)]
set_option maxRecDepth 100000 in
theorem readIntsS {H : Type} {enc : TypeId × Value → H} {W : World} {fuel : Nat} {y : DataW H × List MemPlace} {a0 : Option Addr} {len0 cap0 : Nat}
    (hf1 : DataW.trod enc Try.prog W 0 (fun _ => true) true fuel 29 [.slice a0 len0 cap0] = some y) : ∃ xs : List Int, len0 = xs.length ∧ xs.length ≤ maxLen ∧ SlA W a0 xs := by
  rcases open_ints Try.underlying29 Try.underlying2 (by kernel_rfl) hf1 with ⟨hcs, _⟩ | ⟨x, len, cap, zs, hcs, _, hl, hm, hz, _, hcell, _⟩
  · simp at hcs
    obtain ⟨rfl, rfl, rfl⟩ := hcs
    exact ⟨[], rfl, by simp, .inl rfl⟩
  · simp at hcs
    obtain ⟨rfl, rfl, rfl⟩ := hcs
    have hz' : zs.length = cap0 := by simpa using hz
    have hlen : (zs.take len0).length = len0 := by simp; omega
    refine ⟨zs.take len0, by rw [hlen], by rw [hlen]; omega, ?_⟩
    by_cases h0 : len0 = 0
    · exact .inl (by subst h0; rfl)
    · obtain ⟨b, off, spot⟩ := x
      have hc := hcell 0 (by omega)
      have hspot : spot = none := by simpa [Addr.add] using World.cell?_spot hc
      subst hspot
      have hc0 : W.cell? ⟨b, off + 0, none⟩ = some (.int .i64 (zs.getD 0 0)) := by simpa [Addr.add] using hc
      refine .inr ⟨b, off, rfl, World.block_lt_of_cell? W _ hc0, ?_⟩
      intro i y hy
      have hi : i < len0 := by
        have := (List.getElem?_eq_some_iff.1 hy).1
        omega
      have hc2 := hcell i (by omega)
      rw [List.getElem?_take_of_lt hi] at hy
      have e : zs.getD i 0 = y := by simp [hy]
      rw [e] at hc2
      have ea : (⟨b, off, none⟩ : Addr).add i = ⟨b, off + i, none⟩ := by
        by_cases h0 : i = 0
        · subst h0; simp [Addr.add]
        · simp [Addr.add, h0]
      rw [ea] at hc2
      exact hc2
end Go.Proofs.Ytllcbiafghhcmaa
