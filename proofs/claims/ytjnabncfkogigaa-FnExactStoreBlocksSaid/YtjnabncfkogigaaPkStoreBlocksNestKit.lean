/- Sizes and comparisons of slices of numbers, in the form that nested structs want. -/
import Derived.Test.YtjnabncfkogigaaPkStoreBlocksNest
import Derived.Test.YtjnabncfkogigaaPkStoreBlocksA
import Derived.Test.YtjnabncfkogigaaPkStoreBlocksB
namespace Go.Proofs.Ytjnabncfkogigaa
open Go.RowKit Go.ChangeShapes Go.WideShapes Go.ChangeAt Go.Joins Go.Deep
theorem szIntV_any (a : Option Addr) (n c left : Nat) (w : World) (hl : left ≤ 1048576) (hm : n ≤ maxLen) :
    Calls Try.prog 41 #[.slice a n c, .int .i64 (left : Nat)] w fun e w' => e = .returned (.int .i64 (szV left n)) ∧ Below w.heap.size w w' := by
  unfold szV
  by_cases h : n ≤ left
  · rw [if_pos h]
    exact (szInt_yes a n c left w hl h).mono fun e w' ⟨h1, h2⟩ => ⟨h1, h2 ▸ Below.refl _ _⟩
  · rw [if_neg h]
    exact (szInt_no a n c left w hl hm (by omega)).mono fun e w' ⟨h1, h2⟩ => ⟨h1, h2 ▸ Below.refl _ _⟩
theorem eqIntR_any (r : Bool) (a b : Option Addr) (xs ys : List Int) (c d : Nat) (w : World) (hr : r = true ↔ xs = ys) (hx : xs.length ≤ 4194304) (hy : ys.length ≤ 4194304) (h1 : SlA w a xs) (h2 : SlA w b ys) :
    Calls Try.prog 36 #[.slice a xs.length c, .slice b ys.length d] w fun e w' => e = .returned (.bool r) ∧ Below w.heap.size w w' := by
  have e1 : r = (xs == ys) := by
    rw [Bool.eq_iff_iff, hr]; simp
  rw [e1]
  exact eqInt64S_any a b xs ys c d w hx hy h1 h2
/-- A block of known content stays through stores to other blocks. -/
theorem heap_setCell_at {w : World} {g p i : Nat} {v : Value} {o : Obj} (h : w.heap[g]? = some o) (hne : g ≠ p) : (w.setCell ⟨p, i, none⟩ v).heap[g]? = some o := by
  rw [← h]
  simp only [World.setCell, Array.getElem?_modify]
  rw [if_neg (by omega)]
set_option maxRecDepth 100000 in
theorem readIntsS {H : Type} {enc : TypeId × Value → H} {W : World} {fuel : Nat} {y : DataW H × List MemPlace} {a0 : Option Addr} {len0 cap0 : Nat}
    (hf1 : DataW.trod enc Try.prog W 0 (fun _ => true) true fuel 25 [.slice a0 len0 cap0] = some y) : ∃ xs : List Int, len0 = xs.length ∧ xs.length ≤ maxLen ∧ SlA W a0 xs := by
  rcases open_ints Try.underlying25 Try.underlying2 (by kernel_rfl) hf1 with ⟨hcs, _⟩ | ⟨x, len, cap, zs, hcs, _, hl, hm, hz, _, hcell, _⟩
  · simp at hcs
    obtain ⟨rfl, rfl, rfl⟩ := hcs
    exact ⟨[], rfl, by simp, .inl rfl⟩
  · simp at hcs
    obtain ⟨rfl, rfl, rfl⟩ := hcs
    have hz' : zs.length = cap0 := by simpa using hz
    have hlen : (zs.take len0).length = len0 := by simp; omega
    refine ⟨zs.take len0, by rw [hlen], by rw [hlen]; omega, ?_⟩
    by_cases h0 : len0 = 0
    · exact .inl (by subst h0; rfl)
    · obtain ⟨b, off, spot⟩ := x
      have hc := hcell 0 (by omega)
      have hspot : spot = none := by simpa [Addr.add] using World.cell?_spot hc
      subst hspot
      have hc0 : W.cell? ⟨b, off + 0, none⟩ = some (.int .i64 (zs.getD 0 0)) := by simpa [Addr.add] using hc
      refine .inr ⟨b, off, rfl, World.block_lt_of_cell? W _ hc0, ?_⟩
      intro i y hy
      have hi : i < len0 := by
        have := (List.getElem?_eq_some_iff.1 hy).1
        omega
      have hc2 := hcell i (by omega)
      rw [List.getElem?_take_of_lt hi] at hy
      have e : zs.getD i 0 = y := by simp [hy]
      rw [e] at hc2
      have ea : (⟨b, off, none⟩ : Addr).add i = ⟨b, off + i, none⟩ := by
        by_cases h0 : i = 0
        · subst h0; simp [Addr.add]
        · simp [Addr.add, h0]
      rw [ea] at hc2
      exact hc2
end Go.Proofs.Ytjnabncfkogigaa
