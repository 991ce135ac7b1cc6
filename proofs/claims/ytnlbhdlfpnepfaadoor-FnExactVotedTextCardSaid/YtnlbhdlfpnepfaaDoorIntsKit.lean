/- A slice of int64 inside a struct: opened; laws.szInt64S, laws.eqInt64S in one form -/
import Derived.Test.YtnlbhdlfpnepfaaDoorLawSl
import Derived.Test.YtnlbhdlfpnepfaaDoorOpenFlux
import Derived.Test.YtnlbhdlfpnepfaaDoorRecKit
namespace Go.Proofs.YtnlbhdlfpnepfaaDoor
open Go.RowKit Go.ChangeShapes Go.WideShapes Go.ChangeAt Go.Joins Go.Deep
set_option linter.unusedVariables false
set_option maxRecDepth 100000 in
theorem ints_cell {H : Type} {enc : TypeId × Value → H} {W : World} {c : Value} {n : Nat} {y : DataW H × List MemPlace}
    (h : DataW.trod enc Tryd.prog W 0 (fun _ => true) true n 22 [c] = some y) :
    ∃ (a : Option Addr) (xs : List Int) (cap : Nat), c = .slice a xs.length cap ∧ FluxArg W a xs := by
  rcases open_ints Tryd.underlying22 Tryd.underlying2 (by kernel_rfl) h with ⟨hcs, _⟩ | ⟨x, len, cap, zs, hcs, _, hl, hm, hz, _, hcell, _⟩
  · simp at hcs
    subst hcs
    exact ⟨none, [], 0, rfl, by simp, .inl rfl⟩
  · simp at hcs
    subst hcs
    have hz' : zs.length = cap := by simpa using hz
    have hlen : (zs.take len).length = len := by simp; omega
    refine ⟨some x, zs.take len, cap, by rw [hlen], by rw [hlen]; omega, ?_⟩
    by_cases h0 : len = 0
    · exact .inl (by subst h0; rfl)
    · obtain ⟨b, off, spot⟩ := x
      have hc := hcell 0 (by omega)
      have hspot : spot = none := by simpa [Addr.add] using World.cell?_spot hc
      subst hspot
      have hc0 : W.cell? ⟨b, off + 0, none⟩ = some (.int .i64 (zs.getD 0 0)) := by simpa [Addr.add] using hc
      refine .inr ⟨b, off, rfl, World.block_lt_of_cell? W _ hc0, ?_⟩
      intro i y hy
      have hi : i < len := by
        have := (List.getElem?_eq_some_iff.1 hy).1
        omega
      have hc2 := hcell i (by omega)
      rw [List.getElem?_take_of_lt hi] at hy
      have e : zs.getD i 0 = y := by simp [hy]
      rw [e] at hc2
      have ea : (⟨b, off, none⟩ : Addr).add i = ⟨b, off + i, none⟩ := by
        by_cases h0 : i = 0
        · subst h0; simp [Addr.add]
        · simp [Addr.add, h0]
      rw [ea] at hc2
      exact hc2
theorem szInt_any (a : Option Addr) (n c left : Nat) (w : World) (hl : left ≤ 1048576) (hm : n ≤ maxLen) :
    Calls Tryd.prog 9 #[.slice a n c, .int .i64 (left : Nat)] w fun e w' => e = .returned (.int .i64 (szV left n)) ∧ Below w.heap.size w w' := by
  by_cases h : n ≤ left
  · refine (szInt_yes a n c left w hl h).mono ?_
    rintro e w' ⟨rfl, rfl⟩
    exact ⟨ret_int (by unfold szV; rw [if_pos h]), Below.refl _ _⟩
  · refine (szInt_no a n c left w hl hm (by omega)).mono ?_
    rintro e w' ⟨rfl, rfl⟩
    exact ⟨ret_int (by unfold szV; rw [if_neg h]), Below.refl _ _⟩
theorem eqInt64S_q (q : Bool) (a b : Option Addr) (xs ys : List Int) (c d : Nat) (w : World) (hq : q = true ↔ xs = ys) (hx : xs.length ≤ 4194304) (hy : ys.length ≤ 4194304) (h1 : SlA w a xs) (h2 : SlA w b ys) :
    Calls Tryd.prog 17 #[.slice a xs.length c, .slice b ys.length d] w fun e w' => e = .returned (.bool q) ∧ Below w.heap.size w w' := by
  refine (eqInt64S_any a b xs ys c d w hx hy h1 h2).mono ?_
  rintro e w' ⟨rfl, hb⟩
  refine ⟨ret_bool ?_, hb⟩
  cases q with
  | true => simp [hq.1 rfl]
  | false =>
    have : ¬ xs = ys := fun e => absurd (hq.2 e) (by simp)
    simp [this]
end Go.Proofs.YtnlbhdlfpnepfaaDoor
