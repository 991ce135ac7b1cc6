/- The order of sectors on a track: plain facts. -/
import Derived.Test.YtjifiibaodjflaaBase
namespace Go.Proofs.Ytjifiibaodjflaa
open Go.RowKit
set_option linter.unusedVariables false
/-- How many places are taken from p on. -/
def ilvD (n : Nat) (t : List Bool) : Nat → Nat → Nat
  | 0, _ => 0
  | f + 1, p => if t.getD p false then ilvD n t f ((p + 1) % n) + 1 else 0
def ilvSt (n step : Nat) : Nat → List Int × List Bool × Nat
  | 0 => (List.replicate n 0, List.replicate 8 false, 0)
  | k + 1 =>
    let q := ((ilvSt n step k).2.2 + ilvD n (ilvSt n step k).2.1 8 (ilvSt n step k).2.2) % n
    ((ilvSt n step k).1.set q k, (ilvSt n step k).2.1.set q true, (q + step) % n)
def ilvO (n step k : Nat) : List Int := (ilvSt n step k).1
def ilvT (n step k : Nat) : List Bool := (ilvSt n step k).2.1
def ilvP (n step k : Nat) : Nat := (ilvSt n step k).2.2
def ilvE (n step k : Nat) : Nat := ilvD n (ilvT n step k) 8 (ilvP n step k)
def ilvQ (n step k : Nat) : Nat := (ilvP n step k + ilvE n step k) % n
def ilvB (n step k : Nat) : Bool :=
  decide (ilvP n step k < n) && decide (ilvE n step k < n) && decide (ilvQ n step k < n) && decide ((ilvO n step k).length = n) && decide ((ilvT n step k).length = 8) && decide ((ilvT n step k)[ilvQ n step k]? = some false) &&
  (List.range (ilvE n step k)).all fun j => decide ((ilvT n step k)[(ilvP n step k + j) % n]? = some true)
theorem ilv_all : (List.range 9).all (fun n => n == 0 || (List.range 9).all fun step => (List.range n).all fun k => ilvB n step k) = true := by decide +kernel
theorem ilv_facts (n step k : Nat) (hn : n < 9) (h0 : 0 < n) (hs : step < 9) (hk : k < n) : (ilvP n step k < n ∧ ilvE n step k < n ∧ ilvQ n step k < n) ∧ ((ilvO n step k).length = n ∧ (ilvT n step k).length = 8) ∧ (ilvT n step k)[ilvQ n step k]? = some false ∧ ∀ j, j < ilvE n step k → (ilvT n step k)[(ilvP n step k + j) % n]? = some true := by
  have h := ilv_all
  rw [List.all_eq_true] at h
  have h1 := h n (List.mem_range.2 hn)
  rw [show (n == 0) = false by simp; omega, Bool.false_or, List.all_eq_true] at h1
  have h2 := h1 step (List.mem_range.2 hs)
  rw [List.all_eq_true] at h2
  have h3 := h2 k (List.mem_range.2 hk)
  unfold ilvB at h3
  simp only [Bool.and_eq_true, decide_eq_true_eq] at h3
  obtain ⟨⟨⟨⟨⟨⟨a1, a2⟩, a3⟩, a4⟩, a5⟩, a6⟩, a7⟩ := h3
  rw [List.all_eq_true] at a7
  exact ⟨⟨a1, a2, a3⟩, ⟨a4, a5⟩, a6, fun j hj => by simpa using a7 j (List.mem_range.2 hj)⟩
theorem ilv_next (n step k : Nat) : ilvO n step (k + 1) = (ilvO n step k).set (ilvQ n step k) k ∧ ilvT n step (k + 1) = (ilvT n step k).set (ilvQ n step k) true ∧ ilvP n step (k + 1) = (ilvQ n step k + step) % n := ⟨rfl, rfl, rfl⟩
theorem ilv_len_all : (List.range 9).all (fun n => (List.range 9).all fun step => decide ((ilvO n step n).length = n)) = true := by decide +kernel
theorem ilv_len (n step : Nat) (hn : n < 9) (hs : step < 9) : (ilvO n step n).length = n := by
  have h := ilv_len_all
  rw [List.all_eq_true] at h
  have h1 := h n (List.mem_range.2 hn)
  rw [List.all_eq_true] at h1
  simpa using h1 step (List.mem_range.2 hs)
def ilvOk (n step : Int) : Bool := inB 1 8 n && inB 1 8 step
def ilvV (n step : Int) : List Int := if ilvOk n step = true then ilvO n.toNat step.toNat n.toNat else []
end Go.Proofs.Ytjifiibaodjflaa
