/- the values of FillTrack -/
import Derived.Test.YtnfcalegnijobaaFillSm
namespace Go.Proofs.Ytnfcalegnijobaa
open Go.RowKit
set_option linter.unusedVariables false
set_option linter.unusedSimpArgs false
/-- Does a found sector lie on this track of the disc, so that it may be entered? -/
def adrB (x : DiscV) (t : Int) (e : FoundV) : Bool := decide (e.f0 = quoI t x.f1) && (decide (e.f1 = remI t x.f1) && (decide (e.f2 = e.f2 - 1 + 1) && decide (e.f3 = x.f3)))
def hitB (x : DiscV) (t : Int) (e : FoundV) : Bool := entK e && (inB 0 (x.f2 - 1) (e.f2 - 1) && adrB x t e)
def ixF (x : DiscV) (t : Int) (e : FoundV) : Int := t * x.f2 + (e.f2 - 1)
def fil1 (x : DiscV) (t : Int) (es : List SectorV) (e : FoundV) : List SectorV :=
  if hitB x t e = true then (match es[(ixF x t e).toNat]? with | some o => if betB (entV e) o = true then es.set (ixF x t e).toNat (entV e) else es | none => es) else es
def filK (x : DiscV) (t : Int) (l : List FoundV) (k : Nat) : List SectorV := (l.take k).foldl (fil1 x t) x.f4
theorem fil1_len (x : DiscV) (t : Int) (es : List SectorV) (e : FoundV) : (fil1 x t es e).length = es.length := by
  unfold fil1
  split
  · split
    · split
      · simp
      · rfl
    · rfl
  · rfl
theorem filS_len (x : DiscV) (t : Int) (l : List FoundV) : ∀ es : List SectorV, (l.foldl (fil1 x t) es).length = es.length := by
  induction l with
  | nil => intro es; rfl
  | cons e l ih => intro es; rw [List.foldl_cons, ih, fil1_len]
theorem filK_len (x : DiscV) (t : Int) (l : List FoundV) (k : Nat) : (filK x t l k).length = x.f4.length := filS_len x t _ _
theorem filK_succ {x : DiscV} {t : Int} {l : List FoundV} {k : Nat} {e : FoundV} (h : l[k]? = some e) : filK x t l (k + 1) = fil1 x t (filK x t l k) e := by
  unfold filK
  rw [List.take_add_one, h, List.foldl_append]
  rfl
theorem fil1_no {x : DiscV} {t : Int} {es : List SectorV} {e : FoundV} (h : hitB x t e = false) : fil1 x t es e = es := by
  unfold fil1; rw [h]; rfl
theorem fil1_at {x : DiscV} {t : Int} {es : List SectorV} {e : FoundV} {o : SectorV} {m : Nat} (h : hitB x t e = true) (hm : ixF x t e = (m : Int)) (ho : es[m]? = some o) : fil1 x t es e = if betB (entV e) o = true then es.set m (entV e) else es := by
  unfold fil1
  rw [if_pos h, hm, Int.toNat_natCast, ho]
def filC (x : DiscV) (t : Int) (l : List FoundV) : Int := if l.all foundB = true then trkC x t else 1
def filV (x : DiscV) (t : Int) (l : List FoundV) : DiscV := if filC x t l = 0 then ⟨x.f0, x.f1, x.f2, x.f3, filK x t l l.length⟩ else noDisc
theorem trkC_ok {x : DiscV} {t : Int} (h : trkC x t = 0) : discB x = true ∧ inB 0 (x.f0 * x.f1 - 1) t = true := by
  unfold trkC at h
  split at h
  · rename_i hd
    split at h
    · rename_i hp
      exact ⟨hd, hp⟩
    · exact absurd h (by decide)
  · exact absurd h (by decide)
theorem filV_len (x : DiscV) (t : Int) (l : List FoundV) : (filV x t l).f4.length ≤ 1048576 := by
  unfold filV
  split
  · rename_i h
    have h2 : trkC x t = 0 := by
      unfold filC at h
      split at h
      · exact h
      · exact absurd h (by decide)
    have := discB_len (trkC_ok h2).1
    simp only [filK_len]
    omega
  · simp [noDisc]
/-- The index of a sector that is entered lies on the disc. -/
theorem ixF_in {x : DiscV} {t : Int} {e : FoundV} (h : trkC x t = 0) (hp : inB 0 (x.f2 - 1) (e.f2 - 1) = true) : 0 ≤ t ∧ t ≤ 15 ∧ 0 ≤ t * x.f2 ∧ t * x.f2 ≤ 120 ∧ 0 ≤ ixF x t e ∧ ixF x t e < (x.f4.length : Int) ∧ ixF x t e < 128 := by
  obtain ⟨hd, ht⟩ := trkC_ok h
  unfold discB at hd
  simp only [Bool.and_eq_true, decide_eq_true_eq] at hd
  obtain ⟨hg, hln, _⟩ := hd
  obtain ⟨g0, g1, g2, g3⟩ := geoB_iff.1 hg
  have ht := inB_iff.1 ht
  have hp := inB_iff.1 hp
  rw [hln]
  unfold ixF
  obtain ⟨m, hm⟩ : ∃ m, e.f2 - 1 = m := ⟨_, rfl⟩
  rw [hm] at hp ⊢
  have h0 : x.f0 = 1 ∨ x.f0 = 2 ∨ x.f0 = 3 ∨ x.f0 = 4 ∨ x.f0 = 5 ∨ x.f0 = 6 ∨ x.f0 = 7 ∨ x.f0 = 8 := by omega
  have h1 : x.f1 = 1 ∨ x.f1 = 2 := by omega
  have h2 : x.f2 = 1 ∨ x.f2 = 2 ∨ x.f2 = 3 ∨ x.f2 = 4 ∨ x.f2 = 5 ∨ x.f2 = 6 ∨ x.f2 = 7 ∨ x.f2 = 8 := by omega
  rcases h1 with h1 | h1 <;> rcases h2 with h2 | h2 | h2 | h2 | h2 | h2 | h2 | h2 <;> rw [h1] at ht ⊢ <;> rw [h2] at hp ⊢ <;> omega
theorem fil_other (w : World) (g i i' : Nat) (v0 v1 : Value) (b : Nat) (h : b ≠ g) : ((w.setCell ⟨g, i, none⟩ v0).setCell ⟨g, i', none⟩ v1).heap[b]? = w.heap[b]? := by
  rw [Below.heap_setCell _ _ _ _ h, Below.heap_setCell _ _ _ _ h]
theorem BoxF.keepW {w w' : World} {p : Nat} {vs : Array Value} (h : BoxF w p vs) (hk : w'.heap[p]? = w.heap[p]?) : BoxF w' p vs := by
  intro i v hv
  obtain ⟨h1, h2⟩ := h i v hv
  refine ⟨by rw [World.cell?_of_block hk]; exact h1, ?_⟩
  simp only [World.frozen?] at h2 ⊢
  rw [hk]
  exact h2
end Go.Proofs.Ytnfcalegnijobaa
