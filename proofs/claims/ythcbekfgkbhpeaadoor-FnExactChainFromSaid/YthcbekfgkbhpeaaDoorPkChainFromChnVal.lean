/- Chains of blocks, in pure words: both programs' walk, step by step. -/
import Derived.Test.YthcbekfgkbhpeaaDoorPkChainFromFreeVal
import Derived.Test.YthcbekfgkbhpeaaDoorPkChainFromHasI
namespace Go.Proofs.YthcbekfgkbhpeaaDoor
open Go.RowKit
set_option maxRecDepth 20000
set_option linter.unusedVariables false
/-- What the walk does at a block, with the blocks visited so far: the code if it ends (with the list where that is 0), or the next block. -/
inductive ChStep where
  | stop (code : Int)
  | over (b : Int)
  | go (b : Int)
def chStep (es : List StringV) (l : List Int) (b : Int) : ChStep :=
  if inB (chD es) ((es.length : Int) - 1) b = true then
    if hasB l b = true then .stop 6
    else if lnk es b.toNat = 255 then .over b
    else if lnk es b.toNat = 0 ∨ lnk es b.toNat = 253 ∨ lnk es b.toNat = 254 then .stop 10
    else .go b
  else .stop 2
/-- The walk, for at most n blocks more. -/
def chWalk (es : List StringV) : Nat → List Int → Int → List Int × Int
  | 0, l, b => ([], 6)
  | n + 1, l, b => match chStep es l b with
    | .stop c => ([], c)
    | .over b => (l ++ [b], 0)
    | .go b => chWalk es n (l ++ [b]) (lnk es b.toNat : Int)
def cfP (es : List StringV) (b : Int) : List Int × Int := if chCode es = 0 then (if b = 0 then ([], 0) else chWalk es 129 [] b) else ([], chCode es)
def cfL (es : List StringV) (b : Int) : List Int := (cfP es b).1
def cfC (es : List StringV) (b : Int) : Int := (cfP es b).2
theorem chWalk_len (es : List StringV) : ∀ (n : Nat) (l : List Int) (b : Int), (chWalk es n l b).1.length ≤ l.length + n
  | 0, l, b => by simp [chWalk]
  | n + 1, l, b => by
    unfold chWalk
    cases h : chStep es l b with
    | stop c => simp
    | over b => simp <;> omega
    | go b =>
      have := chWalk_len es n (l ++ [b]) (lnk es b.toNat : Int)
      simp only [List.length_append, List.length_cons, List.length_nil] at this
      simp only
      omega
theorem cfL_len (es : List StringV) (b : Int) : (cfL es b).length ≤ 1048576 := by
  unfold cfL cfP
  split
  · split
    · simp
    · have := chWalk_len es 129 [] b
      simp at this
      omega
  · simp
/-- Distinct numbers from 0 to 127 are at most 128. -/
theorem nodup_le {l : List Int} (h1 : l.Nodup) (h2 : ∀ x ∈ l, 0 ≤ x ∧ x < 128) : l.length ≤ 128 := by
  have h3 : (l.map Int.toNat).Nodup := by
    rw [List.nodup_iff_pairwise_ne] at h1 ⊢
    rw [List.pairwise_map]
    refine List.Pairwise.imp_of_mem ?_ h1
    intro a b ha hb hne he
    have := h2 a ha
    have := h2 b hb
    omega
  have h4 : (l.map Int.toNat) ⊆ List.range 128 := by
    intro x hx
    obtain ⟨y, hy, rfl⟩ := List.mem_map.1 hx
    have := h2 y hy
    exact List.mem_range.2 (by omega)
  have h5 := h3.length_le_of_subset h4
  simpa using h5
end Go.Proofs.YthcbekfgkbhpeaaDoor
