/- The values of impl.RotateFlux and spec.RotateFlux. -/
import Derived.Test.YtfedlehibkgjbaaDoorPkFnFluxB
import Derived.Test.YtfedlehibkgjbaaDoorPkFnFluxA
import Derived.Laws.RangeAny
import Derived.Laws.RangeString
import Derived.WalkMore
import Derived.Test.YtfedlehibkgjbaaDoorRows
import Derived.Laws.IdiomCopy
import Derived.Deep.Slices
import Derived.Deep.Fields
import Derived.ProofKit
import Derived.OpenShut
import Derived.Lib.SmallJoins
section
set_option linter.unusedVariables false
namespace Go.Proofs.YtfedlehibkgjbaaDoor
open Go.RowKit
/-- Change k is the first one that is not ahead of b; k = length: there is none. -/
structure IsStart (b f : Int) (zs : List Int) (k : Nat) : Prop where
  le : k ≤ zs.length
  before : ∀ j, j < k → tAt f zs j < b
  from_ : k < zs.length → b ≤ tAt f zs k
theorem tAt_le {f : Int} {zs : List Int} (hz : zs.all (inB 1 2000000) = true) {i j : Nat} (h : i ≤ j) : tAt f zs i ≤ tAt f zs j := by
  induction j with
  | zero =>
    obtain rfl : i = 0 := by omega
    exact Int.le_refl _
  | succ j ih =>
    by_cases e : i = j + 1
    · subst e; exact Int.le_refl _
    · have h1 := ih (by omega)
      have h2 : tAt f zs j ≤ tAt f zs (j + 1) := by
        by_cases hj : j < zs.length
        · have hx : zs[j]? = some zs[j] := List.getElem?_eq_getElem hj
          have := bd_of_all hz hx
          rw [tAt_succ hx]; omega
        · unfold tAt
          rw [List.take_of_length_le (by omega), List.take_of_length_le (by omega)]
          exact Int.le_refl _
      omega
/-- The time of change m behind the new index. -/
def rotAt (b f all : Int) (zs : List Int) (m : Nat) : Int := if tAt f zs m - b < 0 then tAt f zs m - b + all else tAt f zs m - b
def rotTimes (b f all : Int) (zs : List Int) (k : Nat) : List Int := (List.range zs.length).map fun i => rotAt b f all zs ((k + i) % zs.length)
theorem rotTimes_length (b f all : Int) (zs : List Int) (k : Nat) : (rotTimes b f all zs k).length = zs.length := by simp [rotTimes]
theorem rotTimes_at (b f all : Int) (zs : List Int) (k i : Nat) (h : i < zs.length) : (rotTimes b f all zs k)[i]? = some (rotAt b f all zs ((k + i) % zs.length)) := by simp [rotTimes, h]
theorem rotAt_before {b f all : Int} {zs : List Int} {k m : Nat} (h : IsStart b f zs k) (hm : m < k) : rotAt b f all zs m = tAt f zs m - b + all := by
  unfold rotAt; rw [if_pos (by have := h.before m hm; omega)]
theorem rotAt_from {b f all : Int} {zs : List Int} {k m : Nat} (hz : zs.all (inB 1 2000000) = true) (h : IsStart b f zs k) (hm : k ≤ m) (hn : m < zs.length) : rotAt b f all zs m = tAt f zs m - b := by
  unfold rotAt
  have h1 := h.from_ (by omega)
  have h2 := tAt_le (f := f) hz hm
  rw [if_neg (by omega)]
theorem mod_lt2 {x n : Nat} (h : x < n + n) : x % n = if x < n then x else x - n := by
  split
  · exact Nat.mod_eq_of_lt (by assumption)
  · rw [show x = (x - n) + n by omega, Nat.add_mod_right, Nat.mod_eq_of_lt (by omega)]; omega
theorem tAt_zero (f : Int) (zs : List Int) : tAt f zs 0 = f := by simp [tAt]
theorem tAt_last (f : Int) (zs : List Int) : tAt f zs zs.length = f + zs.sum := by simp [tAt]
/-- The gap behind change m. -/
theorem gap_of {f : Int} {zs : List Int} {m : Nat} (h : m < zs.length) : zs[m]? = some (tAt f zs (m + 1) - tAt f zs m) := by
  have hx : zs[m]? = some zs[m] := List.getElem?_eq_getElem h
  rw [tAt_succ hx, hx]
  congr 1; omega
theorem rot_gap {b f : Int} {zs : List Int} {k i : Nat} (hz : zs.all (inB 1 2000000) = true) (h : IsStart b f zs k) (hi : i < zs.length) :
    some (gapAt (rotTimes b f zs.sum zs k) zs.sum i) = zs[(k + i) % zs.length]? := by
  have hk := h.le
  have hm1 := mod_lt2 (x := k + i) (n := zs.length) (by omega)
  have t0 := tAt_zero f zs
  have tn := tAt_last f zs
  by_cases hl : i + 1 < zs.length
  · have hm2 := mod_lt2 (x := k + (i + 1)) (n := zs.length) (by omega)
    rw [gapAt_mid (rotTimes_at b f zs.sum zs k i hi) (rotTimes_at b f zs.sum zs k (i + 1) hl)]
    rw [hm1, hm2]
    by_cases c1 : k + i < zs.length
    · rw [if_pos c1, gap_of (f := f) c1, rotAt_from hz h (by omega) c1]
      by_cases c2 : k + (i + 1) < zs.length
      · rw [if_pos c2, rotAt_from hz h (by omega) c2]
        congr 1
        rw [show k + i + 1 = k + (i + 1) by omega]; omega
      · rw [if_neg c2, show k + (i + 1) - zs.length = 0 by omega, rotAt_before h (by omega), show k + i + 1 = zs.length by omega, tn, t0]
        congr 1; omega
    · rw [if_neg c1, if_neg (by omega), gap_of (f := f) (by omega), rotAt_before h (by omega), rotAt_before h (by omega)]
      congr 1
      rw [show k + (i + 1) - zs.length = k + i - zs.length + 1 by omega]; omega
  · have h0 : 0 < zs.length := by omega
    rw [gapAt_end (rotTimes_at b f zs.sum zs k i hi) (rotTimes_at b f zs.sum zs k 0 h0) (by rw [rotTimes_length]; exact hl)]
    have hm0 := mod_lt2 (x := k + 0) (n := zs.length) (by omega)
    rw [hm1, hm0, Nat.add_zero]
    by_cases ck : k < zs.length
    · rw [if_pos ck, rotAt_from hz h (Nat.le_refl _) ck]
      by_cases c0 : k = 0
      · subst c0
        rw [if_pos (by omega), gap_of (f := f) (by omega), rotAt_from hz h (by omega) (by omega), show 0 + i + 1 = zs.length by omega, tn, t0]
        congr 1; omega
      · rw [if_neg (by omega), gap_of (f := f) (by omega), rotAt_before h (by omega), show k + i - zs.length + 1 = k by omega]
        congr 1; omega
    · obtain rfl : k = zs.length := by omega
      rw [if_neg ck, Nat.sub_self, rotAt_before h (by omega), if_neg (by omega), gap_of (f := f) (by omega), rotAt_before h (by omega), show zs.length + i - zs.length + 1 = zs.length by omega, tn, t0]
      congr 1; omega
theorem rot_list_at (zs : List Int) (s i : Nat) (hs : s < zs.length) (hi : i < zs.length) : (zs.drop s ++ zs.take s)[i]? = zs[(s + i) % zs.length]? := by
  rw [mod_lt2 (by omega)]
  by_cases h : s + i < zs.length
  · rw [if_pos h, List.getElem?_append_left (by simp; omega), List.getElem?_drop]
  · rw [if_neg h, List.getElem?_append_right (by simp; omega), List.length_drop, List.getElem?_take_of_lt (by omega)]
    congr 1; omega
/-- The gaps of the rotated times are the rotated gaps. -/
theorem rot_gaps {b f : Int} {zs : List Int} {k : Nat} (hz : zs.all (inB 1 2000000) = true) (hn : 0 < zs.length) (h : IsStart b f zs k) :
    gapsOf (rotTimes b f zs.sum zs k) zs.sum = zs.drop (k % zs.length) ++ zs.take (k % zs.length) := by
  have hs : k % zs.length < zs.length := Nat.mod_lt _ hn
  apply List.ext_getElem?
  intro i
  by_cases hi : i < zs.length
  · rw [gapsOf_at _ _ i (by rw [rotTimes_length]; exact hi), rot_gap hz h hi, rot_list_at zs _ i hs hi, Nat.mod_add_mod]
  · rw [List.getElem?_eq_none (by rw [gapsOf_length, rotTimes_length]; omega), List.getElem?_eq_none (by simp; omega)]
def rotFirst (b f : Int) (zs : List Int) (k : Nat) : Int := if k < zs.length then tAt f zs k - b else zs.sum + f - b
theorem rot_first {b f : Int} {zs : List Int} {k : Nat} (hz : zs.all (inB 1 2000000) = true) (hn : 0 < zs.length) (h : IsStart b f zs k) : (rotTimes b f zs.sum zs k)[0]? = some (rotFirst b f zs k) := by
  have hk := h.le
  rw [rotTimes_at _ _ _ _ _ 0 hn, Nat.add_zero]
  unfold rotFirst
  by_cases c : k < zs.length
  · rw [if_pos c, Nat.mod_eq_of_lt c, rotAt_from hz h (Nat.le_refl _) c]
  · obtain rfl : k = zs.length := by omega
    rw [if_neg c, Nat.mod_self, rotAt_before h hn, tAt_zero]
    congr 1; omega
/-- The first change that is not ahead of b. -/
def rotStart (b f : Int) (zs : List Int) : Nat := (List.range zs.length).findIdx fun k => decide (b ≤ tAt f zs k)
theorem rotStart_eq {b f : Int} {zs : List Int} {k : Nat} (h : IsStart b f zs k) : rotStart b f zs = k := by
  unfold rotStart
  by_cases c : k < zs.length
  · rw [List.findIdx_eq (by simpa using c)]
    refine ⟨by simpa using h.from_ c, fun j hj => ?_⟩
    have := h.before j hj
    simp; omega
  · obtain rfl : k = zs.length := by have := h.le; omega
    have : (List.range zs.length).findIdx (fun k => decide (b ≤ tAt f zs k)) = (List.range zs.length).length := by
      rw [List.findIdx_eq_length]
      intro x hx
      have := h.before x (List.mem_range.1 hx)
      simp; omega
    rw [this, List.length_range]
theorem rotStart_is (b f : Int) (zs : List Int) (hz : zs.all (inB 1 2000000) = true) : ∃ k, IsStart b f zs k := by
  have : ∀ n, n ≤ zs.length → (∀ j, j < n → tAt f zs j < b) ∨ ∃ k, IsStart b f zs k := by
    intro n
    induction n with
    | zero => exact fun _ => .inl fun j hj => by omega
    | succ n ih =>
      intro hn
      rcases ih (by omega) with h | h
      · by_cases c : tAt f zs n < b
        · left
          intro j hj
          by_cases e : j = n
          · subst e; exact c
          · exact h j (by omega)
        · exact .inr ⟨n, by omega, h, fun _ => by omega⟩
      · exact .inr h
  rcases this zs.length (Nat.le_refl _) with h | h
  · exact ⟨zs.length, Nat.le_refl _, h, fun c => by omega⟩
  · exact h
def rotVal (c f : Int) (zs : List Int) (b : Int) : FluxVal :=
  if fluxOk c f zs = true then
    if inB 0 (zs.sum - 1) b = true then ⟨c, rotFirst b f zs (rotStart b f zs), zs.drop (rotStart b f zs % zs.length) ++ zs.take (rotStart b f zs % zs.length), 0⟩
    else .none 2
  else .none 1
theorem rotVal_len (c f : Int) (zs : List Int) (b : Int) (hl : zs.length ≤ 1048576) : (rotVal c f zs b).gaps.length ≤ 1048576 := by
  unfold rotVal
  split
  · split
    · simp; omega
    · simp [FluxVal.none]
  · simp [FluxVal.none]
end Go.Proofs.YtfedlehibkgjbaaDoor
end
section
set_option linter.unusedVariables false
namespace Go.Proofs.YtfedlehibkgjbaaDoor
open Go.RowKit
theorem rot_bd (a : Int) (n : Nat) (h : 0 < n) : -(n : Int) < a.tmod n ∧ a.tmod n < n := by
  have h1 := Int.lt_tmod_of_pos a (b := (n : Int)) (by omega)
  have h2 := Int.tmod_lt_of_pos a (b := (n : Int)) (by omega)
  omega
def rotS (s : ByteArray) (k : Nat) : ByteArray := s.extract k s.size ++ s.extract 0 k
def rotK (a : Int) (n : Nat) : Nat := (a % (n : Int)).toNat
theorem rotK_lt (a : Int) (n : Nat) (h : 0 < n) : rotK a n < n := by
  have h1 := Int.emod_nonneg a (b := (n : Int)) (by omega)
  have h2 := Int.emod_lt_of_pos a (b := (n : Int)) (by omega)
  unfold rotK; omega
theorem rotK_eq (a : Int) (n : Nat) (h : 0 < n) : (a.tmod n + n) % n = (rotK a n : Int) := by
  have h1 := Int.emod_nonneg a (b := (n : Int)) (by omega)
  have h3 : (a.tmod n + n) % n = a % n := by
    have h4 := Int.mul_tdiv_add_tmod a n
    have h5 : a.tmod n + n = a + n * (1 - a.tdiv n) := by
      rw [Int.mul_sub, Int.mul_one]; omega
    rw [h5, Int.add_mul_emod_self_left]
  rw [h3]; unfold rotK; omega
end Go.Proofs.YtfedlehibkgjbaaDoor
end
section
set_option linter.unusedVariables false
namespace Go.Proofs.YtfedlehibkgjbaaDoor
open Go.RowKit
theorem validCells_bd {s : ByteArray} (h : validCells s = true) : 0 < s.size ∧ s.size ≤ 8000 := by
  unfold validCells at h
  simp only [Bool.and_eq_true, inB_iff] at h
  omega
set_option maxHeartbeats 400000 in
theorem rotateCells_yes (s : ByteArray) (a : Int) (w : World) (hs : s.size ≤ maxLen) (hv : validCells s = true) :
    Calls Tryd.prog 18 #[.string s, .int .i64 a] w fun e w' => e = .returned (.tuple #[.string (rotS s (rotK a s.size)), .bool true]) ∧ Below w.heap.size w w' := by
  obtain ⟨h0, h1⟩ := validCells_bd hv
  have hs' := hs
  unfold maxLen at hs'
  obtain ⟨b1, b2⟩ := rot_bd a s.size h0
  have hr := rotK_eq a s.size h0
  have hk := rotK_lt a s.size h0
  obtain ⟨k, hkk⟩ : ∃ k, rotK a s.size = k := ⟨_, rfl⟩
  rw [hkk] at hr hk ⊢
  clear hkk
  have e0 : (0 : Int) ≤ k := by omega
  have e1 : (k : Int) ≤ s.size := by omega
  go_enter Tryd.func18, Tryd.ntmps18
  go_wp2_with (go_at_call 34; refine (validCells_any _ _ hs).mono ?_; rintro e w1 ⟨rfl, hb⟩)
  go_quiet (fail)
  go_wp2
  go_ret2
  exact ⟨rfl, below_drewN hb _⟩
set_option maxHeartbeats 400000 in
theorem rotateCells_no (s : ByteArray) (a : Int) (w : World) (hs : s.size ≤ maxLen) (hv : validCells s = false) :
    Calls Tryd.prog 18 #[.string s, .int .i64 a] w fun e w' => e = .returned (.tuple #[.string ⟨#[]⟩, .bool false]) ∧ Below w.heap.size w w' := by
  go_enter Tryd.func18, Tryd.ntmps18
  go_wp2_with (go_at_call 34; refine (validCells_any _ _ hs).mono ?_; rintro e w1 ⟨rfl, hb⟩)
  go_ret2
  exact ⟨rfl, hb⟩
end Go.Proofs.YtfedlehibkgjbaaDoor
end
section
set_option linter.unusedVariables false
namespace Go.Proofs.YtfedlehibkgjbaaDoor
open Go.RowKit
/-- At most 8000 characters 0 and 1. -/
def cellStr (s : ByteArray) : Bool := cellsL s.data.toList && decide (s.size ≤ 8000)
theorem cellStr_valid {s : ByteArray} (h : ¬ s.size < 1) : validCells s = cellStr s := by
  unfold validCells cellStr inB
  have : decide ((1 : Int) ≤ (s.size : Int)) = true := by simp; omega
  rw [this, Bool.true_and]
  congr 1
  exact decide_eq_decide.mpr (by omega)
theorem bytes_empty {s : ByteArray} (h : s.size = 0) : s = ⟨#[]⟩ := by
  cases s with | mk d => simp only [ByteArray.mk.injEq]; exact Array.eq_empty_of_size_eq_zero h
theorem bytes_ne {s : ByteArray} (h : ¬ s.size = 0) : s.toList.isEmpty = false ∧ ¬ s.toList = [] := by
  have hls : s.toList.length = s.size := by rw [ByteArray.toList_eq]; simp
  constructor
  · cases h : s.toList with
    | nil => rw [h] at hls; simp at hls; omega
    | cons => rfl
  · intro h; rw [h] at hls; simp at hls; omega
theorem toList_ne {m s : ByteArray} (h : ¬ m = s) : (m.toList == s.toList) = false := by
  rw [beq_eq_false_iff_ne]
  intro h2
  rw [ByteArray.toList_eq, ByteArray.toList_eq] at h2
  apply h
  cases m; cases s
  congr 1
  exact Array.toList_inj.1 h2
theorem cellStr_size {s : ByteArray} (h : cellStr s = true) : s.size ≤ 8000 := by unfold cellStr at h; simp at h; exact h.2
theorem cellStr_cell {s : ByteArray} (h : cellStr s = true) (k : Nat) (hk : k < s.size) : s[k].toNat = 48 ∨ s[k].toNat = 49 := by
  unfold cellStr at h
  simp only [Bool.and_eq_true] at h
  have h1 := h.1
  unfold cellsL at h1
  rw [List.all_eq_true] at h1
  exact (isCell_iff _).1 (h1 s[k] (by show s.data[k] ∈ _; simp))
end Go.Proofs.YtfedlehibkgjbaaDoor
end
section
set_option linter.unusedVariables false
namespace Go.Proofs.YtfedlehibkgjbaaDoor
open Go.RowKit
set_option linter.unusedVariables false
set_option linter.unusedSimpArgs false
set_option maxRecDepth 20000
def numsP : List UInt8 → Nat → Option (List Int)
  | [], n => some [(n : Int)]
  | c :: r, n => if 48 ≤ c.toNat ∧ c.toNat ≤ 57 then (if n * 10 + (c.toNat - 48) ≤ 2000000 then numsP r (n * 10 + (c.toNat - 48)) else none) else if c.toNat = 32 then (numsP r 0).map ((n : Int) :: ·) else none
theorem numsP_digit {c : UInt8} {r : List UInt8} {n d : Nat} (h : c.toNat = 48 + d) (hd : d ≤ 9) (hm : n * 10 + d ≤ 2000000) : numsP (c :: r) n = numsP r (n * 10 + d) := by
  rw [numsP, h, if_pos (by omega), show 48 + d - 48 = d by omega, if_pos hm]
theorem numsP_big {c : UInt8} {r : List UInt8} {n d : Nat} (h : c.toNat = 48 + d) (hd : d ≤ 9) (hm : ¬ n * 10 + d ≤ 2000000) : numsP (c :: r) n = none := by
  rw [numsP, h, if_pos (by omega), show 48 + d - 48 = d by omega, if_neg hm]
theorem numsP_blank {c : UInt8} {r : List UInt8} {n : Nat} (h : c.toNat = 32) : numsP (c :: r) n = (numsP r 0).map ((n : Int) :: ·) := by
  rw [numsP, h, if_neg (by omega), if_pos rfl]
theorem numsP_bad {c : UInt8} {r : List UInt8} {n : Nat} (h : ¬ (48 ≤ c.toNat ∧ c.toNat ≤ 57)) (h2 : c.toNat ≠ 32) : numsP (c :: r) n = none := by
  rw [numsP, if_neg h, if_neg h2]
def numsV (l : List UInt8) : Option (List Int) := numsP l 0
def szOf : Value → Nat
  | .string s => s.size
  | _ => 0
/-- What numbersIn returns. -/
def NumRes (B : Nat) (o : Option (List Int)) (w : World) (e : Ending) (w' : World) : Prop :=
  (match o with
    | some xs => ∃ v, e = .returned (.tuple #[v, .bool true]) ∧ OwnI w' B v xs
    | none => e = .returned (.tuple #[.slice none 0 0, .bool false])) ∧ Below B w w'
theorem drop_cons (s : ByteArray) (pos : Nat) (h : pos < s.size) : s.data.toList.drop pos = s[pos] :: s.data.toList.drop (pos + 1) := by
  have hl : pos < s.data.toList.length := by simpa using h
  rw [List.drop_eq_getElem_cons hl]
  rfl
theorem extract_list (s : ByteArray) (pos : Nat) : (s.extract pos s.size).data.toList = s.data.toList.drop pos := by
  simp
  apply List.take_of_length_le
  simp
set_option maxHeartbeats 8000000 in
theorem numbersIn_any (s : ByteArray) (hs : s.size ≤ 1048576) (w : World) :
    Calls Tryd.prog 24 #[.string s] w (NumRes w.heap.size (numsV s.data.toList) w) := by
  obtain ⟨o, ho⟩ : ∃ o, numsV s.data.toList = o := ⟨_, rfl⟩
  rw [ho]
  have HO := Lib.hid ho; clear ho
  go_enter Tryd.func24, Tryd.ntmps24
  go_wp2
  go_step3
  go_wp2
  go_step3
  go_wp2
  go_loopw [0, 4] (fun tv lv wr => ∃ (t : ByteArray) (pre : List Int), tv = .string t ∧ OwnI wr w.heap.size lv pre ∧ t.size ≤ s.size ∧ pre.length + t.size ≤ s.size ∧ Hid (o = (numsP t.data.toList 0).map (pre ++ ·)) ∧ Below w.heap.size w wr) (fun tv _ _ => szOf tv)
  case atStart =>
    refine ⟨s, [], rfl, OwnI.nil _ _, Nat.le_refl _, by simp, ?_, Below.refl _ _⟩
    unfold Hid
    rw [← HO.out]
    unfold numsV
    simp
  case round =>
    obtain ⟨t, pre, rfl, hown, hts, hpl, hH, hb⟩ := hrel
    have HOWN := Lib.hid hown
    have HB := Lib.hid hb
    clear hown hb
    obtain ⟨W0, rfl⟩ : ∃ W0, W0 = wr := ⟨_, rfl⟩
    go_wp2
    go_hide hQ
    go_loopw [0, 4, 5] (fun tv lv nv wi => ∃ pos n : Nat, pos ≤ t.size ∧ tv = .string t ∧ Hid (OwnI W0 w.heap.size lv pre) ∧ nv = .int .i64 n ∧ wi = W0.iter t pos ∧ n ≤ 2000000 ∧ Hid (numsP t.data.toList 0 = numsP (t.data.toList.drop pos) n)) (fun _ _ _ wi => t.size - wi.iterPos W0.heap.size)
    case atStart => exact ⟨0, 0, Nat.zero_le _, rfl, HOWN, rfl, rfl, by omega, by unfold Hid; rfl⟩
    case round =>
      clear HOWN
      obtain ⟨pos, n, hk, rfl, HOWN, rfl, rfl, hn2, hI⟩ := hrel
      by_cases hp : pos < t.size
      · have hnx : ∀ ty, (Instr.next (.pointer (some ⟨W0.heap.size, 0, none⟩)) true ty).run Tryd.prog (W0.iter t pos) = _ := fun ty => run_next_any W0 t pos ty hp
        have HD := Lib.hid (drop_cons t pos hp)
        by_cases hasc : t[pos].toNat < 128
        · rw [decode_ascii t pos hp hasc] at hnx
          have HI := Lib.hid (show numsP t.data.toList 0 = numsP (t[pos] :: t.data.toList.drop (pos + 1)) n by rw [hI.out, HD.out])
          obtain ⟨c, hc⟩ : ∃ c, t[pos].toNat = c := ⟨_, rfl⟩
          have HC := Lib.hid hc
          rw [hc] at hnx hasc
          clear hc
          by_cases hd : 48 ≤ c ∧ c ≤ 57
          · obtain ⟨hd1, hd2⟩ := hd
            obtain ⟨d, rfl⟩ : ∃ d, c = 48 + d := ⟨c - 48, by omega⟩
            have hd9 : d ≤ 9 := by omega
            have hw1 : IntKind.i32.wrap ((48 + d : Nat) : Int) = ((48 + d : Nat) : Int) := by rw [IntKind.wrap_i32]; omega
            by_cases hm : n * 10 + d ≤ 2000000
            · have HN := Lib.hid (show numsP t.data.toList 0 = numsP (t.data.toList.drop (pos + 1)) (n * 10 + d) from HI.out.trans (numsP_digit HC.out hd9 hm))
              have hm1 : ¬ (2000000 : Int) < (n : Int) * 10 + d := by omega
              go_wp2
              go_roundw
              case rel => exact ⟨pos + 1, n * 10 + d, by omega, rfl, HOWN, by go_num, rfl, hm, HN⟩
              case measure => simp; omega
            · have HN := Lib.hid (show numsP t.data.toList 0 = none from HI.out.trans (numsP_big HC.out hd9 hm))
              have hm1 : (2000000 : Int) < (n : Int) * 10 + d := by omega
              clear hm
              go_wp2
              subst hQ
              go_ret2
              refine ⟨?_, HB.out.alloc HB.out.size _⟩
              rw [hH.out, HN.out]
              rfl
          · by_cases h32 : c = 32
            · subst h32
              have HN := Lib.hid (show numsP t.data.toList 0 = _ from HI.out.trans (numsP_blank HC.out))
              have hl : pre.length < 1073741824 := by omega
              obtain ⟨V, hV⟩ : ∃ V, W0.iter t (pos + 1) = V := ⟨_, rfl⟩
              have hown2 : OwnI (W0.iter t (pos + 1)) w.heap.size _ pre := HOWN.out.alloc _
              have hb2 : Below w.heap.size w (W0.iter t (pos + 1)) := HB.out.alloc HB.out.size _
              rw [hV] at hnx hown2 hb2
              have HB2 := Lib.hid hb2
              have hz : w.heap.size ≤ V.heap.size := hb2.size
              clear hb2
              clear hV
              go_wp2_with (at_builtin; refine wpList_appendI (B := w.heap.size) (l := pre) 50 Tryd.underlying50 rfl _ _ rfl rfl (hown2.alloc _) (n : Int) ⟨V.heap.size, 0, none⟩ 1 rfl (World.news_of_block (cs := #[.int .i64 (n : Int)]) (t := 2) (fr := (0, 0)) (heap_alloc_new V _)) hl (Nat.le_trans hz (by simp)) ?_; intro g cap w3 hown3 hb3 _)
              have hsz : (t.extract (pos + 1) t.size).size = t.size - (pos + 1) := by simp
              subst hQ
              go_wp2
              go_roundw
              case rel =>
                refine ⟨t.extract (pos + 1) t.size, pre ++ [(n : Int)], rfl, by simpa using hown3, by omega, by simp only [List.length_append, List.length_singleton]; omega, ?_, (HB2.out.alloc hz _).trans hb3⟩
                unfold Hid
                rw [hH.out, HN.out, extract_list, Option.map_map]
                congr 1
                funext z
                simp
              case measure =>
                show (t.extract (pos + 1) t.size).size < t.size
                omega
            · have HN := Lib.hid (show numsP t.data.toList 0 = none from HI.out.trans (numsP_bad (by rw [HC.out]; exact hd) (by rw [HC.out]; exact h32)))
              have hc4 : c < 48 ∨ 57 < c := by omega
              have b32 : ((c : Int) == 32) = false := by simp; omega
              rcases hc4 with h | h
              all_goals
                go_wp2
                subst hQ
                go_ret2
                refine ⟨?_, HB.out.alloc HB.out.size _⟩
                rw [hH.out, HN.out]
                rfl
        · have hh := (decode_high t pos hp (by omega)).1
          have HN := Lib.hid (show numsP t.data.toList 0 = none from (hI.out.trans (by rw [HD.out])).trans (numsP_bad (c := t[pos]) (by omega) (by omega)))
          have b32 : (((Utf8.decode t pos).1 : Int) == 32) = false := by simp; omega
          go_wp2
          subst hQ
          go_ret2
          refine ⟨?_, HB.out.alloc HB.out.size _⟩
          rw [hH.out, HN.out]
          rfl
      · have hnx : ∀ ty, (Instr.next (.pointer (some ⟨W0.heap.size, 0, none⟩)) true ty).run Tryd.prog (W0.iter t pos) = _ := fun ty => run_next_end W0 t pos ty hp
        have HN := Lib.hid (show numsP t.data.toList 0 = some [(n : Int)] by rw [hI.out, List.drop_of_length_le (by simp; omega)]; rfl)
        obtain ⟨V, hV⟩ : ∃ V, W0.iter t pos = V := ⟨_, rfl⟩
        have hown2 : OwnI (W0.iter t pos) w.heap.size _ pre := HOWN.out.alloc _
        have hb2 : Below w.heap.size w (W0.iter t pos) := HB.out.alloc HB.out.size _
        rw [hV] at hnx hown2 hb2
        have HB2 := Lib.hid hb2
        have hz : w.heap.size ≤ V.heap.size := hb2.size
        clear hb2
        rw [hV]
        clear hV
        have hl : pre.length < 1073741824 := by omega
        go_wp2
        subst hQ
        go_wp2_with (at_builtin; refine wpList_appendI (B := w.heap.size) (l := pre) 50 Tryd.underlying50 rfl _ _ rfl rfl (hown2.alloc _) (n : Int) ⟨V.heap.size, 0, none⟩ 1 rfl (World.news_of_block (cs := #[.int .i64 (n : Int)]) (t := 2) (fr := (0, 0)) (heap_alloc_new V _)) hl (Nat.le_trans hz (by simp)) ?_; intro g cap w3 hown3 hb3 _)
        go_ret2
        refine ⟨?_, (HB2.out.alloc hz _).trans hb3⟩
        rw [hH.out, HN.out]
        exact ⟨_, rfl, by simpa using hown3⟩
end Go.Proofs.YtfedlehibkgjbaaDoor
end
section
set_option linter.unusedVariables false
namespace Go.Proofs.YtfedlehibkgjbaaDoor
open Go.RowKit
/-- From ⟨b, off⟩ on stand these cells. -/
def CellsAt (w : World) (b off : Nat) (vs : List Value) : Prop := ∀ i v, vs[i]? = some v → w.cell? ⟨b, off + i, none⟩ = some v
theorem CellsAt.below {w w' : World} {B b off : Nat} {vs : List Value} (h : CellsAt w b off vs) (hb : Below B w w') (hB : b < B) : CellsAt w' b off vs := by
  intro i x hx
  rw [hb.cell (p := ⟨b, off + i, none⟩) hB]; exact h i x hx
theorem flatten_at {α : Type} {n : Nat} : ∀ {rows : List (List α)} (_ : ∀ r ∈ rows, r.length = n) {k : Nat} {r : List α} (_ : rows[k]? = some r) {j : Nat} (_ : j < n), rows.flatten[k * n + j]? = r[j]?
  | [], _, k, r, hk, j, hj => by simp at hk
  | r0 :: rest, hn, 0, r, hk, j, hj => by
    simp at hk
    subst hk
    have h0 := hn r0 (by simp)
    simp [List.getElem?_append, h0, hj]
  | r0 :: rest, hn, k + 1, r, hk, j, hj => by
    have h0 := hn r0 (by simp)
    have hk' : rest[k]? = some r := by simpa using hk
    have ih := flatten_at (rows := rest) (fun x hx => hn x (by simp [hx])) hk' hj
    have e : (k + 1) * n + j = r0.length + (k * n + j) := by rw [h0, Nat.add_mul]; omega
    rw [e, List.flatten_cons, List.getElem?_append_right (by omega)]
    simpa using ih
theorem flatten_len {α : Type} {n : Nat} : ∀ {rows : List (List α)} (_ : ∀ r ∈ rows, r.length = n), rows.flatten.length = rows.length * n
  | [], _ => by simp
  | r0 :: rest, hn => by
    have h0 := hn r0 (by simp)
    have ih := flatten_len (rows := rest) (fun x hx => hn x (by simp [hx]))
    simp only [List.flatten_cons, List.length_append, List.length_cons, h0, ih, Nat.add_mul]
    omega
section
variable {E : Type}
/-- A slice '.slice a es.length c' reads as the structs es in the world w; 'row' gives a struct's cells. -/
def SlS (row : E → List Value) (w : World) (a : Option Addr) (es : List E) : Prop := es = [] ∨ ∃ b off, a = some ⟨b, off, none⟩ ∧ b < w.heap.size ∧ CellsAt w b off (es.map row).flatten
/-- Block g holds just es. -/
def BlkS (row : E → List Value) (T : TypeId) (w : World) (g : Nat) (es : List E) : Prop := w.heap[g]? = some (.cells (es.map row).flatten.toArray T (0, 0))
/-- What the walk is told of a slice of structs that came in. -/
def RecArg (row : E → List Value) (w : World) (a : Option Addr) (es : List E) : Prop := es.length ≤ maxLen ∧ SlS row w a es
/-- A slice of structs of the call's own, in a block from B on and below C. -/
def SlSI (row : E → List Value) (T : TypeId) (w : World) (B C : Nat) (a : Option Addr) (es : List E) : Prop :=
  es = [] ∨ ∃ g rest, a = some ⟨g, 0, none⟩ ∧ B ≤ g ∧ g < C ∧ w.heap[g]? = some (.cells ((es.map row).flatten.toArray ++ rest) T (0, 0))
variable {row : E → List Value} {T : TypeId} {w w' : World} {a : Option Addr} {es : List E} {n g B C D b off k : Nat} {e : E}
theorem SlS.below (h : SlS row w a es) (hb : Below B w w') (hB : w.heap.size ≤ B) : SlS row w' a es := by
  rcases h with rfl | ⟨b, off, rfl, hlt, hi⟩
  · exact .inl rfl
  · exact .inr ⟨b, off, rfl, Nat.lt_of_lt_of_le hlt hb.size, hi.below hb (by omega)⟩
theorem SlS.at (hn : ∀ e, (row e).length = n) (h : SlS row w a es) (hk : es[k]? = some e) : ∃ b off, a = some ⟨b, off, none⟩ ∧ b < w.heap.size ∧ CellsAt w b (off + k * n) (row e) := by
  rcases h with rfl | ⟨b, off, rfl, hlt, hi⟩
  · simp at hk
  · refine ⟨b, off, rfl, hlt, fun j v hv => ?_⟩
    have hj : j < n := by rw [← hn e]; exact (List.getElem?_eq_some_iff.1 hv).1
    have := hi (k * n + j) v (by rw [flatten_at (n := n) (by simp; intro x _; exact hn x) (r := row e) (by simp [hk]) hj]; exact hv)
    rwa [← Nat.add_assoc] at this
theorem BlkS.lt (h : BlkS row T w g es) : g < w.heap.size := (Array.getElem?_eq_some_iff.1 h).1
theorem BlkS.below (h : BlkS row T w g es) (hb : Below B w w') (hg : g < B) : BlkS row T w' g es := by unfold BlkS; rw [hb.block g hg]; exact h
theorem BlkS.drew (h : BlkS row T w g es) : BlkS row T w.drew g es := h
theorem BlkS.sl (h : BlkS row T w g es) : SlS row w (some ⟨g, 0, none⟩) es := by
  refine .inr ⟨g, 0, rfl, h.lt, fun i v hv => ?_⟩
  have h' : w.heap[g]? = some (.cells (es.map row).flatten.toArray T (0, 0)) := h
  simp only [World.cell?, h', Nat.zero_add, List.getElem?_toArray]
  rw [hv]; rfl
theorem BlkS.sli (h : BlkS row T w g es) (hg : B ≤ g) : SlSI row T w B w.heap.size (some ⟨g, 0, none⟩) es :=
  .inr ⟨g, #[], rfl, hg, h.lt, by unfold BlkS at h; simpa using h⟩
theorem SlSI.sl (h : SlSI row T w B C a es) : SlS row w a es := by
  rcases h with rfl | ⟨g, rest, rfl, hg, hC, hh⟩
  · exact .inl rfl
  · refine .inr ⟨g, 0, rfl, (Array.getElem?_eq_some_iff.1 hh).1, fun i v hv => ?_⟩
    have hi := (List.getElem?_eq_some_iff.1 hv).1
    simp only [World.cell?, hh, Nat.zero_add]
    rw [Array.getElem?_append_left (by simpa using hi), List.getElem?_toArray, hv]; rfl
theorem SlSI.below (h : SlSI row T w B C a es) (hb : Below D w w') (hD : C ≤ D) : SlSI row T w' B C a es := by
  rcases h with rfl | ⟨g, rest, rfl, hg, hC, hh⟩
  · exact .inl rfl
  · exact .inr ⟨g, rest, rfl, hg, hC, by rw [hb.block g (by omega)]; exact hh⟩
theorem SlSI.mono {B' C' : Nat} (h : SlSI row T w B C a es) (hB : B' ≤ B) (hC : C ≤ C') : SlSI row T w B' C' a es := by
  rcases h with rfl | ⟨g, rest, rfl, hg, hl, hh⟩
  · exact .inl rfl
  · exact .inr ⟨g, rest, rfl, by omega, by omega, hh⟩
theorem SlSI.drew (h : SlSI row T w B C a es) : SlSI row T w.drew B C a es := h
/-- What a copy gives: a slice of its own with the same structs. -/
def ToRecs (row : E → List Value) (T : TypeId) (es : List E) (w : World) (e : Ending) (w' : World) : Prop :=
  ∃ g, e = .returned (.slice (some ⟨g, 0, none⟩) es.length es.length) ∧ BlkS row T w' g es ∧ w.heap.size ≤ g ∧ Below w.heap.size w w'
end
/-- Several cells set one behind the other. -/
def setAll {α : Type} : List α → Nat → List α → List α
  | l, _, [] => l
  | l, p, v :: vs => setAll (l.set p v) (p + 1) vs
theorem setAll_mid {α : Type} : ∀ (vs : List α) (xs ys zs : List α) (p : Nat) (_ : xs.length = p) (_ : ys.length = vs.length), setAll (xs ++ ys ++ zs) p vs = xs ++ vs ++ zs
  | [], xs, ys, zs, p, hp, hl => by
    have : ys = [] := List.length_eq_zero_iff.1 (by simpa using hl)
    subst this; simp [setAll]
  | v :: vs, xs, [], zs, p, hp, hl => by simp at hl
  | v :: vs, xs, y :: ys, zs, p, hp, hl => by
    have e : (xs ++ y :: ys ++ zs).set p v = (xs ++ [v]) ++ ys ++ zs := by
      subst hp
      simp
    have hl' : ys.length = vs.length := by simpa using hl
    rw [setAll, e, setAll_mid vs (xs ++ [v]) ys zs (p + 1) (by simp [hp]) hl']
    simp
theorem heap_setCells (T : TypeId) (g : Nat) : ∀ (vs : List Value) (p : Nat) (w : World) (cs : List Value) (_ : w.heap[g]? = some (.cells cs.toArray T (0, 0))), (w.setCells g p vs).heap[g]? = some (.cells (setAll cs p vs).toArray T (0, 0))
  | [], p, w, cs, h => h
  | v :: vs, p, w, cs, h => by
    refine heap_setCells T g vs (p + 1) _ (cs.set p v) ?_
    simp [World.setCell, Array.getElem?_modify, h]
theorem below_setCells {B : Nat} (g : Nat) (hg : B ≤ g) : ∀ (vs : List Value) (p : Nat) (w w' : World) (_ : Below B w w'), Below B w (w'.setCells g p vs)
  | [], p, w, w', h => h
  | v :: vs, p, w, w', h => below_setCells g hg vs (p + 1) w _ (h.trans ⟨rfl, rfl, rfl, by simp [World.setCell], fun k hk => Below.heap_setCell _ _ _ _ (by show k ≠ g; omega)⟩)
section
variable {E : Type}
/-- The cells of a block of structs of which k have been copied; the others hold zeros. -/
def cpS (row : E → List Value) (zero : List Value) (es : List E) (k : Nat) : List Value := ((es.take k).map row).flatten ++ (List.replicate (es.length - k) zero).flatten
theorem cpS_all (row : E → List Value) (zero : List Value) (es : List E) : cpS row zero es es.length = (es.map row).flatten := by simp [cpS]
theorem rows_len {row : E → List Value} {n : Nat} (hn : ∀ e, (row e).length = n) (es : List E) : ∀ r ∈ es.map row, r.length = n := by
  intro r hr
  obtain ⟨e, _, rfl⟩ := List.mem_map.1 hr
  exact hn e
theorem reps_len {zero : List Value} {n : Nat} (hz : zero.length = n) (m : Nat) : ∀ r ∈ List.replicate m zero, r.length = n := by
  intro r hr
  rw [(List.mem_replicate.1 hr).2]; exact hz
theorem cpS_succ {row : E → List Value} {zero : List Value} {n : Nat} (hn : ∀ e, (row e).length = n) (hz : zero.length = n) {es : List E} {k : Nat} {e : E} (hk : es[k]? = some e) : setAll (cpS row zero es k) (k * n) (row e) = cpS row zero es (k + 1) := by
  have hlt : k < es.length := (List.getElem?_eq_some_iff.1 hk).1
  have e1 : es.length - k = (es.length - (k + 1)) + 1 := by omega
  unfold cpS
  rw [e1, List.replicate_succ, List.flatten_cons, ← List.append_assoc, setAll_mid (row e) _ zero _ (k * n) ?_ (by rw [hz, hn])]
  · rw [List.take_add_one, hk]
    simp
  · rw [flatten_len (rows_len hn _), List.length_map, List.length_take, Nat.min_eq_left (by omega)]
theorem cpS_size {row : E → List Value} {zero : List Value} {n : Nat} (hn : ∀ e, (row e).length = n) (hz : zero.length = n) {es : List E} {k : Nat} (hk : k ≤ es.length) : (cpS row zero es k).length = es.length * n := by
  unfold cpS
  rw [List.length_append, flatten_len (rows_len hn _), flatten_len (reps_len hz _), List.length_map, List.length_take, List.length_replicate, Nat.min_eq_left hk, ← Nat.add_mul]
  congr 1
  omega
theorem made_flatten (zero : List Value) (n : Nat) (h0 : 0 < zero.length) : madeCells zero.toArray (n * zero.length) = (List.replicate n zero).flatten.toArray := by
  have hl : (List.replicate n zero).flatten.length = n * zero.length := by
    rw [flatten_len (reps_len rfl n)]; simp
  apply Array.ext
  · rw [size_madeCells]; simp
  · intro i h1 h2
    rw [size_madeCells] at h1
    have hq : i / zero.length < n := Nat.div_lt_of_lt_mul (by rw [Nat.mul_comm]; exact h1)
    have hr : i % zero.length < zero.length := Nat.mod_lt _ h0
    have h3 := flatten_at (reps_len rfl n) (k := i / zero.length) (r := zero) (by simp [hq]) hr
    have e : i / zero.length * zero.length + i % zero.length = i := by rw [Nat.mul_comm]; exact Nat.div_add_mod _ _
    rw [e] at h3
    have h4 : (List.replicate n zero).flatten[i]? = some ((List.replicate n zero).flatten[i]'(by rw [hl]; exact h1)) := List.getElem?_eq_getElem _
    have h5 : zero[i % zero.length]? = some (zero[i % zero.length]'hr) := List.getElem?_eq_getElem _
    rw [h4, h5] at h3
    have h6 := Option.some.inj h3
    simp only [madeCells, Array.getElem_map, Array.getElem_range, List.getElem_toArray, List.size_toArray]
    rw [h6, List.getElem!_toArray, List.getElem!_eq_getElem?_getD, h5]
    rfl
end
/-- 'make([]T, n)' of structs, n a variable: an equation for every world. -/
theorem run_make_recs {P : Program} (t e : TypeId) (zero : List Value) (size bytes : Nat) (ht : P.underlying t = some (.slice e)) (hinfo : (P.info? e).map (fun i => (i.zero, i.size, i.bytes)) = some (some (.agg zero.toArray), size, bytes)) (hz : zero.length = size) (h0 : 0 < size)
    (kl kc : IntKind) (n : Nat) (hbytes : bytes * n ≤ 281474976710656) (h63 : n ≤ 9223372036854775807) (w : World) :
    (Instr.makeSlice t (.int kl (n : Int)) (.int kc (n : Int))).run P w = .ok (.slice (some ⟨w.heap.size, 0, none⟩) n n) (w.alloc (.cells (List.replicate n zero).flatten.toArray e)) := by
  obtain ⟨i, hi, hzz⟩ := Option.map_eq_some_iff.1 hinfo
  simp only [Prod.mk.injEq] at hzz
  obtain ⟨hz1, hs, hb⟩ := hzz
  have hr := run_make (P := P) w t e i _ ht hi hz1 kl kc n n (by omega) (by omega) (by rw [hb]; have : ((bytes * n : Nat) : Int) ≤ 281474976710656 := by omega
                                                                                       rwa [Int.natCast_mul] at this) (by omega)
  rw [hr]
  have e1 : (Value.agg zero.toArray).cells = zero.toArray := rfl
  rw [e1, hs, ← hz, Int.toNat_natCast, made_flatten zero n (by omega)]
theorem cpS_zero {E : Type} (row : E → List Value) (zero : List Value) (es : List E) : (List.replicate es.length zero).flatten = cpS row zero es 0 := by simp [cpS]
end Go.Proofs.YtfedlehibkgjbaaDoor
end
section
set_option linter.unusedVariables false
namespace Go.Proofs.YtfedlehibkgjbaaDoor
open Go.RowKit Go.ChangeShapes Go.WideShapes Go.ChangeAt Go.Joins Go.Deep
theorem list_of {E : Type} {p : Nat → E → Prop} : ∀ n : Nat, (∀ i, i < n → ∃ e, p i e) → ∃ es : List E, es.length = n ∧ ∀ i e, es[i]? = some e → p i e
  | 0, _ => ⟨[], rfl, by simp⟩
  | n + 1, h => by
    obtain ⟨es, hl, hp⟩ := list_of n (fun i hi => h i (by omega))
    obtain ⟨e, he⟩ := h n (by omega)
    refine ⟨es ++ [e], by simp [hl], fun i x hx => ?_⟩
    by_cases hi : i < n
    · rw [List.getElem?_append_left (by omega)] at hx; exact hp i x hx
    · have hlt := (List.getElem?_eq_some_iff.1 hx).1
      have : i = n := by simp at hlt; omega
      subst this
      rw [List.getElem?_append_right (by omega), hl] at hx
      simp at hx
      subst hx; exact he
theorem add_plain (b off k : Nat) : (⟨b, off, none⟩ : Addr).add k = ⟨b, off + k, none⟩ := by
  by_cases h0 : k = 0
  · subst h0; simp [Addr.add]
  · simp [Addr.add, h0]
section
variable {H : Type} {enc : TypeId × Value → H} {P : Program} {w : World} {base : Nat} {spare : Nat → Bool} {held : Bool}
theorem int_cell {T : TypeId} {c : Value} {n : Nat} {y : DataW H × List MemPlace} (hT : P.underlying T = some (.int .i64)) (h : DataW.trod enc P w base spare held n T [c] = some y) : ∃ x : Int, c = .int .i64 x := by
  obtain ⟨x, e, _, _⟩ := DataW.trod_int hT h
  simp at e
  exact ⟨x, e⟩
theorem string_cell {T : TypeId} {c : Value} {n : Nat} {y : DataW H × List MemPlace} (hT : P.underlying T = some .string) (h : DataW.trod enc P w base spare held n T [c] = some y) : ∃ x : ByteArray, c = .string x ∧ x.size ≤ maxLen := by
  obtain ⟨x, e, _, hx⟩ := DataW.trod_string hT h
  simp at e
  exact ⟨x, e, hx⟩
theorem bool_cell {T : TypeId} {c : Value} {n : Nat} {y : DataW H × List MemPlace} (hT : P.underlying T = some .bool) (h : DataW.trod enc P w base spare held n T [c] = some y) : ∃ x : Bool, c = .bool x := by
  obtain ⟨x, e, _⟩ := DataW.trod_bool hT h
  simp at e
  exact ⟨x, e⟩
theorem open_recs {E : Type} {row : E → List Value} {ok : E → Prop} {n : Nat} (hn : ∀ e, (row e).length = n) {t el : TypeId} {fs : Array Field} (ht : P.underlying t = some (.slice el)) (he : P.underlying el = some (.struct fs))
    (hone : oneCellFields P fs = true) (hC : P.cellsOf el = n) (hfs : fs.size = n) (h0 : 0 < n)
    (hread : ∀ cs : List Value, cs.length = n → (∀ (j : Nat) (f : Field), fs[j]? = some f → ∃ (c : Value) (m : Nat) (y : DataW H × List MemPlace), cs[j]? = some c ∧ DataW.trod enc P w base (fun _ => true) held m f.type [c] = some y) → ∃ e, cs = row e ∧ ok e)
    {a : Option Addr} {len cap fuel : Nat} {x : DataW H × List MemPlace} (h : DataW.trod enc P w base (fun _ => true) held fuel t [.slice a len cap] = some x) :
    ∃ es : List E, len = es.length ∧ es.length ≤ maxLen ∧ SlS row w a es ∧ ∀ e ∈ es, ok e := by
  rcases open_slice ht h with ⟨hcs, _⟩ | ⟨a', len', cap', m, k, D, Pl, hcs, _, hl, hm, hmm, _, hi⟩
  · simp at hcs
    obtain ⟨rfl, rfl, rfl⟩ := hcs
    exact ⟨[], rfl, by simp, .inl rfl, by simp⟩
  · simp at hcs
    obtain ⟨rfl, rfl, rfl⟩ := hcs
    simp at hmm
    subst hmm
    have each : ∀ i, i < len → ∃ e, ok e ∧ ∀ j v, (row e)[j]? = some v → w.cell? (a'.add (i * n + j)) = some v := by
      intro i hil
      obtain ⟨cs, h1, h2⟩ := hi i (by omega)
      rw [hC] at h1
      obtain ⟨_, hlen, hat⟩ := World.cells?_some h1
      obtain ⟨ys, q, _, _, _, hyl, hf⟩ := DataW.trod_struct he h2
      obtain ⟨e, rfl, hok⟩ := hread cs hlen (by
        intro j f hj
        have hlt : j < fs.size := (Array.getElem?_eq_some_iff.1 hj).1
        obtain ⟨ho, hk⟩ := hone_of hone j f hj
        have h3 := hf j f hj
        rw [ho, hk] at h3
        have hd : (cs.drop j).take 1 = [cs[j]'(by omega)] := by
          rw [List.drop_eq_getElem_cons (by omega)]
          rfl
        rw [hd] at h3
        refine ⟨cs[j]'(by omega), q, ys[j]'(by omega), List.getElem?_eq_getElem _, ?_⟩
        rw [h3]
        exact List.getElem?_eq_getElem (by omega))
      refine ⟨e, hok, fun j v hv => ?_⟩
      have hj : j < n := by rw [← hn e]; exact (List.getElem?_eq_some_iff.1 hv).1
      have := hat j hj
      rw [add_add] at this
      rw [this]; exact hv
    obtain ⟨es, hlen, hp⟩ := list_of len each
    refine ⟨es, hlen.symm, by omega, ?_, fun e hx => ?_⟩
    · cases hes : es with
      | nil => exact .inl rfl
      | cons e0 r =>
        right
        obtain ⟨b, off, spot⟩ := a'
        have hfst := (hp 0 e0 (by simp [hes])).2 0 _ (List.getElem?_eq_getElem (by rw [hn]; exact h0))
        have hspot : spot = none := by simpa [Addr.add] using World.cell?_spot hfst
        subst hspot
        refine ⟨b, off, rfl, World.block_lt_of_cell? w _ (by rw [add_plain] at hfst; exact hfst), ?_⟩
        rw [← hes]
        intro i v hv
        have hlt := (List.getElem?_eq_some_iff.1 hv).1
        rw [flatten_len (rows_len hn es), List.length_map] at hlt
        have hq : i / n < es.length := Nat.div_lt_of_lt_mul (by rw [Nat.mul_comm]; exact hlt)
        have hr : i % n < n := Nat.mod_lt _ h0
        have hk : es[i / n]? = some (es[i / n]'hq) := List.getElem?_eq_getElem _
        have ei : i / n * n + i % n = i := by rw [Nat.mul_comm]; exact Nat.div_add_mod _ _
        have h3 := flatten_at (rows_len hn es) (k := i / n) (r := row (es[i / n]'hq)) (by simp [hk]) hr
        rw [ei] at h3
        have h4 := (hp _ _ hk).2 (i % n) v (by rw [← h3]; exact hv)
        rw [ei, add_plain] at h4
        exact h4
    · obtain ⟨i, hi⟩ := List.getElem?_of_mem hx
      exact (hp i e hi).1
end
/-- What a law's size check gives: what is left, or -1. -/
def szV (left n : Nat) : Int := if n ≤ left then ((left - n : Nat) : Int) else -1
theorem le_sum_of_mem {x : Nat} : ∀ {l : List Nat}, x ∈ l → x ≤ l.sum
  | [], h => by cases h
  | y :: r, h => by
    rw [List.sum_cons]
    rcases List.mem_cons.1 h with rfl | h
    · exact Nat.le_add_right _ _
    · exact Nat.le_trans (le_sum_of_mem h) (Nat.le_add_left _ _)
theorem toList_ne2 {m s : ByteArray} (h : ¬ m = s) : (m.toList == s.toList) = false := by
  rw [beq_eq_false_iff_ne]
  intro h2
  apply h
  rw [ByteArray.toList_eq, ByteArray.toList_eq] at h2
  apply ByteArray.ext
  exact Array.toList_inj.1 h2
theorem take_eq {E : Type} {xs ys : List E} (hl : xs.length = ys.length) (h : xs.take xs.length = ys.take xs.length) : xs = ys := by
  rw [List.take_length, hl, List.take_length] at h; exact h
theorem below_drewN' {B : Nat} {a w : World} (h : Below B a w) (n : Nat) : Below B a (w.drewN n) := ⟨h.os, h.tape, h.output, h.size, h.block⟩
end Go.Proofs.YtfedlehibkgjbaaDoor
end
section
set_option linter.unusedVariables false
namespace Go.Proofs.YtfedlehibkgjbaaDoor
open Go.RowKit Go.ChangeShapes Go.WideShapes Go.ChangeAt Go.Joins Go.Deep
set_option linter.unusedVariables false
set_option linter.unusedSimpArgs false
structure StringV where
  f0 : ByteArray
def rowString (e : StringV) : List Value := [.string e.f0]
def zeroString : List Value := [.string ByteArray.empty]
theorem rowString_len (e : StringV) : (rowString e).length = 1 := rfl
theorem infoString : (Tryd.prog.info? 9).map (fun i => (i.zero, i.size, i.bytes)) = some (some (.string ByteArray.empty), 1, 16) := by kernel_rfl
section
variable {H : Type} {enc : TypeId × Value → H} {P : Program} {w : World} {base : Nat} {held : Bool}
theorem open_ones {E : Type} {row : E → List Value} {ok : E → Prop} (hn : ∀ e, (row e).length = 1) {t el : TypeId} (ht : P.underlying t = some (.slice el)) (hC : P.cellsOf el = 1)
    (hread : ∀ (c : Value) (m : Nat) (y : DataW H × List MemPlace), DataW.trod enc P w base (fun _ => true) held m el [c] = some y → ∃ e, [c] = row e ∧ ok e)
    {a : Option Addr} {len cap fuel : Nat} {x : DataW H × List MemPlace} (h : DataW.trod enc P w base (fun _ => true) held fuel t [.slice a len cap] = some x) :
    ∃ es : List E, len = es.length ∧ es.length ≤ maxLen ∧ SlS row w a es ∧ ∀ e ∈ es, ok e := by
  rcases open_slice ht h with ⟨hcs, _⟩ | ⟨a', len', cap', m, k, D, Pl, hcs, _, hl, hm, hmm, _, hi⟩
  · simp at hcs
    obtain ⟨rfl, rfl, rfl⟩ := hcs
    exact ⟨[], rfl, by simp, .inl rfl, by simp⟩
  · simp at hcs
    obtain ⟨rfl, rfl, rfl⟩ := hcs
    simp at hmm
    subst hmm
    have each : ∀ i, i < len → ∃ e, ok e ∧ ∀ j v, (row e)[j]? = some v → w.cell? (a'.add (i * 1 + j)) = some v := by
      intro i hil
      obtain ⟨cs, h1, h2⟩ := hi i (by omega)
      rw [hC] at h1
      obtain ⟨_, hlen, hat⟩ := World.cells?_some h1
      match cs, hlen with
      | [c], _ =>
        obtain ⟨e, he, hok⟩ := hread c _ _ h2
        refine ⟨e, hok, fun j v hv => ?_⟩
        have hj : j < 1 := by rw [← hn e]; exact (List.getElem?_eq_some_iff.1 hv).1
        have := hat j (by simpa using hj)
        rw [add_add] at this
        rw [this, he]; exact hv
    obtain ⟨es, hlen, hp⟩ := list_of len each
    refine ⟨es, hlen.symm, by omega, ?_, fun e hx => ?_⟩
    · cases hes : es with
      | nil => exact .inl rfl
      | cons e0 r =>
        right
        obtain ⟨b, off, spot⟩ := a'
        have hfst := (hp 0 e0 (by simp [hes])).2 0 _ (List.getElem?_eq_getElem (by rw [hn]; omega))
        have hspot : spot = none := by simpa [Addr.add] using World.cell?_spot hfst
        subst hspot
        refine ⟨b, off, rfl, World.block_lt_of_cell? w _ (by rw [add_plain] at hfst; exact hfst), ?_⟩
        rw [← hes]
        intro i v hv
        have hlt := (List.getElem?_eq_some_iff.1 hv).1
        rw [flatten_len (rows_len hn es), List.length_map] at hlt
        have hk : es[i]? = some (es[i]'(by omega)) := List.getElem?_eq_getElem _
        have h3 := flatten_at (rows_len hn es) (k := i) (r := row (es[i]'(by omega))) (by simp [hk]) (j := 0) (by omega)
        have ei : i * 1 + 0 = i := by omega
        rw [ei] at h3
        have h4 := (hp _ _ hk).2 0 v (by rw [← h3]; exact hv)
        rw [ei, add_plain] at h4
        exact h4
    · obtain ⟨i, hi⟩ := List.getElem?_of_mem hx
      exact (hp i e hi).1
end
theorem cellsString : Tryd.prog.cellsOf 9 = 1 := by kernel_rfl
set_option maxRecDepth 100000 in
theorem readStringS {H : Type} {enc : TypeId × Value → H} {W : World} {fuel : Nat} {y : DataW H × List MemPlace} {a0 : Option Addr} {len0 cap0 : Nat}
    (hf1 : DataW.trod enc Tryd.prog W 0 (fun _ => true) true fuel 45 [.slice a0 len0 cap0] = some y) :
    ∃ es : List StringV, len0 = es.length ∧ es.length ≤ maxLen ∧ SlS rowString W a0 es ∧ ∀ e ∈ es, e.f0.size ≤ maxLen := by
  obtain ⟨es, rfl, hm, hs, hx⟩ := open_ones (enc := enc) (P := Tryd.prog) (w := W) (base := 0) (held := true) (a := a0) (len := len0) (cap := cap0) (row := rowString) (ok := fun e : StringV => e.f0.size ≤ maxLen) rowString_len Tryd.underlying45 cellsString (by
    intro c m y hc
    obtain ⟨x0, rfl, s0⟩ := string_cell Tryd.underlying9 hc
    exact ⟨⟨x0⟩, rfl, s0⟩) hf1
  exact ⟨es, rfl, hm, hs, hx⟩
set_option maxRecDepth 100000 in
theorem open_StringS {H : Type} {enc : TypeId × Value → H} {W : World} {base : Nat} {v : Value} {d : DataW H} {p : List MemPlace}
    (hv : Value.okWide Tryd.prog W .any base 45 v) (h : DataW.Trod enc Tryd.prog W 0 (fun _ => true) true 45 v d p) :
    ∃ (a : Option Addr) (es : List StringV) (cap : Nat), v = .slice a es.length cap ∧ RecArg rowString W a es ∧ ∀ e ∈ es, e.f0.size ≤ maxLen := by
  obtain ⟨a0, len0, cap0, rfl⟩ := okWide_slice Tryd.underlying45 hv
  obtain ⟨fuel, hf⟩ := h
  obtain ⟨es, rfl, hm, hs, hx⟩ := readStringS (by simpa [Value.cells] using hf)
  exact ⟨a0, es, cap0, rfl, ⟨hm, hs⟩, hx⟩
def wtString (es : List StringV) : Nat := es.length + (es.map fun e => e.f0.size).sum
theorem wtString_len (es : List StringV) : es.length ≤ wtString es := Nat.le_add_right _ _
theorem wtString_at {es : List StringV} {m : Nat} (h : wtString es ≤ m) : ∀ e ∈ es, e.f0.size ≤ m := by
  intro e he
  unfold wtString at h
  have : e.f0.size ≤ (es.map fun e => e.f0.size).sum := le_sum_of_mem (List.mem_map.2 ⟨e, he, rfl⟩)
  omega
theorem run_make_strings (n : Nat) (hbytes : 16 * n ≤ 281474976710656) (w : World) :
    (Instr.makeSlice 45 (.int .i64 (n : Int)) (.int .i64 (n : Int))).run Tryd.prog w = .ok (.slice (some ⟨w.heap.size, 0, none⟩) n n) (w.alloc (.cells (List.replicate n zeroString).flatten.toArray 9)) := by
  obtain ⟨i, hi, hzz⟩ := Option.map_eq_some_iff.1 infoString
  simp only [Prod.mk.injEq] at hzz
  obtain ⟨hz1, hs, hb⟩ := hzz
  have hb2 : ((i.bytes : Int) * n) ≤ 281474976710656 := by rw [hb]; omega
  have hr := run_make (P := Tryd.prog) w 45 9 i _ Tryd.underlying45 hi hz1 .i64 .i64 n n (by omega) (by omega) hb2 (by omega)
  rw [hr]
  have e1 : (Value.string ByteArray.empty).cells = zeroString.toArray := rfl
  rw [e1, hs, Int.toNat_natCast]
  have e2 : n * 1 = n * zeroString.length := rfl
  rw [e2, made_flatten zeroString n (by simp [zeroString])]
end Go.Proofs.YtfedlehibkgjbaaDoor
end
