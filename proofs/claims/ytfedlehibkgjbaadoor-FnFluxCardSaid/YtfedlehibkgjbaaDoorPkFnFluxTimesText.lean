/- impl.times.text: numbers in decimal with blanks between them. -/
import Derived.Test.YtfedlehibkgjbaaDoorPkFnFluxD
import Derived.Test.YtfedlehibkgjbaaDoorPkFnFluxBuilderStr
import Derived.Test.YtfedlehibkgjbaaDoorPkFnFluxDigitsOf
import Derived.Test.YtfedlehibkgjbaaDoorPkFnFluxA
namespace Go.Proofs.YtfedlehibkgjbaaDoor
open Go.RowKit
set_option linter.unusedVariables false
set_option linter.unusedSimpArgs false
set_option maxRecDepth 20000
/-- The first k numbers in decimal, with blanks between them. -/
def joinK (xs : List Int) : Nat → List UInt8
  | 0 => []
  | k + 1 => (if k = 0 then [] else joinK xs k ++ [32]) ++ (decT (xs[k]?.getD 0)).data.toList
theorem joinK_one {xs : List Int} {x : Int} (h : xs[0]? = some x) : joinK xs 1 = (decT x).data.toList := by simp [joinK, h]
theorem joinK_succ {xs : List Int} {x : Int} {k : Nat} (h : xs[k]? = some x) (hk : k ≠ 0) : joinK xs (k + 1) = (joinK xs k ++ [32]) ++ (decT x).data.toList := by
  show (if k = 0 then [] else joinK xs k ++ [32]) ++ (decT (xs[k]?.getD 0)).data.toList = _
  rw [if_neg hk, h]; rfl
theorem joinK_len {xs : List Int} (hx : ∀ x ∈ xs, 0 ≤ x ∧ x < 100000) (k : Nat) : (joinK xs k).length ≤ 6 * k := by
  induction k with
  | zero => simp [joinK]
  | succ k ih =>
    have hd : (decT (xs[k]?.getD 0)).size ≤ 5 := by
      cases h : xs[k]? with
      | none => exact decT_size (by simp) (by simp)
      | some x => have := hx x (List.mem_of_getElem? h); exact decT_size (by simpa using this.1) (by simpa using this.2)
    have e : (decT (xs[k]?.getD 0)).data.toList.length = (decT (xs[k]?.getD 0)).size := by simp
    show ((if k = 0 then [] else joinK xs k ++ [32]) ++ (decT (xs[k]?.getD 0)).data.toList).length ≤ _
    rw [List.length_append, e]
    split
    · simp; omega
    · rw [List.length_append]; simp; omega
theorem decT_size8 {n : Int} (h0 : 0 ≤ n) (h1 : n < 10000000) : (decT n).size ≤ 7 := by
  show (Lib.itoa n).toArray.size ≤ 7
  unfold Lib.itoa
  rw [if_neg (by omega)]
  have := decDigits_len 7 n.toNat (by omega) (by omega)
  simpa using this
theorem joinK_len8 {xs : List Int} (hx : ∀ x ∈ xs, 0 ≤ x ∧ x < 10000000) (k : Nat) : (joinK xs k).length ≤ 8 * k := by
  induction k with
  | zero => simp [joinK]
  | succ k ih =>
    have hd : (decT (xs[k]?.getD 0)).size ≤ 7 := by
      cases h : xs[k]? with
      | none => exact decT_size8 (by simp) (by simp)
      | some x => have := hx x (List.mem_of_getElem? h); exact decT_size8 (by simpa using this.1) (by simpa using this.2)
    have e : (decT (xs[k]?.getD 0)).data.toList.length = (decT (xs[k]?.getD 0)).size := by simp
    show ((if k = 0 then [] else joinK xs k ++ [32]) ++ (decT (xs[k]?.getD 0)).data.toList).length ≤ _
    rw [List.length_append, e]
    split
    · simp; omega
    · rw [List.length_append]; simp; omega
set_option maxHeartbeats 1000000 in
theorem fmtInt_any (n : Int) (h0 : -9223372036854775808 ≤ n) (h1 : n ≤ 9223372036854775807) (w : World) (ht : PowTab w) :
    Calls Tryd.prog 48 #[.int .i64 n, .int .i64 10] w fun e w' => e = .returned (.string (decT n)) ∧ Below w.heap.size w w' :=
  (Tryd.strconv_FormatInt_10 n h0 h1 w ht.is).mono fun e w1 ⟨he, k, os, hw⟩ => ⟨he, by rw [hw]; exact below_growD w k os⟩
set_option maxHeartbeats 8000000 in
theorem timesText8_any (xs : List Int) (a : Option Addr) (c : Nat) (hm : xs.length ≤ 1048576) (hx : ∀ x ∈ xs, 0 ≤ x ∧ x < 10000000) (w : World) (h : SlA w a xs) (ht : PowTab w) :
    Calls Tryd.prog 39 #[.slice a xs.length c] w fun e w' => e = .returned (.string ⟨(joinK xs xs.length).toArray⟩) ∧ Below w.heap.size w w' := by
  have HLN := Lib.hid (fun k => joinK_len8 hx k)
  have HPT := Lib.hid ht; clear ht
  have HXS := Lib.hid hx; clear hx
  go_enter Tryd.func39, Tryd.ntmps39
  go_wp2
  go_loopw [8] (fun i wr => ∃ k : Nat, k ≤ xs.length ∧ i = .int .i64 k ∧ (∃ l : List UInt8, Hid (l = joinK xs k) ∧ Bld w.heap.size w.heap.size l wr) ∧ Below w.heap.size w wr) (fun i _ => xs.length - (intOf i).toNat)
  case atStart => exact ⟨0, Nat.zero_le _, rfl, ⟨[], by unfold Hid; rfl, Bld.fresh w⟩, (Below.refl _ _).alloc (Nat.le_refl _) _⟩
  case round =>
    obtain ⟨k, hk, rfl, ⟨l, hL, hB⟩, hbr⟩ := hrel
    have hsz := hbr.size
    have hll : l.length ≤ 8 * k := by rw [hL.out]; exact HLN.out k
    by_cases hlt : k < xs.length
    · obtain ⟨x, hxk⟩ := getOf hlt
      obtain ⟨b, off, rfl, c0⟩ := (h.below hbr (Nat.le_refl _)).cell hxk
      obtain ⟨hx0, hx1⟩ := HXS.out x (List.mem_of_getElem? hxk)
      have FI := Lib.hid (fun W (hW : Below w.heap.size w W) => fmtInt_any x (by omega) (by omega) W (TabAt.below HPT.out hW (TabAt.lt HPT.out)))
      have hds : (decT x).size ≤ 7 := decT_size8 hx0 hx1
      have HX := Lib.hid (And.intro hxk h); clear hxk h
      by_cases hk0 : k = 0
      · subst hk0
        have hl0 : l = [] := hL.out
        subst hl0
        have c00 : wr.cell? ⟨b, off, none⟩ = some (.int .i64 x) := c0
        have HD := Lib.hid (joinK_one HX.out.1)
        have WS := Lib.hid (fun W (hW : Below wr.heap.size wr W) => writeString_any w.heap.size w.heap.size [] (decT x) W (hB.same (fun j hj hjl => hW.block j hjl)) (by simp; omega) (Nat.le_trans hsz hW.size))
        have HBr := Lib.hid hbr; clear hbr
        go_wp2_with fail
        refine (FI.out _ HBr.out).mono ?_
        rintro e_ w2 ⟨rfl, hb2⟩
        go_wp2_with fail
        refine (WS.out _ hb2).mono ?_
        rintro e_ w3 ⟨rfl, hB3, hb3⟩
        have F3 := Lib.hid (HBr.out.trans ((hb2.mono hsz).trans hb3))
        have HB3 := Lib.hid hB3
        clear hb2 hb3 hB3 c0
        go_wp2
        go_roundw
        case rel => exact ⟨1, by omega, by go_num, ⟨_, by unfold Hid; rw [HD.out]; rfl, HB3.out⟩, F3.out⟩
        case measure => simp [intOf]; omega
      · have hkp : (0 : Int) < (k : Int) := by omega
        have HD := Lib.hid (joinK_succ HX.out.1 hk0)
        have WB := Lib.hid (fun W (hW : Below wr.heap.size wr W) => writeByte_any w.heap.size w.heap.size l 32 W (by omega) (by omega) (hB.same (fun j hj hjl => hW.block j hjl)) (by omega) (Nat.le_trans hsz hW.size))
        have HBr := Lib.hid hbr; clear hbr
        go_wp2_with fail
        refine (WB.out _ (Below.refl _ _)).mono ?_
        rintro e_ w1 ⟨rfl, hB1, hb1⟩
        have hz1 := hb1.size
        have F1 := Lib.hid (HBr.out.trans hb1)
        have HB1 := Lib.hid hB1; clear hB1 hb1
        go_wp2_with fail
        refine (FI.out _ F1.out).mono ?_
        rintro e_ w2 ⟨rfl, hb2⟩
        have hz2 := hb2.size
        have F2 := Lib.hid (F1.out.trans (hb2.mono (Nat.le_trans hsz hz1)))
        have WS := Lib.hid (writeString_any w.heap.size w.heap.size (l ++ [(32 : Int).toNat.toUInt8]) (decT x) w2 (HB1.out.same (fun j hj hjl => hb2.block j hjl)) (by simp; omega) (by omega))
        clear hb2
        go_wp2_with fail
        refine WS.out.mono ?_
        rintro e_ w3 ⟨rfl, hB3, hb3⟩
        have F3 := Lib.hid (F2.out.trans hb3)
        have HB3 := Lib.hid hB3
        clear hb3 hB3 c0
        go_wp2
        go_roundw
        case rel => exact ⟨k + 1, by omega, by go_num, ⟨_, by unfold Hid; rw [HD.out, ← hL.out]; rfl, HB3.out⟩, F3.out⟩
        case measure => simp [intOf]; omega
    · obtain rfl : k = xs.length := by omega
      have HE := Lib.hid hL.out
      have HBr := Lib.hid hbr; clear hbr
      go_wp2_with fail
      refine (Tryd.Builder_String_any w.heap.size w.heap.size l _ hB hsz).mono ?_
      rintro e w2 ⟨rfl, hb2⟩
      go_wp2
      go_ret
      exact ⟨by rw [← HE.out]; rfl, HBr.out.trans hb2⟩
theorem timesText_any (xs : List Int) (a : Option Addr) (c : Nat) (hm : xs.length ≤ 1048576) (hx : ∀ x ∈ xs, 0 ≤ x ∧ x < 100000) (w : World) (h : SlA w a xs) (ht : PowTab w) :
    Calls Tryd.prog 39 #[.slice a xs.length c] w fun e w' => e = .returned (.string ⟨(joinK xs xs.length).toArray⟩) ∧ Below w.heap.size w w' := timesText8_any xs a c hm (fun x h => ⟨(hx x h).1, by have := (hx x h).2; omega⟩) w h ht
end Go.Proofs.YtfedlehibkgjbaaDoor
