/- spec.l23Plus, spec.UpdateParity. -/
import Derived.Test.YtpgcmgbflcdjiaaGfUp
namespace Go.Proofs.Ytpgcmgbflcdjiaa
open Go.RowKit
open Gf
set_option linter.unusedVariables false
set_option maxRecDepth 20000
/-- Where a sum in place stands: the first k bytes are new. -/
def inL (u v : List UInt8) (k : Nat) : List UInt8 := (xL u v).take k ++ u.drop k
theorem inL_0 (a b : List UInt8) : inL a b 0 = a := by simp [inL]
theorem inL_all {a b : List UInt8} {n : Nat} (h1 : a.length = n) (h2 : b.length = n) : inL a b n = xL a b := by
  unfold inL
  have := xL_len h1 h2
  rw [List.take_of_length_le (by omega), List.drop_of_length_le (by omega)]; simp
theorem inL_len {a b : List UInt8} {n k : Nat} (h1 : a.length = n) (h2 : b.length = n) (hk : k ≤ n) : (inL a b k).length = n := by
  unfold inL
  have := xL_len h1 h2
  simp; omega
theorem inL_at {a b : List UInt8} {n k : Nat} {x : UInt8} (h1 : a.length = n) (h2 : b.length = n) (hx : a[k]? = some x) : (inL a b k)[k]? = some x := by
  have hk := (List.getElem?_eq_some_iff.1 hx).1
  have := xL_len h1 h2
  unfold inL
  rw [List.getElem?_append_right (by simp; omega)]
  simp only [List.length_take, List.getElem?_drop]
  rw [show k + (k - min k (xL a b).length) = k by omega]
  exact hx
theorem inL_set {a b : List UInt8} {n k : Nat} {x y : UInt8} (h1 : a.length = n) (h2 : b.length = n) (hx : a[k]? = some x) (hy : b[k]? = some y) : (inL a b k).set k (x ^^^ y) = inL a b (k + 1) := by
  have hk := (List.getElem?_eq_some_iff.1 hx).1
  have hl := xL_len h1 h2
  unfold inL
  have e1 : ((xL a b).take k).length = k := by simp; omega
  rw [List.set_append_right _ _ (by omega), e1, Nat.sub_self, List.take_add_one, xL_at hx hy]
  have e2 : a.drop k = x :: a.drop (k + 1) := by
    have := (List.getElem?_eq_some_iff.1 hx)
    rw [List.drop_eq_getElem_cons hk, this.2]
  rw [e2]
  simp
set_option maxHeartbeats 2000000 in
theorem l23Plus_any (g c : Nat) (l : List UInt8) (n q : Nat) (s : ByteArray) (w : World) (hl : l.length = n) (hs : s.size = n) (t : TBk w g l) (hq : q < 256) (h1 : 1 ≤ n) (h64 : n ≤ 64) :
    Calls Try.prog 38 #[.slice (some ⟨g, 0, none⟩) n c, .int .i64 (q : Int), .string s] w fun e w' => e = .returned (.tuple #[]) ∧ TBk w' g (xL l (mL q s.data.toList)) ∧ OnlyB g w w' := by
  have hg := t.lt (by omega)
  have HB := Lib.hid (mL_len q (str_len s n hs))
  have HA := Lib.hid hl
  have HS := Lib.hid hs
  have T := Lib.hid t
  clear t hl hs
  go_enter Try.func38, Try.ntmps38
  go_wp2
  go_loopw [6] (fun i wr => ∃ k : Nat, k ≤ n ∧ i = .int .i64 k ∧ TBk wr g (inL l (mL q s.data.toList) k) ∧ OnlyB g w wr) (fun i _ => n - (intOf i).toNat)
  case atStart =>
    exact ⟨0, Nat.zero_le _, rfl, by rw [inL_0]; exact T.out, rfl, fun _ _ => rfl, Below.refl _ _⟩
  case round =>
    obtain ⟨k, hk, rfl, ht, ho⟩ := hrel
    by_cases hlt : k < n
    · have hks : k < s.size := by have := HS.out; omega
      have e1 : (k : Int) < s.size := by omega
      have y0 := str_at s k hks
      have hy8 := (s[k]).toNat_lt
      obtain ⟨x, x0⟩ : ∃ x, l[k]? = some x := ⟨l[k]'(by have := HA.out; omega), by simp⟩
      have hx8 := x.toNat_lt
      have hln := inL_len HA.out HB.out hk
      have hcf := ht k (by omega)
      have hfz := hcf.2
      have hcc : wr.cell? ⟨g, k, none⟩ = some (.int .u8 (x.toNat : Int)) := by
        have h2 := (List.getElem?_eq_some_iff.1 (inL_at HA.out HB.out x0)).2
        have := hcf.1
        rw [h2] at this; exact this
      have hG := gmul_lt (b := q) hy8
      have hw8 : IntKind.u8.wrap ((gmul s[k].toNat q : Nat) : Int) = ((gmul s[k].toNat q : Nat) : Int) := by
        rw [IntKind.wrap_u8]; omega
      have hxx : bits .xor .u8 (x.toNat : Int) ((gmul s[k].toNat q : Nat) : Int) = ((x.toNat ^^^ gmul s[k].toNat q : Nat) : Int) := u8_xor_nat _ _ (by omega) (by omega)
      have hw64 : IntKind.i64.wrap ((s[k].toNat : Nat) : Int) = ((s[k].toNat : Nat) : Int) := IntWalk.i64_in _ (by omega)
      have HT := Lib.hid ht
      have HU := Lib.hid (inL_set HA.out HB.out x0 (mL_at (k := q) y0))
      have HV := Lib.hid (show ((x.toNat ^^^ gmul s[k].toNat q : Nat) : Int) = ((x ^^^ gU q s[k]).toNat : Int) by rw [UInt8.toNat_xor, gU_nat])
      have HL := Lib.hid (show k < (inL l (mL q s.data.toList) k).length by omega)
      have HM := Lib.hid (fun w => l23Mul_any s[k].toNat q hy8 hq w)
      clear ht hcf hln x0 y0
      go_wp2
      go_region_law (first
        | (go_simp; go_at_call 34; (with_reducible refine (HM.out _).mono ?_); rintro e wq ⟨rfl, rfl⟩; go_wp2_with fail)
        | fail)
      all_goals
        go_wp2
        go_roundw
        case rel =>
          refine ⟨k + 1, by omega, by go_num, ?_, ?_⟩
          · rw [← HU.out]
            exact TBk.set (w := wr) HT.out k _ _ HV.out HL.out
          · exact ⟨by rw [← ho.1]; simp [World.setCell], fun p hp => (heap_setCell_ne _ _ _ _ _ hp).trans (ho.2.1 p hp), (ho.2.2.setCell (p := ⟨g, k, none⟩) (Nat.le_refl _) _).drew⟩
        case measure => simp [intOf]; omega
    · obtain rfl : k = n := by omega
      rw [inL_all HA.out HB.out] at ht
      have HT := Lib.hid ht; clear ht
      go_wp2
      go_end0
      exact ⟨rfl, HT.out, ho⟩
end Go.Proofs.Ytpgcmgbflcdjiaa
