/- impl.FmMark, spec.FmMark, impl.FmMarkOf, spec.FmMarkOf -/
import Derived.Test.YtffefhgemmjkoaaDoorCellWords
import Derived.Test.YtffefhgemmjkoaaDoorSpecEncode
import Derived.Test.YtffefhgemmjkoaaDoorDecodeLaw
import Derived.Test.YtffefhgemmjkoaaDoorRowB
import Derived.Test.YtffefhgemmjkoaaDoorSecData
namespace Go.Proofs.YtffefhgemmjkoaaDoor
open Go.RowKit
set_option maxRecDepth 20000
set_option linter.unusedVariables false
def markN (c : Nat) : Int := bits .or .u16 41002 (dataN c)
def markS (c : Nat) : ByteArray := ⟨(cellsT (markN c)).toArray⟩
def fmMarkV (b : Int) : ByteArray := if 0 ≤ b ∧ b ≤ 255 then markS b.toNat else ⟨#[]⟩
theorem markN_bd : ∀ c, c < 256 → 0 ≤ markN c ∧ markN c ≤ 65535 := by decide +kernel
theorem mark_cells : ∀ c, c < 256 → (((encBits false false (bitsL c)).set 4 48).set 6 48).set 8 48 = cellsT (markN c) := by decide +kernel
theorem enc_one (c : UInt8) : encV ⟨#[c]⟩ false false = ⟨(encBits false false (bitsL c.toNat)).toArray⟩ := by
  have h := (encS_byte ⟨#[c]⟩ false false 0 (by show 0 < 1; omega)).1
  unfold encV
  rw [if_pos (by show 1 ≤ 500; omega)]
  show (⟨(encS ⟨#[c]⟩ false false (8 * (0 + 1))).toArray⟩ : ByteArray) = _
  rw [h]
  rfl
theorem fmMark_in {b : Int} (h : inB 0 255 b = true) : fmMarkV b = markS b.toNat := by rw [inB_iff] at h; unfold fmMarkV; rw [if_pos h]
theorem fmMark_out {b : Int} (h : inB 0 255 b = false) : fmMarkV b = ⟨#[]⟩ := by
  unfold fmMarkV; rw [if_neg]; intro h2; rw [← inB_iff, h] at h2; cases h2
theorem areBytes_1 (x : Int) (w : World) (T : TypeId) (b : Nat) (hb : w.heap.size = b) :
    Calls Tryd.prog 75 #[.slice (some ⟨b, 0, none⟩) 1 1] (w.alloc (.cells #[.int .i64 x] T)) fun e w' => e = .returned (.bool (inB 0 255 x)) ∧ w.alloc (.cells #[.int .i64 x] T) = w' := by
  subst hb
  refine (areBytes_list [x] w.heap.size 0 1 _ (by simp [maxLen]) (by
    intro i v hv
    match i, hv with
    | 0, hv => simp at hv; subst hv; simp [go_sem]
    | i + 1, hv => simp at hv)).mono ?_
  rintro e w' ⟨rfl, rfl⟩
  exact ⟨ret_bool (by simp), rfl⟩
set_option maxHeartbeats 1000000 in
theorem fmMark_any (b : Int) (w : World) :
    Calls Tryd.prog 34 #[.int .i64 b] w fun e w' => e = .returned (.string (fmMarkV b)) ∧ Below w.heap.size w w' := by
  by_cases hin : inB 0 255 b = true
  · have hE := fmMark_in hin
    have hb := inB_iff.1 hin
    obtain ⟨c, hc⟩ : ∃ c : Nat, b.toNat = c := ⟨_, rfl⟩
    rw [hE, hc]
    have h256 : c < 256 := by omega
    obtain rfl : b = (c : Int) := by omega
    have hm := markN_bd c h256
    have h1 : ∀ w, Calls Tryd.prog 77 #[.int .u8 199] w fun e w' => e = .returned (.int .u16 20501) ∧ w = w' := fun w => dataCells_any 199 (by omega) w
    have H1 := Lib.hid h1; clear h1 hE hc hb
    have ht := fun w => cellText_any (markN c) hm.1 hm.2 w
    unfold markN at ht
    have HT := Lib.hid ht; clear ht hm
    go_enter Tryd.func34, Tryd.ntmps34
    go_wp2_with (first
      | (go_at_call 75; refine (areBytes_1 _ _ _ _ (by simp)).mono ?_; rintro e w' ⟨rfl, rfl⟩)
      | (go_at_call 77; first | ((with_reducible refine (H1.out _).mono ?_); rintro e w2 ⟨rfl, rfl⟩) | ((with_reducible refine (dataCells_any c h256 _).mono ?_); rintro e w2 ⟨rfl, rfl⟩))
      | (go_at_call 76; refine (HT.out _).mono ?_; rintro e w3 ⟨rfl, hb3⟩))
    go_ret
    exact ⟨rfl, Below.trans (show Below w.heap.size w _ from (Below.refl _ _).alloc (Nat.le_refl _) _) (hb3.mono (by simp))⟩
  · have hin0 : inB 0 255 b = false := by simpa using hin
    rw [fmMark_out hin0]
    clear hin
    go_enter Tryd.func34, Tryd.ntmps34
    go_wp2_with (go_at_call 75; refine (areBytes_1 _ _ _ _ (by simp)).mono ?_; rintro e w' ⟨rfl, rfl⟩)
    go_ret
    exact ⟨rfl, (Below.refl _ _).alloc (Nat.le_refl _) _⟩
def markL (l : List UInt8) : Nat → List UInt8
  | 0 => l
  | t + 1 => (markL l t).set (4 + 2 * t) 48
theorem markL_len (l : List UInt8) (t : Nat) : (markL l t).length = l.length := by
  induction t with
  | zero => rfl
  | succ t ih => unfold markL; rw [List.length_set, ih]
theorem encBits_len (mfm last : Bool) (l : List Bool) : (encBits mfm last l).length = 2 * l.length := by
  induction l generalizing last with
  | nil => rfl
  | cons b r ih => simp only [encBits, List.length_cons, ih]; omega
set_option maxHeartbeats 2000000 in
theorem specFmMark_any (b : Int) (w : World) :
    Calls Tryd.prog 70 #[.int .i64 b] w fun e w' => e = .returned (.string (fmMarkV b)) ∧ Below w.heap.size w w' := by
  by_cases hin : inB 0 255 b = true
  · have hE := fmMark_in hin
    have hb := inB_iff.1 hin
    obtain ⟨c, hc⟩ : ∃ c : Nat, b.toNat = c := ⟨_, rfl⟩
    rw [hE, hc]
    have h256 : c < 256 := by omega
    obtain rfl : b = (c : Int) := by omega
    have hcv1 := conv_new1 w (c : Int) (by omega) (by omega)
    have hcv2 := fun w s => run_bytes_of_string (P := Tryd.prog) w 9 34 5 s Tryd.underlying9 Tryd.underlying34 Tryd.underlying5
    have e8 : ((c : Int)).toNat.toUInt8.toNat = c := by simp; omega
    have he := fun w => specEncodeFm_any ⟨#[((c : Int)).toNat.toUInt8]⟩ (by show 1 ≤ 1048576; omega) w
    rw [enc_one, e8] at he
    obtain ⟨l, hl⟩ : ∃ l, encBits false false (bitsL c) = l := ⟨_, rfl⟩
    have hlen : l.length = 16 := by rw [← hl, encBits_len]; rfl
    rw [hl] at he
    have HE := Lib.hid he
    have HC := Lib.hid (And.intro hE (And.intro hc (And.intro hl e8))); clear hE hc hl hb he e8
    have hsz : (⟨l.toArray⟩ : ByteArray).size = 16 := by show l.toArray.size = 16; rw [List.size_toArray]; exact hlen
    have HLEN := Lib.hid hlen; clear hlen
    go_enter Tryd.func70, Tryd.ntmps70
    go_wp2_with (first
      | (go_at_call 31; refine (l00In_any _ _ _ _).mono ?_; rintro e w1 ⟨rfl, rfl⟩)
      | (go_at_call 115; refine (HE.out _).mono ?_; rintro e w3 ⟨rfl, hb3⟩))
    clear hcv2 hcv1
    have hcap1 := Lib.hid (show 16 ≤ grownCap w3 16 0 5 ∧ RowB (bytesRow ⟨l.toArray⟩ (grownCap w3 16 0 5)) l (grownCap w3 16 0 5) by
      have h1 : 16 ≤ grownCap w3 16 0 5 := grownCap_ge _ _ _ _
      exact ⟨h1, RowB.ofBytes ⟨l.toArray⟩ _ (by rw [hsz]; exact h1)⟩)
    obtain ⟨cap, hcap⟩ : ∃ cap, grownCap w3 16 0 5 = cap := ⟨_, rfl⟩
    rw [hcap] at hcap1 ⊢
    clear hcap hsz
    have hrs : (bytesRow ⟨l.toArray⟩ cap).size = cap := hcap1.out.2.1
    rw [hrs]
    have hsz3 := hb3.size
    simp only [World.size_alloc] at hsz3
    have hbw : Below w.heap.size w w3 := Below.trans (show Below w.heap.size w _ from (Below.refl _ _).alloc (Nat.le_refl _) _) (hb3.mono (by simp))
    clear hrs hb3
    go_loopw [4] (fun i wr => ∃ t : Nat, t ≤ 3 ∧ i = .int .i64 ((4 + 2 * t : Nat) : Int) ∧ (∃ C, wr.heap[w3.heap.size]? = some (.cells C 5 (cap, cap + 1)) ∧ RowB C (markL l t) cap) ∧ Below w.heap.size w wr) (fun i _ => 20 - (intOf i).toNat)
    case atStart =>
      refine ⟨0, Nat.zero_le _, rfl, ⟨_, ?_, hcap1.out.2⟩, (hbw.alloc (by omega) _).drew⟩
      show (w3.heap.push _)[w3.heap.size]? = _
      simp
    case round =>
      obtain ⟨t, ht, rfl, ⟨C, hC, hR⟩, hb⟩ := hrel
      have hml := markL_len l t
      obtain ⟨k, hk⟩ : ∃ k, 4 + 2 * t = k := ⟨_, rfl⟩
      rw [hk]
      have hlen := HLEN.out
      by_cases ht3 : t < 3
      · have hk10 : k < 10 := by omega
        have hkl : k < (markL l t).length := by omega
        have hcell := hR.cell hC k hkl
        have hfz : wr.frozen? ⟨w3.heap.size, k, none⟩ = false := by
          have := hR.1; have := hR.2.1
          simp [World.frozen?, hC]; omega
        have HCC := Lib.hid hC; clear hC
        have HR := Lib.hid hR; clear hR
        have HK := Lib.hid hk; clear hk hml hlen
        go_wp2
        go_roundw
        case rel =>
          have hk2 := HK.out
          refine ⟨t + 1, by omega, by rw [show ((4 + 2 * (t + 1) : Nat) : Int) = (k : Int) + 2 by omega], ⟨_, heap_set_marked wr w3.heap.size k C _ _ _ HCC.out, ?_⟩, hb.setCell (p := ⟨w3.heap.size, k, none⟩) (show w.heap.size ≤ w3.heap.size by omega) _⟩
          have := HR.out.set k 48 hkl
          rw [← hk2] at this ⊢
          exact this
        case measure => simp [intOf]; omega
      · obtain rfl : t = 3 := by omega
        obtain rfl : k = 10 := by omega
        have hcv := hR.conv hC 16 cap (by rw [hml]; exact hlen)
        have HCC := Lib.hid hC; clear hC
        have HR := Lib.hid hR; clear hR hml hlen
        go_wp2
        go_ret
        refine ⟨?_, hb⟩
        have e := mark_cells c h256
        rw [HC.out.2.2.1] at e
        unfold markS
        rw [← e]
        rfl
  · have hin0 : inB 0 255 b = false := by simpa using hin
    rw [fmMark_out hin0]
    clear hin
    go_enter Tryd.func70, Tryd.ntmps70
    go_wp2_with (go_at_call 31; refine (l00In_any _ _ _ _).mono ?_; rintro e w1 ⟨rfl, rfl⟩)
    go_ret
    exact ⟨rfl, Below.refl _ _⟩
end Go.Proofs.YtffefhgemmjkoaaDoor
