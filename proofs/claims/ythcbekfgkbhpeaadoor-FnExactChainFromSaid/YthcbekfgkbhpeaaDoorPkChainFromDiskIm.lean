/- Disks: slices.Index, slices.Contains (int64), impl.isBlockSize, impl.isDisk, impl.padded, impl.blocksFor -/
import Derived.Test.YthcbekfgkbhpeaaDoorPkChainFromC
import Derived.Test.YthcbekfgkbhpeaaDoorPkChainFromHasI
import Derived.Test.YthcbekfgkbhpeaaDoorShelf
namespace Go.Proofs.YthcbekfgkbhpeaaDoor
open Go.RowKit
set_option maxRecDepth 20000
set_option linter.unusedVariables false
set_option linter.unusedSimpArgs false
set_option maxRecDepth 20000
set_option maxHeartbeats 400000 in
theorem indexI_any (a : Option Addr) (zs : List Int) (d : Nat) (t : Int) (w : World) (hl : zs.length ≤ 1048576) (h : SlA w a zs) :
    Calls Tryd.prog 84 #[.slice a zs.length d, .int .i64 t] w fun e w' => (∃ r : Int, e = .returned (.int .i64 r) ∧ decide (0 ≤ r) = hasB zs t) ∧ w = w' := by
  have H := Lib.hid h; clear h
  go_enter Tryd.func84, Tryd.ntmps84
  go_wp2
  go_loop [8] (fun i => ∃ k : Nat, k ≤ zs.length ∧ i = .int .i64 k ∧ Hid ((zs.take k).contains t = false)) (fun i => zs.length - (intOf i).toNat)
  case atStart => exact ⟨0, Nat.zero_le _, rfl, Lib.hid (by simp)⟩
  case round =>
    obtain ⟨k, hk, rfl, hn⟩ := hrel
    by_cases hlt : k < zs.length
    · obtain ⟨x, hx⟩ := getOf hlt
      obtain ⟨b, off, rfl, hcx⟩ := H.out.cell hx
      have HX := Lib.hid hx; clear hx
      by_cases hxt : x = t
      · subst hxt
        have HE := Lib.hid (hasB_yes HX.out)
        go_wp2
        go_ret
        exact ⟨⟨(k : Int), rfl, by rw [HE.out]; simp⟩, rfl⟩
      · have he : (x == t) = false := by simpa using hxt
        have he2 : (t == x) = false := by simpa using fun h => hxt h.symm
        clear hxt
        go_wp2
        go_round
        case rel => exact ⟨k + 1, by omega, by go_num, Lib.hid (by rw [List.take_add_one, HX.out]; have := hn.out; simp at this he ⊢; exact ⟨this, fun h => he h.symm⟩)⟩
        case measure => simp [intOf]; omega
    · obtain rfl : k = zs.length := by omega
      clear H
      go_wp2
      go_ret
      exact ⟨⟨-1, rfl, by rw [hasB_no hn.out]; rfl⟩, rfl⟩
set_option maxHeartbeats 400000 in
theorem containsI_any (a : Option Addr) (zs : List Int) (d : Nat) (t : Int) (w : World) (hl : zs.length ≤ 1048576) (h : SlA w a zs) :
    Calls Tryd.prog 66 #[.slice a zs.length d, .int .i64 t] w fun e w' => e = .returned (.bool (hasB zs t)) ∧ w = w' := by
  have IX := Lib.hid (indexI_any a zs d t w hl h); clear h
  go_enter Tryd.func66, Tryd.ntmps66
  go_wp2_with fail
  refine IX.out.mono ?_
  rintro e w1 ⟨⟨r, rfl, hr⟩, rfl⟩
  have HR := Lib.hid hr; clear hr
  go_wp2
  go_ret
  exact ⟨ret_bool HR.out, rfl⟩
set_option maxHeartbeats 1000000 in
theorem isBlockSize_any (n : Int) (w : World) :
    Calls Tryd.prog 38 #[.int .i64 n] w fun e w' => e = .returned (.bool (sizeI n)) ∧ Below w.heap.size w w' := by
  have CT := Lib.hid (fun (W : World) (h : W = w.alloc (.cells #[.int .i64 8, .int .i64 16, .int .i64 32] 2)) => containsI_any (some ⟨w.heap.size, 0, none⟩) [8, 16, 32] 3 n W (by decide) (.inr ⟨_, 0, rfl, by subst h; simp, by
    intro i x hx
    subst h
    match i, hx with
    | 0, hx => simp at hx; subst hx; simp [go_sem]
    | 1, hx => simp at hx; subst hx; simp [go_sem]
    | 2, hx => simp at hx; subst hx; simp [go_sem]⟩))
  have HS := Lib.hid (show hasB [8, 16, 32] n = sizeI n by unfold hasB sizeI; simp)
  go_enter Tryd.func38, Tryd.ntmps38
  go_wp2_with fail
  refine (CT.out _ rfl).mono ?_
  rintro e w1 ⟨rfl, rfl⟩
  go_wp2
  go_ret
  exact ⟨ret_bool HS.out, (Below.refl _ _).alloc (Nat.le_refl _) _⟩
set_option maxHeartbeats 2000000 in
theorem isDisk_any (a : Option Addr) (es : List StringV) (c : Nat) (w : World) (hm : es.length ≤ 1048576) (hs : ∀ e ∈ es, e.f0.size ≤ maxLen) (h : SlS rowString w a es) :
    Calls Tryd.prog 31 #[.slice a es.length c, .int .i64 8] w fun x w' => x = .returned (.bool (diskB es)) ∧ Below w.heap.size w w' := by
  have EO := Lib.hid (fun w' (hb : Below w.heap.size w w') => isOneLength_any a es c w' hm hs (h.below hb (Nat.le_refl _)))
  have WI := Lib.hid (fun w T b hb => within_r 8 128 (es.length : Int) w T b hb)
  have BS := Lib.hid (fun n w => isBlockSize_any n w)
  by_cases h1 : inB 8 128 (es.length : Int) = true
  case neg =>
    have h1 : inB 8 128 (es.length : Int) = false := by simpa using h1
    rw [h1] at WI
    have HR := Lib.hid (show diskB es = false by unfold diskB; rw [h1]; rfl)
    clear h1 h hs
    go_enter Tryd.func31, Tryd.ntmps31
    go_wp2_with fail
    refine (WI.out _ _ _ (by simp)).mono ?_
    rintro e w1 ⟨rfl, hb1⟩
    go_wp2
    go_ret
    exact ⟨ret_bool HR.out.symm, hb1⟩
  rw [h1] at WI
  have hn := inB_iff.1 h1
  by_cases h2 : allLen (len0 es) es = true
  case neg =>
    have h2 : allLen (len0 es) es = false := by simpa using h2
    rw [h2] at EO
    have HR := Lib.hid (show diskB es = false by unfold diskB; rw [h2]; simp)
    clear h1 h2 h hs hn
    go_enter Tryd.func31, Tryd.ntmps31
    go_wp2_with fail
    refine (WI.out _ _ _ (by simp)).mono ?_
    rintro e w1 ⟨rfl, hb1⟩
    go_wp2_with fail
    refine (EO.out _ hb1).mono ?_
    rintro e w2 ⟨rfl, hb2⟩
    go_wp2
    go_ret
    exact ⟨ret_bool HR.out.symm, hb1.trans (hb2.mono hb1.size)⟩
  rw [h2] at EO
  obtain ⟨e0, hx0⟩ : ∃ e, es[0]? = some e := ⟨es[0], by simp⟩
  have hl0 : len0 es = e0.f0.size := by unfold len0; rw [hx0]; rfl
  have HR := Lib.hid (show sizeI (e0.f0.size : Int) = diskB es by unfold diskB; rw [h1, h2, hl0, sizeI_nat]; rfl)
  obtain ⟨b, off, rfl, hbl, hc⟩ := h.at rowString_len hx0
  have C0 := Lib.hid (fun w' (hb : Below w.heap.size w w') => show w'.cell? ⟨b, off, none⟩ = some (.string e0.f0) by rw [hb.cell (p := ⟨b, off, none⟩) hbl]; simpa using hc 0 _ rfl)
  have hs0 := hs e0 (List.mem_of_getElem? hx0)
  unfold maxLen at hs0
  have hpos : 0 < es.length := by omega
  clear h1 h2 h hs hn hl0 hx0 hc
  go_enter Tryd.func31, Tryd.ntmps31
  go_wp2_with fail
  refine (WI.out _ _ _ (by simp)).mono ?_
  rintro e w1 ⟨rfl, hb1⟩
  go_wp2_with fail
  refine (EO.out _ hb1).mono ?_
  rintro e w2 ⟨rfl, hb2⟩
  have hb := hb1.trans (hb2.mono hb1.size)
  have c0 := C0.out _ hb
  clear hb1 hb2
  go_wp2_with fail
  refine (BS.out _ _).mono ?_
  rintro e w3 ⟨rfl, hb3⟩
  clear c0
  go_wp2
  go_ret
  exact ⟨ret_bool HR.out, hb.trans (hb3.mono hb.size)⟩
theorem repeatL_one (c : UInt8) : ∀ n, Lib.repeatL [c] n = List.replicate n c
  | 0 => rfl
  | n + 1 => by rw [Lib.repeatL, repeatL_one c n, List.replicate_succ]; rfl
theorem repeatC_any (c : UInt8) (n : Nat) (hn : n ≤ 1000000) (w : World) : Calls Tryd.prog 69 #[.string ⟨#[c]⟩, .int .i64 (n : Int)] w fun e w' => e = .returned (.string ⟨(List.replicate n c).toArray⟩) ∧ Below w.heap.size w w' := by
  have h := Tryd.strings_Repeat ⟨#[c]⟩ n w (by omega) (by show 1 * n ≤ _; omega)
  rw [show (⟨#[c]⟩ : ByteArray).data.toList = [c] from rfl, repeatL_one] at h
  exact h
set_option maxHeartbeats 1000000 in
theorem padded_any (s : ByteArray) (n : Nat) (c : UInt8) (w : World) (h1 : s.size ≤ n) (h2 : n ≤ 1000000) :
    Calls Tryd.prog 42 #[.string s, .int .i64 (n : Int), .string ⟨#[c]⟩] w fun e w' => e = .returned (.string (padB s n c)) ∧ Below w.heap.size w w' := by
  have RP := Lib.hid (fun w => repeatC_any c (n - s.size) (by omega) w)
  have e1 : (n : Int) - (s.size : Int) = ((n - s.size : Nat) : Int) := by omega
  have e2 : (⟨(List.replicate (n - s.size) c).toArray⟩ : ByteArray).size = n - s.size := by show (List.replicate (n - s.size) c).toArray.size = _; simp
  have hlen : (9223372036854775807 < s.size + (⟨(List.replicate (n - s.size) c).toArray⟩ : ByteArray).size) = False := by rw [e2]; simp; omega
  unfold padB
  generalize n - s.size = k at *
  generalize (⟨(List.replicate k c).toArray⟩ : ByteArray) = z at *
  clear e2
  have hk : (k : Int) ≤ 1000000 := by omega
  go_enter Tryd.func42, Tryd.ntmps42
  go_wp2_with fail
  refine (RP.out _).mono ?_
  rintro e w1 ⟨rfl, hb1⟩
  go_wp2
  go_ret
  exact ⟨rfl, hb1⟩
end Go.Proofs.YthcbekfgkbhpeaaDoor
