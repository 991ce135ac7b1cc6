/- impl.MajorityCells, impl.WeakCells, impl.VoteBytes -/
import Derived.Test.YtlaejcbcfcomaaaMostBytes
namespace Go.Proofs.Ytlaejcbcfcomaaa
open Go.RowKit
set_option linter.unusedVariables false
set_option linter.unusedSimpArgs false
set_option maxRecDepth 20000
theorem len0_of {xs : List StringV} {n : Nat} (h : OneLen xs n) : n = len0 xs := by
  obtain ⟨e, he, hz⟩ := h.first
  unfold len0; rw [he]; exact hz.symm
set_option maxHeartbeats 2000000 in
theorem majorityCells_g (a : Option Addr) (c : Nat) (xs : List StringV) (hm : xs.length ≤ 1048576) (hs : ∀ e ∈ xs, e.f0.size ≤ 1048576) (w : World) (h : SlS rowString w a xs) :
    Calls Try.prog 17 #[.slice a xs.length c] w fun x w' => x = .returned (.tuple #[.string (majV xs), .int .i64 (revC xs)]) ∧ Below w.heap.size w w' := by
  have HC := Lib.hid (validRev_any a xs c w hm (fun e he => by have := hs e he; unfold maxLen; omega) h)
  unfold majV revC
  by_cases hr : revOk xs = true
  case neg =>
    have hr0 : revOk xs = false := by simpa using hr
    rw [if_neg hr, if_neg hr]
    rw [hr0] at HC
    clear hr hr0 h hs
    go_enter Try.func17, Try.ntmps17
    go_wp2_with (go_at_call 61; refine HC.out.mono ?_; rintro e w1 ⟨rfl, hb1⟩)
    go_ret2
    exact ⟨rfl, hb1⟩
  rw [if_pos hr, if_pos hr]
  have MB := Lib.hid (fun w' (hb : Below w.heap.size w w') => mostBytes_any a xs c (len0 xs) w' hm (revOk_one hr).1 (h.below hb (Nat.le_refl _)))
  rw [hr] at HC
  clear hr h hs
  go_enter Try.func17, Try.ntmps17
  go_wp2_with (first | (go_at_call 61; refine HC.out.mono ?_; rintro e w1 ⟨rfl, hb1⟩) | (go_at_call 62; refine (MB.out _ hb1).mono ?_; rintro e w2 ⟨rfl, hb2⟩))
  go_ret2
  exact ⟨rfl, hb1.trans (hb2.mono hb1.size)⟩
set_option maxHeartbeats 2000000 in
theorem weakCells_g (a : Option Addr) (c : Nat) (xs : List StringV) (hm : xs.length ≤ 1048576) (hs : ∀ e ∈ xs, e.f0.size ≤ 1048576) (w : World) (h : SlS rowString w a xs) :
    Calls Try.prog 20 #[.slice a xs.length c] w (SlRes2 (weakV xs) (revC xs) w) := by
  have HC := Lib.hid (validRev_any a xs c w hm (fun e he => by have := hs e he; unfold maxLen; omega) h)
  unfold weakV revC
  by_cases hr : revOk xs = true
  case neg =>
    have hr0 : revOk xs = false := by simpa using hr
    rw [if_neg hr, if_neg hr]
    rw [hr0] at HC
    clear hr hr0 h hs
    go_enter Try.func20, Try.ntmps20
    go_wp2_with (go_at_call 61; refine HC.out.mono ?_; rintro e w1 ⟨rfl, hb1⟩)
    go_ret2
    exact ⟨none, 0, rfl, .inl rfl, hb1⟩
  rw [if_pos hr, if_pos hr]
  have MB := Lib.hid (fun w' (hb : Below w.heap.size w w') => unlikePlaces_any a xs c (len0 xs) w' hm (revOk_one hr).1 (h.below hb (Nat.le_refl _)))
  rw [hr] at HC
  clear hr h hs
  go_enter Try.func20, Try.ntmps20
  go_wp2_with (first | (go_at_call 61; refine HC.out.mono ?_; rintro e w1 ⟨rfl, hb1⟩) | (go_at_call 63; refine (MB.out _ hb1).mono ?_; rintro e w2 ⟨a2, c2, rfl, hs2, hb2⟩))
  go_ret2
  exact ⟨a2, c2, rfl, hs2.mono hb1.size, hb1.trans (hb2.mono hb1.size)⟩
set_option maxHeartbeats 4000000 in
theorem voteBytes_g (a : Option Addr) (c : Nat) (xs : List StringV) (hm : xs.length ≤ 1048576) (hs : ∀ e ∈ xs, e.f0.size ≤ 1048576) (w : World) (h : SlS rowString w a xs) :
    Calls Try.prog 29 #[.slice a xs.length c] w (VbPost xs w) := by
  have WI := Lib.hid (fun w T b hb => within_r 1 64 (xs.length : Int) w T b hb)
  have hs' : ∀ e ∈ xs, e.f0.size ≤ maxLen := fun e he => by have := hs e he; unfold maxLen; omega
  have EO := Lib.hid (fun w' (hb : Below w.heap.size w w') => isOneLength_any a xs c w' hm hs' (h.below hb (Nat.le_refl _)))
  by_cases h1 : inB 1 64 (xs.length : Int) = true
  case neg =>
    have hr0 : inB 1 64 (xs.length : Int) = false := by simpa using h1
    have HV := Lib.hid (show voteOk xs = false by unfold voteOk; rw [hr0]; rfl)
    rw [hr0] at WI
    clear h1 hr0 h hs hs'
    go_enter Try.func29, Try.ntmps29
    go_wp2_with (go_at_call 72; refine (WI.out _ _ _ rfl).mono ?_; rintro e w1 ⟨rfl, hb1⟩)
    go_ret3
    unfold VbPost voteV voteL
    rw [HV.out]
    exact ⟨none, 0, rfl, .inl rfl, hb1⟩
  rw [h1] at WI
  have hi := inB_iff.1 h1
  have h01 : 0 < xs.length := by omega
  by_cases h2 : allLen (len0 xs) xs = true
  case neg =>
    have hr0 : allLen (len0 xs) xs = false := by simpa using h2
    have HV := Lib.hid (show voteOk xs = false by unfold voteOk; rw [hr0]; simp)
    rw [hr0] at EO
    clear h1 h2 hr0 h hs hs' hi h01
    go_enter Try.func29, Try.ntmps29
    go_wp2_with (first | (go_at_call 72; refine (WI.out _ _ _ rfl).mono ?_; rintro e w1 ⟨rfl, hb1⟩) | (go_at_call 73; refine (EO.out _ hb1).mono ?_; rintro e w2 ⟨rfl, hb2⟩))
    go_ret3
    unfold VbPost voteV voteL
    rw [HV.out]
    exact ⟨none, 0, rfl, .inl rfl, hb1.trans (hb2.mono hb1.size)⟩
  rw [h2] at EO
  obtain ⟨⟨s0⟩, hx0⟩ : ∃ e, xs[0]? = some e := ⟨xs[0], by simp [h01]⟩
  have hl0 : len0 xs = s0.size := by unfold len0; rw [hx0]; rfl
  obtain ⟨b0, off0, rfl, hbl0, hc0⟩ := h.at rowString_len hx0
  have c0 : w.cell? ⟨b0, off0 + 0 * 1, none⟩ = some (.string s0) := hc0 0 _ rfl
  rw [Nat.zero_mul, Nat.add_zero] at c0
  have C0 := Lib.hid (fun w' (hb : Below w.heap.size w w') => (show w'.cell? ⟨b0, off0, none⟩ = some (.string s0) by rw [hb.cell (p := ⟨b0, off0, none⟩) hbl0]; exact c0))
  have hz := hs _ (List.mem_of_getElem? hx0)
  dsimp only at hz
  have MB := Lib.hid (fun w' (hO : OneLen xs (len0 xs)) (hb : Below w.heap.size w w') => mostBytes_any (some ⟨b0, off0, none⟩) xs c (len0 xs) w' hm hO (h.below hb (Nat.le_refl _)))
  have UP := Lib.hid (fun w' (hO : OneLen xs (len0 xs)) (hb : Below w.heap.size w w') => unlikePlaces_any (some ⟨b0, off0, none⟩) xs c (len0 xs) w' hm hO (h.below hb (Nat.le_refl _)))
  have HI := Lib.hid (And.intro h1 (And.intro h2 hl0)); clear h1 h2 hl0 h hs hs' c0 hc0 hx0 hi
  by_cases h5 : s0.size ≤ 512
  case neg =>
    have h5' : (512 : Int) < (s0.size : Int) := by omega
    have HV := Lib.hid (show voteOk xs = false by
      unfold voteOk
      have : decide (len0 xs ≤ 512) = false := by simp; rw [HI.out.2.2]; omega
      rw [this]; simp)
    clear h5
    go_enter Try.func29, Try.ntmps29
    go_wp2_with fail
    refine (WI.out _ _ _ rfl).mono ?_
    rintro e w1 ⟨rfl, hb1⟩
    go_wp2_with fail
    refine (EO.out _ hb1).mono ?_
    rintro e w2 ⟨rfl, hb2⟩
    have c0 := C0.out _ (hb1.trans (hb2.mono hb1.size))
    have FB := Lib.hid (hb1.trans (hb2.mono hb1.size)); clear hb1 hb2
    go_wp2
    go_ret3
    unfold VbPost voteV voteL
    rw [HV.out]
    exact ⟨none, 0, rfl, .inl rfl, FB.out⟩
  have h5' : ¬ (512 : Int) < (s0.size : Int) := by omega
  have HV := Lib.hid (show voteOk xs = true by
    unfold voteOk
    rw [HI.out.1, HI.out.2.1, HI.out.2.2]
    simpa using h5)
  clear h5
  go_enter Try.func29, Try.ntmps29
  go_wp2_with fail
  refine (WI.out _ _ _ rfl).mono ?_
  rintro e w1 ⟨rfl, hb1⟩
  go_wp2_with fail
  refine (EO.out _ hb1).mono ?_
  rintro e w2 ⟨rfl, hb2⟩
  have c0 := C0.out _ (hb1.trans (hb2.mono hb1.size))
  have FB := Lib.hid (hb1.trans (hb2.mono hb1.size)); clear hb1 hb2
  go_wp2_with fail
  refine (MB.out _ (voteOk_one HV.out) FB.out).mono ?_
  rintro e w3 ⟨rfl, hb3⟩
  have FB3 := Lib.hid (FB.out.trans (hb3.mono FB.out.size)); clear hb3
  go_wp2_with fail
  refine (UP.out _ (voteOk_one HV.out) FB3.out).mono ?_
  rintro e w4 ⟨a4, c4, rfl, hs4, hb4⟩
  have HS4 := Lib.hid hs4; clear hs4
  go_wp2
  go_ret3
  unfold VbPost voteV voteL
  rw [HV.out]
  exact ⟨a4, c4, rfl, HS4.out.mono FB3.out.size, FB3.out.trans (hb4.mono FB3.out.size)⟩
end Go.Proofs.Ytlaejcbcfcomaaa
