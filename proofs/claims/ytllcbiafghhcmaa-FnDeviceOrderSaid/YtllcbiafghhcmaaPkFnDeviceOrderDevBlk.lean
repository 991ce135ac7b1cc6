/- impl.DeviceBlocks, SectorOf, ReadDeviceBlock -/
import Derived.Test.YtllcbiafghhcmaaPkFnDeviceOrderDevOkIm
namespace Go.Proofs.Ytllcbiafghhcmaa
open Go.RowKit Go.Maps
set_option linter.unusedVariables false
set_option linter.unusedSimpArgs false
set_option maxRecDepth 20000
/-- What a valid device gives. -/
theorem devB_facts {x : DeviceV} (h : devB x = true) : discB x.f0 = true ∧ geoB x.f0.f0 x.f0.f1 x.f0.f2 x.f0.f3 = true ∧ (x.f0.f4.length : Int) = x.f0.f0 * x.f0.f1 * x.f0.f2 ∧ x.f0.f4.length ≤ 128 ∧ (0 ≤ x.f2 ∧ x.f2 ≤ (x.f0.f4.length : Int) - 1) ∧ (x.f3.length : Int) = (x.f0.f4.length : Int) - x.f2 ∧ (∀ z ∈ x.f3, 0 ≤ z ∧ z ≤ (x.f0.f4.length : Int) - 1) ∧ x.f3.Nodup := by
  unfold devB at h
  simp only [Bool.and_eq_true, decide_eq_true_eq, List.all_eq_true, inB_iff] at h
  obtain ⟨hd, h1, h2, h3, h4, h5⟩ := h
  have hl := discB_len hd
  have hd2 := hd
  unfold discB at hd2
  simp only [Bool.and_eq_true, decide_eq_true_eq] at hd2
  exact ⟨hd, hd2.1, hd2.2.1, hl, h2, h3, h4, h5⟩
theorem devB_size {x : DeviceV} (h : devB x = true) : ∃ n : Nat, secN x.f0.f3 = (n : Int) ∧ (secN x.f0.f3).toNat = n ∧ (n = 8 ∨ n = 16 ∨ n = 32) ∧ ∀ e ∈ x.f0.f4, e.f0.size = n ∧ 1 ≤ e.f1 ∧ e.f1 ≤ 4 := by
  obtain ⟨hd, hg, _⟩ := devB_facts h
  obtain ⟨_, _, _, hz3⟩ := geoB_iff.1 hg
  obtain ⟨n, hn1, hn2, hn3⟩ := secN_three (inB_iff.2 hz3)
  refine ⟨n, hn1, hn2, hn3, fun e he => ?_⟩
  unfold discB at hd
  simp only [Bool.and_eq_true] at hd
  have := List.all_eq_true.1 hd.2.2 e he
  unfold secOkB at this
  rw [hn2] at this
  simp only [Bool.and_eq_true, decide_eq_true_eq, inB_iff] at this
  exact ⟨this.1, this.2.1.1, this.2.1.2⟩
def devN (x : DeviceV) : Int := if devB x = true then (x.f3.length : Int) else -1
def secC (x : DeviceV) (k : Int) : Int := if devB x = true then (if inB 0 ((x.f3.length : Int) - 1) k = true then 0 else 2) else 1
def secV (x : DeviceV) (k : Int) : Int := if secC x k = 0 then x.f3.getD k.toNat 0 else 0
def goodS (e : SectorV) : Bool := decide (e.f1 = 1) || decide (e.f1 = 4)
def secE (x : DeviceV) (k : Int) : SectorV := x.f0.f4.getD (secV x k).toNat ⟨ByteArray.empty, 0⟩
def rdC (x : DeviceV) (k : Int) : Int := if secC x k = 0 then (if goodS (secE x k) = true then 0 else 10) else secC x k
def rdV (x : DeviceV) (k : Int) : ByteArray := if rdC x k = 0 then (secE x k).f0 else ByteArray.empty
theorem secC_cases {x : DeviceV} {k : Int} (h : secC x k = 0) : devB x = true ∧ 0 ≤ k ∧ k ≤ (x.f3.length : Int) - 1 := by
  unfold secC at h
  split at h
  case isFalse => omega
  rename_i hd
  split at h
  case isFalse => omega
  rename_i hk
  exact ⟨hd, inB_iff.1 hk⟩
/-- The block's sector is one of the disc's. -/
theorem secV_at {x : DeviceV} {k : Int} (h : secC x k = 0) : ∃ (j i : Nat), k = (j : Int) ∧ x.f3[j]? = some (i : Int) ∧ secV x k = (i : Int) ∧ ∃ e, x.f0.f4[i]? = some e ∧ secE x k = e := by
  obtain ⟨hd, h0, h1⟩ := secC_cases h
  obtain ⟨_, _, _, _, _, _, hr, _⟩ := devB_facts hd
  obtain ⟨j, rfl⟩ : ∃ j : Nat, k = (j : Int) := ⟨k.toNat, by omega⟩
  have hj : j < x.f3.length := by omega
  have hv : x.f3[j]? = some x.f3[j] := by simp [hj]
  have hz := hr _ (List.mem_of_getElem? hv)
  obtain ⟨i, hi⟩ : ∃ i : Nat, x.f3[j] = (i : Int) := ⟨x.f3[j].toNat, by omega⟩
  rw [hi] at hv hz
  have e1 : secV x (j : Int) = (i : Int) := by
    unfold secV
    rw [if_pos h]
    simp [hv]
  have hil : i < x.f0.f4.length := by omega
  refine ⟨j, i, rfl, hv, e1, x.f0.f4[i], by simp [hil], ?_⟩
  unfold secE
  rw [e1]
  simp [hil]
set_option maxHeartbeats 2000000 in
theorem deviceBlocks_any (x : DeviceV) (s0 s1 : Option Addr) (c0 c1 : Nat) (hL : LenDevice 1048576 x) (hV : StrDevice 1048576 x) (w : World) (h : SlDevice w s0 s1 x) :
    Calls Try.prog 10 #[.agg #[.int .i64 x.f0.f0, .int .i64 x.f0.f1, .int .i64 x.f0.f2, .int .i64 x.f0.f3, .slice s0 x.f0.f4.length c0, .int .i64 x.f1, .int .i64 x.f2, .slice s1 x.f3.length c1]] w fun e w' => e = .returned (.int .i64 (devN x)) ∧ Below w.heap.size w w' := by
  have VD := Lib.hid (fun w' (hb : Below w.heap.size w w') => validDevice_any x s0 s1 c0 c1 hL hV w' (h.below hb (Nat.le_refl _)))
  have SH := Lib.hid (fun w => shape_any x s0 s1 c0 c1 w)
  clear h hV hL
  unfold devN
  by_cases hd : devB x = true
  case neg =>
    have hd0 : devB x = false := by simpa using hd
    rw [if_neg hd]
    rw [hd0] at VD
    clear hd hd0
    go_enter Try.func10, Try.ntmps10
    go_wp2_with fail
    refine (VD.out _ (by go_grown)).mono ?_
    rintro e w1 ⟨rfl, hb1⟩
    have FB := Lib.hid (show Below w.heap.size w w1 from Below.trans (by go_grown) (hb1.mono (by simp))); clear hb1
    go_wp2
    go_ret
    exact ⟨rfl, FB.out⟩
  case pos =>
    obtain ⟨_, hg, hn, _, hs, hl, _, _⟩ := devB_facts hd
    have BL := Lib.hid (fun w => blocks_any x.f0.f0 x.f0.f1 x.f0.f2 x.f0.f3 x.f1 x.f2 w hg hs.1 (by omega))
    rw [← hn, ← hl] at BL
    rw [if_pos hd]
    rw [hd] at VD
    clear hd hg hn hs hl
    go_enter Try.func10, Try.ntmps10
    go_wp2_with fail
    refine (VD.out _ (by go_grown)).mono ?_
    rintro e w1 ⟨rfl, hb1⟩
    have FB := Lib.hid (show Below w.heap.size w w1 from Below.trans (by go_grown) (hb1.mono (by simp)))
    have q := (BoxAt.new w #[.int .i64 x.f0.f0, .int .i64 x.f0.f1, .int .i64 x.f0.f2, .int .i64 x.f0.f3, .slice s0 x.f0.f4.length c0, .int .i64 x.f1, .int .i64 x.f2, .slice s1 x.f3.length c1] 31 _ rfl).below hb1 (by simp)
    have q0 := q 0 _ rfl
    have q1 := q 1 _ rfl
    have q2 := q 2 _ rfl
    have q3 := q 3 _ rfl
    have q4 := q 4 _ rfl
    have q5 := q 5 _ rfl
    have q6 := q 6 _ rfl
    have q7 := q 7 _ rfl
    clear q hb1
    go_wp2_with fail
    refine (SH.out _).mono ?_
    rintro e w2 ⟨rfl, hb2⟩
    have FB2 := Lib.hid (FB.out.trans (hb2.mono FB.out.size)); clear hb2 q0 q1 q2 q3 q4 q5 q6 q7
    go_wp2_with fail
    refine (BL.out _).mono ?_
    rintro e w3 ⟨rfl, hb3⟩
    have FB3 := Lib.hid (FB2.out.trans (hb3.mono FB2.out.size)); clear hb3
    go_wp2
    go_ret
    exact ⟨rfl, FB3.out⟩
/-- What impl.opened makes of a device. -/
def openV (x : DeviceV) (s0 s1 : Option Addr) (c0 c1 : Nat) : Value := if devB x = true then (if x.f2 = 0 then .iface 130 (.agg #[.int .i64 x.f0.f0, .int .i64 x.f0.f1, .int .i64 x.f0.f2, .int .i64 x.f0.f3, .slice s0 x.f0.f4.length c0, .int .i64 x.f1, .int .i64 x.f2, .slice s1 x.f3.length c1]) else .iface 131 (.agg #[.int .i64 x.f0.f0, .int .i64 x.f0.f1, .int .i64 x.f0.f2, .int .i64 x.f0.f3, .slice s0 x.f0.f4.length c0, .int .i64 x.f1, .int .i64 x.f2, .slice s1 x.f3.length c1])) else .nilIface
set_option maxHeartbeats 4000000 in
theorem opened_any (x : DeviceV) (s0 s1 : Option Addr) (c0 c1 : Nat) (hL : LenDevice 1048576 x) (hV : StrDevice 1048576 x) (w : World) (h : SlDevice w s0 s1 x) :
    Calls Try.prog 41 #[.agg #[.int .i64 x.f0.f0, .int .i64 x.f0.f1, .int .i64 x.f0.f2, .int .i64 x.f0.f3, .slice s0 x.f0.f4.length c0, .int .i64 x.f1, .int .i64 x.f2, .slice s1 x.f3.length c1]] w fun e w' => e = .returned (.tuple #[openV x s0 s1 c0 c1, .int .i64 (if devB x = true then 0 else 1)]) ∧ Below w.heap.size w w' := by
  have VD := Lib.hid (fun w' (hb : Below w.heap.size w w') => validDevice_any x s0 s1 c0 c1 hL hV w' (h.below hb (Nat.le_refl _)))
  clear h hV hL
  unfold openV
  by_cases hd : devB x = true
  case neg =>
    have hd0 : devB x = false := by simpa using hd
    rw [if_neg hd, if_neg hd]
    rw [hd0] at VD
    clear hd hd0
    go_enter Try.func41, Try.ntmps41
    go_wp2_with fail
    refine (VD.out _ (by go_grown)).mono ?_
    rintro e w1 ⟨rfl, hb1⟩
    have FB := Lib.hid (show Below w.heap.size w w1 from Below.trans (by go_grown) (hb1.mono (by simp))); clear hb1
    go_wp2
    go_ret2
    exact ⟨rfl, FB.out⟩
  case pos =>
    rw [if_pos hd, if_pos hd]
    rw [hd] at VD
    clear hd
    by_cases hz : x.f2 = 0
    all_goals
      first | rw [if_pos hz] | rw [if_neg hz]
      first | (have hzb : (x.f2 == 0) = true := by simp [hz]) | (have hzb : (x.f2 == 0) = false := by simp [hz])
      clear hz
      go_enter Try.func41, Try.ntmps41
      go_wp2_with fail
      refine (VD.out _ (by go_grown)).mono ?_
      rintro e w1 ⟨rfl, hb1⟩
      have FB := Lib.hid (show Below w.heap.size w w1 from Below.trans (by go_grown) (hb1.mono (by simp)))
      have q := (BoxAt.new w #[.int .i64 x.f0.f0, .int .i64 x.f0.f1, .int .i64 x.f0.f2, .int .i64 x.f0.f3, .slice s0 x.f0.f4.length c0, .int .i64 x.f1, .int .i64 x.f2, .slice s1 x.f3.length c1] 31 _ rfl).below hb1 (by simp)
      have q0 := q 0 _ rfl
      have q1 := q 1 _ rfl
      have q2 := q 2 _ rfl
      have q3 := q 3 _ rfl
      have q4 := q 4 _ rfl
      have q5 := q 5 _ rfl
      have q6 := q 6 _ rfl
      have q7 := q 7 _ rfl
      clear q hb1
      go_wp2
      go_ret2
      exact ⟨rfl, FB.out⟩
set_option maxHeartbeats 4000000 in
theorem sectorOfM_any (x : DeviceV) (s0 s1 : Option Addr) (c0 c1 : Nat) (k : Int) (hL : x.f3.length ≤ 1048576) (w : World) (h : SlA w s1 x.f3) (hd : devB x = true) :
    Calls Try.prog 119 #[.agg #[.int .i64 x.f0.f0, .int .i64 x.f0.f1, .int .i64 x.f0.f2, .int .i64 x.f0.f3, .slice s0 x.f0.f4.length c0, .int .i64 x.f1, .int .i64 x.f2, .slice s1 x.f3.length c1], .int .i64 k] w fun e w' => e = .returned (.tuple #[.int .i64 (secV x k), .int .i64 (secC x k)]) ∧ Below w.heap.size w w' := by
  have PL := Lib.hid (fun w => isPlace_any k (x.f3.length : Int) w (by omega) (by omega))
  have HZ := Lib.hid (fun w' (hb : Below w.heap.size w w') => h.below hb (Nat.le_refl _))
  clear h
  by_cases hk : inB 0 ((x.f3.length : Int) - 1) k = true
  case neg =>
    have hk0 : inB 0 ((x.f3.length : Int) - 1) k = false := by simpa using hk
    have hc : secC x k = 2 := by unfold secC; rw [if_pos hd, if_neg hk]
    have hv : secV x k = 0 := by unfold secV; rw [if_neg (by omega)]
    rw [hc, hv]
    rw [hk0] at PL
    clear hk hk0 hc hv hd
    go_enter Try.func119, Try.ntmps119
    go_wp2_with fail
    refine (PL.out _).mono ?_
    rintro e w1 ⟨rfl, hb1⟩
    have FB := Lib.hid (show Below w.heap.size w w1 from Below.trans (by go_grown) (hb1.mono (by simp))); clear hb1
    go_wp2
    go_ret2
    exact ⟨rfl, FB.out⟩
  case pos =>
    have hc : secC x k = 0 := by unfold secC; rw [if_pos hd, if_pos hk]
    obtain ⟨j, i, rfl, hx, hv, _⟩ := secV_at hc
    rw [hc, hv]
    rw [hk] at PL
    have hj : j < x.f3.length := (List.getElem?_eq_some_iff.1 hx).1
    have HX := Lib.hid hx
    clear hk hc hv hd hx
    go_enter Try.func119, Try.ntmps119
    go_wp2_with fail
    refine (PL.out _).mono ?_
    rintro e w1 ⟨rfl, hb1⟩
    have FB := Lib.hid (show Below w.heap.size w w1 from Below.trans (by go_grown) (hb1.mono (by simp)))
    have q7 := ((BoxAt.new w #[.int .i64 x.f0.f0, .int .i64 x.f0.f1, .int .i64 x.f0.f2, .int .i64 x.f0.f3, .slice s0 x.f0.f4.length c0, .int .i64 x.f1, .int .i64 x.f2, .slice s1 x.f3.length c1] 31 _ rfl).below hb1 (by simp)) 7 _ rfl
    obtain ⟨b, off, hb, hcx⟩ := (HZ.out _ FB.out).cell HX.out
    rw [hb] at q7
    have ej : (j : Int) < (x.f3.length : Int) := by omega
    clear hb1 hb
    go_wp2
    go_ret2
    exact ⟨rfl, FB.out⟩
set_option maxHeartbeats 4000000 in
theorem sectorOf_any (x : DeviceV) (s0 s1 : Option Addr) (c0 c1 : Nat) (k : Int) (hL : LenDevice 1048576 x) (hV : StrDevice 1048576 x) (w : World) (h : SlDevice w s0 s1 x) :
    Calls Try.prog 11 #[.agg #[.int .i64 x.f0.f0, .int .i64 x.f0.f1, .int .i64 x.f0.f2, .int .i64 x.f0.f3, .slice s0 x.f0.f4.length c0, .int .i64 x.f1, .int .i64 x.f2, .slice s1 x.f3.length c1], .int .i64 k] w fun e w' => e = .returned (.tuple #[.int .i64 (secV x k), .int .i64 (secC x k)]) ∧ Below w.heap.size w w' := by
  have OP := Lib.hid (fun w' (hb : Below w.heap.size w w') => opened_any x s0 s1 c0 c1 hL hV w' (h.below hb (Nat.le_refl _)))
  by_cases hd : devB x = true
  case neg =>
    have hc : secC x k = 1 := by unfold secC; rw [if_neg hd]
    have hv : secV x k = 0 := by unfold secV; rw [if_neg (by omega)]
    rw [hc, hv]
    unfold openV at OP
    rw [if_neg hd, if_neg hd] at OP
    clear hc hv hd h hL hV
    go_enter Try.func11, Try.ntmps11
    go_wp2_with fail
    refine (OP.out _ (by go_grown)).mono ?_
    rintro e w1 ⟨rfl, hb1⟩
    have FB := Lib.hid (show Below w.heap.size w w1 from Below.trans (by go_grown) (hb1.mono (by simp))); clear hb1
    go_wp2
    go_ret2
    exact ⟨rfl, FB.out⟩
  case pos =>
    have SM := Lib.hid (fun w' (hb : Below w.heap.size w w') => sectorOfM_any x s0 s1 c0 c1 k hL.2 w' (h.2.below hb (Nat.le_refl _)) hd)
    unfold openV at OP
    rw [if_pos hd, if_pos hd] at OP
    clear hd h hL hV
    by_cases hz : x.f2 = 0
    all_goals
      first | rw [if_pos hz] at OP | rw [if_neg hz] at OP
      clear hz
      go_enter Try.func11, Try.ntmps11
      go_wp2_with fail
      refine (OP.out _ (by go_grown)).mono ?_
      rintro e w1 ⟨rfl, hb1⟩
      have FB := Lib.hid (show Below w.heap.size w w1 from Below.trans (by go_grown) (hb1.mono (by simp))); clear hb1
      go_wp2_with fail
      change Calls Try.prog 119 #[.agg #[.int .i64 x.f0.f0, .int .i64 x.f0.f1, .int .i64 x.f0.f2, .int .i64 x.f0.f3, .slice s0 x.f0.f4.length c0, .int .i64 x.f1, .int .i64 x.f2, .slice s1 x.f3.length c1], .int .i64 k] _ _
      refine (SM.out _ FB.out).mono ?_
      rintro e w2 ⟨rfl, hb2⟩
      have FB2 := Lib.hid (FB.out.trans (hb2.mono FB.out.size)); clear hb2
      go_wp2
      go_ret2
      exact ⟨rfl, FB2.out⟩
/-- What a sector gives to who reads it. -/
def contV (e : SectorV) : ByteArray := if goodS e = true then e.f0 else zerosS e.f0.size
set_option maxHeartbeats 4000000 in
theorem contents_any (e : SectorV) (n : Nat) (w : World) (hn : n = 8 ∨ n = 16 ∨ n = 32) (hs : e.f0.size = n) :
    Calls Try.prog 63 #[.agg #[.string e.f0, .int .i64 e.f1]] w fun x w' => x = .returned (.tuple #[.string (contV e), .bool (goodS e)]) ∧ Below w.heap.size w w' := by
  have RZ := Lib.hid (fun w => repeatZ_any e.f0.size (by rw [hs]; exact hn) w)
  have hb : e.f0.size ≤ 32 := by omega
  clear hn hs
  obtain ⟨d, st⟩ := e
  unfold contV goodS
  dsimp only at RZ hb ⊢
  by_cases h1 : st = 1
  · subst h1
    simp only [decide_true, Bool.true_or, if_true]
    go_enter Try.func63, Try.ntmps63
    go_wp2
    go_ret2
    exact ⟨rfl, by go_grown⟩
  by_cases h4 : st = 4
  · subst h4
    go_enter Try.func63, Try.ntmps63
    go_wp2
    go_ret2
    exact ⟨rfl, by go_grown⟩
  have e1 : (st == 1) = false := by simp [h1]
  have e4 : (st == 4) = false := by simp [h4]
  rw [decide_eq_false h1, decide_eq_false h4]
  simp only [Bool.or_false, Bool.false_eq_true, if_false]
  clear h1 h4
  go_enter Try.func63, Try.ntmps63
  go_wp2_with fail
  refine (RZ.out _).mono ?_
  rintro e w1 ⟨rfl, hb1⟩
  have FB := Lib.hid (show Below w.heap.size w w1 from Below.trans (by go_grown) (hb1.mono (by simp))); clear hb1
  go_wp2
  go_ret2
  exact ⟨rfl, FB.out⟩
set_option maxHeartbeats 4000000 in
theorem readDeviceBlock_any (x : DeviceV) (s0 s1 : Option Addr) (c0 c1 : Nat) (k : Int) (hL : LenDevice 1048576 x) (hV : StrDevice 1048576 x) (w : World) (h : SlDevice w s0 s1 x) :
    Calls Try.prog 23 #[.agg #[.int .i64 x.f0.f0, .int .i64 x.f0.f1, .int .i64 x.f0.f2, .int .i64 x.f0.f3, .slice s0 x.f0.f4.length c0, .int .i64 x.f1, .int .i64 x.f2, .slice s1 x.f3.length c1], .int .i64 k] w fun e w' => e = .returned (.tuple #[.string (rdV x k), .int .i64 (rdC x k)]) ∧ Below w.heap.size w w' := by
  have SO := Lib.hid (fun w' (hb : Below w.heap.size w w') => sectorOf_any x s0 s1 c0 c1 k hL hV w' (h.below hb (Nat.le_refl _)))
  by_cases hc : secC x k = 0
  case neg =>
    have hr : rdC x k = secC x k := by unfold rdC; rw [if_neg hc]
    have hv : rdV x k = ByteArray.empty := by unfold rdV; rw [hr, if_neg hc]
    rw [hr, hv]
    have hcb : (secC x k != 0) = true := by simp [hc]
    clear hr hv hc h hL hV
    go_enter Try.func23, Try.ntmps23
    go_wp2_with fail
    refine (SO.out _ (by go_grown)).mono ?_
    rintro e w1 ⟨rfl, hb1⟩
    have FB := Lib.hid (show Below w.heap.size w w1 from Below.trans (by go_grown) (hb1.mono (by simp))); clear hb1
    go_wp2
    go_ret2
    exact ⟨rfl, FB.out⟩
  case pos =>
    obtain ⟨j, i, rfl, hx, hv, e, he, hse⟩ := secV_at hc
    obtain ⟨n, hn1, hn2, hn3, hall⟩ := devB_size (secC_cases hc).1
    have CT := Lib.hid (fun w => contents_any e n w hn3 (hall e (List.mem_of_getElem? he)).1)
    have hr : rdC x (j : Int) = if goodS e = true then 0 else 10 := by unfold rdC; rw [if_pos hc, hse]
    have hw : rdV x (j : Int) = if goodS e = true then e.f0 else ByteArray.empty := by
      unfold rdV
      rw [hr, hse]
      by_cases hg : goodS e = true
      · simp [hg]
      · simp [hg]
    rw [hr, hw]
    rw [hv, hc] at SO
    have HA := Lib.hid (fun w' (hb : Below w.heap.size w w') => (h.1.below hb (Nat.le_refl _)).at rowSector_len he)
    have hil : i < x.f0.f4.length := (List.getElem?_eq_some_iff.1 he).1
    clear hr hw hv hc hx hse he hall hn1 hn2 hn3 h hL hV
    unfold contV at CT
    obtain ⟨g, hg⟩ : ∃ g, goodS e = g := ⟨_, rfl⟩
    rw [hg] at CT ⊢
    clear hg
    cases g
    all_goals
      first | rw [if_pos rfl, if_pos rfl] | rw [if_neg (by simp), if_neg (by simp)]
      first | rw [if_pos rfl] at CT | rw [if_neg (by simp)] at CT
      go_enter Try.func23, Try.ntmps23
      go_wp2_with fail
      refine (SO.out _ (by go_grown)).mono ?_
      rintro e_ w1 ⟨rfl, hb1⟩
      have FB := Lib.hid (show Below w.heap.size w w1 from Below.trans (by go_grown) (hb1.mono (by simp)))
      have q4 := ((BoxAt.new w #[.int .i64 x.f0.f0, .int .i64 x.f0.f1, .int .i64 x.f0.f2, .int .i64 x.f0.f3, .slice s0 x.f0.f4.length c0, .int .i64 x.f1, .int .i64 x.f2, .slice s1 x.f3.length c1] 31 _ rfl).below hb1 (by simp)) 4 _ rfl
      obtain ⟨b, off, hb, hbl, hcs⟩ := HA.out _ FB.out
      have d0 : w1.cell? ⟨b, off + i * 2, none⟩ = some (.string e.f0) := hcs 0 _ rfl
      have d1 : w1.cell? ⟨b, off + i * 2 + 1, none⟩ = some (.int .i64 e.f1) := hcs 1 _ rfl
      rw [hb] at q4
      clear hb1 hb hcs
      go_wp2_with fail
      refine (CT.out _).mono ?_
      rintro e_ w2 ⟨rfl, hb2⟩
      have FB2 := Lib.hid (FB.out.trans (hb2.mono FB.out.size)); clear hb2 q4 d0 d1
      go_wp2
      go_ret2
      exact ⟨rfl, FB2.out⟩
end Go.Proofs.Ytllcbiafghhcmaa
