/- impl.SpecsOf, spec.l09Spec, spec.SpecsOf -/
import Derived.Test.YtdpnpmfhnfecaaaFoundList
import Derived.Test.YtdpnpmfhnfecaaaRecSectorSpec
import Derived.Test.YtdpnpmfhnfecaaaOwnR
import Derived.StillTailTactics
import Derived.BigRegion
namespace Go.Proofs.Ytdpnpmfhnfecaaa
open Go.RowKit
set_option linter.unusedVariables false
set_option linter.unusedSimpArgs false
set_option maxRecDepth 20000
def specOf (e : FoundV) : SectorSpecV := ⟨e.f0, e.f1, e.f2, e.f3, e.f4, e.f6, false, e.f5 == 3⟩
def wholeB (e : FoundV) : Bool := e.f5 == 1 || e.f5 == 3
def specsC (es : List FoundV) : Int := if foundsB es = true then (if es.all wholeB = true then (if es.length ≤ 8 then 0 else 5) else 10) else 1
def specsV (es : List FoundV) : List SectorSpecV := if specsC es = 0 then es.map specOf else []
theorem specsV_len (es : List FoundV) (h : es.length ≤ 1048576) : (specsV es).length ≤ 1048576 := by
  unfold specsV
  split <;> simp [h]
theorem foundB_state {e : FoundV} (h : foundB e = true) : e.f5 = 1 ∨ e.f5 = 2 ∨ e.f5 = 3 ∨ e.f5 = 4 := by
  unfold foundB at h
  simp only [Bool.and_eq_true] at h
  have := h.2.2
  unfold bodyB at this
  split at this
  · omega
  · split at this
    · omega
    · split at this
      · omega
      · simp at this
theorem whole_no {e : FoundV} (h : foundB e = true) : wholeB e = !(e.f5 == 2 || e.f5 == 4) := by
  rcases foundB_state h with h | h | h | h <;> simp [wholeB, h]
set_option maxHeartbeats 2000000 in
theorem specsOf1_any (e : FoundV) (w : World) (hd : e.f4.size ≤ maxLen) :
    Calls Try.prog 71 #[.agg #[.int .i64 e.f0, .int .i64 e.f1, .int .i64 e.f2, .int .i64 e.f3, .string e.f4, .int .i64 e.f5, .bool e.f6, .int .i64 e.f7]] w fun x w' => x = .returned (.bool (wholeB e)) ∧ Below w.heap.size w w' := by
  unfold wholeB
  by_cases h1 : e.f5 = 1
  · have b1 : (e.f5 == 1) = true := by simp [h1]
    have B1 := Lib.hid b1
    clear h1
    go_enter Try.func71, Try.ntmps71
    go_wp2
    go_ret
    exact ⟨ret_bool (by rw [B1.out]; rfl), by go_grown⟩
  · have b1 : (e.f5 == 1) = false := by simp [h1]
    have B1 := Lib.hid b1
    clear h1
    obtain ⟨q, hq⟩ : ∃ q, (e.f5 == 3) = q := ⟨_, rfl⟩
    rw [hq]
    go_enter Try.func71, Try.ntmps71
    go_wp2
    go_ret
    exact ⟨ret_bool (by rw [B1.out]; rfl), by go_grown⟩
set_option maxHeartbeats 2000000 in
theorem everyWhole_any (a : Option Addr) (es : List FoundV) (c : Nat) (w : World) (hm : es.length ≤ 1048576) (hs : ∀ e ∈ es, e.f4.size ≤ maxLen) (h : SlS rowFound w a es) :
    Calls Try.prog 70 #[.slice a es.length c, .func (.func 71) #[] #[]] w fun x w' => x = .returned (.bool (es.all wholeB)) ∧ Below w.heap.size w w' := by
  go_enter Try.func70, Try.ntmps70
  go_wp2
  go_loopw [9] (fun i wr => ∃ (k : Nat), k ≤ es.length ∧ i = .int .i64 k ∧ Hid ((es.take k).all wholeB = true) ∧ Below w.heap.size w wr) (fun i _ => es.length - (intOf i).toNat)
  case atStart => exact ⟨0, Nat.zero_le _, rfl, by unfold Hid; rfl, Below.refl _ _⟩
  case round =>
    obtain ⟨k, hk, rfl, hR, hb⟩ := hrel
    by_cases hlt2 : k < es.length
    · obtain ⟨e, hx⟩ : ∃ e, es[k]? = some e := ⟨es[k], by simp [hlt2]⟩
      obtain ⟨b, off, rfl, hbl, hc⟩ := (h.below hb (Nat.le_refl _)).at rowFound_len hx
      have c0 : wr.cell? ⟨b, off + k * 8, none⟩ = some (.int .i64 e.f0) := hc 0 _ rfl
      have c1 : wr.cell? ⟨b, off + k * 8 + 1, none⟩ = some (.int .i64 e.f1) := hc 1 _ rfl
      have c2 : wr.cell? ⟨b, off + k * 8 + 2, none⟩ = some (.int .i64 e.f2) := hc 2 _ rfl
      have c3 : wr.cell? ⟨b, off + k * 8 + 3, none⟩ = some (.int .i64 e.f3) := hc 3 _ rfl
      have c4 : wr.cell? ⟨b, off + k * 8 + 4, none⟩ = some (.string e.f4) := hc 4 _ rfl
      have c5 : wr.cell? ⟨b, off + k * 8 + 5, none⟩ = some (.int .i64 e.f5) := hc 5 _ rfl
      have c6 : wr.cell? ⟨b, off + k * 8 + 6, none⟩ = some (.bool e.f6) := hc 6 _ rfl
      have c7 : wr.cell? ⟨b, off + k * 8 + 7, none⟩ = some (.int .i64 e.f7) := hc 7 _ rfl
      have CL := Lib.hid (fun w => specsOf1_any e w (hs e (List.mem_of_getElem? hx)))
      have H := Lib.hid (And.intro h (And.intro hc (And.intro hx trivial))); clear h hc hx
      obtain ⟨q, hq⟩ : ∃ q, wholeB e = q := ⟨_, rfl⟩
      rw [hq] at CL
      have HQ := Lib.hid hq; clear hq
      cases q with
      | false =>
        have HR := Lib.hid (show es.all wholeB = false from List.all_eq_false.2 ⟨e, List.mem_of_getElem? H.out.2.2.1, by rw [HQ.out]; simp⟩)
        go_wp2_with fail
        refine (CL.out _).mono ?_
        rintro e_ w1 ⟨rfl, hb1⟩
        go_wp2
        go_ret
        exact ⟨ret_bool HR.out.symm, hb.trans (Below.trans (show Below w.heap.size wr _ from (Below.refl _ _).alloc hb.size _) (hb1.mono (by have := hb.size; simp <;> omega)))⟩
      | true =>
        go_wp2_with fail
        refine (CL.out _).mono ?_
        rintro e_ w1 ⟨rfl, hb1⟩
        clear c0 c1 c2 c3 c4 c5 c6 c7
        go_wp2
        go_roundw
        case rel => exact ⟨k + 1, by omega, by go_num, by unfold Hid; rw [List.take_add_one, H.out.2.2.1, List.all_append, hR.out]; simp [HQ.out], hb.trans (Below.trans (show Below w.heap.size wr _ from (Below.refl _ _).alloc hb.size _) (hb1.mono (by have := hb.size; simp <;> omega)))⟩
        case measure => simp [intOf]; omega
    · obtain rfl : k = es.length := by omega
      have HR := Lib.hid (show es.all wholeB = true by have := hR.out; rwa [List.take_length] at this)
      go_wp2
      go_ret
      exact ⟨ret_bool HR.out.symm, hb⟩
set_option maxHeartbeats 4000000 in
theorem l09Spec_any (e : FoundV) (b off : Nat) (w : World) (hd : e.f4.size ≤ maxLen) (hp : FoundAt w b off e) :
    Calls Try.prog 67 #[.pointer (some ⟨b, off, none⟩)] w fun x w' => x = .returned (.agg #[.int .i64 e.f0, .int .i64 e.f1, .int .i64 e.f2, .int .i64 e.f3, .string e.f4, .bool e.f6, .bool false, .bool (e.f5 == 3)]) ∧ Below w.heap.size w w' := by
  have c0 : w.cell? ⟨b, off, none⟩ = some (.int .i64 e.f0) := hp 0 _ rfl
  have c1 : w.cell? ⟨b, off + 1, none⟩ = some (.int .i64 e.f1) := hp 1 _ rfl
  have c2 : w.cell? ⟨b, off + 2, none⟩ = some (.int .i64 e.f2) := hp 2 _ rfl
  have c3 : w.cell? ⟨b, off + 3, none⟩ = some (.int .i64 e.f3) := hp 3 _ rfl
  have c4 : w.cell? ⟨b, off + 4, none⟩ = some (.string e.f4) := hp 4 _ rfl
  have c5 : w.cell? ⟨b, off + 5, none⟩ = some (.int .i64 e.f5) := hp 5 _ rfl
  have c6 : w.cell? ⟨b, off + 6, none⟩ = some (.bool e.f6) := hp 6 _ rfl
  have c7 : w.cell? ⟨b, off + 7, none⟩ = some (.int .i64 e.f7) := hp 7 _ rfl
  have hbl := World.block_lt_of_cell? w _ c0
  clear hp
  go_enter Try.func67, Try.ntmps67
  go_wp2
  go_region
  all_goals
    go_wp2
    exact bodyPost_ret (v := .agg #[.int .i64 e.f0, .int .i64 e.f1, .int .i64 e.f2, .int .i64 e.f3, .string e.f4, .bool e.f6, .bool false, .bool (e.f5 == 3)]) (by simp [results, Try.results67, go_sem]) rfl ⟨rfl, ((Below.refl _ _).alloc (Nat.le_refl _) _).drew⟩
set_option maxHeartbeats 8000000 in
theorem specsOf_g (a : Option Addr) (c : Nat) (es : List FoundV) (hm : es.length ≤ 1048576) (hs : ∀ e ∈ es, e.f4.size ≤ 1048576) (w : World) (h : SlS rowFound w a es) :
    Calls Try.prog 25 #[.slice a es.length c] w (RecRes2 rowSectorSpec 84 (specsV es) (specsC es) w) := by
  have hs' : ∀ e ∈ es, e.f4.size ≤ maxLen := fun e he => by have := hs e he; unfold maxLen; omega
  have VL := Lib.hid (validFoundList_any a es c w hm hs' h)
  have EW := Lib.hid (fun w' (hb : Below w.heap.size w w') => everyWhole_any a es c w' hm hs' (h.below hb (Nat.le_refl _)))
  by_cases hv : foundsB es = true
  case neg =>
    have hv0 : foundsB es = false := by simpa using hv
    have HC := Lib.hid (show specsC es = 1 by unfold specsC; rw [if_neg hv])
    have HV := Lib.hid (show specsV es = [] by unfold specsV; rw [HC.out]; rfl)
    rw [hv0] at VL
    rw [HC.out, HV.out]
    clear hv hv0 h hs hs'
    go_enter Try.func25, Try.ntmps25
    go_wp2_with (go_at_call 69; refine VL.out.mono ?_; rintro e w1 ⟨rfl, hb1⟩)
    go_ret2
    exact ⟨none, 0, rfl, .inl rfl, hb1⟩
  rw [hv] at VL
  by_cases hw : es.all wholeB = true
  case neg =>
    have hw0 : es.all wholeB = false := by simpa using hw
    have HC := Lib.hid (show specsC es = 10 by unfold specsC; rw [if_pos hv, if_neg hw])
    have HV := Lib.hid (show specsV es = [] by unfold specsV; rw [HC.out]; rfl)
    rw [hw0] at EW
    rw [HC.out, HV.out]
    clear hv hw hw0 h hs hs'
    go_enter Try.func25, Try.ntmps25
    go_wp2_with (first | (go_at_call 69; refine VL.out.mono ?_; rintro e w1 ⟨rfl, hb1⟩) | (go_at_call 70; refine (EW.out _ hb1).mono ?_; rintro e w2 ⟨rfl, hb2⟩))
    go_ret2
    exact ⟨none, 0, rfl, .inl rfl, hb1.trans (hb2.mono hb1.size)⟩
  rw [hw] at EW
  by_cases hl : es.length ≤ 8
  case neg =>
    have hl2 : (8 : Int) < es.length := by omega
    have HC := Lib.hid (show specsC es = 5 by unfold specsC; rw [if_pos hv, if_pos hw, if_neg hl])
    have HV := Lib.hid (show specsV es = [] by unfold specsV; rw [HC.out]; rfl)
    rw [HC.out, HV.out]
    clear hv hw hl h hs hs'
    go_enter Try.func25, Try.ntmps25
    go_wp2_with (first | (go_at_call 69; refine VL.out.mono ?_; rintro e w1 ⟨rfl, hb1⟩) | (go_at_call 70; refine (EW.out _ hb1).mono ?_; rintro e w2 ⟨rfl, hb2⟩))
    go_ret2
    exact ⟨none, 0, rfl, .inl rfl, hb1.trans (hb2.mono hb1.size)⟩
  have hl2 : ¬ (8 : Int) < es.length := by omega
  have HC := Lib.hid (show specsC es = 0 by unfold specsC; rw [if_pos hv, if_pos hw, if_pos hl])
  have HV := Lib.hid (show specsV es = es.map specOf by unfold specsV; rw [HC.out]; rfl)
  rw [HC.out, HV.out]
  have HS := Lib.hid (fun w' (hb : Below w.heap.size w w') => h.below hb (Nat.le_refl _))
  clear hv hw h hs hs'
  go_enter Try.func25, Try.ntmps25
  go_wp2_with (first | (go_at_call 69; refine VL.out.mono ?_; rintro e w1 ⟨rfl, hb1⟩) | (go_at_call 70; refine (EW.out _ hb1).mono ?_; rintro e w2 ⟨rfl, hb2⟩))
  have FB := Lib.hid (hb1.trans (hb2.mono hb1.size)); clear hb1 hb2
  go_loopw [4, 18] (fun v i wr => ∃ k : Nat, k ≤ es.length ∧ i = .int .i64 k ∧ OwnR rowSectorSpec 84 8 wr w2.heap.size v ((es.take k).map specOf) ∧ Below w2.heap.size w2 wr) (fun _ i _ => es.length - (intOf i).toNat)
  case atStart => exact ⟨0, Nat.zero_le _, rfl, OwnR.nil _ _, Below.refl _ _⟩
  case round =>
    obtain ⟨k, hk, rfl, hown, hb⟩ := hrel
    have hbw := FB.out.trans (hb.mono FB.out.size)
    by_cases hlt : k < es.length
    · obtain ⟨e, hx⟩ : ∃ e, es[k]? = some e := ⟨es[k], by simp [hlt]⟩
      obtain ⟨b, off, rfl, hbl, hc⟩ := (HS.out _ hbw).at rowFound_len hx
      have c0 : wr.cell? ⟨b, off + k * 8, none⟩ = some (.int .i64 e.f0) := hc 0 _ rfl
      have c1 : wr.cell? ⟨b, off + k * 8 + 1, none⟩ = some (.int .i64 e.f1) := hc 1 _ rfl
      have c2 : wr.cell? ⟨b, off + k * 8 + 2, none⟩ = some (.int .i64 e.f2) := hc 2 _ rfl
      have c3 : wr.cell? ⟨b, off + k * 8 + 3, none⟩ = some (.int .i64 e.f3) := hc 3 _ rfl
      have c4 : wr.cell? ⟨b, off + k * 8 + 4, none⟩ = some (.string e.f4) := hc 4 _ rfl
      have c5 : wr.cell? ⟨b, off + k * 8 + 5, none⟩ = some (.int .i64 e.f5) := hc 5 _ rfl
      have c6 : wr.cell? ⟨b, off + k * 8 + 6, none⟩ = some (.bool e.f6) := hc 6 _ rfl
      have c7 : wr.cell? ⟨b, off + k * 8 + 7, none⟩ = some (.int .i64 e.f7) := hc 7 _ rfl
      have HM := Lib.hid (show (es.take (k + 1)).map specOf = (es.take k).map specOf ++ [specOf e] by rw [List.take_add_one, hx]; simp)
      have hll : ((es.take k).map specOf).length < 1073741824 := by rw [List.length_map]; have := List.length_take_le k es; omega
      generalize (es.take k).map specOf = l at *
      have hzb := hb.size
      have HB := Lib.hid (And.intro hb hbw); clear hb hbw hc hx
      obtain ⟨q, hq⟩ : ∃ q, (e.f5 == 3) = q := ⟨_, rfl⟩
      have HROW := Lib.hid (show rowSectorSpec (specOf e) = [.int .i64 e.f0, .int .i64 e.f1, .int .i64 e.f2, .int .i64 e.f3, .string e.f4, .bool e.f6, .bool false, .bool q] by rw [← hq]; rfl)
      go_wp2_with (at_builtin; refine wpList_appendR 27 84 (.agg zeroSectorSpec.toArray) 56 Try.underlying27 infoSectorSpec rfl (by omega) (by omega) rfl _ _ rfl rfl ((hown.alloc _).alloc _) (specOf e) rfl (by rw [HROW.out]; simp [Value.oneCell']) ⟨wr.heap.size + 1, 0, none⟩ 1 rfl (by rw [HROW.out]; exact World.news_of_block (cs := #[.int .i64 e.f0, .int .i64 e.f1, .int .i64 e.f2, .int .i64 e.f3, .string e.f4, .bool e.f6, .bool false, .bool q]) (t := 84) (fr := (0, 0)) (by have := heap_alloc_new (wr.alloc (.cells #[.int .i64 e.f0, .int .i64 e.f1, .int .i64 e.f2, .int .i64 e.f3, .string e.f4, .int .i64 e.f5, .bool e.f6, .int .i64 e.f7] 102)) (.cells #[.int .i64 e.f0, .int .i64 e.f1, .int .i64 e.f2, .int .i64 e.f3, .string e.f4, .bool e.f6, .bool false, .bool q] 84); simpa using this)) hll (by simp; omega) ?_; intro g cap w4 hown4 hgr hb4)
      clear hgr
      go_roundw
      case rel => exact ⟨k + 1, by omega, by go_num, by rw [HM.out]; simpa using hown4, HB.out.1.trans ((((Below.refl _ _).alloc hzb _).alloc (by simp; omega) _).trans hb4)⟩
      case measure => simp [intOf]; omega
    · obtain rfl : k = es.length := by omega
      rw [List.take_length] at hown
      obtain ⟨a1, c1, rfl, hs1⟩ := hown.slSI
      go_wp2
      go_ret2
      exact ⟨a1, c1, rfl, hs1.mono FB.out.size (Nat.le_refl _), hbw⟩
set_option maxHeartbeats 8000000 in
theorem specSpecsOf_g (a : Option Addr) (c : Nat) (es : List FoundV) (hm : es.length ≤ 1048576) (hs : ∀ e ∈ es, e.f4.size ≤ 1048576) (w : World) (h : SlS rowFound w a es) :
    Calls Try.prog 23 #[.slice a es.length c] w (RecRes2 rowSectorSpec 84 (specsV es) (specsC es) w) := by
  have hs' : ∀ e ∈ es, e.f4.size ≤ maxLen := fun e he => by have := hs e he; unfold maxLen; omega
  have VL := Lib.hid (l09List_any a es c w hm hs' h)
  by_cases hv : foundsB es = true
  case neg =>
    have hv0 : foundsB es = false := by simpa using hv
    have HC := Lib.hid (show specsC es = 1 by unfold specsC; rw [if_neg hv])
    have HV := Lib.hid (show specsV es = [] by unfold specsV; rw [HC.out]; rfl)
    rw [hv0] at VL
    rw [HC.out, HV.out]
    clear hv hv0 h hs hs'
    go_enter Try.func23, Try.ntmps23
    go_wp2_with (go_at_call 66; refine VL.out.mono ?_; rintro e w1 ⟨rfl, hb1⟩)
    go_ret2
    exact ⟨none, 0, rfl, .inl rfl, hb1⟩
  rw [hv] at VL
  have hfb : ∀ e ∈ es, foundB e = true := by
    unfold foundsB at hv
    simp only [Bool.and_eq_true, List.all_eq_true] at hv
    exact hv.2
  have h64 : es.length ≤ 64 := by
    unfold foundsB at hv
    simp only [Bool.and_eq_true, decide_eq_true_eq] at hv
    exact hv.1
  have HH := Lib.hid (And.intro hv (And.intro hfb hs'))
  have HS := Lib.hid (fun w' (hb : Below w.heap.size w w') => h.below hb (Nat.le_refl _))
  clear hv h hs hs' hfb
  go_enter Try.func23, Try.ntmps23
  go_wp2_with (go_at_call 66; refine VL.out.mono ?_; rintro e w2 ⟨rfl, hb2⟩)
  have FB := Lib.hid hb2; clear hb2
  go_loopw [4, 5] (fun v i wr => ∃ k : Nat, k ≤ es.length ∧ i = .int .i64 k ∧ OwnR rowSectorSpec 84 8 wr w2.heap.size v ((es.take k).map specOf) ∧ Hid ((es.take k).all wholeB = true) ∧ Below w2.heap.size w2 wr) (fun _ i _ => es.length - (intOf i).toNat)
  case atStart => exact ⟨0, Nat.zero_le _, rfl, OwnR.empty _ _ (Nat.le_refl _), by unfold Hid; rfl, (Below.refl _ _).alloc (Nat.le_refl _) _⟩
  case round =>
    obtain ⟨k, hk, rfl, hown, hA, hb⟩ := hrel
    have hbw := FB.out.trans (hb.mono FB.out.size)
    by_cases hlt : k < es.length
    · obtain ⟨e, hx⟩ : ∃ e, es[k]? = some e := ⟨es[k], by simp [hlt]⟩
      obtain ⟨b, off, rfl, hbl, hc⟩ := (HS.out _ hbw).at rowFound_len hx
      have c5 : wr.cell? ⟨b, off + k * 8 + 5, none⟩ = some (.int .i64 e.f5) := hc 5 _ rfl
      have hfe := HH.out.2.1 e (List.mem_of_getElem? hx)
      have HWN := Lib.hid (whole_no hfe)
      have LSP := Lib.hid (l09Spec_any e b (off + k * 8) wr (HH.out.2.2 e (List.mem_of_getElem? hx)) hc)
      have HB := Lib.hid (And.intro hb hbw); clear hb hbw
      have HX := Lib.hid (And.intro hc (And.intro hx hfe)); clear hc hx hfe
      by_cases h2 : e.f5 = 2
      · have b2 : (e.f5 == 2) = true := by simp [h2]
        have HC := Lib.hid (show specsC es = 10 by
          unfold specsC
          rw [if_pos HH.out.1, if_neg]
          rw [List.all_eq_true]
          intro h
          have := h e (List.mem_of_getElem? HX.out.2.1)
          rw [HWN.out, b2] at this
          simp at this)
        have HV := Lib.hid (show specsV es = [] by unfold specsV; rw [HC.out]; rfl)
        clear h2
        go_wp2
        go_ret2
        rw [HC.out, HV.out]
        exact ⟨none, 0, rfl, .inl rfl, HB.out.2⟩
      · have b2 : (e.f5 == 2) = false := by simp [h2]
        by_cases h4 : e.f5 = 4
        · have b4 : (e.f5 == 4) = true := by simp [h4]
          have HC := Lib.hid (show specsC es = 10 by
            unfold specsC
            rw [if_pos HH.out.1, if_neg]
            rw [List.all_eq_true]
            intro h
            have := h e (List.mem_of_getElem? HX.out.2.1)
            rw [HWN.out, b4] at this
            simp at this)
          have HV := Lib.hid (show specsV es = [] by unfold specsV; rw [HC.out]; rfl)
          clear h2 h4
          go_wp2
          go_ret2
          rw [HC.out, HV.out]
          exact ⟨none, 0, rfl, .inl rfl, HB.out.2⟩
        · have b4 : (e.f5 == 4) = false := by simp [h4]
          have HA := Lib.hid (show (es.take (k + 1)).all wholeB = true by
            rw [List.take_add_one, HX.out.2.1, List.all_append, hA.out]
            simp [HWN.out, b2, b4])
          have HM := Lib.hid (show (es.take (k + 1)).map specOf = (es.take k).map specOf ++ [specOf e] by rw [List.take_add_one, HX.out.2.1]; simp)
          have hll : ((es.take k).map specOf).length < 1073741824 := by rw [List.length_map]; have := List.length_take_le k es; omega
          generalize (es.take k).map specOf = l at *
          have hzb := HB.out.1.size
          obtain ⟨q, hq⟩ : ∃ q, (e.f5 == 3) = q := ⟨_, rfl⟩
          rw [hq] at LSP
          have HROW := Lib.hid (show rowSectorSpec (specOf e) = [.int .i64 e.f0, .int .i64 e.f1, .int .i64 e.f2, .int .i64 e.f3, .string e.f4, .bool e.f6, .bool false, .bool q] by rw [← hq]; rfl)
          clear h2 h4
          go_wp2_with fail
          refine LSP.out.mono ?_
          rintro e_ w3 ⟨rfl, hb3⟩
          have hown3 := hown.below hb3
          have hz3 := hb3.size
          go_wp2_with (at_builtin; refine wpList_appendR 27 84 (.agg zeroSectorSpec.toArray) 56 Try.underlying27 infoSectorSpec rfl (by omega) (by omega) rfl _ _ rfl rfl (hown3.alloc _) (specOf e) rfl (by rw [HROW.out]; simp [Value.oneCell']) ⟨w3.heap.size, 0, none⟩ 1 rfl (by rw [HROW.out]; exact World.news_of_block (cs := #[.int .i64 e.f0, .int .i64 e.f1, .int .i64 e.f2, .int .i64 e.f3, .string e.f4, .bool e.f6, .bool false, .bool q]) (t := 84) (fr := (0, 0)) (heap_alloc_new w3 _)) hll (by simp; omega) ?_; intro g cap w4 hown4 hgr hb4)
          clear hgr
          go_roundw
          case rel => exact ⟨k + 1, by omega, by go_num, by rw [HM.out]; simpa using hown4, by unfold Hid; exact HA.out, HB.out.1.trans ((hb3.mono hzb).trans (((Below.refl _ _).alloc (by omega) _).trans hb4))⟩
          case measure => simp [intOf]; omega
    · obtain rfl : k = es.length := by omega
      rw [List.take_length] at hown
      have hAA := hA.out
      rw [List.take_length] at hAA
      have HA := Lib.hid hAA; clear hAA
      obtain ⟨a1, c1, rfl, hs1⟩ := hown.slSI
      rw [List.length_map]
      by_cases hl : es.length ≤ 8
      · have hl2 : ¬ (8 : Int) < es.length := by omega
        have HC := Lib.hid (show specsC es = 0 by unfold specsC; rw [if_pos HH.out.1, if_pos HA.out, if_pos hl])
        have HV := Lib.hid (show specsV es = es.map specOf by unfold specsV; rw [HC.out]; rfl)
        clear hl
        go_wp2
        go_ret2
        rw [HC.out, HV.out]
        exact ⟨a1, c1, by rw [List.length_map]; rfl, hs1.mono FB.out.size (Nat.le_refl _), hbw⟩
      · have hl2 : (8 : Int) < es.length := by omega
        have HC := Lib.hid (show specsC es = 5 by unfold specsC; rw [if_pos HH.out.1, if_pos HA.out, if_neg hl])
        have HV := Lib.hid (show specsV es = [] by unfold specsV; rw [HC.out]; rfl)
        clear hl
        go_wp2
        go_ret2
        rw [HC.out, HV.out]
        exact ⟨none, 0, rfl, .inl rfl, hbw⟩
end Go.Proofs.Ytdpnpmfhnfecaaa
