/- impl.AlignRevolutions, spec.AlignRevolutions -/
import Derived.Test.YtlaejcbcfcomaaaBestShift2
import Derived.Test.YtlaejcbcfcomaaaOwnR
import Derived.Test.YtlaejcbcfcomaaaSpecSlice
import Derived.Test.YtlaejcbcfcomaaaArcOf
import Derived.Deep.RegionHeld3
import Derived.BigRegion
import Derived.IntWalk
namespace Go.Proofs.Ytlaejcbcfcomaaa
open Go.RowKit
set_option linter.unusedVariables false
set_option linter.unusedSimpArgs false
set_option maxRecDepth 20000
theorem rot_arc (s : ByteArray) (k : Nat) (hk : k < s.size) : arcS s k s.size = rotS s k := by
  rw [arc_eq]
  apply ByteArray.ext
  apply Array.toList_inj.1
  have hl : s.data.toList.length = s.size := by simp
  have h1 : (rotS s k).data.toList = s.data.toList.drop k ++ s.data.toList.take k := by
    unfold rotS
    rw [ByteArray.data_append, Array.toList_append, ByteArray.data_extract, ByteArray.data_extract, Array.toList_extract, Array.toList_extract, List.extract_eq_take_drop, List.extract_eq_take_drop, List.take_of_length_le (by simp)]
    simp
  rw [h1]
  show arcL s k s.size = _
  unfold arcL
  rw [List.drop_append_of_le_length (by omega), List.take_append, List.take_of_length_le (by simp)]
  congr 1
  rw [List.length_drop, hl]
  congr 1
  omega
def first0 (xs : List StringV) : ByteArray := ((xs[0]?).map (·.f0)).getD ⟨#[]⟩
def alOne (xs : List StringV) (n : Nat) (e : StringV) : StringV := ⟨rotS e.f0 (rotK (bsRun (first0 xs) e.f0 n).1 (len0 xs))⟩
def alignV (xs : List StringV) (a : Int) : List StringV := if shCode xs a = 0 then xs.map (alOne xs a.toNat) else []
theorem shCode_zero {xs : List StringV} {a : Int} (h : shCode xs a = 0) : revOk xs = true ∧ inB 0 40 a = true := by
  unfold shCode at h
  by_cases h1 : revOk xs = true
  · rw [if_pos h1] at h
    by_cases h2 : inB 0 40 a = true
    · exact ⟨h1, h2⟩
    · rw [if_neg h2] at h; omega
  · rw [if_neg h1] at h; omega
theorem alignV_len (xs : List StringV) (a : Int) (h : xs.length ≤ 1048576) : (alignV xs a).length ≤ 1048576 := by
  unfold alignV
  split <;> simp [h]
/-- What each revolution is known to be. -/
structure RevAll (xs : List StringV) (s0 : ByteArray) : Prop where
  zero : xs[0]? = some ⟨s0⟩
  len : len0 xs = s0.size
  fst : first0 xs = s0
  cells : ∀ e ∈ xs, validCells e.f0 = true ∧ e.f0.size = s0.size
theorem revAll_of {xs : List StringV} (h : revOk xs = true) : ∃ s0, RevAll xs s0 := by
  unfold revOk at h
  simp only [Bool.and_eq_true, inB_iff] at h
  obtain ⟨⟨h1, h2⟩, h3, h4⟩ := h
  unfold allCells at h3
  unfold allLen at h4
  simp only [List.all_eq_true, decide_eq_true_eq] at h3 h4
  have h0 : 0 < xs.length := by omega
  have hx : xs[0]? = some xs[0] := by simp [h0]
  have hl : len0 xs = (xs[0]).f0.size := by unfold len0; rw [hx]; rfl
  exact ⟨(xs[0]).f0, ⟨hx, hl, by unfold first0; rw [hx]; rfl, fun e he => ⟨h3 e he, by rw [h4 e he, hl]⟩⟩⟩
theorem map_take_snoc {α β : Type} {f : α → β} {xs : List α} {k : Nat} {x : α} (h : xs[k]? = some x) : (xs.take (k + 1)).map f = (xs.take k).map f ++ [f x] := by
  rw [List.take_add_one, h]; simp
set_option maxHeartbeats 4000000 in
theorem alignRevolutions_g (a : Option Addr) (c : Nat) (xs : List StringV) (n : Int) (hm : xs.length ≤ 1048576) (hs : ∀ e ∈ xs, e.f0.size ≤ 1048576) (w : World) (h : SlS rowString w a xs) :
    Calls Try.prog 26 #[.slice a xs.length c, .int .i64 n] w (RecRes2 rowString 9 (alignV xs n) (shCode xs n) w) := by
  have SC := Lib.hid (shiftCode_any a xs c n w hm (fun e he => by have := hs e he; unfold maxLen; omega) h)
  unfold alignV
  by_cases hz : shCode xs n = 0
  case neg =>
    rw [if_neg hz]
    obtain ⟨q, hq⟩ : ∃ q, shCode xs n = q := ⟨_, rfl⟩
    rw [hq] at SC hz ⊢
    have hne : (q != 0) = true := by simp [hz]
    clear hq hz h hs
    go_enter Try.func26, Try.ntmps26
    go_wp2_with (go_at_call 68; refine SC.out.mono ?_; rintro e w1 ⟨rfl, hb1⟩)
    go_ret2
    exact ⟨none, 0, rfl, .inl rfl, hb1⟩
  rw [if_pos hz, hz]
  obtain ⟨hr, hi⟩ := shCode_zero hz
  rw [hz] at SC
  obtain ⟨i0, i1⟩ := inB_iff.1 hi
  obtain ⟨N, rfl⟩ : ∃ N : Nat, n = (N : Int) := ⟨n.toNat, by omega⟩
  rw [Int.toNat_natCast]
  obtain ⟨s0, RA⟩ := revAll_of hr
  have hv0 := RA.cells _ (List.mem_of_getElem? RA.zero)
  obtain ⟨z0, z1⟩ := validCells_bd hv0.1
  have hN : N ≤ 40 := by omega
  have hl5 : xs.length ≤ 5 := by
    unfold revOk at hr
    simp only [Bool.and_eq_true, inB_iff] at hr
    omega
  have RR := Lib.hid RA; clear RA hv0 hr hz hs hi
  dsimp only at z0 z1
  have HS := Lib.hid h; clear h
  go_enter Try.func26, Try.ntmps26
  go_wp2_with (go_at_call 68; refine SC.out.mono ?_; rintro e w1 ⟨rfl, hb1⟩)
  have HB1 := Lib.hid hb1; clear hb1
  go_loopw [7, 9, 10, 11, 12, 13, 22] (fun v _ _ _ _ _ i wr => ∃ k : Nat, k ≤ xs.length ∧ i = .int .i64 k ∧ OwnR rowString 9 1 wr w1.heap.size v ((xs.take k).map (alOne xs N)) ∧ Below w1.heap.size w1 wr) (fun _ _ _ _ _ _ i _ => xs.length - (intOf i).toNat)
  case atStart => exact ⟨0, Nat.zero_le _, rfl, OwnR.nil _ _, Below.refl _ _⟩
  case round =>
    obtain ⟨k, hk, rfl, hown, hb⟩ := hrel
    have hbw := HB1.out.trans (hb.mono HB1.out.size)
    by_cases hlt : k < xs.length
    · obtain ⟨⟨s⟩, hx⟩ : ∃ e, xs[k]? = some e := ⟨xs[k], by simp [hlt]⟩
      have hsl := HS.out.below hbw (Nat.le_refl _)
      obtain ⟨b, off, rfl, hbl, hc⟩ := hsl.at rowString_len hx
      have c0 : wr.cell? ⟨b, off + k * 1, none⟩ = some (.string s) := hc 0 _ rfl
      rw [Nat.mul_one] at c0
      obtain ⟨b', off', eq', _, hc'⟩ := hsl.at rowString_len RR.out.zero
      cases eq'
      have d0 : wr.cell? ⟨b, off, none⟩ = some (.string s0) := by have := hc' 0 _ rfl; simpa using this
      obtain ⟨hvs, hss⟩ := RR.out.cells _ (List.mem_of_getElem? hx)
      dsimp only at hvs hss
      have hsm : s.size ≤ maxLen := by unfold maxLen; omega
      have BS := Lib.hid (fun w => implBestShift_any s0 s N w hvs hsm hss hN)
      obtain ⟨y, hy⟩ : ∃ y, bsRun s0 s N = y := ⟨_, rfl⟩
      rw [hy] at BS
      obtain ⟨y1, y2⟩ := y
      dsimp only at BS
      have RC := Lib.hid (fun w => rotateCells_yes s y1 w hsm hvs)
      obtain ⟨r, hrr⟩ : ∃ r, rotS s (rotK y1 s.size) = r := ⟨_, rfl⟩
      rw [hrr] at RC
      have HV := Lib.hid (show (xs.take (k + 1)).map (alOne xs N) = (xs.take k).map (alOne xs N) ++ [⟨r⟩] by
        rw [map_take_snoc hx]
        congr 2
        unfold alOne
        rw [RR.out.fst, RR.out.len]
        dsimp only
        rw [hy, ← hss, hrr])
      have hll : ((xs.take k).map (alOne xs N)).length < 1073741824 := by rw [List.length_map]; have := List.length_take_le k xs; omega
      generalize (xs.take k).map (alOne xs N) = l at *
      have HB := Lib.hid (And.intro hb hbw); clear hb hbw hc hc' hx hsl hy hrr hvs hbl
      have HSS := Lib.hid hss; have HSM := Lib.hid hsm; clear hss hsm
      have hzb := HB.out.1.size
      go_wp2_with fail
      refine (BS.out _).mono ?_
      rintro e w2 ⟨rfl, hb2⟩
      clear c0 d0
      have hown2 := hown.below hb2
      go_wp2_with fail
      refine (RC.out _).mono ?_
      rintro e w3 ⟨rfl, hb3⟩
      have hown3 := hown2.below hb3
      have hz2 := hb2.size
      have hz3 := hb3.size
      go_wp2_with (at_builtin; refine wpList_appendR 22 9 (.string ByteArray.empty) 16 Try.underlying22 infoString rfl (by omega) (by omega) rfl _ _ rfl rfl (hown3.alloc _) ⟨r⟩ rfl (by simp [rowString, Value.oneCell']) ⟨w3.heap.size, 0, none⟩ 1 rfl (World.news_of_block (cs := #[.string r]) (t := 9) (fr := (0, 0)) (heap_alloc_new w3 _)) hll (by simp; omega) ?_; intro g cap w4 hown4 hgr hb4)
      clear hgr
      go_roundw
      case rel => exact ⟨k + 1, by omega, by go_num, by rw [HV.out]; simpa using hown4, HB.out.1.trans ((hb2.mono hzb).trans ((hb3.mono (by omega)).trans (((Below.refl _ _).alloc (by omega) _).trans hb4)))⟩
      case measure => simp [intOf]; omega
    · obtain rfl : k = xs.length := by omega
      rw [List.take_length] at hown
      obtain ⟨a1, c1, rfl, hs1⟩ := hown.slSI
      go_wp2
      go_ret2
      exact ⟨a1, c1, rfl, hs1.mono HB1.out.size (Nat.le_refl _), hbw⟩
set_option maxHeartbeats 8000000 in
theorem specAlignRevolutions_g (a : Option Addr) (c : Nat) (xs : List StringV) (n : Int) (hm : xs.length ≤ 1048576) (hs : ∀ e ∈ xs, e.f0.size ≤ 1048576) (w : World) (h : SlS rowString w a xs) :
    Calls Try.prog 25 #[.slice a xs.length c, .int .i64 n] w (RecRes2 rowString 9 (alignV xs n) (shCode xs n) w) := by
  have SC := Lib.hid (l10Ok_any a xs c w hm (fun e he => by have := hs e he; unfold maxLen; omega) h)
  have LI := Lib.hid (fun w => l00In_any n 0 40 w)
  unfold alignV
  by_cases hr : revOk xs = true
  case neg =>
    have hr0 : revOk xs = false := by simpa using hr
    have HC := Lib.hid (show shCode xs n = 1 by unfold shCode; rw [if_neg hr])
    rw [HC.out, if_neg (by omega)]
    rw [hr0] at SC
    clear hr hr0 h hs
    go_enter Try.func25, Try.ntmps25
    go_wp2_with (go_at_call 59; refine SC.out.mono ?_; rintro e w1 ⟨rfl, hb1⟩)
    go_ret2
    exact ⟨none, 0, rfl, .inl rfl, hb1⟩
  rw [hr] at SC
  by_cases hi : inB 0 40 n = true
  case neg =>
    have hi0 : inB 0 40 n = false := by simpa using hi
    have HC := Lib.hid (show shCode xs n = 2 by unfold shCode; rw [if_pos hr, if_neg hi])
    rw [HC.out, if_neg (by omega)]
    rw [hi0] at LI
    clear hr hi hi0 h hs
    go_enter Try.func25, Try.ntmps25
    go_wp2_with (first | (go_at_call 59; refine SC.out.mono ?_; rintro e w1 ⟨rfl, hb1⟩) | (go_at_call 65; refine (LI.out _).mono ?_; rintro e w2 ⟨rfl, rfl⟩))
    go_ret2
    exact ⟨none, 0, rfl, .inl rfl, hb1⟩
  have hz : shCode xs n = 0 := by unfold shCode; rw [if_pos hr, if_pos hi]
  rw [if_pos hz, hz]
  rw [hi] at LI
  obtain ⟨i0, i1⟩ := inB_iff.1 hi
  obtain ⟨N, rfl⟩ : ∃ N : Nat, n = (N : Int) := ⟨n.toNat, by omega⟩
  rw [Int.toNat_natCast]
  obtain ⟨s0, RA⟩ := revAll_of hr
  have hv0 := RA.cells _ (List.mem_of_getElem? RA.zero)
  obtain ⟨z0, z1⟩ := validCells_bd hv0.1
  have hN : N ≤ 40 := by omega
  have hl5 : xs.length ≤ 5 := by
    unfold revOk at hr
    simp only [Bool.and_eq_true, inB_iff] at hr
    omega
  have h01 : 0 < xs.length := (List.getElem?_eq_some_iff.1 RA.zero).1
  have RR := Lib.hid RA; clear RA hv0 hr hz hs hi i0 i1
  dsimp only at z0 z1
  obtain ⟨b, off, rfl, hbl, hc0⟩ := h.at rowString_len RR.out.zero
  have HS := Lib.hid (And.intro h (And.intro hc0 hbl)); clear h hc0
  go_enter Try.func25, Try.ntmps25
  go_wp2_with fail
  refine SC.out.mono ?_
  rintro e w1 ⟨rfl, hb1⟩
  have d1 : w1.cell? ⟨b, off, none⟩ = some (.string s0) := by rw [hb1.cell (p := ⟨b, off, none⟩) hbl]; have := HS.out.2.1 0 _ rfl; simpa using this
  have hw1 : b < w1.heap.size := Nat.lt_of_lt_of_le hbl hb1.size
  have HB1 := Lib.hid hb1
  clear hb1
  go_wp2_with (go_at_call 65; refine (LI.out _).mono ?_; rintro e w2 ⟨rfl, rfl⟩)
  have D1 := Lib.hid d1; clear d1
  go_loopw [6, 8, 9, 10] (fun v i _ _ wr => ∃ k : Nat, k ≤ xs.length ∧ i = .int .i64 k ∧ OwnR rowString 9 1 wr w1.heap.size v ((xs.take k).map (alOne xs N)) ∧ Below w1.heap.size w1 wr) (fun _ i _ _ _ => xs.length - (intOf i).toNat)
  case atStart => exact ⟨0, Nat.zero_le _, rfl, OwnR.empty _ _ (Nat.le_refl _), (Below.refl _ _).alloc (Nat.le_refl _) _⟩
  case round =>
    obtain ⟨k, hk, rfl, hown, hb⟩ := hrel
    by_cases hlt : k < xs.length
    · obtain ⟨⟨s⟩, hx⟩ : ∃ e, xs[k]? = some e := ⟨xs[k], by simp [hlt]⟩
      obtain ⟨b', off', ea, _, hc⟩ := HS.out.1.at rowString_len hx
      cases ea
      have c1 : w1.cell? ⟨b, off + k, none⟩ = some (.string s) := by rw [HB1.out.cell (p := ⟨b, off + k, none⟩) hbl]; have := hc 0 _ rfl; simpa using this
      have KS := Lib.hid (fun w' (hbw : Below w1.heap.size w1 w') => (show w'.cell? ⟨b, off, none⟩ = some (.string s0) ∧ w'.cell? ⟨b, off + k, none⟩ = some (.string s) from ⟨by rw [hbw.cell (p := ⟨b, off, none⟩) hw1]; exact D1.out, by rw [hbw.cell (p := ⟨b, off + k, none⟩) hw1]; exact c1⟩))
      clear c1
      have hks : wr.cell? ⟨b, off, none⟩ = some (.string s0) ∧ wr.cell? ⟨b, off + k, none⟩ = some (.string s) := KS.out _ hb
      obtain ⟨hvs, hss⟩ := RR.out.cells _ (List.mem_of_getElem? hx)
      dsimp only at hvs hss
      have LS := Lib.hid (fun w => l10Shift_any s0 s N w z0 z1 hss hN)
      have hbd := bsRun_bd s0 s N
      obtain ⟨y, hy⟩ : ∃ y, bsRun s0 s N = y := ⟨_, rfl⟩
      rw [hy] at LS hbd
      obtain ⟨y1, y2⟩ := y
      dsimp only at LS hbd
      obtain ⟨r1, r2⟩ := rot_bd y1 s0.size z0
      have hre := rotK_eq y1 s0.size z0
      have hrl := rotK_lt y1 s0.size z0
      have LL := Lib.hid (fun w => l07Slice_any s (rotK y1 s0.size) s0.size w (by omega) (by omega) (by omega))
      have hrr := rot_arc s (rotK y1 s0.size) (by omega)
      rw [hss] at hrr
      obtain ⟨q, hq⟩ : ∃ q, rotK y1 s0.size = q := ⟨_, rfl⟩
      rw [hq] at hre hrl LL hrr
      rw [hrr] at LL
      obtain ⟨r, hrs⟩ : ∃ r, rotS s q = r := ⟨_, rfl⟩
      rw [hrs] at LL
      have HV := Lib.hid (show (xs.take (k + 1)).map (alOne xs N) = (xs.take k).map (alOne xs N) ++ [⟨r⟩] by
        rw [map_take_snoc hx]
        congr 2
        unfold alOne
        rw [RR.out.fst, RR.out.len]
        dsimp only
        rw [hy]
        dsimp only
        rw [hq, hrs])
      have hll : ((xs.take k).map (alOne xs N)).length < 1073741824 := by rw [List.length_map]; have := List.length_take_le k xs; omega
      generalize (xs.take k).map (alOne xs N) = l at *
      have HSS := Lib.hid (And.intro hss (And.intro hx (And.intro hc (And.intro hy (And.intro hrr (And.intro hrs hq)))))); clear hss hx hc hy hrr hrs hq hvs
      have e1 : (k : Int) < xs.length := by omega
      have HOWN := Lib.hid hown.drew; clear hown
      have HC := Lib.hid (show Below w1.heap.size w1 wr.drew from hb.drew)
      have HB := Lib.hid hb; clear hb
      go_wp2
      go_region_held3 (fun w' => w'.cell? ⟨b, off, none⟩ = some (.string s0) ∧ w'.cell? ⟨b, off + k, none⟩ = some (.string s))
        (first | (with_reducible exact KS.out _ HC.out) | go_keep)
        ((go_at_call 66; ((with_reducible refine (LS.out _).mono ?_); rintro e w2 ⟨rfl, hb2⟩; replace HOWN := Lib.hid (HOWN.out.below hb2); replace HC := Lib.hid (HC.out.trans (hb2.mono HC.out.size)))))
      all_goals
        have hnz1 : ¬ (s0.size : Int) = 0 := by omega
        have hnz2 : ¬ s0.size = 0 := by omega
        have hnz3 : (s0.size == 0) = false := beq_eq_false_iff_ne.2 (by omega)
        have hnz : ((s0.size : Int) == 0) = false := beq_eq_false_iff_ne.2 (by omega)
        have hq0 : IntKind.i64.wrap (q : Int) = (q : Int) := wrap_small _ (by omega) (by omega)
        have hwt : IntKind.i64.wrap (y1.tmod (s0.size : Int)) = y1.tmod (s0.size : Int) := IntWalk.i64_in _ (by clear hq0; omega)
        have hwr : IntKind.i64.wrap (y1.tmod (s0.size : Int) + (s0.size : Int)) = y1.tmod (s0.size : Int) + (s0.size : Int) := wrap_small _ (by clear hq0 hwt; omega) (by clear hq0 hwt; omega)
        have htm : (y1.tmod (s0.size : Int) + (s0.size : Int)).tmod (s0.size : Int) = (q : Int) := by
          clear hwr hwt hq0
          rw [Int.tmod_eq_emod_of_nonneg (by omega)]; exact hre
        clear hks
        have hks2 : w2.cell? ⟨b, off, none⟩ = some (.string s0) ∧ w2.cell? ⟨b, off + k, none⟩ = some (.string s) := KS.out _ HC.out
        replace HC := Lib.hid (show Below w1.heap.size w1 w2.drew from HC.out.drew)
        replace HOWN := Lib.hid HOWN.out.drew
        go_wp2
        go_region_held3 (fun w' => w'.cell? ⟨b, off, none⟩ = some (.string s0) ∧ w'.cell? ⟨b, off + k, none⟩ = some (.string s))
          (first | (with_reducible exact KS.out _ HC.out) | go_keep)
          (first
            | (go_at_call 67; ((with_reducible refine (LL.out _).mono ?_); rintro e w3 ⟨rfl, hb3⟩; replace HOWN := Lib.hid (HOWN.out.below hb3); replace HC := Lib.hid (HC.out.trans (hb3.mono HC.out.size))))
            | (refine step_appendR 22 9 (.string ByteArray.empty) 16 Try.underlying22 infoString (by rfl) (by omega) (by omega) (by rfl) _ _ (by rfl) (by rfl) (HOWN.out.alloc _) ⟨r⟩ rfl (by simp [rowString, Value.oneCell']) ⟨w3.heap.size, 0, none⟩ 1 (by rfl) (World.news_of_block (cs := #[.string r]) (t := 9) (fr := (0, 0)) (heap_alloc_new w3 _)) hll (by have := HC.out.size; simp; omega) ?_; intro g cap w4 hown4 hgr hb4; replace HC := Lib.hid ((HC.out.alloc HC.out.size _).trans hb4); clear hgr)
            | fail)
        all_goals
          go_wp2
          go_roundw
          case rel => exact ⟨k + 1, by omega, by go_num, by rw [HV.out]; simpa using hown4, HC.out⟩
          case measure => simp [intOf]; omega
    · obtain rfl : k = xs.length := by omega
      rw [List.take_length] at hown
      obtain ⟨a1, c1, rfl, hs1⟩ := hown.slSI
      go_wp2
      go_ret2
      exact ⟨a1, c1, rfl, hs1.mono HB1.out.size (Nat.le_refl _), HB1.out.trans (hb.mono HB1.out.size)⟩
end Go.Proofs.Ytlaejcbcfcomaaa
