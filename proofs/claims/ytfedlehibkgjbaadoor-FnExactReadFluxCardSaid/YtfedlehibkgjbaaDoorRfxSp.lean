/- spec.ReadFlux -/
import Derived.Test.YtfedlehibkgjbaaDoorRfxIm
import Derived.Test.YtfedlehibkgjbaaDoorSpecTimes
namespace Go.Proofs.YtfedlehibkgjbaaDoor
open Go.RowKit
set_option linter.unusedVariables false
set_option linter.unusedSimpArgs false
set_option maxRecDepth 20000
/-- What spec.ReadFlux returns. -/
def RfResS (c f : Int) (zs : List Int) (ok : Bool) (w : World) (e : Ending) (w' : World) : Prop :=
  ∃ a cap, e = .returned (.tuple #[.agg #[.int .i64 c, .int .i64 f, .slice a zs.length cap], .bool ok]) ∧ SlO w' w.heap.size a zs ∧ Below w.heap.size w w'
theorem spl_word (s : ByteArray) (b k : Nat) : ∀ x ∈ (spl s b k).1, x.f0.size ≤ s.size := by
  induction k with
  | zero => rw [spl]; simp
  | succ k ih =>
    rw [spl]
    split
    · intro x hx
      rcases List.mem_append.1 hx with h | h
      · exact ih x h
      · rw [List.mem_singleton] at h
        subst h
        show (s.extract _ _).size ≤ _
        rw [ByteArray.size_extract]
        omega
    · exact ih
theorem splV_word (s : ByteArray) (b : Nat) : ∀ x ∈ splV s b, x.f0.size ≤ s.size := by
  intro x hx
  rcases List.mem_append.1 hx with h | h
  · exact spl_word s b _ x h
  · rw [List.mem_singleton] at h
    subst h
    show (s.extract _ _).size ≤ _
    rw [ByteArray.size_extract]
    omega
theorem splV_len (s : ByteArray) (b : Nat) : (splV s b).length ≤ s.size + 1 := by
  unfold splV
  have := (spl_bd s b s.size).2
  simp; omega
theorem rfXs_at {s : ByteArray} {k : Nat} {x : StringV} (h : (splV s 32)[k]? = some x) : (rfXs s)[k]? = some (numW x.f0) := by
  unfold rfXs
  rw [List.getElem?_map, h]; rfl
theorem rfXs_len (s : ByteArray) : (rfXs s).length = (splV s 32).length := by unfold rfXs; rw [List.length_map]
set_option maxHeartbeats 8000000 in
theorem specReadFlux_any (s : ByteArray) (hs : s.size ≤ 1048576) (w : World) :
    Calls Tryd.prog 5 #[.string s] w (RfResS (rfVc s) (rfVf s) (rfVz s) (rfOk s) w) := by
  have SP := Lib.hid (fun w' => split_any s 32 (by omega) hs w')
  unfold SplRes at SP
  have ZN := Lib.hid (ZeroAt.new w w.heap.size rfl)
  unfold RfResS
  have FA := Lib.hid (show Below w.heap.size w (w.alloc (.cells #[.int .i64 0, .int .i64 0, .slice none 0 0] 24)) from (Below.refl _ _).alloc (Nat.le_refl _) _)
  have hz0 : w.heap.size < (w.alloc (.cells #[.int .i64 0, .int .i64 0, .slice none 0 0] 24)).heap.size := by simp
  by_cases hbig : 32016 < s.size
  case pos =>
    have HV := Lib.hid (show rfOk s = false by
      cases h : rfOk s with
      | false => rfl
      | true => have := rf_size h; omega)
    have hbig' : (32016 : Int) < (s.size : Int) := by omega
    go_enter Tryd.func5, Tryd.ntmps5
    go_upto_region 1 with (fail)
    generalize (w.alloc (.cells #[.int .i64 0, .int .i64 0, .slice none 0 0] 24)) = W0 at *
    obtain ⟨z0, z1, z2, y0, y1, y2⟩ := ZN.out.facts
    go_wp2
    obtain ⟨e1, e2, e3⟩ := rfV_no HV.out
    refine bodyPost_ret (v := .tuple #[.agg #[.int .i64 0, .int .i64 0, .slice none 0 0], .bool false]) (by simp [results, Tryd.results5, go_sem, z0, z1, z2]) rfl ⟨none, 0, by rw [e1, e2, e3, HV.out]; rfl, by rw [e3]; exact .inl rfl, below_set3 FA.out (Nat.le_refl _) _ _ _⟩
  case neg =>
    have hbig' : ¬ (32016 : Int) < (s.size : Int) := by omega
    obtain ⟨es, hes⟩ : ∃ es, splV s 32 = es := ⟨_, rfl⟩
    have HL := Lib.hid (rfXs_len s)
    have HA := Lib.hid (fun k x => rfXs_at (s := s) (k := k) (x := x))
    have HW := Lib.hid (splV_word s 32)
    have hel := splV_len s 32
    rw [hes] at SP HL HA HW hel
    clear hes
    by_cases h3 : es.length < 3
    case pos =>
      have HV := Lib.hid (show rfOk s = false by
        unfold rfOk
        rw [HL.out, decide_eq_false (by omega)]; rfl)
      have h3' : (es.length : Int) < 3 := by omega
      go_enter Tryd.func5, Tryd.ntmps5
      go_upto_region 1 with (fail)
      generalize (w.alloc (.cells #[.int .i64 0, .int .i64 0, .slice none 0 0] 24)) = W0 at *
      go_wp2_with fail
      refine (SP.out _).mono ?_
      rintro e w1 ⟨⟨v, rfl, hown⟩, hb1⟩
      obtain ⟨a, cp, rfl, hsi⟩ := hown.slSI
      have hZ1 := ZN.out.below hb1 hz0
      have FB := Lib.hid (FA.out.trans (hb1.mono FA.out.size))
      obtain ⟨z0, z1, z2, y0, y1, y2⟩ := hZ1.facts
      clear hb1 hZ1 hown hsi
      go_wp2
      obtain ⟨e1, e2, e3⟩ := rfV_no HV.out
      refine bodyPost_ret (v := .tuple #[.agg #[.int .i64 0, .int .i64 0, .slice none 0 0], .bool false]) (by simp [results, Tryd.results5, go_sem, z0, z1, z2]) rfl ⟨none, 0, by rw [e1, e2, e3, HV.out]; rfl, by rw [e3]; exact .inl rfl, below_set3 FB.out (Nat.le_refl _) _ _ _⟩
    case neg =>
      have h3' : ¬ (es.length : Int) < 3 := by omega
      obtain ⟨x0, hx0⟩ : ∃ x, es[0]? = some x := ⟨es[0], List.getElem?_eq_getElem (by omega)⟩
      obtain ⟨x1, hx1⟩ : ∃ x, es[1]? = some x := ⟨es[1], List.getElem?_eq_getElem (by omega)⟩
      have HC := Lib.hid (show rfC (rfXs s) = numW x0.f0 by unfold rfC; rw [HA.out 0 x0 hx0]; rfl)
      have HF := Lib.hid (show rfF (rfXs s) = numW x1.f0 by unfold rfF; rw [HA.out 1 x1 hx1]; rfl)
      have N0 := Lib.hid (fun w' => l01Number_any x0.f0 (by have := HW.out x0 (List.mem_of_getElem? hx0); omega) w')
      have N1 := Lib.hid (fun w' => l01Number_any x1.f0 (by have := HW.out x1 (List.mem_of_getElem? hx1); omega) w')
      have NK := Lib.hid (fun (k : Nat) (x : StringV) (h : es[k]? = some x) w' => l01Number_any x.f0 (by have := HW.out x (List.mem_of_getElem? h); omega) w')
      go_enter Tryd.func5, Tryd.ntmps5
      go_upto_region 1 with (fail)
      generalize (w.alloc (.cells #[.int .i64 0, .int .i64 0, .slice none 0 0] 24)) = W0 at *
      go_wp2_with fail
      refine (SP.out _).mono ?_
      rintro e w1 ⟨⟨v, rfl, hown⟩, hb1⟩
      obtain ⟨a, cp, rfl, hsi⟩ := hown.slSI
      have HS := Lib.hid hsi.sl
      have hZ1 := Lib.hid (ZN.out.below hb1 hz0)
      have FB := Lib.hid (FA.out.trans (hb1.mono FA.out.size))
      have hw01 : w.heap.size < w1.heap.size := Nat.lt_of_lt_of_le hz0 hb1.size
      clear hb1 hown hsi ZN FA hz0 SP
      obtain ⟨b, off, rfl, hbl, hc0⟩ := HS.out.at rowString_len hx0
      obtain ⟨b', off', hbo, _, hc1⟩ := HS.out.at rowString_len hx1
      simp only [Option.some.injEq, Addr.mk.injEq, and_true] at hbo
      obtain ⟨rfl, rfl⟩ := hbo
      have c0 : w1.cell? ⟨b, off, none⟩ = some (.string x0.f0) := by simpa using hc0 0 _ rfl
      have c1 : w1.cell? ⟨b, off + 1, none⟩ = some (.string x1.f0) := by simpa using hc1 0 _ rfl
      have e0 : 0 < es.length := by omega
      have e1 : 1 < es.length := by omega
      have e0' : (0 : Int) < (es.length : Int) := by omega
      have e1' : (1 : Int) < (es.length : Int) := by omega
      have HX := Lib.hid (And.intro hx0 hx1)
      generalize numW x0.f0 = u0 at *
      generalize numW x1.f0 = u1 at *
      clear hc0 hc1 hx0 hx1 h3
      go_wp2
      go_region_held3 (fun w' => w'.cell? ⟨b, off, none⟩ = some (.string x0.f0) ∧ w'.cell? ⟨b, off + 1, none⟩ = some (.string x1.f0)) (go_keep)
        (first | (go_at_call 22; (with_reducible refine (N0.out _).mono ?_); rintro e w2 ⟨rfl, rfl⟩) | (go_at_call 22; (with_reducible refine (N1.out _).mono ?_); rintro e w3 ⟨rfl, rfl⟩) | fail)
      all_goals
        have BA := Lib.hid (show Below w1.heap.size w1 (w1.alloc (.cells #[.int .i64 u0, .int .i64 u1, .slice none 0 0] 24)).drew from ((Below.refl _ _).alloc (Nat.le_refl _) _).drew)
        have FC := Lib.hid (show FluxCell (w1.alloc (.cells #[.int .i64 u0, .int .i64 u1, .slice none 0 0] 24)).drew w1.heap.size u0 u1 (.slice none 0 0) from heap_alloc_new w1 _)
        generalize (w1.alloc (.cells #[.int .i64 u0, .int .i64 u1, .slice none 0 0] 24)).drew = W2 at *
        have WK := Lib.hid (fun wr (hb : Below w1.heap.size w1 wr) => HS.out.below hb (Nat.le_refl _))
        have ZK := Lib.hid (fun wr (hb : Below w1.heap.size w1 wr) => hZ1.out.below hb hw01)
        have FK := Lib.hid (fun wr (hb : Below w1.heap.size w1 wr) => FB.out.trans (hb.mono (Nat.le_of_lt hw01)))
        generalize w1.heap.size = p at *
        clear c0 c1 HS hZ1 FB N0 N1 HX e0 e1 e0' e1' h3'
        have e3 : 3 ≤ es.length := by omega
        have HXS := Lib.hid (show rfXs s = u0 :: u1 :: (rfXs s).drop 2 by
          have := rf_three (xs := rfXs s) (by rw [HL.out]; exact e3)
          rw [HC.out, HF.out] at this
          exact this)
        go_wp2
        go_loopw [6] (fun i wr => ∃ m : Nat, 2 ≤ m ∧ m ≤ es.length ∧ i = .int .i64 (m : Int) ∧ (∃ v, FluxCell wr p u0 u1 v ∧ OwnI wr (p + 1) v (((rfXs s).drop 2).take (m - 2))) ∧ Below p w1 wr) (fun i _ => es.length - (intOf i).toNat)
        case atStart => exact ⟨2, Nat.le_refl _, by omega, rfl, ⟨_, FC.out, OwnI.nil _ _⟩, BA.out⟩
        case round =>
          obtain ⟨m, hm2, hmN, rfl, ⟨v, hfc, hown⟩, hb⟩ := hrel
          by_cases hlt : m < es.length
          · obtain ⟨x, hx⟩ : ∃ x, es[m]? = some x := ⟨es[m], List.getElem?_eq_getElem (by omega)⟩
            obtain ⟨b1, off1, hbo, _, hcx⟩ := (WK.out wr hb).at rowString_len hx
            simp only [Option.some.injEq, Addr.mk.injEq, and_true] at hbo
            obtain ⟨rfl, rfl⟩ := hbo
            have cx : wr.cell? ⟨b, off + m, none⟩ = some (.string x.f0) := by simpa using hcx 0 _ rfl
            obtain ⟨z0, z1, z2, y0, y1, y2⟩ := hfc.facts
            have NX := Lib.hid (NK.out m x hx)
            have HG := Lib.hid (show ((rfXs s).drop 2).take (m + 1 - 2) = ((rfXs s).drop 2).take (m - 2) ++ [numW x.f0] by
              rw [show m + 1 - 2 = (m - 2) + 1 by omega, List.take_add_one, List.getElem?_drop, show 2 + (m - 2) = m by omega, HA.out _ _ hx]; rfl)
            have hll : (((rfXs s).drop 2).take (m - 2)).length < 1073741824 := by rw [List.length_take, List.length_drop, HL.out]; omega
            generalize ((rfXs s).drop 2).take (m - 2) = l at *
            generalize numW x.f0 = n at *
            have hsz : p + 1 ≤ wr.heap.size := hfc.lt
            have HK := Lib.hid (fun w5 (hb1 : Below (p + 1) (wr.alloc (.cells #[.int .i64 n] 2)).drew w5) => (show (w5.cell? ⟨p, 2, none⟩ = some v ∧ w5.frozen? ⟨p, 2, none⟩ = false) ∧ FluxCell w5 p u0 u1 v ∧ Below p w1 w5 from by
              have hb2 : Below (p + 1) wr w5 := (((Below.refl _ _).alloc hsz _).drew).trans hb1
              have hf2 := hfc.below hb2 (by omega)
              obtain ⟨_, _, q2, _, _, r2⟩ := hf2.facts
              exact ⟨⟨q2, r2⟩, hf2, hb.trans (hb2.mono (by omega))⟩))
            have z2a : (wr.alloc (.cells #[.int .i64 n] 2)).cell? ⟨p, 2, none⟩ = some v := by
              rw [World.cell?_of_block (Below.heap_alloc wr _ p (by omega))]; exact z2
            have z2b : (wr.alloc (.cells #[.int .i64 n] 2)).drew.cell? ⟨p, 2, none⟩ = some v := z2a
            have f1 : (m : Int) < (es.length : Int) := by omega
            have HB := Lib.hid (And.intro hb hfc)
            have HXX := Lib.hid hx
            have HLL := Lib.hid hll
            clear hb hfc hcx hx hll z0 z1 y0 y1
            go_wp2
            go_region_law
              (first
                | (go_simp; go_at_call 22; (with_reducible refine (NX.out _).mono ?_); rintro e w5 ⟨rfl, rfl⟩; go_wp2_with fail)
                | (refine step_appendI 22 Tryd.underlying22 (by rfl) _ _ (by rfl) (by rfl) ((hown.alloc _).drew) n ⟨wr.heap.size, 0, none⟩ 1 (by rfl) (World.news_of_block (cs := #[.int .i64 n]) (t := 2) (fr := (0, 0)) (heap_alloc_new wr _)) HLL.out (by simp; omega) ?_; intro g cap w6 hown1 hb1 hat; obtain ⟨⟨k1, k2⟩, k6⟩ := HK.out w6 hb1)
                | fail)
            all_goals
              obtain ⟨p1, p2⟩ := k6
              have hf5 := Lib.hid (p1.set2 (.slice (some ⟨g, 0, none⟩) (l.length + 1) cap))
              have ho5 := Lib.hid (hown1.setCell (q := ⟨p, 2, none⟩) (by simp) (.slice (some ⟨g, 0, none⟩) (l.length + 1) cap))
              have hb5 := Lib.hid (p2.setCell (p := ⟨p, 2, none⟩) (Nat.le_refl _) (.slice (some ⟨g, 0, none⟩) (l.length + 1) cap))
              clear k1 k2 hb1 hat p1 p2 hown1
              go_wp2
              go_roundw
              case rel => exact ⟨m + 1, by omega, by omega, by go_num, ⟨_, hf5.out, by rw [HG.out]; exact ho5.out⟩, hb5.out⟩
              case measure => simp [intOf]; omega
          · obtain rfl : m = es.length := by omega
            have HT := Lib.hid (show ((rfXs s).drop 2).take (es.length - 2) = (rfXs s).drop 2 from List.take_of_length_le (by rw [List.length_drop, HL.out]; omega))
            rw [HT.out] at hown
            have HQ := Lib.hid (show rfOk s = fluxOk u0 u1 ((rfXs s).drop 2) by
              unfold rfOk
              rw [HC.out, HF.out, HL.out, decide_eq_true e3, Bool.true_and])
            have hzl : ((rfXs s).drop 2).length ≤ 1048576 := by rw [List.length_drop, HL.out]; omega
            generalize hzz : (rfXs s).drop 2 = zs at *
            have HXY := Lib.hid (show rfXs s = u0 :: u1 :: zs from HXS.out)
            clear hzz
            obtain ⟨a2, cp2, rfl, hso⟩ := hown.slO
            have HSO := Lib.hid hso
            have hzr := Lib.hid (ZK.out wr hb)
            have FR := Lib.hid (FK.out wr hb)
            obtain ⟨q0, q1, q2, _, _, _⟩ := hfc.facts
            have OK := Lib.hid (l02Ok_any p u0 u1 a2 zs cp2 wr hzl ⟨q0, q1, q2⟩ hso.sl)
            have hpl := hfc.lt
            have HFC := Lib.hid hfc
            have hwr : w.heap.size ≤ p := Nat.le_of_lt hw01
            clear hb hfc hown hso q0 q1 q2 HXS HT hzl WK ZK FK FC BA
            go_wp2_with fail
            refine OK.out.mono ?_
            rintro e w7 ⟨rfl, hb7⟩
            have hZ7 := hzr.out.below hb7 (by omega)
            have hf7 := HFC.out.below hb7 hpl
            have hs7 := Lib.hid (HSO.out.below hb7 (Nat.le_refl _))
            have F7 := Lib.hid (FR.out.trans (hb7.mono (by omega)))
            obtain ⟨z0, z1, z2, y0, y1, y2⟩ := hZ7.facts
            obtain ⟨q0, q1, q2, _, _, _⟩ := hf7.facts
            clear hb7 hZ7 hf7 hzr HFC HSO FR OK
            obtain ⟨q, hq⟩ : ∃ q, fluxOk u0 u1 zs = q := ⟨_, rfl⟩
            rw [hq] at HQ ⊢
            clear hq
            cases q with
            | false =>
              go_wp2
              obtain ⟨e1, e2, e3⟩ := rfV_no HQ.out
              refine bodyPost_ret (v := .tuple #[.agg #[.int .i64 0, .int .i64 0, .slice none 0 0], .bool false]) (by simp [results, Tryd.results5, go_sem, z0, z1, z2]) rfl ⟨none, 0, by rw [e1, e2, e3, HQ.out]; rfl, by rw [e3]; exact .inl rfl, below_set3 F7.out (Nat.le_refl _) _ _ _⟩
            | true =>
              go_wp2
              obtain ⟨e1, e2, e3⟩ := rfV_yes HQ.out HXY.out
              refine bodyPost_ret (v := .tuple #[.agg #[.int .i64 u0, .int .i64 u1, .slice a2 zs.length cp2], .bool true]) (by simp [results, Tryd.results5, go_sem, z0, z1, z2]) rfl ⟨a2, cp2, by rw [e1, e2, e3, HQ.out], ?_, below_set3 F7.out (Nat.le_refl _) _ _ _⟩
              rw [e3]
              exact ((((hs7.out.setCell (q := ⟨w.heap.size, 0, none⟩) _ (by show w.heap.size < _; omega)).setCell (q := ⟨w.heap.size, 1, none⟩) _ (by show w.heap.size < _; omega)).setCell (q := ⟨w.heap.size, 2, none⟩) _ (by show w.heap.size < _; omega)).mono (by omega))
end Go.Proofs.YtfedlehibkgjbaaDoor
