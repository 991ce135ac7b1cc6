/- FnFlux: the law's walk. -/
import Derived.Test.YtfedlehibkgjbaaDoorPkFnFluxFlxVal
import Derived.Test.YtfedlehibkgjbaaDoorPkFnFluxFluxOfC
import Derived.Test.YtfedlehibkgjbaaDoorPkFnFluxSpecFluxOf
import Derived.Test.YtfedlehibkgjbaaDoorPkFnFluxDrawFlx
import Derived.Test.YtfedlehibkgjbaaDoorPkFnFluxData05
import Derived.Test.YtfedlehibkgjbaaDoorPkFnFluxRfxIm
import Derived.Test.YtfedlehibkgjbaaDoorPkFnFluxRotAny
import Derived.Test.YtfedlehibkgjbaaDoorPkFnFluxB
import Derived.Test.YtfedlehibkgjbaaDoorPkFnFluxSameFlux
import Derived.Test.YtfedlehibkgjbaaDoorPkFnFluxSpecVf
import Derived.Test.YtfedlehibkgjbaaDoorPkFnFluxBoxes
namespace Go.Proofs.YtfedlehibkgjbaaDoor.fnFlux
open Go.RowKit
set_option linter.unusedVariables false
set_option linter.unusedSimpArgs false
set_option maxRecDepth 20000
theorem flEq (c f : Int) (xs : List Int) : fluxEq c f xs c f xs = true := by unfold fluxEq; simp
theorem below_go {w a b : World} (h : Below w.heap.size w a) (hb : Below a.heap.size a b) : Below w.heap.size w b := h.trans (hb.mono h.size)
set_option maxHeartbeats 8000000 in
theorem walk (a0 : Option Addr) (len0 cap0 : Nat) (z0 : List Int) (a1 : Option Addr) (len1 cap1 : Nat) (z1 : List Int) (w : World) (hw : 0 < w.heap.size) (htab : PowTab w) (w0 : IsRow .u8 w a0 len0 cap0 z0) (w1 : IsRow .u8 w a1 len1 cap1 z1) :
    Calls Tryd.prog 4 #[.slice a0 len0 cap0, .slice a1 len1 cap1] w fun e w' => e = .returned (.bool true) ∧ Below w.heap.size w w' := by
  obtain ⟨hca, hcl⟩ := code_of w0
  obtain ⟨hca1, hcl1⟩ := code_of w1
  have HL := Lib.hid (fun a n c w => b10Long_is a n c w)
  by_cases hl0 : 1048576 < len0
  · have e0 : decide (1048576 < len0) = true := decide_eq_true hl0
    clear hl0 hca hcl hca1 hcl1 w0 w1 htab hw
    go_enter Tryd.func4, Tryd.ntmps4
    go_wp2_with fail
    refine (HL.out _ _ _ _).mono ?_
    rintro e w' ⟨rfl, rfl⟩
    rw [e0]
    go_wp2
    go_ret
    exact ⟨rfl, Below.refl _ _⟩
  have e0 : decide (1048576 < len0) = false := decide_eq_false hl0
  by_cases hl1 : 1048576 < len1
  · have e1 : decide (1048576 < len1) = true := decide_eq_true hl1
    clear hl0 hl1 hca hcl hca1 hcl1 w0 w1 htab hw
    go_enter Tryd.func4, Tryd.ntmps4
    go_wp2_with fail
    refine (HL.out _ _ _ _).mono ?_
    rintro e w' ⟨rfl, rfl⟩
    rw [e0]
    go_wp2_with fail
    refine (HL.out _ _ _ _).mono ?_
    rintro e w' ⟨rfl, rfl⟩
    rw [e1]
    go_wp2
    go_ret
    exact ⟨rfl, Below.refl _ _⟩
  have e1 : decide (1048576 < len1) = false := decide_eq_false hl1
  have D := Lib.hid (drawFluxOf_any a0 len0 cap0 w (by omega) hcl hca)
  have HC1 := Lib.hid (And.intro hca1 hcl1)
  have HTB := Lib.hid (And.intro hw htab)
  have hl1b : len1 ≤ 1048576 := by omega
  clear hl0 hl1 hca hcl hca1 hcl1 w0 w1 htab hw
  go_enter Tryd.func4, Tryd.ntmps4
  go_wp2_with fail
  refine (HL.out _ _ _ _).mono ?_
  rintro e w' ⟨rfl, rfl⟩
  rw [e0]
  go_wp2_with fail
  refine (HL.out _ _ _ _).mono ?_
  rintro e w' ⟨rfl, rfl⟩
  rw [e1]
  clear e0 e1 HL
  go_wp2_with fail
  refine D.out.mono ?_
  rintro e w1 ⟨x, v, rfl, hx, hv0, hv1, hb1⟩
  have FB := Lib.hid hb1
  clear hb1 D
  by_cases hc : (fluxOfVal x v).code = 0
  case neg =>
    have FO := Lib.hid (fluxOf_any x v w1 (by omega))
    unfold FluxRes at FO
    have hne : ((fluxOfVal x v).code != 0) = true := by simpa using hc
    generalize fluxOfVal x v = r at *
    obtain ⟨rc, rf, rg, rk⟩ := r
    dsimp only at hne hc FO
    go_wp2_with fail
    refine FO.out.mono ?_
    rintro e w2 ⟨a, cap, rfl, hso, hb2⟩
    replace FB := Lib.hid (below_go FB.out hb2)
    clear hso hb2 FO hc
    go_wp2
    go_ret
    exact ⟨rfl, FB.out.alloc FB.out.size _⟩
  obtain ⟨hval, hin, f, hf, hlen, hFV⟩ := flx_facts hc
  obtain ⟨hx0, _⟩ := validCells_bd hval
  obtain ⟨hv4, hv200⟩ := inB_iff.1 hin
  obtain ⟨hok, hall⟩ := flx_ok (by omega) hv4 hv200 hf hlen
  have hsum := sum_gaps (rev := (x.size : Int) * v) hf
  have htimes := timesOf_gaps (rev := (x.size : Int) * v) hf
  have hm : (chg x v x.size).length ≤ 101 := Nat.le_trans (chg_length_le x v x.size) hx
  have hgl : (gapsOf (chg x v x.size) ((x.size : Int) * v)).length = (chg x v x.size).length := gapsOf_length _ _
  have FO := Lib.hid (fluxOf_cap x v w1 hval hin)
  unfold FluxResC at FO
  have HGL := Lib.hid hgl
  have TU := Lib.hid (fun k hk => flx_turn (k := k) hk hval hin hf hlen)
  have RC := Lib.hid (fun (k : Nat) (hk : k < x.size) w' => rotateCells_yes x (k : Int) w' (by unfold maxLen; omega) hval)
  have RK := Lib.hid (fun (k : Nat) hk => rotK_of k x.size hk)
  have RZ := Lib.hid (fun (k : Nat) (hk : k < x.size) => rot_size x k (by omega))
  have CE := Lib.hid (fun j hj => cell_each hval j hj)
  have CA := Lib.hid (fun i hi h => chg_at (s := x) (cell := v) (i := i) hi h)
  have CL := Lib.hid (fun i hi => chg_le x v (i := i) hi)
  have CZ := Lib.hid (fun i hi h => chg_zero (s := x) (k := i) v hi h)
  have CO := Lib.hid (fun i hi h => chg_one (s := x) (k := i) v hi h)
  have C0 := Lib.hid (show chg x v 0 = [] from rfl)
  obtain ⟨hxs, hok2⟩ := rf_yes hok rfl
  obtain ⟨v1, v2, v3⟩ := rfV_yes hok2 hxs
  have MU := Lib.hid (fun (k : Nat) (hk : k ≤ x.size) => cellMul (k := k) (cell := v) (by omega) (by omega) hv200)
  have hRV : revOf v f (gapsOf (chg x v x.size) ((x.size : Int) * v)) = (x.size : Int) * v := by unfold revOf; rw [if_pos hok, hsum]
  rw [hFV] at FO
  dsimp only at FO
  have CHG := Lib.hid (fun a cap W (h : SlA W a (gapsOf (chg x v x.size) ((x.size : Int) * v))) => changesOf_yes v f a cap _ (by omega) hok W h)
  rw [htimes] at CHG
  have REV := Lib.hid (fun a cap W (h : SlA W a (gapsOf (chg x v x.size) ((x.size : Int) * v))) => revolutionOf_any v f a _ cap W (by omega) h)
  rw [hRV] at REV
  have VAL := Lib.hid (fun a cap W (h : SlA W a (gapsOf (chg x v x.size) ((x.size : Int) * v))) => specValidFlux_f v f a _ cap W (by omega) h)
  rw [hok] at VAL
  have TXT := Lib.hid (fun a cap W (hb : Below w.heap.size w W) (h : SlA W a (gapsOf (chg x v x.size) ((x.size : Int) * v))) => fluxText_any v f a cap _ (by omega) W h (Nat.lt_of_lt_of_le HTB.out.1 hb.size) (PowTab.below HTB.out.2 hb))
  have RDF := Lib.hid (fun W (hb : Below w.heap.size w W) => readFlux_any (fluxT v f (gapsOf (chg x v x.size) ((x.size : Int) * v))) (by have := rf_size hok2; omega) W (Nat.lt_of_lt_of_le HTB.out.1 hb.size) (PowTab.below HTB.out.2 hb))
  rw [v1, v2, v3, hok2] at RDF
  unfold RfRes at RDF
  have ROT := Lib.hid (fun b a cap W (hcap : (gapsOf (chg x v x.size) ((x.size : Int) * v)).length ≤ cap) (h : SlA W a (gapsOf (chg x v x.size) ((x.size : Int) * v))) => rotateFlux_any v f a cap _ b hcap (by omega) W h)
  unfold FluxRes at ROT
  clear hgl hc hval hin hok hall hsum htimes hxs hok2 v1 v2 v3 hRV hFV hlen
  generalize fluxT v f (gapsOf (chg x v x.size) ((x.size : Int) * v)) = txt at *
  generalize gapsOf (chg x v x.size) ((x.size : Int) * v) = zs at *
  have hrev := MU.out x.size (Nat.le_refl _)
  have hw1 : IntKind.i64.wrap ((x.size : Int) * v) = (x.size : Int) * v := IntWalk.i64_in _ (by omega)
  have hw2 : wrap64 ((x.size : Int) * v) = (x.size : Int) * v := by unfold wrap64; omega
  have hq : Int.tdiv v 2 = v / 2 := Int.tdiv_eq_ediv_of_nonneg (by omega)
  go_wp2_with fail
  refine FO.out.mono ?_
  rintro e w2 ⟨fa, fc, rfl, hcap, hso, hb2⟩
  have hsz2 := hb2.size
  replace FB := Lib.hid (below_go FB.out hb2)
  have KS := Lib.hid hso
  have HCAP := Lib.hid hcap
  clear hb2 hso FO hcap
  go_wp2_with fail
  have BA := show Below w2.heap.size w2 (w2.alloc (.cells #[.int .i64 v, .int .i64 f, .slice fa zs.length fc] 24)) from (Below.refl _ _).alloc (Nat.le_refl _) _
  have K7 := Lib.hid (BoxAt.new w2 #[.int .i64 v, .int .i64 f, .slice fa zs.length fc] 24 w2.heap.size rfl)
  replace KS := Lib.hid (KS.out.below BA (Nat.le_refl _))
  replace FB := Lib.hid (below_go FB.out BA)
  have hlt7 : w2.heap.size < (w2.alloc (.cells #[.int .i64 v, .int .i64 f, .slice fa zs.length fc] 24)).heap.size := by simp
  clear BA
  generalize (w2.alloc (.cells #[.int .i64 v, .int .i64 f, .slice fa zs.length fc] 24)) = W0 at *
  generalize w2.heap.size = q7 at *
  refine (CHG.out fa fc _ KS.out.sl).mono ?_
  rintro e w3 ⟨g, rfl, hrow, hgB, hb3⟩
  replace K7 := Lib.hid (K7.out.below hb3 hlt7)
  replace KS := Lib.hid (KS.out.below hb3 (Nat.le_refl _))
  replace hlt7 := Nat.lt_of_lt_of_le hlt7 hb3.size
  replace FB := Lib.hid (below_go FB.out hb3)
  have KL := Lib.hid (hrow.slO hgB)
  clear hb3 hrow hgB CHG
  have y0 := K7.out 0 _ rfl
  have y1 := K7.out 1 _ rfl
  have y2 := K7.out 2 _ rfl
  go_wp2_with fail
  refine (REV.out fa fc _ KS.out.sl).mono ?_
  rintro e w4 ⟨rfl, hb4⟩
  clear y0 y1 y2
  replace K7 := Lib.hid (K7.out.below hb4 hlt7)
  replace KS := Lib.hid (KS.out.below hb4 (Nat.le_refl _))
  replace KL := Lib.hid (KL.out.below hb4 (Nat.le_refl _))
  replace hlt7 := Nat.lt_of_lt_of_le hlt7 hb4.size
  replace FB := Lib.hid (below_go FB.out hb4)
  clear hb4 REV
  have y0 := K7.out 0 _ rfl
  have y1 := K7.out 1 _ rfl
  have y2 := K7.out 2 _ rfl
  go_wp2_with fail
  refine (VAL.out fa fc _ KS.out.sl).mono ?_
  rintro e w5 ⟨rfl, hb5⟩
  clear y0 y1 y2
  replace K7 := Lib.hid (K7.out.below hb5 hlt7)
  replace KS := Lib.hid (KS.out.below hb5 (Nat.le_refl _))
  replace KL := Lib.hid (KL.out.below hb5 (Nat.le_refl _))
  replace hlt7 := Nat.lt_of_lt_of_le hlt7 hb5.size
  replace FB := Lib.hid (below_go FB.out hb5)
  clear hb5 VAL
  go_wp2
  go_loop [10, 11] (fun n i => ∃ k : Nat, k ≤ x.size ∧ i = .int .i64 k ∧ n = .int .i64 ((chg x v k).length : Nat)) (fun _ i => x.size - (intOf i).toNat)
  case atStart => exact ⟨0, Nat.zero_le _, rfl, by rw [C0.out]; rfl⟩
  case round =>
    obtain ⟨k, hk, rfl, rfl⟩ := hrel
    by_cases hlt : k < x.size
    · have hmk := MU.out k hk
      have hb := CE.out k hlt
      rcases hb with h48 | h49
      · have HZ := Lib.hid (CZ.out k hlt (by omega))
        go_wp2
        go_round
        case rel => exact ⟨k + 1, by omega, by go_num, by rw [HZ.out]⟩
        case measure => simp [intOf]; omega
      · have hO := CO.out k hlt h49
        have hl1 : (chg x v (k + 1)).length = (chg x v k).length + 1 := by rw [hO]; simp
        have HL1 := Lib.hid hl1
        have hat := CA.out k hlt h49
        have hcl := CL.out (k + 1) (by omega)
        have hln : (chg x v k).length < zs.length := by rw [HGL.out]; omega
        have hcell : w5.cell? ⟨g, (chg x v k).length, none⟩ = some (.int .i64 ((k : Int) * v + v / 2)) := by
          rcases KL.out.sl with h | ⟨b, off, e, _, hc⟩
          · rw [h] at hat; simp at hat
          · cases e
            simpa using hc _ _ hat
        have hlni : ((chg x v k).length : Int) < (zs.length : Int) := by omega
        have hlng : ¬ (zs.length : Int) ≤ ((chg x v k).length : Int) := by omega
        have hk1 : IntKind.i64.wrap ((k : Int) * v) = (k : Int) * v := IntWalk.i64_in _ (by omega)
        have hk2 : IntKind.i64.wrap ((k : Int) * v + v / 2) = (k : Int) * v + v / 2 := IntWalk.i64_in _ (by omega)
        clear hO hl1 hat hcl hmk
        have hwn : wrap64 (((chg x v k).length : Int) + 1) = ((chg x v k).length : Int) + 1 := by have := HGL.out; unfold wrap64; omega
        generalize (chg x v k).length = n at *
        go_wp2
        go_round
        case rel => exact ⟨k + 1, by omega, by go_num, by rw [HL1.out]; go_num⟩
        case measure => simp [intOf]; omega
    · obtain rfl : k = x.size := by omega
      clear KL CE CA CL CZ CO C0 hlt hk
      have y0 := K7.out 0 _ rfl
      have y1 := K7.out 1 _ rfl
      have y2 := K7.out 2 _ rfl
      go_wp2_with fail
      refine (TXT.out fa fc _ FB.out KS.out.sl).mono ?_
      rintro e w6 ⟨rfl, hb6⟩
      clear y0 y1 y2
      replace K7 := Lib.hid (K7.out.below hb6 hlt7)
      replace KS := Lib.hid (KS.out.below hb6 (Nat.le_refl _))
      replace hlt7 := Nat.lt_of_lt_of_le hlt7 hb6.size
      replace FB := Lib.hid (below_go FB.out hb6)
      clear hb6 TXT
      go_wp2_with fail
      refine (RDF.out _ FB.out).mono ?_
      rintro e w7 ⟨ra, rcap, rfl, hro, hb7⟩
      replace K7 := Lib.hid (K7.out.below hb7 hlt7)
      replace KS := Lib.hid (KS.out.below hb7 (Nat.le_refl _))
      replace hlt7 := Nat.lt_of_lt_of_le hlt7 hb7.size
      replace FB := Lib.hid (below_go FB.out hb7)
      have KR := Lib.hid hro
      clear hb7 RDF hro
      go_wp2_with fail
      have BA := show Below w7.heap.size w7 (w7.alloc (.cells #[.int .i64 v, .int .i64 f, .slice ra zs.length rcap] 24)) from (Below.refl _ _).alloc (Nat.le_refl _) _
      have K12 := Lib.hid (BoxAt.new w7 #[.int .i64 v, .int .i64 f, .slice ra zs.length rcap] 24 w7.heap.size rfl)
      replace K7 := Lib.hid (K7.out.below BA hlt7)
      replace KS := Lib.hid (KS.out.below BA (Nat.le_refl _))
      replace KR := Lib.hid (KR.out.below BA (Nat.le_refl _))
      replace hlt7 := Nat.lt_of_lt_of_le hlt7 BA.size
      replace FB := Lib.hid (below_go FB.out BA)
      have hlt12 : w7.heap.size < (w7.alloc (.cells #[.int .i64 v, .int .i64 f, .slice ra zs.length rcap] 24)).heap.size := by simp
      clear BA
      generalize (w7.alloc (.cells #[.int .i64 v, .int .i64 f, .slice ra zs.length rcap] 24)) = W7 at *
      generalize w7.heap.size = q12 at *
      refine (b10At_at a1 len1 cap1 x.size (by omega) (by omega) _ hl1b (HC1.out.1.below HC1.out.2 FB.out)).mono ?_
      rintro e w8 ⟨⟨k, hk, rfl⟩, rfl⟩
      obtain ⟨t1, t2, t3⟩ := TU.out k hk
      have RO := Lib.hid (fun a cap W hcap h => ROT.out ((k : Int) * v) a cap W hcap h)
      rw [t1] at RO
      have F2 := Lib.hid (fun W => fluxOf_any (rotS x k) v W (by rw [RZ.out k hk]; omega))
      unfold FluxRes at F2
      have RCk := Lib.hid (fun W => RC.out k hk W)
      rw [RK.out k hk] at RCk
      clear t1 ROT TU RC RK RZ
      generalize fluxOfVal (rotS x k) v = r at *
      generalize rotS x k = xk at *
      obtain ⟨rc, rf, rg, rk⟩ := r
      dsimp only at t2 t3 RO F2
      subst t2
      have hmk := MU.out k (by omega)
      have hk1 : IntKind.i64.wrap ((k : Int) * v) = (k : Int) * v := IntWalk.i64_in _ (by omega)
      have hk2 : wrap64 ((k : Int) * v) = (k : Int) * v := by unfold wrap64; omega
      go_wp2_with fail
      refine (RCk.out _).mono ?_
      rintro e w9 ⟨rfl, hb9⟩
      replace K7 := Lib.hid (K7.out.below hb9 hlt7)
      replace K12 := Lib.hid (K12.out.below hb9 hlt12)
      replace KS := Lib.hid (KS.out.below hb9 (Nat.le_refl _))
      replace KR := Lib.hid (KR.out.below hb9 (Nat.le_refl _))
      replace hlt7 := Nat.lt_of_lt_of_le hlt7 hb9.size
      replace hlt12 := Nat.lt_of_lt_of_le hlt12 hb9.size
      replace FB := Lib.hid (below_go FB.out hb9)
      clear hb9 RCk
      have y0 := K7.out 0 _ rfl
      have y1 := K7.out 1 _ rfl
      have y2 := K7.out 2 _ rfl
      go_wp2_with fail
      refine (RO.out fa fc _ HCAP.out KS.out.sl).mono ?_
      rintro e wa ⟨ga, gcap, rfl, hga, hba⟩
      clear y0 y1 y2
      replace K7 := Lib.hid (K7.out.below hba hlt7)
      replace K12 := Lib.hid (K12.out.below hba hlt12)
      replace KS := Lib.hid (KS.out.below hba (Nat.le_refl _))
      replace KR := Lib.hid (KR.out.below hba (Nat.le_refl _))
      replace hlt7 := Nat.lt_of_lt_of_le hlt7 hba.size
      replace hlt12 := Nat.lt_of_lt_of_le hlt12 hba.size
      replace FB := Lib.hid (below_go FB.out hba)
      have KG := Lib.hid hga
      clear hba RO hga
      go_wp2_with fail
      have BA := show Below wa.heap.size wa (wa.alloc (.cells #[.int .i64 rc, .int .i64 rf, .slice ga rg.length gcap] 24)) from (Below.refl _ _).alloc (Nat.le_refl _) _
      have K17 := Lib.hid (BoxAt.new wa #[.int .i64 rc, .int .i64 rf, .slice ga rg.length gcap] 24 wa.heap.size rfl)
      replace K7 := Lib.hid (K7.out.below BA hlt7)
      replace K12 := Lib.hid (K12.out.below BA hlt12)
      replace KS := Lib.hid (KS.out.below BA (Nat.le_refl _))
      replace KR := Lib.hid (KR.out.below BA (Nat.le_refl _))
      replace KG := Lib.hid (KG.out.below BA (Nat.le_refl _))
      replace hlt7 := Nat.lt_of_lt_of_le hlt7 BA.size
      replace hlt12 := Nat.lt_of_lt_of_le hlt12 BA.size
      replace FB := Lib.hid (below_go FB.out BA)
      have hlt17 : wa.heap.size < (wa.alloc (.cells #[.int .i64 rc, .int .i64 rf, .slice ga rg.length gcap] 24)).heap.size := by simp
      clear BA
      generalize (wa.alloc (.cells #[.int .i64 rc, .int .i64 rf, .slice ga rg.length gcap] 24)) = Wa at *
      generalize wa.heap.size = q17 at *
      refine (F2.out _).mono ?_
      rintro e wb ⟨ha, hcp, rfl, hha, hbb⟩
      replace K7 := Lib.hid (K7.out.below hbb hlt7)
      replace K12 := Lib.hid (K12.out.below hbb hlt12)
      replace K17 := Lib.hid (K17.out.below hbb hlt17)
      replace KS := Lib.hid (KS.out.below hbb (Nat.le_refl _))
      replace KR := Lib.hid (KR.out.below hbb (Nat.le_refl _))
      replace KG := Lib.hid (KG.out.below hbb (Nat.le_refl _))
      replace hlt7 := Nat.lt_of_lt_of_le hlt7 hbb.size
      replace hlt12 := Nat.lt_of_lt_of_le hlt12 hbb.size
      replace hlt17 := Nat.lt_of_lt_of_le hlt17 hbb.size
      replace FB := Lib.hid (below_go FB.out hbb)
      have KH := Lib.hid hha
      clear hbb F2 hha
      have hgl2 : (((chg x v x.size).length : Nat) : Int) = (zs.length : Int) := by rw [HGL.out]
      have hzl : zs.length ≤ 101 := by rw [HGL.out]; exact hm
      generalize (chg x v x.size).length = nn at *
      have hgl3 : ((nn : Int) == (zs.length : Int)) = true := by rw [hgl2]; simp
      have y0 := K7.out 0 _ rfl
      have y1 := K7.out 1 _ rfl
      have y2 := K7.out 2 _ rfl
      have u0 := K12.out 0 _ rfl
      have u1 := K12.out 1 _ rfl
      have u2 := K12.out 2 _ rfl
      go_wp2_with fail
      clear y0 y1 y2 u0 u1 u2
      have BA := show Below wb.heap.size wb (wb.alloc (.cells #[.int .i64 rc, .int .i64 rf, .slice ha rg.length hcp] 24)) from (Below.refl _ _).alloc (Nat.le_refl _) _
      have K19 := Lib.hid (BoxAt.new wb #[.int .i64 rc, .int .i64 rf, .slice ha rg.length hcp] 24 wb.heap.size rfl)
      replace K7 := Lib.hid (K7.out.below BA hlt7)
      replace K12 := Lib.hid (K12.out.below BA hlt12)
      replace K17 := Lib.hid (K17.out.below BA hlt17)
      replace KS := Lib.hid (KS.out.below BA (Nat.le_refl _))
      replace KR := Lib.hid (KR.out.below BA (Nat.le_refl _))
      replace KG := Lib.hid (KG.out.below BA (Nat.le_refl _))
      replace KH := Lib.hid (KH.out.below BA (Nat.le_refl _))
      replace hlt7 := Nat.lt_of_lt_of_le hlt7 BA.size
      replace hlt12 := Nat.lt_of_lt_of_le hlt12 BA.size
      replace hlt17 := Nat.lt_of_lt_of_le hlt17 BA.size
      replace FB := Lib.hid (below_go FB.out BA)
      have hlt19 : wb.heap.size < (wb.alloc (.cells #[.int .i64 rc, .int .i64 rf, .slice ha rg.length hcp] 24)).heap.size := by simp
      clear BA
      generalize (wb.alloc (.cells #[.int .i64 rc, .int .i64 rf, .slice ha rg.length hcp] 24)) = Wb at *
      generalize wb.heap.size = q19 at *
      refine (specSameFlux_any v f ra zs rcap v f fa zs fc _ (by omega) (by omega) KR.out.sl KS.out.sl).mono ?_
      rintro e wc ⟨rfl, hbc⟩
      rw [flEq]
      replace K7 := Lib.hid (K7.out.below hbc hlt7)
      replace K12 := Lib.hid (K12.out.below hbc hlt12)
      replace K17 := Lib.hid (K17.out.below hbc hlt17)
      replace K19 := Lib.hid (K19.out.below hbc hlt19)
      replace KS := Lib.hid (KS.out.below hbc (Nat.le_refl _))
      replace KR := Lib.hid (KR.out.below hbc (Nat.le_refl _))
      replace KG := Lib.hid (KG.out.below hbc (Nat.le_refl _))
      replace KH := Lib.hid (KH.out.below hbc (Nat.le_refl _))
      replace hlt7 := Nat.lt_of_lt_of_le hlt7 hbc.size
      replace hlt12 := Nat.lt_of_lt_of_le hlt12 hbc.size
      replace hlt17 := Nat.lt_of_lt_of_le hlt17 hbc.size
      replace hlt19 := Nat.lt_of_lt_of_le hlt19 hbc.size
      replace FB := Lib.hid (below_go FB.out hbc)
      clear hbc
      have y0 := K17.out 0 _ rfl
      have y1 := K17.out 1 _ rfl
      have y2 := K17.out 2 _ rfl
      have u0 := K19.out 0 _ rfl
      have u1 := K19.out 1 _ rfl
      have u2 := K19.out 2 _ rfl
      go_wp2_with fail
      refine (specSameFlux_any rc rf ga rg gcap rc rf ha rg hcp _ (by omega) (by omega) KG.out.sl KH.out.sl).mono ?_
      rintro e wd ⟨rfl, hbd⟩
      rw [flEq]
      replace FB := Lib.hid (below_go FB.out hbd)
      clear hbd
      clear y0 y1 y2 u0 u1 u2
      go_wp2
      go_ret
      exact ⟨rfl, FB.out⟩
end Go.Proofs.YtfedlehibkgjbaaDoor.fnFlux
