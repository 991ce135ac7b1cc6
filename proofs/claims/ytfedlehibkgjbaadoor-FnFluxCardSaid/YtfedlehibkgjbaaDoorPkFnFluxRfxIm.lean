/- impl.ReadFlux -/
import Derived.Test.YtfedlehibkgjbaaDoorPkFnFluxRfxVal
import Derived.Test.YtfedlehibkgjbaaDoorPkFnFluxOffI
import Derived.Test.YtfedlehibkgjbaaDoorPkFnFluxFtxIm
import Derived.Test.YtfedlehibkgjbaaDoorPkFnFluxB
import Derived.Deep.DeepCutAuto
namespace Go.Proofs.YtfedlehibkgjbaaDoor
open Go.RowKit
set_option linter.unusedVariables false
set_option linter.unusedSimpArgs false
set_option maxRecDepth 20000
def rfVc (s : ByteArray) : Int := if rfOk s = true then rfC (rfXs s) else 0
def rfVf (s : ByteArray) : Int := if rfOk s = true then rfF (rfXs s) else 0
def rfVz (s : ByteArray) : List Int := if rfOk s = true then (rfXs s).drop 2 else []
theorem rfV_no {s : ByteArray} (h : rfOk s = false) : rfVc s = 0 ∧ rfVf s = 0 ∧ rfVz s = [] := by
  have h' : ¬ rfOk s = true := by rw [h]; simp
  exact ⟨if_neg h', if_neg h', if_neg h'⟩
theorem rfV_yes {s : ByteArray} {c f : Int} {zs : List Int} (h : rfOk s = true) (hx : rfXs s = c :: f :: zs) : rfVc s = c ∧ rfVf s = f ∧ rfVz s = zs := by
  refine ⟨?_, ?_, ?_⟩
  · unfold rfVc; rw [if_pos h, hx]; rfl
  · unfold rfVf; rw [if_pos h, hx]; rfl
  · unfold rfVz; rw [if_pos h, hx]; rfl
theorem rfVz_len (s : ByteArray) : (rfVz s).length ≤ 1048576 := by
  unfold rfVz
  split
  · next h =>
    unfold rfOk at h
    simp only [Bool.and_eq_true] at h
    have := (fluxOk_iff.1 h.2).2.1.2
    omega
  · simp
/-- What ReadFlux returns. -/
def RfRes (c f : Int) (zs : List Int) (ok : Bool) (w : World) (e : Ending) (w' : World) : Prop :=
  ∃ a cap, e = .returned (.tuple #[.agg #[.int .i64 c, .int .i64 f, .slice a zs.length cap], .bool ok]) ∧ SlOP w' w.heap.size a zs ∧ Below w.heap.size w w'
theorem OwnI.slO2 {w : World} {B : Nat} {v : Value} {l : List Int} (h : OwnI w B v l) : ∃ a c, v = .slice a l.length c ∧ l.length ≤ c ∧ SlO w B a l := by
  obtain ⟨h1, h2⟩ := h
  rcases h2 with ⟨rfl, hl⟩ | ⟨g, cap, cur, rfl, hg, hh, hn, hm, hs, ht⟩
  · exact ⟨none, 0, by rw [hl], by rw [hl]; exact Nat.le_refl _, .inl (List.length_eq_zero_iff.1 hl)⟩
  · refine ⟨_, _, rfl, hn, .inr ⟨g, (cur.toList.drop l.length).toArray, rfl, hg, ?_⟩⟩
    rw [hh]
    congr 2
    apply Array.ext'
    simp only [Array.toList_append]
    rw [← ht]
    simp
theorem rf_toList_ne {m s : ByteArray} (h : ¬ m = s) : (m.toList == s.toList) = false := by
  rw [beq_eq_false_iff_ne]
  intro h2
  rw [ByteArray.toList_eq, ByteArray.toList_eq] at h2
  exact h (ByteArray.ext (Array.toList_inj.1 h2))
set_option maxHeartbeats 8000000 in
theorem readFlux_any (s : ByteArray) (hs : s.size ≤ 1048576) (w : World) (hw : 0 < w.heap.size) (htab : PowTab w) :
    Calls Tryd.prog 6 #[.string s] w (RfRes (rfVc s) (rfVf s) (rfVz s) (rfOk s) w) := by
  have NI := Lib.hid (fun w' => numbersIn_any s hs w')
  have RN := Lib.hid (rf_no (s := s))
  have ZN := Lib.hid (ZeroAt.new w w.heap.size rfl)
  unfold RfRes
  unfold NumRes at NI
  obtain ⟨o, ho⟩ : ∃ o, numsV s.data.toList = o := ⟨_, rfl⟩
  rw [ho] at NI
  have FA := Lib.hid (show Below w.heap.size w (w.alloc (.cells #[.int .i64 0, .int .i64 0, .slice none 0 0] 24)) from (Below.refl _ _).alloc (Nat.le_refl _) _)
  have hz0 : w.heap.size < (w.alloc (.cells #[.int .i64 0, .int .i64 0, .slice none 0 0] 24)).heap.size := by simp
  cases o with
  | none =>
    have HV := Lib.hid (RN.out (fun c f zs h => by rw [ho] at h; cases h))
    obtain ⟨e1, e2, e3⟩ := rfV_no HV.out
    rw [e1, e2, e3, HV.out]
    clear e1 e2 e3 ho htab
    go_enter Tryd.func6, Tryd.ntmps6
    go_upto_region 1 with (fail)
    generalize (w.alloc (.cells #[.int .i64 0, .int .i64 0, .slice none 0 0] 24)) = W0 at *
    go_wp2_with fail
    refine (NI.out _).mono ?_
    rintro e w1 ⟨rfl, hb1⟩
    have hZ1 := ZN.out.below hb1 hz0
    have FB := Lib.hid (FA.out.trans (hb1.mono FA.out.size))
    obtain ⟨z0, z1, z2, y0, y1, y2⟩ := hZ1.facts
    clear hb1 hZ1
    go_wp2
    refine bodyPost_ret (v := .tuple #[.agg #[.int .i64 0, .int .i64 0, .slice none 0 0], .bool false]) (by simp [results, Tryd.results6, go_sem, z0, z1, z2]) rfl ⟨none, 0, rfl, .inl rfl, below_set3 FB.out (Nat.le_refl _) _ _ _⟩
  | some xs =>
    by_cases h3 : xs.length < 3
    case pos =>
      have HV := Lib.hid (RN.out (fun c f zs h hok => by
        exfalso
        have e : xs = c :: f :: zs := Option.some.inj (ho.symm.trans h)
        have := (fluxOk_iff.1 hok).2.1.1
        rw [e] at h3
        simp only [List.length_cons] at h3
        omega))
      obtain ⟨e1, e2, e3⟩ := rfV_no HV.out
      rw [e1, e2, e3, HV.out]
      have h3' : (xs.length : Int) < 3 := by omega
      clear e1 e2 e3 ho htab
      go_enter Tryd.func6, Tryd.ntmps6
      go_upto_region 1 with (fail)
      generalize (w.alloc (.cells #[.int .i64 0, .int .i64 0, .slice none 0 0] 24)) = W0 at *
      go_wp2_with fail
      refine (NI.out _).mono ?_
      rintro e w1 ⟨⟨v, rfl, hown⟩, hb1⟩
      obtain ⟨a, c, rfl, hlc, hso⟩ := hown.slO2
      have hZ1 := ZN.out.below hb1 hz0
      have FB := Lib.hid (FA.out.trans (hb1.mono FA.out.size))
      obtain ⟨z0, z1, z2, y0, y1, y2⟩ := hZ1.facts
      clear hb1 hZ1 hown hso
      go_wp2
      refine bodyPost_ret (v := .tuple #[.agg #[.int .i64 0, .int .i64 0, .slice none 0 0], .bool false]) (by simp [results, Tryd.results6, go_sem, z0, z1, z2]) rfl ⟨none, 0, rfl, .inl rfl, below_set3 FB.out (Nat.le_refl _) _ _ _⟩
    case neg =>
      obtain ⟨c, f, zs, rfl⟩ : ∃ c f zs, xs = c :: f :: zs := by
        match xs, h3 with
        | a :: b :: r, _ => exact ⟨a, b, r, rfl⟩
        | [], h => simp at h
        | [a], h => simp at h
      have hlen : (c :: f :: zs).length = zs.length + 2 := by simp
      have hz1 : 1 ≤ zs.length := by omega
      have hzm : zs.length ≤ 1048576 := by
        have h1 := nums_len (show numsP s.data.toList 0 = some (c :: f :: zs) from ho)
        have h2 : s.data.toList.length = s.size := by simp
        simp only [List.length_cons] at h1
        omega
      rw [hlen] at h3
      have h3' : ¬ ((zs.length + 2 : Nat) : Int) < 3 := by omega
      have RY := Lib.hid (fun h1 h2 => rf_yes (s := s) (c := c) (f := f) (zs := zs) h1 h2)
      have VF := Lib.hid (fun a cap w' (h : SlA w' a zs) => validFlux_any c f a zs cap w' hzm h)
      have FX := Lib.hid (fun a cap w' (h : SlA w' a zs) h1 h2 => fluxText_any c f a cap zs hzm w' h h1 h2)
      have HT := Lib.hid (fun w' (hb : Below w.heap.size w w') => (show 0 < w'.heap.size ∧ PowTab w' from ⟨Nat.lt_of_lt_of_le hw hb.size, htab.below hb⟩))
      have NO := Lib.hid (fun (h : ¬ (fluxOk c f zs = true ∧ fluxT c f zs = s)) => RN.out (fun c' f' zs' h1 h2 h3 => h (by
        have e := Option.some.inj (ho.symm.trans h1)
        injection e with e1 e
        injection e with e2 e3
        subst e1; subst e2; subst e3
        exact ⟨h2, h3⟩)))
      clear ho RN hw htab
      go_enter Tryd.func6, Tryd.ntmps6
      go_upto_region 1 with (fail)
      generalize (w.alloc (.cells #[.int .i64 0, .int .i64 0, .slice none 0 0] 24)) = W0 at *
      go_wp2_with fail
      refine (NI.out _).mono ?_
      rintro e w1 ⟨⟨v, rfl, hown⟩, hb1⟩
      obtain ⟨a, cp, rfl, hlc, hso⟩ := hown.slO2
      obtain ⟨g, rest, rfl, hg, hgh⟩ : ∃ g rest, a = some ⟨g, 0, none⟩ ∧ W0.heap.size ≤ g ∧ w1.heap[g]? = some (.cells (((c :: f :: zs).map (Value.int .i64)).toArray ++ rest) 2 (0, 0)) := by
        rcases hso with h | h
        · cases h
        · exact h
      have c0 : w1.cell? ⟨g, 0, none⟩ = some (.int .i64 c) := by simp [World.cell?, hgh, Array.getElem?_append]
      have c1 : w1.cell? ⟨g, 1, none⟩ = some (.int .i64 f) := by simp [World.cell?, hgh, Array.getElem?_append]
      have hgl : g < w1.heap.size := (Array.getElem?_eq_some_iff.1 hgh).1
      have hp2 := hso.part 2 zs.length (by rw [hlen]; omega)
      have hdt : ((c :: f :: zs).drop 2).take zs.length = zs := by simp
      rw [hdt] at hp2
      have HP := Lib.hid hp2
      have hZ1 := Lib.hid (ZN.out.below hb1 hz0)
      have FB := Lib.hid (FA.out.trans (hb1.mono FA.out.size))
      have hw01 : w.heap.size < w1.heap.size := Nat.lt_of_lt_of_le hz0 hb1.size
      have hwg : w.heap.size ≤ g := by omega
      rw [hlen] at hlc ⊢
      have HZ0 := Lib.hid hz0
      clear hb1 hown hso hgh hp2 hdt NI ZN FA hz0 hg
      obtain ⟨N, hN⟩ : ∃ N, zs.length + 2 = N := ⟨_, rfl⟩
      have hN2 : (N : Int) - 2 = (zs.length : Int) := by omega
      rw [hN] at hlc h3' ⊢
      have e2 : 2 ≤ N := by omega
      have e3 : (2 : Int) ≤ (N : Int) := by omega
      have e1 : (1 : Int) < (N : Int) := by omega
      have e0 : (0 : Int) < (N : Int) := by omega
      have n0 : 0 < N := by omega
      have n1 : 1 < N := by omega
      have HN := Lib.hid hN
      clear hN h3
      go_wp2
      go_region_held3 (fun w' => w'.cell? ⟨g, 0, none⟩ = some (.int .i64 c) ∧ w'.cell? ⟨g, 1, none⟩ = some (.int .i64 f)) (go_keep) (fail)
      have hN3 : N - 2 = zs.length := by have := HN.out; omega
      have hc2 : ¬ cp = 2 := by have := HN.out; omega
      rw [hN3, if_neg hc2]
      have BA := Lib.hid (show Below w1.heap.size w1 (w1.alloc (.cells #[.int .i64 c, .int .i64 f, .slice (some ⟨g, 2, none⟩) zs.length (cp - 2)] 24)).drew from ((Below.refl _ _).alloc (Nat.le_refl _) _).drew)
      have FX1 := Lib.hid (show FluxAt (w1.alloc (.cells #[.int .i64 c, .int .i64 f, .slice (some ⟨g, 2, none⟩) zs.length (cp - 2)] 24)).drew w1.heap.size c f (some ⟨g, 2, none⟩) zs.length (cp - 2) from FluxAt.new w1 c f (some ⟨g, 2, none⟩) zs.length (cp - 2) 24 _ rfl)
      generalize (w1.alloc (.cells #[.int .i64 c, .int .i64 f, .slice (some ⟨g, 2, none⟩) zs.length (cp - 2)] 24)).drew = W2 at *
      have hP2 := Lib.hid (HP.out.below BA.out (Nat.le_refl _))
      have hZ2 := Lib.hid (hZ1.out.below BA.out hw01)
      have F2 := Lib.hid (FB.out.trans (BA.out.mono (by omega)))
      have hw2 := FX1.out.lt
      generalize w1.heap.size = p at *
      clear BA HP hZ1 FB c0 c1 n0 n1 e0 e1 e2 e3 hlc hgl hN2 hc2 hN3 HN h3'
      obtain ⟨x0, x1, x2⟩ := FX1.out
      go_wp2_with fail
      refine (VF.out _ _ _ hP2.out.sl).mono ?_
      rintro e w3 ⟨rfl, hb3⟩
      clear x0 x1 x2
      have hP3 := Lib.hid (hP2.out.below hb3 (Nat.le_refl _))
      have hZ3 := Lib.hid (hZ2.out.below hb3 (by omega))
      have FX3 := Lib.hid (FX1.out.below hb3 hw2)
      have F3 := Lib.hid (F2.out.trans (hb3.mono (by omega)))
      have hw3 := Nat.lt_of_lt_of_le hw2 hb3.size
      clear hb3 hP2 hZ2 FX1 F2 hw2 VF
      obtain ⟨x0, x1, x2⟩ := FX3.out
      by_cases hv : fluxOk c f zs = true
      case neg =>
        have HV := Lib.hid (NO.out (fun h => hv h.1))
        have hv' : fluxOk c f zs = false := by simpa using hv
        rw [hv']
        clear hv hv' RY NO FX
        obtain ⟨z0, z1, z2, y0, y1, y2⟩ := hZ3.out.facts
        go_wp2
        obtain ⟨e1, e2, e3⟩ := rfV_no HV.out
        refine bodyPost_ret (v := .tuple #[.agg #[.int .i64 0, .int .i64 0, .slice none 0 0], .bool false]) (by simp [results, Tryd.results6, go_sem, z0, z1, z2]) rfl ⟨none, 0, by rw [e1, e2, e3, HV.out]; rfl, by rw [e3]; exact .inl rfl, below_set3 F3.out (Nat.le_refl _) _ _ _⟩
      rw [hv]
      have HT3 := HT.out _ F3.out
      go_wp2_with fail
      refine (FX.out _ _ _ hP3.out.sl HT3.1 HT3.2).mono ?_
      rintro e w4 ⟨rfl, hb4⟩
      clear x0 x1 x2
      have hP4 := Lib.hid (hP3.out.below hb4 (Nat.le_refl _))
      have hZ4 := Lib.hid (hZ3.out.below hb4 (by omega))
      have FX4 := Lib.hid (FX3.out.below hb4 hw3)
      have F4 := Lib.hid (F3.out.trans (hb4.mono (by omega)))
      clear hb4 hP3 hZ3 FX3 F3 HT3 HT FX
      obtain ⟨x0, x1, x2⟩ := FX4.out
      obtain ⟨z0, z1, z2, y0, y1, y2⟩ := hZ4.out.facts
      by_cases ht : fluxT c f zs = s
      case neg =>
        have HV := Lib.hid (NO.out (fun h => ht h.2))
        have hne := rf_toList_ne ht
        generalize fluxT c f zs = t at *
        clear ht RY NO hv
        go_wp2
        obtain ⟨e1, e2, e3⟩ := rfV_no HV.out
        refine bodyPost_ret (v := .tuple #[.agg #[.int .i64 0, .int .i64 0, .slice none 0 0], .bool false]) (by simp [results, Tryd.results6, go_sem, z0, z1, z2]) rfl ⟨none, 0, by rw [e1, e2, e3, HV.out]; rfl, by rw [e3]; exact .inl rfl, below_set3 F4.out (Nat.le_refl _) _ _ _⟩
      case pos =>
        have HY := Lib.hid (RY.out hv ht)
        rw [ht]
        clear hv ht RY NO
        go_wp2
        obtain ⟨e1, e2, e3⟩ := rfV_yes HY.out.2 HY.out.1
        refine bodyPost_ret (v := .tuple #[.agg #[.int .i64 c, .int .i64 f, .slice (some ⟨g, 2, none⟩) zs.length (cp - 2)], .bool true]) (by simp [results, Tryd.results6, go_sem, z0, z1, z2]) rfl ⟨some ⟨g, 2, none⟩, cp - 2, by rw [e1, e2, e3, HY.out.2], ?_, below_set3 F4.out (Nat.le_refl _) _ _ _⟩
        rw [e3]
        exact ((((hP4.out.setCell (p := ⟨w.heap.size, 0, none⟩) HZ0.out _).setCell (p := ⟨w.heap.size, 1, none⟩) HZ0.out _).setCell (p := ⟨w.heap.size, 2, none⟩) HZ0.out _).mono (Nat.le_of_lt HZ0.out))
end Go.Proofs.YtfedlehibkgjbaaDoor
