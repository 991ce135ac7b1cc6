/- The struct Feature and slices of it: laws.szFeatureS, laws.toFeature, laws.toFeatureS, laws.eqFeature, laws.eqFeatureS, laws.markFeatureS, laws.heldFeatureS -/
import Derived.Test.YtpcfhfnlpcpofabRecs
import Derived.Test.YtpcfhfnlpcpofabRecKit
namespace Go.Proofs.Ytpcfhfnlpcpofab
open Go.RowKit Go.ChangeShapes Go.WideShapes Go.ChangeAt Go.Joins Go.Deep
set_option linter.unusedVariables false
set_option linter.unusedSimpArgs false
structure FeatureV where
  f0 : Int
  f1 : Int
  f2 : Int
def rowFeature (e : FeatureV) : List Value := [.int .i64 e.f0, .int .i64 e.f1, .int .i64 e.f2]
def zeroFeature : List Value := [.int .i64 0, .int .i64 0, .int .i64 0]
theorem rowFeature_len (e : FeatureV) : (rowFeature e).length = 3 := rfl
theorem infoFeature : (Try.prog.info? 25).map (fun i => (i.zero, i.size, i.bytes)) = some (some (.agg zeroFeature.toArray), 3, 24) := by kernel_rfl
theorem cellsFeatureL : Try.prog.cellsOf 23 = 3 := by kernel_rfl
def wtFeature (es : List FeatureV) : Nat := es.length
theorem wtFeature_len (es : List FeatureV) : es.length ≤ wtFeature es := Nat.le_refl _
set_option maxHeartbeats 2000000 in
theorem toFeature_any (e : FeatureV) (w : World) :
    Calls Try.prog 15 #[.agg #[.int .i64 e.f0, .int .i64 e.f1, .int .i64 e.f2]] w fun x w' => x = .returned (.agg #[.int .i64 e.f0, .int .i64 e.f1, .int .i64 e.f2]) ∧ Below w.heap.size w w' := by
  go_enter Try.func15, Try.ntmps15
  go_wp2
  refine bodyPost_ret (v := .agg #[.int .i64 e.f0, .int .i64 e.f1, .int .i64 e.f2]) (by simp [results, Try.results15, go_sem]) rfl ⟨rfl, ?_⟩
  go_grown
def sameFeature (x y : FeatureV) : Bool := (x.f0 == y.f0) && (x.f1 == y.f1) && (x.f2 == y.f2)
theorem sameFeature_iff {x y : FeatureV} : sameFeature x y = true ↔ x = y := by
  cases x; cases y
  simp [sameFeature, and_assoc]
set_option maxHeartbeats 4000000 in
theorem eqFeature_any (x y : FeatureV) (w : World) :
    Calls Try.prog 30 #[.agg #[.int .i64 x.f0, .int .i64 x.f1, .int .i64 x.f2], .agg #[.int .i64 y.f0, .int .i64 y.f1, .int .i64 y.f2]] w fun e w' => e = .returned (.bool (sameFeature x y)) ∧ Below w.heap.size w w' := by
  obtain ⟨x0, x1, x2⟩ := x
  obtain ⟨y0, y1, y2⟩ := y
  dsimp only
  by_cases h0 : x0 = y0
  case neg =>
    have hb0 : (x0 != y0) = true := by simp [h0]
    have HE := Lib.hid (show sameFeature ⟨x0, x1, x2⟩ ⟨y0, y1, y2⟩ = false by simp [sameFeature, h0])
    clear h0
    go_enter Try.func30, Try.ntmps30
    go_wp2
    go_ret
    exact ⟨ret_bool HE.out.symm, by go_grown⟩
  subst h0
  by_cases h1 : x1 = y1
  case neg =>
    have hb1 : (x1 != y1) = true := by simp [h1]
    have HE := Lib.hid (show sameFeature ⟨x0, x1, x2⟩ ⟨x0, y1, y2⟩ = false by simp [sameFeature, h1])
    clear h1
    go_enter Try.func30, Try.ntmps30
    go_wp2
    go_ret
    exact ⟨ret_bool HE.out.symm, by go_grown⟩
  subst h1
  by_cases h2 : x2 = y2
  case neg =>
    have hb2 : (x2 != y2) = true := by simp [h2]
    have HE := Lib.hid (show sameFeature ⟨x0, x1, x2⟩ ⟨x0, x1, y2⟩ = false by simp [sameFeature, h2])
    clear h2
    go_enter Try.func30, Try.ntmps30
    go_wp2
    go_ret
    exact ⟨ret_bool HE.out.symm, by go_grown⟩
  subst h2
  have HE := Lib.hid (show sameFeature ⟨x0, x1, x2⟩ ⟨x0, x1, x2⟩ = true by simp [sameFeature])
  go_enter Try.func30, Try.ntmps30
  go_wp2
  go_ret
  exact ⟨ret_bool HE.out.symm, by go_grown⟩
set_option maxHeartbeats 4000000 in
theorem eqFeatureS_any (r : Bool) (a b : Option Addr) (xs ys : List FeatureV) (c d : Nat) (w : World) (hr : r = true ↔ xs = ys) (hx : xs.length ≤ 4194304) (hy : ys.length ≤ 4194304) (h1 : SlS rowFeature w a xs) (h2 : SlS rowFeature w b ys) :
    Calls Try.prog 23 #[.slice a xs.length c, .slice b ys.length d] w fun e w' => e = .returned (.bool r) ∧ Below w.heap.size w w' := by
  have HR := Lib.hid hr; clear hr
  by_cases hl : xs.length = ys.length
  · have hne : ((xs.length : Int) != ys.length) = false := by simp; omega
    have HL := Lib.hid hl; clear hl
    go_enter Try.func23, Try.ntmps23
    go_wp2
    go_loopw [5] (fun i wr => ∃ k : Nat, k ≤ xs.length ∧ i = .int .i64 k ∧ Hid (xs.take k = ys.take k) ∧ Below w.heap.size w wr) (fun i _ => xs.length - (intOf i).toNat)
    case atStart => exact ⟨0, Nat.zero_le _, rfl, by unfold Hid; rfl, Below.refl _ _⟩
    case round =>
      obtain ⟨k, hk, rfl, hT, hb⟩ := hrel
      have h1' := h1.below hb (Nat.le_refl _)
      have h2' := h2.below hb (Nat.le_refl _)
      by_cases hlt : k < xs.length
      · have hly : k < ys.length := by have := HL.out; omega
        obtain ⟨x, hxk⟩ : ∃ e, xs[k]? = some e := ⟨xs[k], by simp [hlt]⟩
        obtain ⟨y, hyk⟩ : ∃ e, ys[k]? = some e := ⟨ys[k], by simp [hly]⟩
        obtain ⟨bx, ox, rfl, hlx, hcx⟩ := h1'.at rowFeature_len hxk
        obtain ⟨b2, o2, rfl, hly2, hcy⟩ := h2'.at rowFeature_len hyk
        have c0 : wr.cell? ⟨bx, ox + k * 3, none⟩ = some (.int .i64 x.f0) := hcx 0 _ rfl
        have d0 : wr.cell? ⟨b2, o2 + k * 3, none⟩ = some (.int .i64 y.f0) := hcy 0 _ rfl
        have c1 : wr.cell? ⟨bx, ox + k * 3 + 1, none⟩ = some (.int .i64 x.f1) := hcx 1 _ rfl
        have d1 : wr.cell? ⟨b2, o2 + k * 3 + 1, none⟩ = some (.int .i64 y.f1) := hcy 1 _ rfl
        have c2 : wr.cell? ⟨bx, ox + k * 3 + 2, none⟩ = some (.int .i64 x.f2) := hcx 2 _ rfl
        have d2 : wr.cell? ⟨b2, o2 + k * 3 + 2, none⟩ = some (.int .i64 y.f2) := hcy 2 _ rfl
        have HX := Lib.hid hxk; have HY := Lib.hid hyk; clear hxk hyk
        have e1 : (k : Int) < xs.length := by omega
        have e2 : (k : Int) < ys.length := by omega
        have H1 := Lib.hid (And.intro h1 (And.intro h1' hcx)); have H2 := Lib.hid (And.intro h2 (And.intro h2' hcy)); clear h1 h1' h2 h2'
        have EQ := Lib.hid (fun w => eqFeature_any x y w)
        obtain ⟨q, hq⟩ : ∃ q, sameFeature x y = q := ⟨_, rfl⟩
        rw [hq] at EQ
        have HQ := Lib.hid hq; clear hq
        have KS := Lib.hid (fun w' (hbw : Below wr.heap.size wr w') => (show w'.cell? ⟨bx, ox + k * 3, none⟩ = some (.int .i64 x.f0) ∧ w'.cell? ⟨bx, ox + k * 3 + 1, none⟩ = some (.int .i64 x.f1) ∧ w'.cell? ⟨bx, ox + k * 3 + 2, none⟩ = some (.int .i64 x.f2) ∧ w'.cell? ⟨b2, o2 + k * 3, none⟩ = some (.int .i64 y.f0) ∧ w'.cell? ⟨b2, o2 + k * 3 + 1, none⟩ = some (.int .i64 y.f1) ∧ w'.cell? ⟨b2, o2 + k * 3 + 2, none⟩ = some (.int .i64 y.f2) from ⟨(hcx.below hbw hlx) 0 _ rfl, (hcx.below hbw hlx) 1 _ rfl, (hcx.below hbw hlx) 2 _ rfl, (hcy.below hbw hly2) 0 _ rfl, (hcy.below hbw hly2) 1 _ rfl, (hcy.below hbw hly2) 2 _ rfl⟩))
        have hks : wr.cell? ⟨bx, ox + k * 3, none⟩ = some (.int .i64 x.f0) ∧ wr.cell? ⟨bx, ox + k * 3 + 1, none⟩ = some (.int .i64 x.f1) ∧ wr.cell? ⟨bx, ox + k * 3 + 2, none⟩ = some (.int .i64 x.f2) ∧ wr.cell? ⟨b2, o2 + k * 3, none⟩ = some (.int .i64 y.f0) ∧ wr.cell? ⟨b2, o2 + k * 3 + 1, none⟩ = some (.int .i64 y.f1) ∧ wr.cell? ⟨b2, o2 + k * 3 + 2, none⟩ = some (.int .i64 y.f2) := KS.out _ (Below.refl _ _)
        have HC := Lib.hid (show Below wr.heap.size wr wr.drew from (Below.refl _ _).drew)
        have HB := Lib.hid hb; clear hb c0 d0 c1 d1 c2 d2 hlx hly2 hcx hcy
        cases q
        all_goals
          go_wp2
          go_region_held3 (fun w' => w'.cell? ⟨bx, ox + k * 3, none⟩ = some (.int .i64 x.f0) ∧ w'.cell? ⟨bx, ox + k * 3 + 1, none⟩ = some (.int .i64 x.f1) ∧ w'.cell? ⟨bx, ox + k * 3 + 2, none⟩ = some (.int .i64 x.f2) ∧ w'.cell? ⟨b2, o2 + k * 3, none⟩ = some (.int .i64 y.f0) ∧ w'.cell? ⟨b2, o2 + k * 3 + 1, none⟩ = some (.int .i64 y.f1) ∧ w'.cell? ⟨b2, o2 + k * 3 + 2, none⟩ = some (.int .i64 y.f2))
            (first | (with_reducible exact KS.out _ HC.out) | go_keep)
            ((go_at_call 30; refine (EQ.out _).mono ?_; rintro e w1 ⟨rfl, hb1⟩; replace HC := Lib.hid (HC.out.trans (hb1.mono HC.out.size))))
        · have hb' := HB.out.trans (HC.out.mono HB.out.size)
          clear hks
          go_wp2
          go_ret
          refine ⟨ret_bool ?_, hb'⟩
          cases r with
          | false => rfl
          | true =>
          exfalso
          have e := HR.out.1 rfl
          have h3 := HX.out
          rw [e, HY.out] at h3
          have h4 := sameFeature_iff.2 (Option.some.inj h3).symm
          rw [HQ.out] at h4
          cases h4
        · have hb' := HB.out.trans (HC.out.mono HB.out.size)
          clear hks
          go_wp2
          go_roundw
          case rel => exact ⟨k + 1, by omega, by go_num, by unfold Hid; rw [List.take_add_one, List.take_add_one, HX.out, HY.out, hT.out, sameFeature_iff.1 HQ.out], hb'⟩
          case measure => simp [intOf]; omega
      · go_wp2
        go_ret
        refine ⟨ret_bool ?_, hb⟩
        obtain rfl : k = xs.length := by omega
        exact (HR.out.2 (take_eq HL.out hT.out)).symm
  · have hne : ((xs.length : Int) != ys.length) = true := by simp; omega
    have HQ := Lib.hid (show r = false by
      cases r with
      | false => rfl
      | true => exact absurd (by rw [HR.out.1 rfl]) hl)
    go_enter Try.func23, Try.ntmps23
    go_wp2
    go_ret
    exact ⟨ret_bool HQ.out.symm, Below.refl _ _⟩
end Go.Proofs.Ytpcfhfnlpcpofab
