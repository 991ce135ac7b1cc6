/- slices.Equal over strings; impl.SameImage, spec.SameImage -/
import Derived.Test.YtjciihjbeaoolaaNestImage
import Derived.Test.YtjciihjbeaoolaaSameDisc
namespace Go.Proofs.Ytjciihjbeaoolaa
open Go.RowKit Go.Maps
set_option linter.unusedVariables false
set_option linter.unusedSimpArgs false
set_option maxRecDepth 20000
noncomputable def sameImgB (x y : ImageV) : Bool := @decide (x = y) (Classical.propDecidable _)
theorem sameImgB_iff {x y : ImageV} : sameImgB x y = true ↔ x = y := by unfold sameImgB; simp
theorem sameImgB_no {x y : ImageV} (h : ¬ x = y) : sameImgB x y = false := by
  cases hb : sameImgB x y with
  | false => rfl
  | true => exact absurd (sameImgB_iff.1 hb) h
noncomputable def sameStrs (xs ys : List StringV) : Bool := @decide (xs = ys) (Classical.propDecidable _)
theorem sameStrs_iff {xs ys : List StringV} : sameStrs xs ys = true ↔ xs = ys := by unfold sameStrs; simp
theorem sameStrs_no {xs ys : List StringV} (h : ¬ xs = ys) : sameStrs xs ys = false := by
  cases hb : sameStrs xs ys with
  | false => rfl
  | true => exact absurd (sameStrs_iff.1 hb) h
theorem str_ext {x y : StringV} (h : x.f0 = y.f0) : x = y := by cases x; cases y; simp_all
theorem img5 {w : World} {p : Nat} {a b c d e f : Value} (hp : BoxAt w p #[a, b, c, d, e, f]) : BoxAt w p #[a, b, c, d, e] := by
  intro i v hv
  match i, hv with
  | 0, hv => exact hp 0 v hv
  | 1, hv => exact hp 1 v hv
  | 2, hv => exact hp 2 v hv
  | 3, hv => exact hp 3 v hv
  | 4, hv => exact hp 4 v hv
  | n + 5, hv => simp at hv
set_option maxHeartbeats 2000000 in
theorem equalStrs_any (a b : Option Addr) (xs ys : List StringV) (c d : Nat) (w : World) (hx : xs.length ≤ 4194304) (hy : ys.length ≤ 4194304) (h1 : SlS rowString w a xs) (h2 : SlS rowString w b ys) :
    Calls Try.prog 73 #[.slice a xs.length c, .slice b ys.length d] w fun e w' => e = .returned (.bool (sameStrs xs ys)) ∧ Below w.heap.size w w' := by
  by_cases hl : xs.length = ys.length
  · have hne : ((xs.length : Int) != ys.length) = false := by simp; omega
    have HL := Lib.hid hl; clear hl
    go_enter Try.func73, Try.ntmps73
    go_wp2
    go_loopw [5, 13] (fun _ i wr => ∃ k : Nat, k ≤ xs.length ∧ i = .int .i64 k ∧ Hid (xs.take k = ys.take k) ∧ Below w.heap.size w wr) (fun _ i _ => xs.length - (intOf i).toNat)
    case atStart => exact ⟨0, Nat.zero_le _, rfl, by unfold Hid; rfl, Below.refl _ _⟩
    case round =>
      obtain ⟨k, hk, rfl, hT, hb⟩ := hrel
      have h1' := h1.below hb (Nat.le_refl _)
      have h2' := h2.below hb (Nat.le_refl _)
      by_cases hlt : k < xs.length
      · have hly : k < ys.length := by have := HL.out; omega
        obtain ⟨x, hxk⟩ : ∃ e, xs[k]? = some e := ⟨xs[k], by simp [hlt]⟩
        obtain ⟨y, hyk⟩ : ∃ e, ys[k]? = some e := ⟨ys[k], by simp [hly]⟩
        obtain ⟨bx, ox, rfl, _, hcx⟩ := h1'.at rowString_len hxk
        obtain ⟨b2, o2, rfl, _, hcy⟩ := h2'.at rowString_len hyk
        have cx : wr.cell? ⟨bx, ox + k * 1, none⟩ = some (.string x.f0) := hcx 0 _ rfl
        have cy : wr.cell? ⟨b2, o2 + k * 1, none⟩ = some (.string y.f0) := hcy 0 _ rfl
        rw [Nat.mul_one] at cx cy
        have HX := Lib.hid hxk; have HY := Lib.hid hyk; clear hxk hyk hcx hcy
        have e1 : (k : Int) < xs.length := by omega
        have e2 : (k : Int) < ys.length := by omega
        have H1 := Lib.hid (And.intro h1 h1'); have H2 := Lib.hid (And.intro h2 h2'); clear h1 h1' h2 h2'
        by_cases he : x.f0 = y.f0
        · rw [he] at cx
          have HE := Lib.hid (str_ext he); clear he
          go_wp2
          go_quiet (fail)
          go_wp2
          go_roundw
          case rel => exact ⟨k + 1, by omega, by go_num, by unfold Hid; rw [List.take_add_one, List.take_add_one, HX.out, HY.out, hT.out, HE.out], below_drewN' hb _⟩
          case measure => simp [intOf]; omega
        · have hb1 := toList_ne2 he
          have HE := Lib.hid he; clear he
          go_wp2
          go_quiet (fail)
          go_wp2
          go_ret
          refine ⟨ret_bool ?_, below_drewN' hb _⟩
          symm
          refine sameStrs_no (fun e => HE.out ?_)
          have h3 := HX.out
          rw [e, HY.out] at h3
          exact congrArg StringV.f0 (Option.some.inj h3).symm
      · go_wp2
        go_ret
        refine ⟨ret_bool ?_, hb⟩
        obtain rfl : k = xs.length := by omega
        exact (sameStrs_iff.2 (take_eq HL.out hT.out)).symm
  · have hne : ((xs.length : Int) != ys.length) = true := by simp; omega
    have HQ := Lib.hid (show sameStrs xs ys = false from sameStrs_no (fun e => hl (by rw [e])))
    go_enter Try.func73, Try.ntmps73
    go_wp2
    go_ret
    exact ⟨ret_bool HQ.out.symm, Below.refl _ _⟩
theorem sameImg_split {x y : ImageV} : sameImgB x y = (sameDiscB x.f0 y.f0 && sameStrs x.f1 y.f1) := by
  rw [Bool.eq_iff_iff]
  simp only [sameImgB_iff, Bool.and_eq_true, sameDiscB_iff, sameStrs_iff]
  exact ⟨fun e => by rw [e]; exact ⟨rfl, rfl⟩, fun h => ImageV.ext' h⟩
set_option maxHeartbeats 4000000 in
theorem sameImage_any (x : ImageV) (s0 s1 : Option Addr) (c0 c1 : Nat) (y : ImageV) (t0 t1 : Option Addr) (d0 d1 : Nat) (hx : LenImage 1048576 x) (hvx : StrImage 1048576 x) (hy : LenImage 1048576 y) (hvy : StrImage 1048576 y) (w : World) (h1 : SlImage w s0 s1 x) (h2 : SlImage w t0 t1 y) :
    Calls Try.prog 16 #[.agg #[.int .i64 x.f0.f0, .int .i64 x.f0.f1, .int .i64 x.f0.f2, .int .i64 x.f0.f3, .slice s0 x.f0.f4.length c0, .slice s1 x.f1.length c1], .agg #[.int .i64 y.f0.f0, .int .i64 y.f0.f1, .int .i64 y.f0.f2, .int .i64 y.f0.f3, .slice t0 y.f0.f4.length d0, .slice t1 y.f1.length d1]] w fun e w' => e = .returned (.bool (sameImgB x y)) ∧ Below w.heap.size w w' := by
  have SD := Lib.hid (fun w' (hb : Below w.heap.size w w') => sameDisc_g x.f0 s0 c0 y.f0 t0 d0 hx.1 hvx.1 hy.1 hvy.1 w' (h1.1.below hb (Nat.le_refl _)) (h2.1.below hb (Nat.le_refl _)))
  have SE := Lib.hid (fun w' (hb : Below w.heap.size w w') => equalStrs_any s1 t1 x.f1 y.f1 c1 d1 w' (by have := hx.2; omega) (by have := hy.2; omega) (h1.2.below hb (Nat.le_refl _)) (h2.2.below hb (Nat.le_refl _)))
  rw [sameImg_split]
  clear hx hvx hy hvy h1 h2
  obtain ⟨q1, hq1⟩ : ∃ q, sameDiscB x.f0 y.f0 = q := ⟨_, rfl⟩
  obtain ⟨q2, hq2⟩ : ∃ q, sameStrs x.f1 y.f1 = q := ⟨_, rfl⟩
  rw [hq1] at SD ⊢
  rw [hq2] at SE ⊢
  clear hq1 hq2
  cases q1
  all_goals
    go_enter Try.func16, Try.ntmps16
    go_wp2_with fail
    have BX := (BoxAt.new w #[.int .i64 x.f0.f0, .int .i64 x.f0.f1, .int .i64 x.f0.f2, .int .i64 x.f0.f3, .slice s0 x.f0.f4.length c0, .slice s1 x.f1.length c1] 34 _ rfl).alloc (.cells #[.int .i64 y.f0.f0, .int .i64 y.f0.f1, .int .i64 y.f0.f2, .int .i64 y.f0.f3, .slice t0 y.f0.f4.length d0, .slice t1 y.f1.length d1] 34) (by simp)
    have BY : BoxAt ((w.alloc (.cells #[.int .i64 x.f0.f0, .int .i64 x.f0.f1, .int .i64 x.f0.f2, .int .i64 x.f0.f3, .slice s0 x.f0.f4.length c0, .slice s1 x.f1.length c1] 34)).alloc (.cells #[.int .i64 y.f0.f0, .int .i64 y.f0.f1, .int .i64 y.f0.f2, .int .i64 y.f0.f3, .slice t0 y.f0.f4.length d0, .slice t1 y.f1.length d1] 34)) (w.heap.size + 1) #[.int .i64 y.f0.f0, .int .i64 y.f0.f1, .int .i64 y.f0.f2, .int .i64 y.f0.f3, .slice t0 y.f0.f4.length d0, .slice t1 y.f1.length d1] := BoxAt.new _ _ _ _ (by simp)
    refine (SD.out _ (by go_grown)).mono ?_
    rintro e w1 ⟨rfl, hb1⟩
    have FB := Lib.hid (show Below w.heap.size w w1 from Below.trans (by go_grown) (hb1.mono (by simp; omega)))
    have x5 := (BX.below hb1 (by simp; omega)) 5 _ rfl
    have y5 := (BY.below hb1 (by simp)) 5 _ rfl
    clear hb1 BX BY
    go_wp2_with (go_at_call 73; refine (SE.out _ FB.out).mono ?_; rintro e w2 ⟨rfl, hb2⟩; replace FB := Lib.hid (FB.out.trans (hb2.mono FB.out.size)))
    go_ret
    exact ⟨rfl, FB.out⟩
set_option maxHeartbeats 4000000 in
theorem specSameImage_any (x : ImageV) (s0 s1 : Option Addr) (c0 c1 : Nat) (y : ImageV) (t0 t1 : Option Addr) (d0 d1 : Nat) (hx : LenImage 1048576 x) (hvx : StrImage 1048576 x) (hy : LenImage 1048576 y) (hvy : StrImage 1048576 y) (w : World) (h1 : SlImage w s0 s1 x) (h2 : SlImage w t0 t1 y) :
    Calls Try.prog 14 #[.agg #[.int .i64 x.f0.f0, .int .i64 x.f0.f1, .int .i64 x.f0.f2, .int .i64 x.f0.f3, .slice s0 x.f0.f4.length c0, .slice s1 x.f1.length c1], .agg #[.int .i64 y.f0.f0, .int .i64 y.f0.f1, .int .i64 y.f0.f2, .int .i64 y.f0.f3, .slice t0 y.f0.f4.length d0, .slice t1 y.f1.length d1]] w fun e w' => e = .returned (.bool (sameImgB x y)) ∧ Below w.heap.size w w' := by
  have SD := Lib.hid (fun w' p r (hb : Below w.heap.size w w') hX hY => l12Same_any x.f0 s0 c0 y.f0 t0 d0 p r hx.1 hy.1 w' hX hY (h1.1.below hb (Nat.le_refl _)) (h2.1.below hb (Nat.le_refl _)))
  have H1 := Lib.hid (fun w' (hb : Below w.heap.size w w') => h1.2.below hb (Nat.le_refl _))
  have H2 := Lib.hid (fun w' (hb : Below w.heap.size w w') => h2.2.below hb (Nat.le_refl _))
  have hx2 : x.f1.length ≤ 1048576 := hx.2
  have hy2 : y.f1.length ≤ 1048576 := hy.2
  rw [sameImg_split]
  clear hx hvx hy hvy h1 h2
  obtain ⟨q1, hq1⟩ : ∃ q, sameDiscB x.f0 y.f0 = q := ⟨_, rfl⟩
  rw [hq1] at SD ⊢
  clear hq1
  have NX := fun (w1 : World) (hb1 : Below ((w.alloc (.cells #[.int .i64 x.f0.f0, .int .i64 x.f0.f1, .int .i64 x.f0.f2, .int .i64 x.f0.f3, .slice s0 x.f0.f4.length c0, .slice s1 x.f1.length c1] 34)).alloc (.cells #[.int .i64 y.f0.f0, .int .i64 y.f0.f1, .int .i64 y.f0.f2, .int .i64 y.f0.f3, .slice t0 y.f0.f4.length d0, .slice t1 y.f1.length d1] 34)).heap.size ((w.alloc (.cells #[.int .i64 x.f0.f0, .int .i64 x.f0.f1, .int .i64 x.f0.f2, .int .i64 x.f0.f3, .slice s0 x.f0.f4.length c0, .slice s1 x.f1.length c1] 34)).alloc (.cells #[.int .i64 y.f0.f0, .int .i64 y.f0.f1, .int .i64 y.f0.f2, .int .i64 y.f0.f3, .slice t0 y.f0.f4.length d0, .slice t1 y.f1.length d1] 34)) w1) => (show w1.cell? ⟨w.heap.size, 5, none⟩ = some (.slice s1 x.f1.length c1) from (((BoxAt.new w #[.int .i64 x.f0.f0, .int .i64 x.f0.f1, .int .i64 x.f0.f2, .int .i64 x.f0.f3, .slice s0 x.f0.f4.length c0, .slice s1 x.f1.length c1] 34 _ rfl).alloc (.cells #[.int .i64 y.f0.f0, .int .i64 y.f0.f1, .int .i64 y.f0.f2, .int .i64 y.f0.f3, .slice t0 y.f0.f4.length d0, .slice t1 y.f1.length d1] 34) (by simp)).below hb1 (by simp; omega)) 5 _ rfl)
  have NY := fun (w1 : World) (hb1 : Below ((w.alloc (.cells #[.int .i64 x.f0.f0, .int .i64 x.f0.f1, .int .i64 x.f0.f2, .int .i64 x.f0.f3, .slice s0 x.f0.f4.length c0, .slice s1 x.f1.length c1] 34)).alloc (.cells #[.int .i64 y.f0.f0, .int .i64 y.f0.f1, .int .i64 y.f0.f2, .int .i64 y.f0.f3, .slice t0 y.f0.f4.length d0, .slice t1 y.f1.length d1] 34)).heap.size ((w.alloc (.cells #[.int .i64 x.f0.f0, .int .i64 x.f0.f1, .int .i64 x.f0.f2, .int .i64 x.f0.f3, .slice s0 x.f0.f4.length c0, .slice s1 x.f1.length c1] 34)).alloc (.cells #[.int .i64 y.f0.f0, .int .i64 y.f0.f1, .int .i64 y.f0.f2, .int .i64 y.f0.f3, .slice t0 y.f0.f4.length d0, .slice t1 y.f1.length d1] 34)) w1) => (show w1.cell? ⟨w.heap.size + 1, 5, none⟩ = some (.slice t1 y.f1.length d1) from ((BoxAt.new (w.alloc (.cells #[.int .i64 x.f0.f0, .int .i64 x.f0.f1, .int .i64 x.f0.f2, .int .i64 x.f0.f3, .slice s0 x.f0.f4.length c0, .slice s1 x.f1.length c1] 34)) #[.int .i64 y.f0.f0, .int .i64 y.f0.f1, .int .i64 y.f0.f2, .int .i64 y.f0.f3, .slice t0 y.f0.f4.length d0, .slice t1 y.f1.length d1] 34 (w.heap.size + 1) (by simp)).below hb1 (by simp)) 5 _ rfl)
  have NX := Lib.hid NX; have NY := Lib.hid NY
  cases q1 with
  | false =>
    go_enter Try.func14, Try.ntmps14
    go_wp2_with fail
    refine (SD.out _ _ _ (by go_grown) (img5 ((BoxAt.new w #[.int .i64 x.f0.f0, .int .i64 x.f0.f1, .int .i64 x.f0.f2, .int .i64 x.f0.f3, .slice s0 x.f0.f4.length c0, .slice s1 x.f1.length c1] 34 _ rfl).alloc (.cells #[.int .i64 y.f0.f0, .int .i64 y.f0.f1, .int .i64 y.f0.f2, .int .i64 y.f0.f3, .slice t0 y.f0.f4.length d0, .slice t1 y.f1.length d1] 34) (by simp))) (img5 (BoxAt.new (w.alloc (.cells #[.int .i64 x.f0.f0, .int .i64 x.f0.f1, .int .i64 x.f0.f2, .int .i64 x.f0.f3, .slice s0 x.f0.f4.length c0, .slice s1 x.f1.length c1] 34)) #[.int .i64 y.f0.f0, .int .i64 y.f0.f1, .int .i64 y.f0.f2, .int .i64 y.f0.f3, .slice t0 y.f0.f4.length d0, .slice t1 y.f1.length d1] 34 (w.heap.size + 1) (by simp)))).mono ?_
    rintro e w1 ⟨rfl, hb1⟩
    have FB := Lib.hid (show Below w.heap.size w w1 from Below.trans (by go_grown) (hb1.mono (by simp; omega)))
    clear hb1
    go_wp2
    go_ret
    exact ⟨rfl, FB.out⟩
  | true =>
    rw [Bool.true_and]
    by_cases hl : x.f1.length = y.f1.length
    case neg =>
      have hne : ((x.f1.length : Int) != y.f1.length) = true := by simp; omega
      rw [sameStrs_no (fun e => hl (by rw [e]))]
      clear hl
      go_enter Try.func14, Try.ntmps14
      go_wp2_with fail
      refine (SD.out _ _ _ (by go_grown) (img5 ((BoxAt.new w #[.int .i64 x.f0.f0, .int .i64 x.f0.f1, .int .i64 x.f0.f2, .int .i64 x.f0.f3, .slice s0 x.f0.f4.length c0, .slice s1 x.f1.length c1] 34 _ rfl).alloc (.cells #[.int .i64 y.f0.f0, .int .i64 y.f0.f1, .int .i64 y.f0.f2, .int .i64 y.f0.f3, .slice t0 y.f0.f4.length d0, .slice t1 y.f1.length d1] 34) (by simp))) (img5 (BoxAt.new (w.alloc (.cells #[.int .i64 x.f0.f0, .int .i64 x.f0.f1, .int .i64 x.f0.f2, .int .i64 x.f0.f3, .slice s0 x.f0.f4.length c0, .slice s1 x.f1.length c1] 34)) #[.int .i64 y.f0.f0, .int .i64 y.f0.f1, .int .i64 y.f0.f2, .int .i64 y.f0.f3, .slice t0 y.f0.f4.length d0, .slice t1 y.f1.length d1] 34 (w.heap.size + 1) (by simp)))).mono ?_
      rintro e w1 ⟨rfl, hb1⟩
      have FB := Lib.hid (show Below w.heap.size w w1 from Below.trans (by go_grown) (hb1.mono (by simp; omega)))
      have x5 := NX.out _ hb1
      have y5 := NY.out _ hb1
      clear hb1
      go_wp2
      go_ret
      exact ⟨rfl, FB.out⟩
    have hne : ((x.f1.length : Int) != y.f1.length) = false := by simp; omega
    have HL := Lib.hid hl; clear hl
    go_enter Try.func14, Try.ntmps14
    go_wp2_with fail
    refine (SD.out _ _ _ (by go_grown) (img5 ((BoxAt.new w #[.int .i64 x.f0.f0, .int .i64 x.f0.f1, .int .i64 x.f0.f2, .int .i64 x.f0.f3, .slice s0 x.f0.f4.length c0, .slice s1 x.f1.length c1] 34 _ rfl).alloc (.cells #[.int .i64 y.f0.f0, .int .i64 y.f0.f1, .int .i64 y.f0.f2, .int .i64 y.f0.f3, .slice t0 y.f0.f4.length d0, .slice t1 y.f1.length d1] 34) (by simp))) (img5 (BoxAt.new (w.alloc (.cells #[.int .i64 x.f0.f0, .int .i64 x.f0.f1, .int .i64 x.f0.f2, .int .i64 x.f0.f3, .slice s0 x.f0.f4.length c0, .slice s1 x.f1.length c1] 34)) #[.int .i64 y.f0.f0, .int .i64 y.f0.f1, .int .i64 y.f0.f2, .int .i64 y.f0.f3, .slice t0 y.f0.f4.length d0, .slice t1 y.f1.length d1] 34 (w.heap.size + 1) (by simp)))).mono ?_
    rintro e w1 ⟨rfl, hb1⟩
    have FB := Lib.hid (show Below w.heap.size w w1 from Below.trans (by go_grown) (hb1.mono (by simp; omega)))
    have x5 := NX.out _ hb1
    have y5 := NY.out _ hb1
    have hz1 : w.heap.size + 1 < w1.heap.size := Nat.lt_of_lt_of_le (by simp) hb1.size
    have KX := Lib.hid (fun w' (hb : Below w1.heap.size w1 w') => (show w'.cell? ⟨w.heap.size, 5, none⟩ = some (.slice s1 x.f1.length c1) ∧ w'.cell? ⟨w.heap.size + 1, 5, none⟩ = some (.slice t1 y.f1.length d1) from ⟨by rw [hb.cell (p := ⟨w.heap.size, 5, none⟩) (by show w.heap.size < _; omega)]; exact x5, by rw [hb.cell (p := ⟨w.heap.size + 1, 5, none⟩) hz1]; exact y5⟩))
    clear hb1 SD NX NY
    go_wp2
    go_loopw [5] (fun i wr => ∃ k : Nat, k ≤ x.f1.length ∧ i = .int .i64 k ∧ Hid (x.f1.take k = y.f1.take k) ∧ Below w1.heap.size w1 wr) (fun i _ => x.f1.length - (intOf i).toNat)
    case atStart => exact ⟨0, Nat.zero_le _, rfl, by unfold Hid; rfl, Below.refl _ _⟩
    case round =>
      obtain ⟨k, hk, rfl, hT, hb⟩ := hrel
      clear x5 y5
      obtain ⟨z5, v5⟩ := KX.out _ hb
      have FB2 := Lib.hid (FB.out.trans (hb.mono FB.out.size))
      by_cases hlt : k < x.f1.length
      · have hly : k < y.f1.length := by have := HL.out; omega
        obtain ⟨u, hxk⟩ : ∃ e, x.f1[k]? = some e := ⟨x.f1[k], by simp [hlt]⟩
        obtain ⟨v, hyk⟩ : ∃ e, y.f1[k]? = some e := ⟨y.f1[k], by simp [hly]⟩
        obtain ⟨bx, ox, rfl, _, hcx⟩ := (H1.out _ FB2.out).at rowString_len hxk
        obtain ⟨b2, o2, rfl, _, hcy⟩ := (H2.out _ FB2.out).at rowString_len hyk
        have cx : wr.cell? ⟨bx, ox + k * 1, none⟩ = some (.string u.f0) := hcx 0 _ rfl
        have cy : wr.cell? ⟨b2, o2 + k * 1, none⟩ = some (.string v.f0) := hcy 0 _ rfl
        rw [Nat.mul_one] at cx cy
        have HX := Lib.hid hxk; have HY := Lib.hid hyk; clear hxk hyk hcx hcy
        have e1 : (k : Int) < x.f1.length := by omega
        have e2 : (k : Int) < y.f1.length := by omega
        by_cases he : u.f0 = v.f0
        · rw [he] at cx
          have HE := Lib.hid (str_ext he); clear he
          go_wp2
          go_quiet (fail)
          go_wp2
          go_roundw
          case rel => exact ⟨k + 1, by omega, by go_num, by unfold Hid; rw [List.take_add_one, List.take_add_one, HX.out, HY.out, hT.out, HE.out], below_drewN' hb _⟩
          case measure => simp [intOf]; omega
        · have hb1 := toList_ne2 he
          have HE := Lib.hid he; clear he
          go_wp2
          go_quiet (fail)
          go_wp2
          go_ret
          refine ⟨ret_bool ?_, below_drewN' FB2.out _⟩
          symm
          refine sameStrs_no (fun e => HE.out ?_)
          have h3 := HX.out
          rw [e, HY.out] at h3
          exact congrArg StringV.f0 (Option.some.inj h3).symm
      · go_wp2
        go_ret
        refine ⟨ret_bool ?_, FB2.out⟩
        obtain rfl : k = x.f1.length := by omega
        exact (sameStrs_iff.2 (take_eq HL.out hT.out)).symm
end Go.Proofs.Ytjciihjbeaoolaa
