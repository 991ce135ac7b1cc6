/- spec.ChangedSectors -/
import Derived.Test.YtpcfhfnlpcpofaaChg
import Derived.Test.YtpcfhfnlpcpofaaBoxF
import Derived.Test.YtpcfhfnlpcpofaaDiscSpecOk
import Derived.BigQuiet
import Derived.Deep.QuietTactic
namespace Go.Proofs.Ytpcfhfnlpcpofaa
open Go.RowKit
set_option linter.unusedVariables false
set_option linter.unusedSimpArgs false
set_option maxRecDepth 20000
set_option maxHeartbeats 4000000 in
theorem specChangedSectors_g (x : DiscV) (a : Option Addr) (c : Nat) (y : DiscV) (b : Option Addr) (d : Nat) (hx : x.f4.length ≤ 1048576) (hv : ∀ e ∈ x.f4, e.f0.size ≤ 1048576) (hy : y.f4.length ≤ 1048576) (hv2 : ∀ e ∈ y.f4, e.f0.size ≤ 1048576) (w : World) (h1 : SlS rowSector w a x.f4) (h2 : SlS rowSector w b y.f4) :
    Calls Try.prog 40 #[.agg #[.int .i64 x.f0, .int .i64 x.f1, .int .i64 x.f2, .int .i64 x.f3, .slice a x.f4.length c], .agg #[.int .i64 y.f0, .int .i64 y.f1, .int .i64 y.f2, .int .i64 y.f3, .slice b y.f4.length d]] w (SlRes2 (chgV x y) (chgC x y) w) := by
  have hs1 : ∀ e ∈ x.f4, e.f0.size ≤ maxLen := fun e he => by have := hv e he; unfold maxLen; omega
  have hs2 : ∀ e ∈ y.f4, e.f0.size ≤ maxLen := fun e he => by have := hv2 e he; unfold maxLen; omega
  have VX := Lib.hid (fun w' (hb : Below w.heap.size w w') hp => l12Ok_any x a c w.heap.size w' hx hs1 hp (h1.below hb (Nat.le_refl _)))
  have VY := Lib.hid (fun w' (hb : Below w.heap.size w w') hp => l12Ok_any y b d (w.heap.size + 1) w' hy hs2 hp (h2.below hb (Nat.le_refl _)))
  have AL := Lib.hid (fun w' hX hY => l12Alike_any x a c y b d w.heap.size (w.heap.size + 1) w' hX hY)
  have EL1 := Lib.hid (fun w' (hb : Below w.heap.size w w') => h1.below hb (Nat.le_refl _))
  have EL2 := Lib.hid (fun w' (hb : Below w.heap.size w w') => h2.below hb (Nat.le_refl _))
  clear h1 h2 hv hv2 hs1 hs2
  by_cases hdx : discB x = true
  case neg =>
    have E1 := Lib.hid (show chgV x y = [] by unfold chgV; rw [if_neg hdx])
    have E2 := Lib.hid (show chgC x y = 1 by unfold chgC; rw [if_neg hdx])
    have hdf : discB x = false := by simpa using hdx
    have vx := VX.out
    rw [hdf] at vx
    have VXH := Lib.hid vx
    clear vx hdx hdf VX VY AL
    obtain ⟨f0, f1, f2, f3, fs⟩ := x
    obtain ⟨g0, g1, g2, g3, gs⟩ := y
    dsimp only at *
    go_enter Try.func40, Try.ntmps40
    go_upto_region 1 with (fail)
    have bX : BoxF ((w.alloc (.cells #[.int .i64 f0, .int .i64 f1, .int .i64 f2, .int .i64 f3, .slice a fs.length c] 29)).alloc (.cells #[.int .i64 g0, .int .i64 g1, .int .i64 g2, .int .i64 g3, .slice b gs.length d] 29)) w.heap.size #[.int .i64 f0, .int .i64 f1, .int .i64 f2, .int .i64 f3, .slice a fs.length c] := boxF5 (by simp [go_sem]) (by simp [go_sem]) (by simp [go_sem]) (by simp [go_sem]) (by simp [go_sem])
    have FB := Lib.hid (show Below w.heap.size w ((w.alloc (.cells #[.int .i64 f0, .int .i64 f1, .int .i64 f2, .int .i64 f3, .slice a fs.length c] 29)).alloc (.cells #[.int .i64 g0, .int .i64 g1, .int .i64 g2, .int .i64 g3, .slice b gs.length d] 29)) by go_grown)
    generalize ((w.alloc (.cells #[.int .i64 f0, .int .i64 f1, .int .i64 f2, .int .i64 f3, .slice a fs.length c] 29)).alloc (.cells #[.int .i64 g0, .int .i64 g1, .int .i64 g2, .int .i64 g3, .slice b gs.length d] 29)) = W at *
    go_wp2_with fail
    refine (VXH.out _ FB.out bX.box).mono ?_
    rintro e w1 ⟨rfl, hb1⟩
    have F1 := Lib.hid (FB.out.trans (hb1.mono FB.out.size))
    clear hb1 bX
    go_wp2
    go_ret2
    rw [E1.out, E2.out]
    exact ⟨_, _, rfl, .inl rfl, F1.out.alloc F1.out.size _⟩
  have hl1 := discB_len hdx
  have vx := VX.out
  rw [hdx] at vx
  have VXH := Lib.hid vx
  clear vx VX
  by_cases hdy : discB y = true
  case neg =>
    have E1 := Lib.hid (show chgV x y = [] by unfold chgV; rw [if_pos hdx, if_neg hdy])
    have E2 := Lib.hid (show chgC x y = 1 by unfold chgC; rw [if_pos hdx, if_neg hdy])
    have hdf : discB y = false := by simpa using hdy
    have vy := VY.out
    rw [hdf] at vy
    have VYH := Lib.hid vy
    clear vy hdx hdy hdf VY AL
    obtain ⟨f0, f1, f2, f3, fs⟩ := x
    obtain ⟨g0, g1, g2, g3, gs⟩ := y
    dsimp only at *
    go_enter Try.func40, Try.ntmps40
    go_upto_region 1 with (fail)
    have bX : BoxF ((w.alloc (.cells #[.int .i64 f0, .int .i64 f1, .int .i64 f2, .int .i64 f3, .slice a fs.length c] 29)).alloc (.cells #[.int .i64 g0, .int .i64 g1, .int .i64 g2, .int .i64 g3, .slice b gs.length d] 29)) w.heap.size #[.int .i64 f0, .int .i64 f1, .int .i64 f2, .int .i64 f3, .slice a fs.length c] := boxF5 (by simp [go_sem]) (by simp [go_sem]) (by simp [go_sem]) (by simp [go_sem]) (by simp [go_sem])
    have bY : BoxF ((w.alloc (.cells #[.int .i64 f0, .int .i64 f1, .int .i64 f2, .int .i64 f3, .slice a fs.length c] 29)).alloc (.cells #[.int .i64 g0, .int .i64 g1, .int .i64 g2, .int .i64 g3, .slice b gs.length d] 29)) (w.heap.size + 1) #[.int .i64 g0, .int .i64 g1, .int .i64 g2, .int .i64 g3, .slice b gs.length d] := boxF5 (by simp [go_sem]) (by simp [go_sem]) (by simp [go_sem]) (by simp [go_sem]) (by simp [go_sem])
    have FB := Lib.hid (show Below w.heap.size w ((w.alloc (.cells #[.int .i64 f0, .int .i64 f1, .int .i64 f2, .int .i64 f3, .slice a fs.length c] 29)).alloc (.cells #[.int .i64 g0, .int .i64 g1, .int .i64 g2, .int .i64 g3, .slice b gs.length d] 29)) by go_grown)
    have hlt : w.heap.size + 1 < ((w.alloc (.cells #[.int .i64 f0, .int .i64 f1, .int .i64 f2, .int .i64 f3, .slice a fs.length c] 29)).alloc (.cells #[.int .i64 g0, .int .i64 g1, .int .i64 g2, .int .i64 g3, .slice b gs.length d] 29)).heap.size := by simp
    generalize ((w.alloc (.cells #[.int .i64 f0, .int .i64 f1, .int .i64 f2, .int .i64 f3, .slice a fs.length c] 29)).alloc (.cells #[.int .i64 g0, .int .i64 g1, .int .i64 g2, .int .i64 g3, .slice b gs.length d] 29)) = W at *
    go_wp2_with fail
    refine (VXH.out _ FB.out bX.box).mono ?_
    rintro e w1 ⟨rfl, hb1⟩
    have F1 := Lib.hid (FB.out.trans (hb1.mono FB.out.size))
    have bY1 := (bY.below hb1 hlt).box
    clear hb1 bX bY
    go_wp2_with fail
    refine (VYH.out _ F1.out bY1).mono ?_
    rintro e w2 ⟨rfl, hb2⟩
    have F2 := Lib.hid (F1.out.trans (hb2.mono F1.out.size))
    clear hb2 bY1
    go_wp2
    go_ret2
    rw [E1.out, E2.out]
    exact ⟨_, _, rfl, .inl rfl, F2.out.alloc F2.out.size _⟩
  have hl2 := discB_len hdy
  have vy := VY.out
  rw [hdy] at vy
  have VYH := Lib.hid vy
  clear vy VY
  have E0 := Lib.hid (show (sameGeo x.f0 x.f1 x.f2 x.f3 y.f0 y.f1 y.f2 y.f3 = false → chgV x y = [] ∧ chgC x y = 6) ∧ (sameGeo x.f0 x.f1 x.f2 x.f3 y.f0 y.f1 y.f2 y.f3 = true → chgV x y = diffs x.f4 y.f4 x.f4.length ∧ chgC x y = 0 ∧ x.f4.length = y.f4.length) from
    ⟨fun hg => ⟨by unfold chgV; rw [if_pos hdx, if_pos hdy]; simp [hg], by unfold chgC; rw [if_pos hdx, if_pos hdy]; simp [hg]⟩, fun hg => ⟨by unfold chgV; rw [if_pos hdx, if_pos hdy]; simp [hg], by unfold chgC; rw [if_pos hdx, if_pos hdy]; simp [hg], disc_len_geo hdx hdy hg⟩⟩)
  clear hdx hdy
  obtain ⟨f0, f1, f2, f3, fs⟩ := x
  obtain ⟨g0, g1, g2, g3, gs⟩ := y
  dsimp only at *
  go_enter Try.func40, Try.ntmps40
  go_upto_region 1 with (fail)
  have bX : BoxF ((w.alloc (.cells #[.int .i64 f0, .int .i64 f1, .int .i64 f2, .int .i64 f3, .slice a fs.length c] 29)).alloc (.cells #[.int .i64 g0, .int .i64 g1, .int .i64 g2, .int .i64 g3, .slice b gs.length d] 29)) w.heap.size #[.int .i64 f0, .int .i64 f1, .int .i64 f2, .int .i64 f3, .slice a fs.length c] := boxF5 (by simp [go_sem]) (by simp [go_sem]) (by simp [go_sem]) (by simp [go_sem]) (by simp [go_sem])
  have bY : BoxF ((w.alloc (.cells #[.int .i64 f0, .int .i64 f1, .int .i64 f2, .int .i64 f3, .slice a fs.length c] 29)).alloc (.cells #[.int .i64 g0, .int .i64 g1, .int .i64 g2, .int .i64 g3, .slice b gs.length d] 29)) (w.heap.size + 1) #[.int .i64 g0, .int .i64 g1, .int .i64 g2, .int .i64 g3, .slice b gs.length d] := boxF5 (by simp [go_sem]) (by simp [go_sem]) (by simp [go_sem]) (by simp [go_sem]) (by simp [go_sem])
  have FB := Lib.hid (show Below w.heap.size w ((w.alloc (.cells #[.int .i64 f0, .int .i64 f1, .int .i64 f2, .int .i64 f3, .slice a fs.length c] 29)).alloc (.cells #[.int .i64 g0, .int .i64 g1, .int .i64 g2, .int .i64 g3, .slice b gs.length d] 29)) by go_grown)
  have hlt : w.heap.size + 1 < ((w.alloc (.cells #[.int .i64 f0, .int .i64 f1, .int .i64 f2, .int .i64 f3, .slice a fs.length c] 29)).alloc (.cells #[.int .i64 g0, .int .i64 g1, .int .i64 g2, .int .i64 g3, .slice b gs.length d] 29)).heap.size := by simp
  generalize ((w.alloc (.cells #[.int .i64 f0, .int .i64 f1, .int .i64 f2, .int .i64 f3, .slice a fs.length c] 29)).alloc (.cells #[.int .i64 g0, .int .i64 g1, .int .i64 g2, .int .i64 g3, .slice b gs.length d] 29)) = W at *
  go_wp2_with fail
  refine (VXH.out _ FB.out bX.box).mono ?_
  rintro e w1 ⟨rfl, hb1⟩
  have F1 := Lib.hid (FB.out.trans (hb1.mono FB.out.size))
  have bY1 := bY.below hb1 hlt
  have bX1 := bX.below hb1 (Nat.lt_of_succ_lt hlt)
  have hlt1 := Nat.lt_of_lt_of_le hlt hb1.size
  clear hb1 bX bY
  go_wp2_with fail
  refine (VYH.out _ F1.out bY1.box).mono ?_
  rintro e w2 ⟨rfl, hb2⟩
  have F2 := Lib.hid (F1.out.trans (hb2.mono F1.out.size))
  have bY2 := Lib.hid (bY1.below hb2 hlt1).box
  have bX2 := Lib.hid (bX1.below hb2 (Nat.lt_of_succ_lt hlt1)).box
  have hlt2 := Nat.lt_of_lt_of_le hlt1 hb2.size
  clear hb2 bY1 bX1 VXH VYH hlt hlt1
  have al := AL.out w2 bX2.out bY2.out
  cases hg : sameGeo f0 f1 f2 f3 g0 g1 g2 g3 with
  | false =>
    rw [hg] at al
    have E1 := Lib.hid (E0.out.1 hg)
    have ALH := Lib.hid al
    clear al hg E0
    go_wp2_with fail
    refine ALH.out.mono ?_
    rintro e w3 ⟨rfl, m3, rfl⟩
    have F3 := Lib.hid (below_drewN' F2.out m3)
    generalize w2.drewN m3 = w3 at *
    go_wp2
    go_ret2
    rw [E1.out.1, E1.out.2]
    exact ⟨_, _, rfl, .inl rfl, F3.out.alloc F3.out.size _⟩
  | true =>
  rw [hg] at al
  have E1 := Lib.hid (E0.out.2 hg)
  have ALH := Lib.hid al
  clear al hg E0 AL
  go_wp2_with fail
  refine ALH.out.mono ?_
  rintro e w3 ⟨rfl, m3, rfl⟩
  have F3 := Lib.hid (below_drewN' F2.out m3)
  have bX3 := Lib.hid (show BoxAt (w2.drewN m3) _ _ from bX2.out)
  have bY3 := Lib.hid (show BoxAt (w2.drewN m3) _ _ from bY2.out)
  have hlt3 : w.heap.size + 1 < (w2.drewN m3).heap.size := hlt2
  clear bX2 bY2 hlt2 ALH F2 F1 FB
  generalize w2.drewN m3 = w3 at *
  have hlt4 : w.heap.size < w3.heap.size := by omega
  go_wp2
  have FN3 := F3.out.size
  go_loopw [6, 7] (fun v i wr => ∃ k : Nat, k ≤ fs.length ∧ i = .int .i64 k ∧ OwnI wr w3.heap.size v (diffs fs gs k) ∧ Below w3.heap.size w3 wr) (fun _ i _ => fs.length - (intOf i).toNat)
  case atStart => exact ⟨0, Nat.zero_le _, rfl, OwnI.empty _ _ (Nat.le_refl _), (Below.refl _ _).alloc (Nat.le_refl _) _⟩
  case round =>
    obtain ⟨k, hk, rfl, hown, hb⟩ := hrel
    have FBR := Lib.hid (F3.out.trans (hb.mono FN3))
    have hz := hb.size
    have q4 := (bX3.out.below hb hlt4) 4 _ rfl
    have r4 := (bY3.out.below hb hlt3) 4 _ rfl
    by_cases hlt : k < fs.length
    · have hly : k < gs.length := by have := E1.out.2.2; omega
      have hll := diffs_len fs gs k
      obtain ⟨u, hxk⟩ : ∃ e, fs[k]? = some e := ⟨fs[k], by simp [hlt]⟩
      obtain ⟨v, hyk⟩ : ∃ e, gs[k]? = some e := ⟨gs[k], by simp [hly]⟩
      obtain ⟨bx, ox, rfl, hlx, hcx⟩ := (EL1.out _ FBR.out).at rowSector_len hxk
      obtain ⟨b2, o2, rfl, hly2, hcy⟩ := (EL2.out _ FBR.out).at rowSector_len hyk
      have c0 : wr.cell? ⟨bx, ox + k * 2, none⟩ = some (.string u.f0) := hcx 0 _ rfl
      have c1 : wr.cell? ⟨bx, ox + k * 2 + 1, none⟩ = some (.int .i64 u.f1) := hcx 1 _ rfl
      have d0 : wr.cell? ⟨b2, o2 + k * 2, none⟩ = some (.string v.f0) := hcy 0 _ rfl
      have d1 : wr.cell? ⟨b2, o2 + k * 2 + 1, none⟩ = some (.int .i64 v.f1) := hcy 1 _ rfl
      have HXK := Lib.hid hxk; have HYK := Lib.hid hyk; clear hxk hyk hcx hcy
      have e1 : (k : Int) < fs.length := by omega
      have e2 : (k : Int) < gs.length := by omega
      have ngs := fun w => neqSector u v w
      cases hsm : sameSector u v with
      | true =>
        have HD := Lib.hid (diffs_same HXK.out HYK.out hsm)
        rw [hsm] at ngs
        simp only [Bool.not_true] at ngs
        clear hsm
        generalize diffs fs gs k = l at *
        go_wp2
        go_quiet (fail)
        go_wp2
        go_roundw
        case rel => exact ⟨k + 1, by omega, by go_num, by rw [HD.out]; exact hown, below_drewN' hb _⟩
        case measure => simp [intOf]; omega
      | false =>
        have HD := Lib.hid (diffs_not HXK.out HYK.out hsm)
        rw [hsm] at ngs
        simp only [Bool.not_false] at ngs
        clear hsm
        generalize diffs fs gs k = l at *
        have hll2 : l.length < 1073741824 := by omega
        go_wp2
        go_quiet (fail)
        have hownQ : OwnI (wr.drewN nq) w3.heap.size _ l := hown
        have hbQ := below_drewN' hb nq
        generalize wr.drewN nq = wq at *
        have hzq := hbQ.size
        go_wp2_with (at_builtin; refine wpList_appendI 51 Try.underlying51 rfl _ _ rfl rfl (hownQ.alloc _) (k : Int) ⟨wq.heap.size, 0, none⟩ 1 rfl (World.news_of_block (cs := #[.int .i64 (k : Int)]) (t := 2) (fr := (0, 0)) (heap_alloc_new wq _)) hll2 (by simp; omega) ?_; intro g cap w5 hown5 hb5 _)
        go_roundw
        case rel => exact ⟨k + 1, by omega, by go_num, by rw [HD.out]; simpa using hown5, (hbQ.alloc hzq _).trans hb5⟩
        case measure => simp [intOf]; omega
    · obtain rfl : k = fs.length := by omega
      obtain ⟨a1, c1, rfl, hs1⟩ := hown.slO
      go_wp2
      go_ret2
      rw [E1.out.1, E1.out.2.1]
      exact ⟨a1, c1, rfl, hs1.mono FN3, FBR.out⟩
end Go.Proofs.Ytpcfhfnlpcpofaa
