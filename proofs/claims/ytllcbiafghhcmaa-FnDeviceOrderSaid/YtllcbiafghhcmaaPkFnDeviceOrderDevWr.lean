/- impl.WriteDeviceBlock, spec.WriteDeviceBlock -/
import Derived.Test.YtllcbiafghhcmaaPkFnDeviceOrderDevBlkSp
import Derived.Test.YtllcbiafghhcmaaPkFnDeviceOrderDevOwn
import Derived.Test.YtllcbiafghhcmaaPkFnDeviceOrderBoxF
namespace Go.Proofs.Ytllcbiafghhcmaa
open Go.RowKit
set_option linter.unusedVariables false
set_option linter.unusedSimpArgs false
set_option maxRecDepth 20000
theorem put_other (w : World) (g i i' : Nat) (v0 v1 : Value) (b : Nat) (h : b ≠ g) : ((w.setCell ⟨g, i, none⟩ v0).setCell ⟨g, i', none⟩ v1).heap[b]? = w.heap[b]? := by
  rw [Below.heap_setCell _ _ _ _ h, Below.heap_setCell _ _ _ _ h]
theorem put_otherD (w : World) (g i i' : Nat) (v0 v1 : Value) (b : Nat) (h : b ≠ g) : ((w.setCell ⟨g, i, none⟩ v0).setCell ⟨g, i', none⟩ v1).drew.heap[b]? = w.heap[b]? := put_other w g i i' v0 v1 b h
theorem put_cellD (w : World) (g i i' : Nat) (v0 v1 : Value) (b o : Nat) (h : b ≠ g) : ((w.setCell ⟨g, i, none⟩ v0).setCell ⟨g, i', none⟩ v1).drew.cell? ⟨b, o, none⟩ = w.cell? ⟨b, o, none⟩ := World.cell?_of_block (put_otherD w g i i' v0 v1 b h)
theorem BoxF.keep {w w' : World} {p : Nat} {vs : Array Value} (h : BoxF w p vs) (hk : w'.heap[p]? = w.heap[p]?) : BoxF w' p vs := by
  intro i v hv
  obtain ⟨h1, h2⟩ := h i v hv
  refine ⟨by rw [World.cell?_of_block hk]; exact h1, ?_⟩
  simp only [World.frozen?] at h2 ⊢
  rw [hk]
  exact h2
theorem addr_ne {a b o o' : Nat} (h : a ≠ b) : (⟨a, o, none⟩ : Addr) ≠ ⟨b, o', none⟩ := fun e => h (congrArg Addr.block e)
theorem OwnBlk.sli {w : World} {B g : Nat} {es : List SectorV} (h : OwnBlk w B g es) : SlSI rowSector 39 w B w.heap.size (some ⟨g, 0, none⟩) es := h.so
def devZ : DeviceV := ⟨⟨0, 0, 0, 0, []⟩, 0, 0, []⟩
/-- A device and a code as results, the device's rows the call's own. -/
def DevRes (rr : DeviceV) (code : Int) (w : World) (e : Ending) (w' : World) : Prop := ∃ s0 s1 d0 d1, e = .returned (.tuple #[.agg #[.int .i64 rr.f0.f0, .int .i64 rr.f0.f1, .int .i64 rr.f0.f2, .int .i64 rr.f0.f3, .slice s0 rr.f0.f4.length d0, .int .i64 rr.f1, .int .i64 rr.f2, .slice s1 rr.f3.length d1], .int .i64 code]) ∧ SlIDevice w' w.heap.size w'.heap.size s0 s1 rr ∧ Below w.heap.size w w'
theorem devZ_own (w : World) (B C : Nat) : SlIDevice w B C none none devZ := ⟨.inl rfl, .inl rfl⟩
def wrC (x : DeviceV) (k : Int) (d : ByteArray) : Int := if secDataB x.f0.f3 d = true then secC x k else 1
/-- The device with another sector i. -/
def setS (x : DeviceV) (i : Nat) (s : SectorV) : DeviceV := { x with f0 := { x.f0 with f4 := x.f0.f4.set i s } }
def wrV (x : DeviceV) (k : Int) (d : ByteArray) : DeviceV := if wrC x k d = 0 then setS x (secV x k).toNat ⟨d, 1⟩ else devZ
theorem setS_len (x : DeviceV) (i : Nat) (s : SectorV) {m : Nat} (h : LenDevice m x) : LenDevice m (setS x i s) := ⟨by unfold setS; simpa using h.1, h.2⟩
theorem wrV_len (x : DeviceV) (k : Int) (d : ByteArray) (h : LenDevice 1048576 x) : LenDevice 1048576 (wrV x k d) := by
  unfold wrV
  split
  · exact setS_len x _ _ h
  · exact ⟨by simp [devZ], by simp [devZ]⟩
theorem devB_ne {x : DeviceV} (h : devB x = true) : x.f0.f4 ≠ [] ∧ x.f3 ≠ [] := by
  obtain ⟨_, hg, hn, _, hs, hl, _⟩ := devB_facts h
  obtain ⟨g0, g1, g2, _⟩ := geoB_iff.1 hg
  have hm := mul_bound g0 g1 g2
  refine ⟨fun e => ?_, fun e => ?_⟩
  · rw [e] at hn; simp at hn; omega
  · rw [e] at hl; simp at hl; omega
set_option maxHeartbeats 1000000 in
theorem written_any (d : ByteArray) (w : World) :
    Calls Try.prog 62 #[.string d] w fun x w' => x = .returned (.agg #[.string d, .int .i64 1]) ∧ Below w.heap.size w w' := by
  go_enter Try.func62, Try.ntmps62
  go_wp2
  refine bodyPost_ret (v := .agg #[.string d, .int .i64 1]) (by simp [results, Try.results62, go_sem]) rfl ⟨rfl, ?_⟩
  go_grown
set_option maxHeartbeats 8000000 in
theorem writeDeviceBlock_any (x : DeviceV) (s0 s1 : Option Addr) (c0 c1 : Nat) (k : Int) (d : ByteArray) (hL : LenDevice 1048576 x) (hV : StrDevice 1048576 x) (hd : d.size ≤ 1048576) (w : World) (h : SlDevice w s0 s1 x) :
    Calls Try.prog 22 #[.agg #[.int .i64 x.f0.f0, .int .i64 x.f0.f1, .int .i64 x.f0.f2, .int .i64 x.f0.f3, .slice s0 x.f0.f4.length c0, .int .i64 x.f1, .int .i64 x.f2, .slice s1 x.f3.length c1], .int .i64 k, .string d] w (DevRes (wrV x k d) (wrC x k d) w) := by
  have ID := Lib.hid (fun w => isSectorData_any x.f0.f3 d w (by unfold maxLen; omega))
  have SO := Lib.hid (fun w' (hb : Below w.heap.size w w') => sectorOf_any x s0 s1 c0 c1 k hL hV w' (h.below hb (Nat.le_refl _)))
  have HA0 : BoxF ((w.alloc (.cells #[.int .i64 x.f0.f0, .int .i64 x.f0.f1, .int .i64 x.f0.f2, .int .i64 x.f0.f3, .slice s0 x.f0.f4.length c0, .int .i64 x.f1, .int .i64 x.f2, .slice s1 x.f3.length c1] 31)).alloc (.cells #[.int .i64 0, .int .i64 0, .int .i64 0, .int .i64 0, .slice none 0 0, .int .i64 0, .int .i64 0, .slice none 0 0] 31)) w.heap.size #[.int .i64 x.f0.f0, .int .i64 x.f0.f1, .int .i64 x.f0.f2, .int .i64 x.f0.f3, .slice s0 x.f0.f4.length c0, .int .i64 x.f1, .int .i64 x.f2, .slice s1 x.f3.length c1] := (BoxF.new w #[.int .i64 x.f0.f0, .int .i64 x.f0.f1, .int .i64 x.f0.f2, .int .i64 x.f0.f3, .slice s0 x.f0.f4.length c0, .int .i64 x.f1, .int .i64 x.f2, .slice s1 x.f3.length c1] 31 _ rfl).below ((Below.refl _ _).alloc (Nat.le_refl _) _) (by simp)
  have HR0 : BoxF ((w.alloc (.cells #[.int .i64 x.f0.f0, .int .i64 x.f0.f1, .int .i64 x.f0.f2, .int .i64 x.f0.f3, .slice s0 x.f0.f4.length c0, .int .i64 x.f1, .int .i64 x.f2, .slice s1 x.f3.length c1] 31)).alloc (.cells #[.int .i64 0, .int .i64 0, .int .i64 0, .int .i64 0, .slice none 0 0, .int .i64 0, .int .i64 0, .slice none 0 0] 31)) (w.heap.size + 1) #[.int .i64 0, .int .i64 0, .int .i64 0, .int .i64 0, .slice none 0 0, .int .i64 0, .int .i64 0, .slice none 0 0] := BoxF.new _ _ _ _ (by simp)
  have HA0 := Lib.hid HA0; have HR0 := Lib.hid HR0
  by_cases hq : secDataB x.f0.f3 d = true
  case neg =>
    have hc : wrC x k d = 1 := by unfold wrC; rw [if_neg hq]
    have hv : wrV x k d = devZ := by unfold wrV; rw [hc]; rfl
    rw [hc, hv]
    have hq0 : secDataB x.f0.f3 d = false := by simpa using hq
    rw [hq0] at ID
    clear hc hv hq hq0 SO h hL hV
    go_enter Try.func22, Try.ntmps22
    go_wp2_with fail
    refine (ID.out _).mono ?_
    rintro e w1 ⟨rfl, hb1⟩
    have R := Lib.hid (HR0.out.below hb1 (by simp))
    have FB := Lib.hid (show Below w.heap.size w w1 from Below.trans (by go_grown) (hb1.mono (by simp <;> omega)))
    clear hb1
    obtain ⟨r0, y0⟩ := R.out 0 _ rfl; obtain ⟨r1, y1⟩ := R.out 1 _ rfl; obtain ⟨r2, y2⟩ := R.out 2 _ rfl; obtain ⟨r3, y3⟩ := R.out 3 _ rfl; obtain ⟨r4, y4⟩ := R.out 4 _ rfl; obtain ⟨r5, y5⟩ := R.out 5 _ rfl; obtain ⟨r6, y6⟩ := R.out 6 _ rfl; obtain ⟨r7, y7⟩ := R.out 7 _ rfl
    go_wp2
    exact bodyPost_ret (v := .tuple #[.agg #[.int .i64 0, .int .i64 0, .int .i64 0, .int .i64 0, .slice none 0 0, .int .i64 0, .int .i64 0, .slice none 0 0], .int .i64 1]) (by simp [results, Try.results22, go_sem, r0, y0, r1, y1, r2, y2, r3, y3, r4, y4, r5, y5, r6, y6, r7, y7]) rfl ⟨none, none, 0, 0, rfl, devZ_own _ _ _, ((((((((FB.out).setCell (by simp <;> omega) _).setCell (by simp <;> omega) _).setCell (by simp <;> omega) _).setCell (by simp <;> omega) _).setCell (by simp <;> omega) _).setCell (by simp <;> omega) _).setCell (by simp <;> omega) _).setCell (by simp <;> omega) _⟩
  rw [hq] at ID
  have hcq : wrC x k d = secC x k := by unfold wrC; rw [if_pos hq]
  by_cases hs : secC x k = 0
  case neg =>
    have hc : wrC x k d = secC x k := hcq
    have hv : wrV x k d = devZ := by unfold wrV; rw [hc, if_neg hs]
    rw [hc, hv]
    have hsb : (secC x k != 0) = true := by simp [hs]
    clear hc hv hq hcq hs h hL hV
    go_enter Try.func22, Try.ntmps22
    go_wp2_with fail
    refine (ID.out _).mono ?_
    rintro e w1 ⟨rfl, hb1⟩
    have R := Lib.hid (HR0.out.below hb1 (by simp))
    have A := Lib.hid (HA0.out.below hb1 (by simp; omega))
    have FB := Lib.hid (show Below w.heap.size w w1 from Below.trans (by go_grown) (hb1.mono (by simp <;> omega)))
    have hz1 : w.heap.size + 1 < w1.heap.size := Nat.lt_of_lt_of_le (by simp) hb1.size
    clear hb1
    obtain ⟨a0, z0⟩ := A.out 0 _ rfl; obtain ⟨a1, z1⟩ := A.out 1 _ rfl; obtain ⟨a2, z2⟩ := A.out 2 _ rfl; obtain ⟨a3, z3⟩ := A.out 3 _ rfl; obtain ⟨a4, z4⟩ := A.out 4 _ rfl; obtain ⟨a5, z5⟩ := A.out 5 _ rfl; obtain ⟨a6, z6⟩ := A.out 6 _ rfl; obtain ⟨a7, z7⟩ := A.out 7 _ rfl
    go_wp2_with fail
    refine (SO.out _ FB.out).mono ?_
    rintro e w2 ⟨rfl, hb2⟩
    clear a0 z0 a1 z1 a2 z2 a3 z3 a4 z4 a5 z5 a6 z6 a7 z7
    replace R := Lib.hid (R.out.below hb2 hz1)
    replace FB := Lib.hid (FB.out.trans (hb2.mono FB.out.size))
    clear hb2
    obtain ⟨r0, y0⟩ := R.out 0 _ rfl; obtain ⟨r1, y1⟩ := R.out 1 _ rfl; obtain ⟨r2, y2⟩ := R.out 2 _ rfl; obtain ⟨r3, y3⟩ := R.out 3 _ rfl; obtain ⟨r4, y4⟩ := R.out 4 _ rfl; obtain ⟨r5, y5⟩ := R.out 5 _ rfl; obtain ⟨r6, y6⟩ := R.out 6 _ rfl; obtain ⟨r7, y7⟩ := R.out 7 _ rfl
    go_wp2
    exact bodyPost_ret (v := .tuple #[.agg #[.int .i64 0, .int .i64 0, .int .i64 0, .int .i64 0, .slice none 0 0, .int .i64 0, .int .i64 0, .slice none 0 0], .int .i64 (secC x k)]) (by simp [results, Try.results22, go_sem, r0, y0, r1, y1, r2, y2, r3, y3, r4, y4, r5, y5, r6, y6, r7, y7]) rfl ⟨none, none, 0, 0, rfl, devZ_own _ _ _, ((((((((FB.out).setCell (by simp <;> omega) _).setCell (by simp <;> omega) _).setCell (by simp <;> omega) _).setCell (by simp <;> omega) _).setCell (by simp <;> omega) _).setCell (by simp <;> omega) _).setCell (by simp <;> omega) _).setCell (by simp <;> omega) _⟩
  case pos =>
    obtain ⟨hdv, _⟩ := secC_cases hs
    obtain ⟨hn0, hn1⟩ := devB_ne hdv
    obtain ⟨j, i, rfl, hx, hv, e, he, hse⟩ := secV_at hs
    have hc : wrC x (j : Int) d = 0 := by rw [hcq, hs]
    have hw : wrV x (j : Int) d = setS x i ⟨d, 1⟩ := by unfold wrV; rw [if_pos hc, hv]; rfl
    rw [hc, hw]
    rw [hv, hs] at SO
    have CL := Lib.hid (fun w' (hb : Below w.heap.size w w') => cloneDev_any x s0 s1 c0 c1 w' hL hn0 hn1 (h.below hb (Nat.le_refl _)))
    have WR := Lib.hid (fun w => written_any d w)
    have hil : i < x.f0.f4.length := (List.getElem?_eq_some_iff.1 he).1
    have ei : (i : Int) < (x.f0.f4.length : Int) := by omega
    have HE := Lib.hid he
    clear hc hw hq hcq hs hv hx hse he hdv hn0 hn1 h hL hV
    go_enter Try.func22, Try.ntmps22
    go_wp2_with fail
    refine (ID.out _).mono ?_
    rintro e_ w1 ⟨rfl, hb1⟩
    have R := Lib.hid (HR0.out.below hb1 (by simp))
    have A := Lib.hid (HA0.out.below hb1 (by simp; omega))
    have FB := Lib.hid (show Below w.heap.size w w1 from Below.trans (by go_grown) (hb1.mono (by simp <;> omega)))
    have hz1 : w.heap.size + 1 < w1.heap.size := Nat.lt_of_lt_of_le (by simp) hb1.size
    clear hb1
    obtain ⟨a0, z0⟩ := A.out 0 _ rfl; obtain ⟨a1, z1⟩ := A.out 1 _ rfl; obtain ⟨a2, z2⟩ := A.out 2 _ rfl; obtain ⟨a3, z3⟩ := A.out 3 _ rfl; obtain ⟨a4, z4⟩ := A.out 4 _ rfl; obtain ⟨a5, z5⟩ := A.out 5 _ rfl; obtain ⟨a6, z6⟩ := A.out 6 _ rfl; obtain ⟨a7, z7⟩ := A.out 7 _ rfl
    go_wp2_with fail
    refine (SO.out _ FB.out).mono ?_
    rintro e_ w2 ⟨rfl, hb2⟩
    clear a0 z0 a1 z1 a2 z2 a3 z3 a4 z4 a5 z5 a6 z6 a7 z7
    replace R := Lib.hid (R.out.below hb2 hz1)
    replace A := Lib.hid (A.out.below hb2 (show w.heap.size < _ by omega))
    replace FB := Lib.hid (FB.out.trans (hb2.mono FB.out.size))
    have hz2 : w.heap.size + 1 < w2.heap.size := Nat.lt_of_lt_of_le hz1 hb2.size
    clear hb2
    obtain ⟨a0, z0⟩ := A.out 0 _ rfl; obtain ⟨a1, z1⟩ := A.out 1 _ rfl; obtain ⟨a2, z2⟩ := A.out 2 _ rfl; obtain ⟨a3, z3⟩ := A.out 3 _ rfl; obtain ⟨a4, z4⟩ := A.out 4 _ rfl; obtain ⟨a5, z5⟩ := A.out 5 _ rfl; obtain ⟨a6, z6⟩ := A.out 6 _ rfl; obtain ⟨a7, z7⟩ := A.out 7 _ rfl
    go_wp2_with fail
    refine (CL.out _ FB.out).mono ?_
    rintro e_ w3 ⟨g0, g1, d0, d1, rfl, ho0, ho1, hb3⟩
    clear a0 z0 a1 z1 a2 z2 a3 z3 a4 z4 a5 z5 a6 z6 a7 z7
    replace R := Lib.hid (R.out.below hb3 hz2)
    have hz3 : w.heap.size + 1 < w3.heap.size := Nat.lt_of_lt_of_le hz2 hb3.size
    have hg0 : w2.heap.size ≤ g0 := ho0.choose_spec.1
    have hg1 : w2.heap.size ≤ g1 := ho1.choose_spec.1
    have hl0 := ho0.lt
    have hl1 := ho1.lt
    replace FB := Lib.hid (FB.out.trans (hb3.mono FB.out.size))
    have hne : g0 ≠ g1 := by
      intro e
      subst e
      obtain ⟨_, _, h1⟩ := ho0
      obtain ⟨_, _, h2⟩ := ho1
      rw [h1] at h2
      simp at h2
    have HO0 := Lib.hid ho0
    have HO1 := Lib.hid ho1
    clear ho0 ho1 hb3
    go_upto_region 7 with (fail)
    have B := Lib.hid (BoxF.new w3 #[.int .i64 x.f0.f0, .int .i64 x.f0.f1, .int .i64 x.f0.f2, .int .i64 x.f0.f3, .slice (some ⟨g0, 0, none⟩) x.f0.f4.length d0, .int .i64 x.f1, .int .i64 x.f2, .slice (some ⟨g1, 0, none⟩) x.f3.length d1] 31 _ rfl)
    replace R := Lib.hid (R.out.below ((Below.refl w3.heap.size w3).alloc (Nat.le_refl _) (.cells #[.int .i64 x.f0.f0, .int .i64 x.f0.f1, .int .i64 x.f0.f2, .int .i64 x.f0.f3, .slice (some ⟨g0, 0, none⟩) x.f0.f4.length d0, .int .i64 x.f1, .int .i64 x.f2, .slice (some ⟨g1, 0, none⟩) x.f3.length d1] 31)) hz3)
    replace HO0 := Lib.hid (HO0.out.below ((Below.refl w3.heap.size w3).alloc (Nat.le_refl _) (.cells #[.int .i64 x.f0.f0, .int .i64 x.f0.f1, .int .i64 x.f0.f2, .int .i64 x.f0.f3, .slice (some ⟨g0, 0, none⟩) x.f0.f4.length d0, .int .i64 x.f1, .int .i64 x.f2, .slice (some ⟨g1, 0, none⟩) x.f3.length d1] 31)) hl0)
    replace HO1 := Lib.hid (HO1.out.below ((Below.refl w3.heap.size w3).alloc (Nat.le_refl _) (.cells #[.int .i64 x.f0.f0, .int .i64 x.f0.f1, .int .i64 x.f0.f2, .int .i64 x.f0.f3, .slice (some ⟨g0, 0, none⟩) x.f0.f4.length d0, .int .i64 x.f1, .int .i64 x.f2, .slice (some ⟨g1, 0, none⟩) x.f3.length d1] 31)) hl1)
    replace FB := Lib.hid (FB.out.alloc FB.out.size (.cells #[.int .i64 x.f0.f0, .int .i64 x.f0.f1, .int .i64 x.f0.f2, .int .i64 x.f0.f3, .slice (some ⟨g0, 0, none⟩) x.f0.f4.length d0, .int .i64 x.f1, .int .i64 x.f2, .slice (some ⟨g1, 0, none⟩) x.f3.length d1] 31))
    have HS := Lib.hid (show (w3.alloc (.cells #[.int .i64 x.f0.f0, .int .i64 x.f0.f1, .int .i64 x.f0.f2, .int .i64 x.f0.f3, .slice (some ⟨g0, 0, none⟩) x.f0.f4.length d0, .int .i64 x.f1, .int .i64 x.f2, .slice (some ⟨g1, 0, none⟩) x.f3.length d1] 31)).heap.size = w3.heap.size + 1 by simp)
    generalize w3.alloc (.cells #[.int .i64 x.f0.f0, .int .i64 x.f0.f1, .int .i64 x.f0.f2, .int .i64 x.f0.f3, .slice (some ⟨g0, 0, none⟩) x.f0.f4.length d0, .int .i64 x.f1, .int .i64 x.f2, .slice (some ⟨g1, 0, none⟩) x.f3.length d1] 31) = W at *
    have hlt : w3.heap.size < W.heap.size := by rw [HS.out]; omega
    have hltR : w.heap.size + 1 < W.heap.size := by omega
    have hltG : g0 < W.heap.size := by omega
    have hltH : g1 < W.heap.size := by omega
    have BX := B.out.box
    obtain ⟨u0, u1⟩ := HO0.out.cell HE.out
    have KS := Lib.hid (fun w' (hb : Below W.heap.size W w') => (show w'.cell? ⟨w3.heap.size, 4, none⟩ = some (.slice (some ⟨g0, 0, none⟩) x.f0.f4.length d0) from (BX.below hb hlt) 4 _ rfl))
    have HC := Lib.hid (show Below W.heap.size W W.drew from (Below.refl _ _).drew)
    refine wp_region_held_drew (S := (fun w' => w'.cell? ⟨w3.heap.size, 4, none⟩ = some (.slice (some ⟨g0, 0, none⟩) x.f0.f4.length d0))) (by kernel_rfl) (KS.out _ HC.out) (fun hHeld => ?_)
    refine wpAnyH_take (i := 0) (oi := { dst := some 30, op := Op.fieldAddr 31 (Operand.tmp 10) 0, type := 0, pos := "l15_blocks.go:205", after := #[], guard := none }) (v := ?_) rfl (by kernel_rfl) (by kernel_rfl) (by kernel_rfl) (fun _ _ _ h => h) (Or.inl ⟨by rfl, ?hy⟩) hHeld ?_
    case hy => (intro w' hSw; (try dsimp only at hSw); go_simp; try with_reducible rfl)
    simp only [Act.put, List.setIfInBounds_toArray, List.set_cons_zero, List.set_cons_succ]
    refine wpAnyH_take (i := 1) (oi := { dst := some 31, op := Op.fieldAddr 26 (Operand.tmp 30) 4, type := 0, pos := "l15_blocks.go:205", after := #[{ on := 0, ground := Ground.data }], guard := none }) (v := ?_) rfl (by kernel_rfl) (by kernel_rfl) (by kernel_rfl) (fun _ _ _ h => h) (Or.inl ⟨by rfl, ?hy⟩) hHeld ?_
    case hy => (intro w' hSw; (try dsimp only at hSw); go_simp; try with_reducible rfl)
    simp only [Act.put, List.setIfInBounds_toArray, List.set_cons_zero, List.set_cons_succ]
    refine wpAnyH_take (i := 2) (oi := { dst := some 32, op := Op.load 24 (Operand.tmp 31), type := 24, pos := "l15_blocks.go:205", after := #[{ on := 1, ground := Ground.data }], guard := none }) (v := ?_) rfl (by kernel_rfl) (by kernel_rfl) (by kernel_rfl) (fun _ _ _ h => h) (Or.inl ⟨by rfl, ?hy⟩) hHeld ?_
    case hy => (intro w' hSw; (try dsimp only at hSw); go_simp; try with_reducible rfl)
    simp only [Act.put, List.setIfInBounds_toArray, List.set_cons_zero, List.set_cons_succ]
    refine wpAnyH_take (i := 3) (oi := { dst := some 33, op := Op.move (Operand.tmp 8), type := 2, pos := "l15_blocks.go:205", after := #[], guard := none }) (v := ?_) rfl (by kernel_rfl) (by kernel_rfl) (by kernel_rfl) (fun _ _ _ h => h) (Or.inl ⟨by rfl, ?hy⟩) hHeld ?_
    case hy => (intro w' hSw; (try dsimp only at hSw); go_simp; try with_reducible rfl)
    simp only [Act.put, List.setIfInBounds_toArray, List.set_cons_zero, List.set_cons_succ]
    refine wpAnyH_take (i := 4) (oi := { dst := some 34, op := Op.move (Operand.tmp 2), type := 9, pos := "l15_blocks.go:205", after := #[], guard := none }) (v := ?_) rfl (by kernel_rfl) (by kernel_rfl) (by kernel_rfl) (fun _ _ _ h => h) (Or.inl ⟨by rfl, ?hy⟩) hHeld ?_
    case hy => (intro w' hSw; (try dsimp only at hSw); go_simp; try with_reducible rfl)
    simp only [Act.put, List.setIfInBounds_toArray, List.set_cons_zero, List.set_cons_succ]
    refine wpAnyH_ready (rs := [5]) (by kernel_rfl) (by simp) ?_
    refine AllReadyH.cons (o := { dst := some 35, op := Op.call { callee := Callee.value (Operand.func 62), args := #[Operand.tmp 34], argTypes := #[9] }, type := 39, pos := "l15_blocks.go:205", after := #[{ on := 4, ground := Ground.data }], guard := none }) rfl (fun K hK => ?_) AllReadyH.nil
    go_simp
    go_at_call 62; refine (WR.out _).mono ?_; rintro e wk1 ⟨rfl, hb1⟩; replace HC := Lib.hid (HC.out.trans (hb1.mono HC.out.size))
    go_wp2_with fail
    refine hK.out _ _ (KS.out _ HC.out) (fun hHeld => ?_)
    clear hK K
    try simp only [Act.put, List.setIfInBounds_toArray, List.set_cons_zero, List.set_cons_succ]
    refine wpAnyH_take (i := 6) (oi := { dst := some 36, op := Op.indexAddr 24 (Operand.tmp 32) (Operand.tmp 33), type := 0, pos := "l15_blocks.go:205", after := #[{ on := 2, ground := Ground.data }, { on := 3, ground := Ground.data }, { on := 0, ground := Ground.phase }, { on := 1, ground := Ground.phase }, { on := 2, ground := Ground.phase }, { on := 3, ground := Ground.phase }, { on := 4, ground := Ground.phase }, { on := 5, ground := Ground.phase }], guard := none }) (v := ?_) rfl (by kernel_rfl) (by kernel_rfl) (by kernel_rfl) (fun _ _ _ h => h) (Or.inl ⟨by rfl, ?hy⟩) hHeld ?_
    case hy => (intro w' hSw; (try dsimp only at hSw); go_simp; try with_reducible rfl)
    simp only [Act.put, List.setIfInBounds_toArray, List.set_cons_zero, List.set_cons_succ]
    refine wpAnyH_ready (rs := [7]) (by kernel_rfl) (by simp) ?_
    refine AllReadyH.cons (o := { dst := none, op := Op.store 39 (Operand.tmp 36) (Operand.tmp 35), type := 0, pos := "l15_blocks.go:205", after := #[{ on := 6, ground := Ground.data }, { on := 5, ground := Ground.data }, { on := 5, ground := Ground.chain }, { on := 0, ground := Ground.phase }, { on := 1, ground := Ground.phase }, { on := 2, ground := Ground.phase }, { on := 3, ground := Ground.phase }, { on := 4, ground := Ground.phase }, { on := 5, ground := Ground.phase }], guard := none }) rfl (fun K hK => ?_) AllReadyH.nil
    have KO := Lib.hid (show OwnBlk _ w2.heap.size g0 x.f0.f4 from HO0.out.below HC.out hltG)
    obtain ⟨v0, v1⟩ := KO.out.cell HE.out
    have v2 := KO.out.free (i * 2)
    have v3 := KO.out.free (i * 2 + 1)
    go_simp
    refine hK.out _ _ (by have hn : g0 ≠ w3.heap.size := (by omega); rw [World.cell?_setCell_other (h := addr_ne hn), World.cell?_setCell_other (h := addr_ne hn)]; exact KS.out _ HC.out) (fun hHeld => ?_)
    clear hK K
    try simp only [Act.put, List.setIfInBounds_toArray, List.set_cons_zero, List.set_cons_succ]
    refine wpAnyH_done (by kernel_rfl) ?_ _
    replace FB := Lib.hid (FB.out.trans (HC.out.mono FB.out.size))
    have HP := Lib.hid (HO1.out.below HC.out hltH)
    replace R := Lib.hid (R.out.below HC.out hltR)
    replace B := Lib.hid (B.out.below HC.out hlt)
    have hzk := HC.out.size
    have PUT := KO.out.put i ⟨d, 1⟩ hil
    dsimp only at PUT
    replace R := Lib.hid (R.out.keep (put_other wk1 g0 (i * 2) (i * 2 + 1) (.string d) (.int .i64 1) _ (by omega)))
    replace B := Lib.hid (B.out.keep (put_other wk1 g0 (i * 2) (i * 2 + 1) (.string d) (.int .i64 1) _ (by omega)))
    replace HP := Lib.hid (HP.out.keep (put_other wk1 g0 (i * 2) (i * 2 + 1) (.string d) (.int .i64 1) _ (fun e => hne e.symm)))
    replace FB := Lib.hid ((FB.out.setCell (p := ⟨g0, i * 2, none⟩) (show w.heap.size ≤ g0 by omega) (.string d)).setCell (p := ⟨g0, i * 2 + 1, none⟩) (show w.heap.size ≤ g0 by omega) (.int .i64 1))
    have hz5 : wk1.heap.size = ((wk1.setCell ⟨g0, i * 2, none⟩ (.string d)).setCell ⟨g0, i * 2 + 1, none⟩ (.int .i64 1)).heap.size := by simp [World.setCell]
    clear v0 v1 v2 v3 KO HO0 HO1 HE hHeld HC KS u0 u1 BX
    generalize (wk1.setCell ⟨g0, i * 2, none⟩ (.string d)).setCell ⟨g0, i * 2 + 1, none⟩ (.int .i64 1) = W2 at *
    have PUT := Lib.hid PUT
    obtain ⟨b0, q0⟩ := B.out 0 _ rfl; obtain ⟨b1, q1⟩ := B.out 1 _ rfl; obtain ⟨b2, q2⟩ := B.out 2 _ rfl; obtain ⟨b3, q3⟩ := B.out 3 _ rfl; obtain ⟨b4, q4⟩ := B.out 4 _ rfl; obtain ⟨b5, q5⟩ := B.out 5 _ rfl; obtain ⟨b6, q6⟩ := B.out 6 _ rfl; obtain ⟨b7, q7⟩ := B.out 7 _ rfl
    obtain ⟨r0, y0⟩ := R.out 0 _ rfl; obtain ⟨r1, y1⟩ := R.out 1 _ rfl; obtain ⟨r2, y2⟩ := R.out 2 _ rfl; obtain ⟨r3, y3⟩ := R.out 3 _ rfl; obtain ⟨r4, y4⟩ := R.out 4 _ rfl; obtain ⟨r5, y5⟩ := R.out 5 _ rfl; obtain ⟨r6, y6⟩ := R.out 6 _ rfl; obtain ⟨r7, y7⟩ := R.out 7 _ rfl
    go_wp2
    refine bodyPost_ret (v := .tuple #[.agg #[.int .i64 x.f0.f0, .int .i64 x.f0.f1, .int .i64 x.f0.f2, .int .i64 x.f0.f3, .slice (some ⟨g0, 0, none⟩) x.f0.f4.length d0, .int .i64 x.f1, .int .i64 x.f2, .slice (some ⟨g1, 0, none⟩) x.f3.length d1], .int .i64 0]) (by simp [results, Try.results22, go_sem, r0, y0, r1, y1, r2, y2, r3, y3, r4, y4, r5, y5, r6, y6, r7, y7]) rfl ⟨some ⟨g0, 0, none⟩, some ⟨g1, 0, none⟩, d0, d1, by simp [setS], ⟨?_, ?_⟩, ((((((((FB.out).setCell (by simp <;> omega) _).setCell (by simp <;> omega) _).setCell (by simp <;> omega) _).setCell (by simp <;> omega) _).setCell (by simp <;> omega) _).setCell (by simp <;> omega) _).setCell (by simp <;> omega) _).setCell (by simp <;> omega) _⟩
    · refine SlSI.mono (OwnBlk.sli (g := g0) (B := w2.heap.size) (PUT.out.keep ?_)) (by have := FB.out.size; omega) (Nat.le_refl _)
      simp only [World.setCell, Array.getElem?_modify]
      rw [if_neg (by omega), if_neg (by omega), if_neg (by omega), if_neg (by omega), if_neg (by omega), if_neg (by omega), if_neg (by omega), if_neg (by omega)]
    · refine SlI.mono (OwnBlkI.sli (g := g1) (B := w2.heap.size) (HP.out.keep ?_)) (by have := FB.out.size; omega) (Nat.le_refl _)
      simp only [World.setCell, Array.getElem?_modify]
      rw [if_neg (by omega), if_neg (by omega), if_neg (by omega), if_neg (by omega), if_neg (by omega), if_neg (by omega), if_neg (by omega), if_neg (by omega)]
theorem secDataB_of {z : Int} {d : ByteArray} {n : Nat} (hz : inB 0 2 z = true) (hn : secN z = (n : Int)) : secDataB z d = decide (d.size = n) := by
  unfold secDataB
  rw [hz, hn, Bool.true_and]
  rw [Bool.eq_iff_iff]
  simp only [decide_eq_true_eq, beq_iff_eq]
  omega
theorem box5F {w : World} {p : Nat} {a b c d e f g h : Value} (hp : BoxF w p #[a, b, c, d, e, f, g, h]) : BoxAt w p #[a, b, c, d, e, f, g, h] := hp.box
end Go.Proofs.Ytllcbiafghhcmaa
