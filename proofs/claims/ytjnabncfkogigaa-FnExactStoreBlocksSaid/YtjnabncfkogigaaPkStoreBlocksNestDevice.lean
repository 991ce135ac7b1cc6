/- The struct Device, which holds a struct: opened among the arguments; laws.szDevice, laws.toDevice, laws.eqDevice -/
import Derived.Test.YtjnabncfkogigaaPkStoreBlocksNestKit
import Derived.Test.YtjnabncfkogigaaPkStoreBlocksOneDisc
namespace Go.Proofs.Ytjnabncfkogigaa
open Go.RowKit Go.ChangeShapes Go.WideShapes Go.ChangeAt Go.Joins Go.Deep
set_option linter.unusedVariables false
set_option linter.unusedSimpArgs false
set_option maxRecDepth 20000
structure DeviceV where
  f0 : DiscV
  f1 : Int
  f2 : Int
  f3 : List Int
theorem DeviceV.ext' {x y : DeviceV} (h : x.f0 = y.f0 ∧ x.f1 = y.f1 ∧ x.f2 = y.f2 ∧ x.f3 = y.f3) : x = y := by
  obtain ⟨x0, x1, x2, x3⟩ := x; obtain ⟨y0, y1, y2, y3⟩ := y
  simpa using h
theorem cellsDeviceN : Try.prog.cellsOf 27 = 8 := by kernel_rfl
theorem cellsDevice_1 : Try.prog.cellsOf 2 = 1 := by kernel_rfl
theorem cellsDevice_2 : Try.prog.cellsOf 2 = 1 := by kernel_rfl
theorem cellsDevice_3 : Try.prog.cellsOf 25 = 1 := by kernel_rfl
/-- No slice of it has more than m elements. -/
def LenDevice (m : Nat) (x : DeviceV) : Prop := x.f0.f4.length ≤ m ∧ x.f3.length ≤ m
def StrDevice (m : Nat) (x : DeviceV) : Prop := (∀ e ∈ x.f0.f4, e.f0.size ≤ m)
def SlDevice (w : World) (s0 s1 : Option Addr) (x : DeviceV) : Prop := SlS rowSector w s0 x.f0.f4 ∧ SlA w s1 x.f3
def SlIDevice (w : World) (B C : Nat) (s0 s1 : Option Addr) (x : DeviceV) : Prop := SlSI rowSector 84 w B C s0 x.f0.f4 ∧ SlI w B C s1 x.f3
def ArgDevice (W : World) (s0 s1 : Option Addr) (x : DeviceV) : Prop := LenDevice maxLen x ∧ SlDevice W s0 s1 x ∧ StrDevice maxLen x
theorem SlDevice.below {w w' : World} {B : Nat} {s0 s1 : Option Addr} {x : DeviceV} (h : SlDevice w s0 s1 x) (hb : Below B w w') (hB : w.heap.size ≤ B) : SlDevice w' s0 s1 x := ⟨(h.1).below hb hB, (h.2).below hb hB⟩
theorem SlIDevice.sl {w : World} {B C : Nat} {s0 s1 : Option Addr} {x : DeviceV} (h : SlIDevice w B C s0 s1 x) : SlDevice w s0 s1 x := ⟨(h.1).sl, (h.2).sl⟩
theorem SlIDevice.sm {lo hi : Nat} {w w' : World} {B C : Nat} {s0 s1 : Option Addr} {x : DeviceV} (h : SlIDevice w B C s0 s1 x) (hs : Sm lo hi w w') (hp : C ≤ lo ∨ hi ≤ B) : SlIDevice w' B C s0 s1 x := ⟨(h.1).sm hs hp, (h.2).sm hs hp⟩
theorem SlIDevice.mono {w : World} {B C B' C' : Nat} {s0 s1 : Option Addr} {x : DeviceV} (h : SlIDevice w B C s0 s1 x) (hB : B' ≤ B) (hC : C ≤ C') : SlIDevice w B' C' s0 s1 x := ⟨(h.1).mono hB hC, (h.2).mono hB hC⟩
theorem SlIDevice.drew {w : World} {B C : Nat} {s0 s1 : Option Addr} {x : DeviceV} (h : SlIDevice w B C s0 s1 x) : SlIDevice w.drew B C s0 s1 x := h
theorem SlIDevice.within {w : World} {B C : Nat} {s0 s1 : Option Addr} {x : DeviceV} (h : SlIDevice w B C s0 s1 x) : SlIDevice w B C s0 s1 x := h
set_option maxRecDepth 100000 in
theorem open_Device {H : Type} {enc : TypeId × Value → H} {W : World} {base : Nat} {v : Value} {d : DataW H} {p : List MemPlace}
    (hv : Value.okWide Try.prog W .any base 27 v) (h : DataW.Trod enc Try.prog W 0 (fun _ => true) true 27 v d p) :
    ∃ (x : DeviceV) (s0 s1 : Option Addr) (c0 c1 : Nat), v = .agg #[.int .i64 x.f0.f0, .int .i64 x.f0.f1, .int .i64 x.f0.f2, .int .i64 x.f0.f3, .slice s0 x.f0.f4.length c0, .int .i64 x.f1, .int .i64 x.f2, .slice s1 x.f3.length c1] ∧ ArgDevice W s0 s1 x := by
  obtain ⟨cs, rfl, hsz, hf⟩ := open_nest Try.underlying27 hv h
  rw [cellsDeviceN] at hsz
  obtain ⟨l⟩ := cs
  match l, hsz, hf with
  | [k0, k1, k2, k3, k4, k5, k6, k7], _, hf =>
    obtain ⟨n0, y0, t0⟩ := hf 0 _ rfl
    change DataW.trod enc Try.prog W 0 (fun _ => true) true n0 24 ((List.drop 0 [k0, k1, k2, k3, k4, k5, k6, k7]).take (Try.prog.cellsOf 24)) = some y0 at t0
    rw [cellsDiscL] at t0
    simp only [List.drop_zero, List.take_succ_cons, List.take_zero, List.drop_succ_cons] at t0
    obtain ⟨n1, y1, t1⟩ := hf 1 _ rfl
    change DataW.trod enc Try.prog W 0 (fun _ => true) true n1 2 ((List.drop 5 [k0, k1, k2, k3, k4, k5, k6, k7]).take (Try.prog.cellsOf 2)) = some y1 at t1
    rw [cellsDevice_1] at t1
    simp only [List.drop_zero, List.take_succ_cons, List.take_zero, List.drop_succ_cons] at t1
    obtain ⟨n2, y2, t2⟩ := hf 2 _ rfl
    change DataW.trod enc Try.prog W 0 (fun _ => true) true n2 2 ((List.drop 6 [k0, k1, k2, k3, k4, k5, k6, k7]).take (Try.prog.cellsOf 2)) = some y2 at t2
    rw [cellsDevice_2] at t2
    simp only [List.drop_zero, List.take_succ_cons, List.take_zero, List.drop_succ_cons] at t2
    obtain ⟨n3, y3, t3⟩ := hf 3 _ rfl
    change DataW.trod enc Try.prog W 0 (fun _ => true) true n3 25 ((List.drop 7 [k0, k1, k2, k3, k4, k5, k6, k7]).take (Try.prog.cellsOf 25)) = some y3 at t3
    rw [cellsDevice_3] at t3
    simp only [List.drop_zero, List.take_succ_cons, List.take_zero, List.drop_succ_cons] at t3
    obtain ⟨_, hg0⟩ := inner_fields Try.underlying24 (by kernel_rfl) cellsDiscL t0
    obtain ⟨q0_0, n0_0, y0_0, e0_0, t0_0⟩ := hg0 0 _ rfl
    cases e0_0
    obtain ⟨q0_1, n0_1, y0_1, e0_1, t0_1⟩ := hg0 1 _ rfl
    cases e0_1
    obtain ⟨q0_2, n0_2, y0_2, e0_2, t0_2⟩ := hg0 2 _ rfl
    cases e0_2
    obtain ⟨q0_3, n0_3, y0_3, e0_3, t0_3⟩ := hg0 3 _ rfl
    cases e0_3
    obtain ⟨q0_4, n0_4, y0_4, e0_4, t0_4⟩ := hg0 4 _ rfl
    cases e0_4
    obtain ⟨x0_0, rfl⟩ := int_cell Try.underlying2 t0_0
    obtain ⟨x0_1, rfl⟩ := int_cell Try.underlying2 t0_1
    obtain ⟨x0_2, rfl⟩ := int_cell Try.underlying2 t0_2
    obtain ⟨x0_3, rfl⟩ := int_cell Try.underlying2 t0_3
    obtain ⟨a0, len0, cap0, rfl⟩ : ∃ a0 len0 cap0, k4 = .slice a0 len0 cap0 := by
      rcases open_slice Try.underlying22 t0_4 with ⟨hcs, _⟩ | ⟨a', len', cap', m, k, D, Pl, hcs, _⟩
      · simp at hcs; exact ⟨_, _, _, hcs⟩
      · simp at hcs; exact ⟨_, _, _, hcs⟩
    obtain ⟨z0, rfl, hm0, hs0, hx0⟩ := readSectorS t0_4
    obtain ⟨x1, rfl⟩ := int_cell Try.underlying2 t1
    obtain ⟨x2, rfl⟩ := int_cell Try.underlying2 t2
    obtain ⟨a1, len1, cap1, rfl⟩ : ∃ a0 len0 cap0, k7 = .slice a0 len0 cap0 := by
      rcases open_slice Try.underlying25 t3 with ⟨hcs, _⟩ | ⟨a', len', cap', m, k, D, Pl, hcs, _⟩
      · simp at hcs; exact ⟨_, _, _, hcs⟩
      · simp at hcs; exact ⟨_, _, _, hcs⟩
    obtain ⟨z1, rfl, hm1, hs1⟩ := readIntsS t3
    exact ⟨⟨⟨x0_0, x0_1, x0_2, x0_3, z0⟩, x1, x2, z1⟩, a0, a1, cap0, cap1, rfl, ⟨hm0, hm1⟩, ⟨hs0, hs1⟩, hx0⟩
/-- The size: of its parts, one after the other. -/
def wtDevice (x : DeviceV) : Nat := wtDisc x.f0 + x.f3.length
theorem wtDevice_len {x : DeviceV} {m : Nat} (h : wtDevice x ≤ m) : LenDevice m x := ⟨Nat.le_trans (Nat.le_trans (wtDisc_len x.f0) (by unfold wtDevice; omega)) h, Nat.le_trans (by unfold wtDevice; omega) h⟩
theorem wtDevice_str {x : DeviceV} {m : Nat} (h : wtDevice x ≤ m) : StrDevice m x := fun e he => wtSector_at (show wtSector (x.f0.f4) ≤ m from Nat.le_trans (show wtSector (x.f0.f4) ≤ wtDevice x from by have : wtDisc x.f0 = wtSector (x.f0.f4) := rfl; unfold wtDevice; omega) h) e he
set_option maxHeartbeats 4000000 in
theorem szDevice_any (x : DeviceV) (s0 s1 : Option Addr) (c0 c1 left : Nat) (w : World) (hl : left ≤ 1048576) (hL : LenDevice maxLen x) (hV : StrDevice maxLen x) (h : SlDevice w s0 s1 x) :
    Calls Try.prog 11 #[.agg #[.int .i64 x.f0.f0, .int .i64 x.f0.f1, .int .i64 x.f0.f2, .int .i64 x.f0.f3, .slice s0 x.f0.f4.length c0, .int .i64 x.f1, .int .i64 x.f2, .slice s1 x.f3.length c1], .int .i64 (left : Nat)] w fun y w' => y = .returned (.int .i64 (szV left (wtDevice x))) ∧ Below w.heap.size w w' := by
  obtain ⟨hL0, hL1⟩ := hL
  have hv0 := hV
  unfold StrDevice at hv0
  obtain ⟨h0, h1⟩ := h
  have hw0 : ∃ q, wtDisc x.f0 = q := ⟨_, rfl⟩
  obtain ⟨p0, hp0⟩ := hw0
  have hwt : wtDevice x = p0 + x.f3.length := by unfold wtDevice; rw [hp0]
  rw [hwt]
  have k0 := fun w' (hb : Below w.heap.size w w') => szDisc_any x.f0 s0 c0 left w' (by omega) hL0 hv0 (h0.below hb (Nat.le_refl _))
  rw [hp0] at k0
  by_cases g0 : p0 ≤ left
  case neg =>
    have he : szV left p0 = -1 := by unfold szV; rw [if_neg g0]
    have hf : szV left (p0 + x.f3.length) = -1 := by unfold szV; rw [if_neg (by omega)]
    rw [he] at k0
    rw [hf]
    clear he hf 
    have HK0 := Lib.hid k0; clear k0
    clear hwt h0 h1 hp0 hv0 hL0 hL1
    go_enter Try.func11, Try.ntmps11
    go_wp2_with fail
    refine (HK0.out _ (by go_grown)).mono ?_
    rintro e w0 ⟨rfl, hb0⟩
    have FB0 := Lib.hid (show Below w.heap.size w w0 from Below.trans (by go_grown) (hb0.mono (by simp)))
    have FN0 := Lib.hid (show w.heap.size < w0.heap.size from Nat.lt_of_lt_of_le (by simp) hb0.size); clear hb0
    go_wp2
    go_ret
    exact ⟨rfl, FB0.out⟩
  have he0 : szV left p0 = ((left - p0 : Nat) : Int) := by unfold szV; rw [if_pos g0]
  obtain ⟨r0, hr0⟩ : ∃ r, left - p0 = r := ⟨_, rfl⟩
  rw [he0, hr0] at k0
  have hz0 : ¬ ((r0 : Int) < 0) := by omega
  have hy0 : r0 ≤ 1048576 := by omega
  have k3 := fun w' (hb : Below w.heap.size w w') => szIntV_any s1 x.f3.length c1 r0 w' (by omega) hL1
  by_cases g3 : x.f3.length ≤ r0
  case neg =>
    have he : szV r0 x.f3.length = -1 := by unfold szV; rw [if_neg g3]
    have hf : szV left (p0 + x.f3.length) = -1 := by unfold szV; rw [if_neg (by omega)]
    rw [he] at k3
    rw [hf]
    clear he hf he0 hr0
    have HK0 := Lib.hid k0; clear k0
    have HK3 := Lib.hid k3; clear k3
    clear hwt h0 h1 hp0 hv0 hL0 hL1
    go_enter Try.func11, Try.ntmps11
    go_wp2_with fail
    refine (HK0.out _ (by go_grown)).mono ?_
    rintro e w0 ⟨rfl, hb0⟩
    have q0_7 : w0.cell? ⟨w.heap.size, 7, none⟩ = some (.slice s1 x.f3.length c1) := by rw [hb0.cell (p := ⟨w.heap.size, 7, none⟩) (by simp)]; simp [go_sem]
    have FB0 := Lib.hid (show Below w.heap.size w w0 from Below.trans (by go_grown) (hb0.mono (by simp)))
    have FN0 := Lib.hid (show w.heap.size < w0.heap.size from Nat.lt_of_lt_of_le (by simp) hb0.size); clear hb0
    go_wp2_with fail
    refine (HK3.out _ FB0.out).mono ?_
    rintro e w1 ⟨rfl, hb1⟩
    have FB1 := Lib.hid (FB0.out.trans (hb1.mono FB0.out.size))
    have FN1 := Lib.hid (Nat.lt_of_lt_of_le FN0.out hb1.size); clear hb1
    clear q0_7
    go_wp2
    go_ret
    exact ⟨rfl, FB1.out⟩
  have he3 : szV r0 x.f3.length = ((r0 - x.f3.length : Nat) : Int) := by unfold szV; rw [if_pos g3]
  obtain ⟨r3, hr3⟩ : ∃ r, r0 - x.f3.length = r := ⟨_, rfl⟩
  rw [he3, hr3] at k3
  have hz3 : ¬ ((r3 : Int) < 0) := by omega
  have hy3 : r3 ≤ 1048576 := by omega
  have hf : szV left (p0 + x.f3.length) = ((r3 : Nat) : Int) := by unfold szV; rw [if_pos (by omega)]; omega
  rw [hf]
  clear hf he0 hr0 he3 hr3
  have HK0 := Lib.hid k0; clear k0
  have HK3 := Lib.hid k3; clear k3
  clear hwt h0 h1 hp0 hv0 hL0 hL1
  go_enter Try.func11, Try.ntmps11
  go_wp2_with fail
  refine (HK0.out _ (by go_grown)).mono ?_
  rintro e w0 ⟨rfl, hb0⟩
  have q0_7 : w0.cell? ⟨w.heap.size, 7, none⟩ = some (.slice s1 x.f3.length c1) := by rw [hb0.cell (p := ⟨w.heap.size, 7, none⟩) (by simp)]; simp [go_sem]
  have FB0 := Lib.hid (show Below w.heap.size w w0 from Below.trans (by go_grown) (hb0.mono (by simp)))
  have FN0 := Lib.hid (show w.heap.size < w0.heap.size from Nat.lt_of_lt_of_le (by simp) hb0.size); clear hb0
  go_wp2_with fail
  refine (HK3.out _ FB0.out).mono ?_
  rintro e w1 ⟨rfl, hb1⟩
  have FB1 := Lib.hid (FB0.out.trans (hb1.mono FB0.out.size))
  have FN1 := Lib.hid (Nat.lt_of_lt_of_le FN0.out hb1.size); clear hb1
  clear q0_7
  go_wp2
  go_ret
  exact ⟨rfl, FB1.out⟩
def ToDevicePost (x : DeviceV) (w : World) (e : Ending) (w' : World) : Prop :=
  ∃ g0 g1, e = .returned (.agg #[.int .i64 x.f0.f0, .int .i64 x.f0.f1, .int .i64 x.f0.f2, .int .i64 x.f0.f3, .slice (some ⟨g0, 0, none⟩) x.f0.f4.length x.f0.f4.length, .int .i64 x.f1, .int .i64 x.f2, .slice (some ⟨g1, 0, none⟩) x.f3.length x.f3.length]) ∧ SlIDevice w' w.heap.size w'.heap.size (some ⟨g0, 0, none⟩) (some ⟨g1, 0, none⟩) x ∧ Below w.heap.size w w'
set_option maxHeartbeats 8000000 in
theorem toDevice_any (x : DeviceV) (s0 s1 : Option Addr) (c0 c1 : Nat) (w : World) (hL : LenDevice 1048576 x) (h : SlDevice w s0 s1 x) :
    Calls Try.prog 13 #[.agg #[.int .i64 x.f0.f0, .int .i64 x.f0.f1, .int .i64 x.f0.f2, .int .i64 x.f0.f3, .slice s0 x.f0.f4.length c0, .int .i64 x.f1, .int .i64 x.f2, .slice s1 x.f3.length c1]] w (ToDevicePost x w) := by
  obtain ⟨hL0, hL1⟩ := hL
  obtain ⟨h0, h1⟩ := h
  have HT0 := Lib.hid (fun w' (hb : Below w.heap.size w w') => toDisc_any x.f0 s0 c0 w' hL0 (h0.below hb (Nat.le_refl _)))
  have HT3 := Lib.hid (fun w' (hb : Below w.heap.size w w') => toInts_any s1 x.f3 c1 w' hL1 (h1.below hb (Nat.le_refl _)))
  clear h0 h1
  go_enter Try.func13, Try.ntmps13
  go_wp2_with fail
  refine (HT0.out _ (by go_grown)).mono ?_
  rintro e w0 ⟨g0, rfl, hrow0, hg0, hb0⟩
  have r0_0 : w0.cell? ⟨w.heap.size + 1, 0, none⟩ = some (.int .i64 0) := by rw [hb0.cell (p := ⟨w.heap.size + 1, 0, none⟩) (by simp)]; simp [go_sem]
  have o0_0 : w0.cell? ⟨w.heap.size + 1 + 1, 0, none⟩ = some (.int .i64 0) := by rw [hb0.cell (p := ⟨w.heap.size + 1 + 1, 0, none⟩) (by simp)]; simp [go_sem]
  have y0_0 : w0.frozen? ⟨w.heap.size + 1, 0, none⟩ = false := by rw [hb0.frozen (p := ⟨w.heap.size + 1, 0, none⟩) (by simp)]; simp [go_sem]
  have z0_0 : w0.frozen? ⟨w.heap.size + 1 + 1, 0, none⟩ = false := by rw [hb0.frozen (p := ⟨w.heap.size + 1 + 1, 0, none⟩) (by simp)]; simp [go_sem]
  have r0_1 : w0.cell? ⟨w.heap.size + 1, 1, none⟩ = some (.int .i64 0) := by rw [hb0.cell (p := ⟨w.heap.size + 1, 1, none⟩) (by simp)]; simp [go_sem]
  have o0_1 : w0.cell? ⟨w.heap.size + 1 + 1, 1, none⟩ = some (.int .i64 0) := by rw [hb0.cell (p := ⟨w.heap.size + 1 + 1, 1, none⟩) (by simp)]; simp [go_sem]
  have y0_1 : w0.frozen? ⟨w.heap.size + 1, 1, none⟩ = false := by rw [hb0.frozen (p := ⟨w.heap.size + 1, 1, none⟩) (by simp)]; simp [go_sem]
  have z0_1 : w0.frozen? ⟨w.heap.size + 1 + 1, 1, none⟩ = false := by rw [hb0.frozen (p := ⟨w.heap.size + 1 + 1, 1, none⟩) (by simp)]; simp [go_sem]
  have r0_2 : w0.cell? ⟨w.heap.size + 1, 2, none⟩ = some (.int .i64 0) := by rw [hb0.cell (p := ⟨w.heap.size + 1, 2, none⟩) (by simp)]; simp [go_sem]
  have o0_2 : w0.cell? ⟨w.heap.size + 1 + 1, 2, none⟩ = some (.int .i64 0) := by rw [hb0.cell (p := ⟨w.heap.size + 1 + 1, 2, none⟩) (by simp)]; simp [go_sem]
  have y0_2 : w0.frozen? ⟨w.heap.size + 1, 2, none⟩ = false := by rw [hb0.frozen (p := ⟨w.heap.size + 1, 2, none⟩) (by simp)]; simp [go_sem]
  have z0_2 : w0.frozen? ⟨w.heap.size + 1 + 1, 2, none⟩ = false := by rw [hb0.frozen (p := ⟨w.heap.size + 1 + 1, 2, none⟩) (by simp)]; simp [go_sem]
  have r0_3 : w0.cell? ⟨w.heap.size + 1, 3, none⟩ = some (.int .i64 0) := by rw [hb0.cell (p := ⟨w.heap.size + 1, 3, none⟩) (by simp)]; simp [go_sem]
  have o0_3 : w0.cell? ⟨w.heap.size + 1 + 1, 3, none⟩ = some (.int .i64 0) := by rw [hb0.cell (p := ⟨w.heap.size + 1 + 1, 3, none⟩) (by simp)]; simp [go_sem]
  have y0_3 : w0.frozen? ⟨w.heap.size + 1, 3, none⟩ = false := by rw [hb0.frozen (p := ⟨w.heap.size + 1, 3, none⟩) (by simp)]; simp [go_sem]
  have z0_3 : w0.frozen? ⟨w.heap.size + 1 + 1, 3, none⟩ = false := by rw [hb0.frozen (p := ⟨w.heap.size + 1 + 1, 3, none⟩) (by simp)]; simp [go_sem]
  have r0_4 : w0.cell? ⟨w.heap.size + 1, 4, none⟩ = some (.slice none 0 0) := by rw [hb0.cell (p := ⟨w.heap.size + 1, 4, none⟩) (by simp)]; simp [go_sem]
  have o0_4 : w0.cell? ⟨w.heap.size + 1 + 1, 4, none⟩ = some (.slice none 0 0) := by rw [hb0.cell (p := ⟨w.heap.size + 1 + 1, 4, none⟩) (by simp)]; simp [go_sem]
  have y0_4 : w0.frozen? ⟨w.heap.size + 1, 4, none⟩ = false := by rw [hb0.frozen (p := ⟨w.heap.size + 1, 4, none⟩) (by simp)]; simp [go_sem]
  have z0_4 : w0.frozen? ⟨w.heap.size + 1 + 1, 4, none⟩ = false := by rw [hb0.frozen (p := ⟨w.heap.size + 1 + 1, 4, none⟩) (by simp)]; simp [go_sem]
  have r0_5 : w0.cell? ⟨w.heap.size + 1, 5, none⟩ = some (.int .i64 0) := by rw [hb0.cell (p := ⟨w.heap.size + 1, 5, none⟩) (by simp)]; simp [go_sem]
  have o0_5 : w0.cell? ⟨w.heap.size + 1 + 1, 5, none⟩ = some (.int .i64 0) := by rw [hb0.cell (p := ⟨w.heap.size + 1 + 1, 5, none⟩) (by simp)]; simp [go_sem]
  have y0_5 : w0.frozen? ⟨w.heap.size + 1, 5, none⟩ = false := by rw [hb0.frozen (p := ⟨w.heap.size + 1, 5, none⟩) (by simp)]; simp [go_sem]
  have z0_5 : w0.frozen? ⟨w.heap.size + 1 + 1, 5, none⟩ = false := by rw [hb0.frozen (p := ⟨w.heap.size + 1 + 1, 5, none⟩) (by simp)]; simp [go_sem]
  have r0_6 : w0.cell? ⟨w.heap.size + 1, 6, none⟩ = some (.int .i64 0) := by rw [hb0.cell (p := ⟨w.heap.size + 1, 6, none⟩) (by simp)]; simp [go_sem]
  have o0_6 : w0.cell? ⟨w.heap.size + 1 + 1, 6, none⟩ = some (.int .i64 0) := by rw [hb0.cell (p := ⟨w.heap.size + 1 + 1, 6, none⟩) (by simp)]; simp [go_sem]
  have y0_6 : w0.frozen? ⟨w.heap.size + 1, 6, none⟩ = false := by rw [hb0.frozen (p := ⟨w.heap.size + 1, 6, none⟩) (by simp)]; simp [go_sem]
  have z0_6 : w0.frozen? ⟨w.heap.size + 1 + 1, 6, none⟩ = false := by rw [hb0.frozen (p := ⟨w.heap.size + 1 + 1, 6, none⟩) (by simp)]; simp [go_sem]
  have r0_7 : w0.cell? ⟨w.heap.size + 1, 7, none⟩ = some (.slice none 0 0) := by rw [hb0.cell (p := ⟨w.heap.size + 1, 7, none⟩) (by simp)]; simp [go_sem]
  have o0_7 : w0.cell? ⟨w.heap.size + 1 + 1, 7, none⟩ = some (.slice none 0 0) := by rw [hb0.cell (p := ⟨w.heap.size + 1 + 1, 7, none⟩) (by simp)]; simp [go_sem]
  have y0_7 : w0.frozen? ⟨w.heap.size + 1, 7, none⟩ = false := by rw [hb0.frozen (p := ⟨w.heap.size + 1, 7, none⟩) (by simp)]; simp [go_sem]
  have z0_7 : w0.frozen? ⟨w.heap.size + 1 + 1, 7, none⟩ = false := by rw [hb0.frozen (p := ⟨w.heap.size + 1 + 1, 7, none⟩) (by simp)]; simp [go_sem]
  have n0_5 : w0.cell? ⟨w.heap.size, 5, none⟩ = some (.int .i64 x.f1) := by rw [hb0.cell (p := ⟨w.heap.size, 5, none⟩) (by simp <;> omega)]; simp [go_sem]
  have n0_6 : w0.cell? ⟨w.heap.size, 6, none⟩ = some (.int .i64 x.f2) := by rw [hb0.cell (p := ⟨w.heap.size, 6, none⟩) (by simp <;> omega)]; simp [go_sem]
  have n0_7 : w0.cell? ⟨w.heap.size, 7, none⟩ = some (.slice s1 x.f3.length c1) := by rw [hb0.cell (p := ⟨w.heap.size, 7, none⟩) (by simp <;> omega)]; simp [go_sem]
  have FB0 := Lib.hid (show Below w.heap.size w w0 from Below.trans (by go_grown) (hb0.mono (by simp <;> omega)))
  have hgg0 : w.heap.size + 2 < g0 := by have := hg0; simp at this; omega
  have hsz0 : w.heap.size + 3 ≤ w0.heap.size := by have := hb0.size; simp at this; omega
  have HR0_0 := Lib.hid hrow0
  clear hb0 hrow0 hg0
  go_wp2_with fail
  obtain ⟨U1, hU1⟩ : ∃ U, U = (((((((w0.setCell ⟨w.heap.size + 1 + 1, 0, none⟩ (.int .i64 x.f0.f0)).setCell ⟨w.heap.size + 1 + 1, 1, none⟩ (.int .i64 x.f0.f1)).setCell ⟨w.heap.size + 1 + 1, 2, none⟩ (.int .i64 x.f0.f2)).setCell ⟨w.heap.size + 1 + 1, 3, none⟩ (.int .i64 x.f0.f3)).setCell ⟨w.heap.size + 1 + 1, 4, none⟩ (.slice (some ⟨g0, 0, none⟩) x.f0.f4.length x.f0.f4.length)).setCell ⟨w.heap.size + 1 + 1, 5, none⟩ (.int .i64 x.f1)).setCell ⟨w.heap.size + 1 + 1, 6, none⟩ (.int .i64 x.f2)) := ⟨_, rfl⟩
  have a1_0 : U1.cell? ⟨w.heap.size + 1, 0, none⟩ = some (.int .i64 0) := by subst hU1; simp [go_sem, r0_0]
  have b1_0 : U1.cell? ⟨w.heap.size + 1 + 1, 0, none⟩ = some (.int .i64 x.f0.f0) := by subst hU1; simp [go_sem, o0_0, o0_1, o0_2, o0_3, o0_4, o0_5, o0_6, o0_7]
  have d1_0 : U1.frozen? ⟨w.heap.size + 1, 0, none⟩ = false := by subst hU1; simp [go_sem, y0_0]
  have f1_0 : U1.frozen? ⟨w.heap.size + 1 + 1, 0, none⟩ = false := by subst hU1; simp [go_sem, z0_0]
  have a1_1 : U1.cell? ⟨w.heap.size + 1, 1, none⟩ = some (.int .i64 0) := by subst hU1; simp [go_sem, r0_1]
  have b1_1 : U1.cell? ⟨w.heap.size + 1 + 1, 1, none⟩ = some (.int .i64 x.f0.f1) := by subst hU1; simp [go_sem, o0_0, o0_1, o0_2, o0_3, o0_4, o0_5, o0_6, o0_7]
  have d1_1 : U1.frozen? ⟨w.heap.size + 1, 1, none⟩ = false := by subst hU1; simp [go_sem, y0_1]
  have f1_1 : U1.frozen? ⟨w.heap.size + 1 + 1, 1, none⟩ = false := by subst hU1; simp [go_sem, z0_1]
  have a1_2 : U1.cell? ⟨w.heap.size + 1, 2, none⟩ = some (.int .i64 0) := by subst hU1; simp [go_sem, r0_2]
  have b1_2 : U1.cell? ⟨w.heap.size + 1 + 1, 2, none⟩ = some (.int .i64 x.f0.f2) := by subst hU1; simp [go_sem, o0_0, o0_1, o0_2, o0_3, o0_4, o0_5, o0_6, o0_7]
  have d1_2 : U1.frozen? ⟨w.heap.size + 1, 2, none⟩ = false := by subst hU1; simp [go_sem, y0_2]
  have f1_2 : U1.frozen? ⟨w.heap.size + 1 + 1, 2, none⟩ = false := by subst hU1; simp [go_sem, z0_2]
  have a1_3 : U1.cell? ⟨w.heap.size + 1, 3, none⟩ = some (.int .i64 0) := by subst hU1; simp [go_sem, r0_3]
  have b1_3 : U1.cell? ⟨w.heap.size + 1 + 1, 3, none⟩ = some (.int .i64 x.f0.f3) := by subst hU1; simp [go_sem, o0_0, o0_1, o0_2, o0_3, o0_4, o0_5, o0_6, o0_7]
  have d1_3 : U1.frozen? ⟨w.heap.size + 1, 3, none⟩ = false := by subst hU1; simp [go_sem, y0_3]
  have f1_3 : U1.frozen? ⟨w.heap.size + 1 + 1, 3, none⟩ = false := by subst hU1; simp [go_sem, z0_3]
  have a1_4 : U1.cell? ⟨w.heap.size + 1, 4, none⟩ = some (.slice none 0 0) := by subst hU1; simp [go_sem, r0_4]
  have b1_4 : U1.cell? ⟨w.heap.size + 1 + 1, 4, none⟩ = some (.slice (some ⟨g0, 0, none⟩) x.f0.f4.length x.f0.f4.length) := by subst hU1; simp [go_sem, o0_0, o0_1, o0_2, o0_3, o0_4, o0_5, o0_6, o0_7]
  have d1_4 : U1.frozen? ⟨w.heap.size + 1, 4, none⟩ = false := by subst hU1; simp [go_sem, y0_4]
  have f1_4 : U1.frozen? ⟨w.heap.size + 1 + 1, 4, none⟩ = false := by subst hU1; simp [go_sem, z0_4]
  have a1_5 : U1.cell? ⟨w.heap.size + 1, 5, none⟩ = some (.int .i64 0) := by subst hU1; simp [go_sem, r0_5]
  have b1_5 : U1.cell? ⟨w.heap.size + 1 + 1, 5, none⟩ = some (.int .i64 x.f1) := by subst hU1; simp [go_sem, o0_0, o0_1, o0_2, o0_3, o0_4, o0_5, o0_6, o0_7]
  have d1_5 : U1.frozen? ⟨w.heap.size + 1, 5, none⟩ = false := by subst hU1; simp [go_sem, y0_5]
  have f1_5 : U1.frozen? ⟨w.heap.size + 1 + 1, 5, none⟩ = false := by subst hU1; simp [go_sem, z0_5]
  have a1_6 : U1.cell? ⟨w.heap.size + 1, 6, none⟩ = some (.int .i64 0) := by subst hU1; simp [go_sem, r0_6]
  have b1_6 : U1.cell? ⟨w.heap.size + 1 + 1, 6, none⟩ = some (.int .i64 x.f2) := by subst hU1; simp [go_sem, o0_0, o0_1, o0_2, o0_3, o0_4, o0_5, o0_6, o0_7]
  have d1_6 : U1.frozen? ⟨w.heap.size + 1, 6, none⟩ = false := by subst hU1; simp [go_sem, y0_6]
  have f1_6 : U1.frozen? ⟨w.heap.size + 1 + 1, 6, none⟩ = false := by subst hU1; simp [go_sem, z0_6]
  have a1_7 : U1.cell? ⟨w.heap.size + 1, 7, none⟩ = some (.slice none 0 0) := by subst hU1; simp [go_sem, r0_7]
  have b1_7 : U1.cell? ⟨w.heap.size + 1 + 1, 7, none⟩ = some (.slice none 0 0) := by subst hU1; simp [go_sem, o0_0, o0_1, o0_2, o0_3, o0_4, o0_5, o0_6, o0_7]
  have d1_7 : U1.frozen? ⟨w.heap.size + 1, 7, none⟩ = false := by subst hU1; simp [go_sem, y0_7]
  have f1_7 : U1.frozen? ⟨w.heap.size + 1 + 1, 7, none⟩ = false := by subst hU1; simp [go_sem, z0_7]
  have m1_7 : U1.cell? ⟨w.heap.size, 7, none⟩ = some (.slice s1 x.f3.length c1) := by subst hU1; simp [go_sem, n0_7]
  have hs1 : w.heap.size + 3 ≤ U1.heap.size := by subst hU1; simpa using hsz0
  have FU1 := Lib.hid (show Below w.heap.size w U1 from by subst hU1; exact (((((((FB0.out).setCell (by simp <;> omega) _).setCell (by simp <;> omega) _).setCell (by simp <;> omega) _).setCell (by simp <;> omega) _).setCell (by simp <;> omega) _).setCell (by simp <;> omega) _).setCell (by simp <;> omega) _)
  have HU1_0 := Lib.hid (show BlkS rowSector 84 U1 g0 (x.f0.f4) from by
    have := HR0_0.out
    unfold BlkS at this ⊢
    subst hU1
    exact heap_setCell_at (heap_setCell_at (heap_setCell_at (heap_setCell_at (heap_setCell_at (heap_setCell_at (heap_setCell_at (this) (by omega)) (by omega)) (by omega)) (by omega)) (by omega)) (by omega)) (by omega))
  rw [← hU1]
  clear hU1 FB0 hsz0 r0_0 o0_0 y0_0 z0_0 r0_1 o0_1 y0_1 z0_1 r0_2 o0_2 y0_2 z0_2 r0_3 o0_3 y0_3 z0_3 r0_4 o0_4 y0_4 z0_4 r0_5 o0_5 y0_5 z0_5 r0_6 o0_6 y0_6 z0_6 r0_7 o0_7 y0_7 z0_7 HR0_0 n0_5 n0_6 n0_7
  refine (HT3.out _ FU1.out).mono ?_
  rintro e w1 ⟨g1, rfl, hrow1, hg1, hb1⟩
  have r1_0 := (hb1.cell (p := ⟨w.heap.size + 1, 0, none⟩) (by simp <;> omega)).trans a1_0
  have o1_0 := (hb1.cell (p := ⟨w.heap.size + 1 + 1, 0, none⟩) (by simp <;> omega)).trans b1_0
  have y1_0 := (hb1.frozen (p := ⟨w.heap.size + 1, 0, none⟩) (by simp <;> omega)).trans d1_0
  have z1_0 := (hb1.frozen (p := ⟨w.heap.size + 1 + 1, 0, none⟩) (by simp <;> omega)).trans f1_0
  have r1_1 := (hb1.cell (p := ⟨w.heap.size + 1, 1, none⟩) (by simp <;> omega)).trans a1_1
  have o1_1 := (hb1.cell (p := ⟨w.heap.size + 1 + 1, 1, none⟩) (by simp <;> omega)).trans b1_1
  have y1_1 := (hb1.frozen (p := ⟨w.heap.size + 1, 1, none⟩) (by simp <;> omega)).trans d1_1
  have z1_1 := (hb1.frozen (p := ⟨w.heap.size + 1 + 1, 1, none⟩) (by simp <;> omega)).trans f1_1
  have r1_2 := (hb1.cell (p := ⟨w.heap.size + 1, 2, none⟩) (by simp <;> omega)).trans a1_2
  have o1_2 := (hb1.cell (p := ⟨w.heap.size + 1 + 1, 2, none⟩) (by simp <;> omega)).trans b1_2
  have y1_2 := (hb1.frozen (p := ⟨w.heap.size + 1, 2, none⟩) (by simp <;> omega)).trans d1_2
  have z1_2 := (hb1.frozen (p := ⟨w.heap.size + 1 + 1, 2, none⟩) (by simp <;> omega)).trans f1_2
  have r1_3 := (hb1.cell (p := ⟨w.heap.size + 1, 3, none⟩) (by simp <;> omega)).trans a1_3
  have o1_3 := (hb1.cell (p := ⟨w.heap.size + 1 + 1, 3, none⟩) (by simp <;> omega)).trans b1_3
  have y1_3 := (hb1.frozen (p := ⟨w.heap.size + 1, 3, none⟩) (by simp <;> omega)).trans d1_3
  have z1_3 := (hb1.frozen (p := ⟨w.heap.size + 1 + 1, 3, none⟩) (by simp <;> omega)).trans f1_3
  have r1_4 := (hb1.cell (p := ⟨w.heap.size + 1, 4, none⟩) (by simp <;> omega)).trans a1_4
  have o1_4 := (hb1.cell (p := ⟨w.heap.size + 1 + 1, 4, none⟩) (by simp <;> omega)).trans b1_4
  have y1_4 := (hb1.frozen (p := ⟨w.heap.size + 1, 4, none⟩) (by simp <;> omega)).trans d1_4
  have z1_4 := (hb1.frozen (p := ⟨w.heap.size + 1 + 1, 4, none⟩) (by simp <;> omega)).trans f1_4
  have r1_5 := (hb1.cell (p := ⟨w.heap.size + 1, 5, none⟩) (by simp <;> omega)).trans a1_5
  have o1_5 := (hb1.cell (p := ⟨w.heap.size + 1 + 1, 5, none⟩) (by simp <;> omega)).trans b1_5
  have y1_5 := (hb1.frozen (p := ⟨w.heap.size + 1, 5, none⟩) (by simp <;> omega)).trans d1_5
  have z1_5 := (hb1.frozen (p := ⟨w.heap.size + 1 + 1, 5, none⟩) (by simp <;> omega)).trans f1_5
  have r1_6 := (hb1.cell (p := ⟨w.heap.size + 1, 6, none⟩) (by simp <;> omega)).trans a1_6
  have o1_6 := (hb1.cell (p := ⟨w.heap.size + 1 + 1, 6, none⟩) (by simp <;> omega)).trans b1_6
  have y1_6 := (hb1.frozen (p := ⟨w.heap.size + 1, 6, none⟩) (by simp <;> omega)).trans d1_6
  have z1_6 := (hb1.frozen (p := ⟨w.heap.size + 1 + 1, 6, none⟩) (by simp <;> omega)).trans f1_6
  have r1_7 := (hb1.cell (p := ⟨w.heap.size + 1, 7, none⟩) (by simp <;> omega)).trans a1_7
  have o1_7 := (hb1.cell (p := ⟨w.heap.size + 1 + 1, 7, none⟩) (by simp <;> omega)).trans b1_7
  have y1_7 := (hb1.frozen (p := ⟨w.heap.size + 1, 7, none⟩) (by simp <;> omega)).trans d1_7
  have z1_7 := (hb1.frozen (p := ⟨w.heap.size + 1 + 1, 7, none⟩) (by simp <;> omega)).trans f1_7
  have FB1 := Lib.hid (FU1.out.trans (hb1.mono FU1.out.size))
  have hgg1 : w.heap.size + 2 < g1 := by omega
  have hsz1 : w.heap.size + 3 ≤ w1.heap.size := by have := hb1.size; omega
  have HR1_0 := Lib.hid (show BlkS rowSector 84 w1 g0 (x.f0.f4) from by
    have := HU1_0.out
    unfold BlkS at this ⊢
    rw [← this]
    exact hb1.block g0 (Array.getElem?_eq_some_iff.1 this).1)
  clear FU1 hs1 a1_0 b1_0 d1_0 f1_0 a1_1 b1_1 d1_1 f1_1 a1_2 b1_2 d1_2 f1_2 a1_3 b1_3 d1_3 f1_3 a1_4 b1_4 d1_4 f1_4 a1_5 b1_5 d1_5 f1_5 a1_6 b1_6 d1_6 f1_6 a1_7 b1_7 d1_7 f1_7 m1_7 HU1_0
  have HR1_1 := Lib.hid hrow1
  clear hb1 hrow1 hg1
  go_wp2
  refine bodyPost_ret (v := .agg #[.int .i64 x.f0.f0, .int .i64 x.f0.f1, .int .i64 x.f0.f2, .int .i64 x.f0.f3, .slice (some ⟨g0, 0, none⟩) x.f0.f4.length x.f0.f4.length, .int .i64 x.f1, .int .i64 x.f2, .slice (some ⟨g1, 0, none⟩) x.f3.length x.f3.length]) (by simp [results, Try.results13, go_sem, r1_0, y1_0, r1_1, y1_1, r1_2, y1_2, r1_3, y1_3, r1_4, y1_4, r1_5, y1_5, r1_6, y1_6, r1_7, y1_7]) rfl ⟨g0, g1, rfl, ?_, ?_⟩
  · refine ⟨?_, ?_⟩
    · refine BlkS.sli (g := g0) ?_ (by omega)
      have := HR1_0.out
      unfold BlkS at this ⊢
      exact heap_setCell_at (heap_setCell_at (heap_setCell_at (heap_setCell_at (heap_setCell_at (heap_setCell_at (heap_setCell_at (heap_setCell_at (heap_setCell_at (this) (by omega)) (by omega)) (by omega)) (by omega)) (by omega)) (by omega)) (by omega)) (by omega)) (by omega)
    · refine RowAt.sli (g := g1) ?_ (by omega)
      have := HR1_1.out
      unfold RowAt at this ⊢
      exact heap_setCell_at (heap_setCell_at (heap_setCell_at (heap_setCell_at (heap_setCell_at (heap_setCell_at (heap_setCell_at (heap_setCell_at (heap_setCell_at (this) (by omega)) (by omega)) (by omega)) (by omega)) (by omega)) (by omega)) (by omega)) (by omega)) (by omega)
  · exact (((((((((FB1.out).setCell (by simp <;> omega) _).setCell (by simp <;> omega) _).setCell (by simp <;> omega) _).setCell (by simp <;> omega) _).setCell (by simp <;> omega) _).setCell (by simp <;> omega) _).setCell (by simp <;> omega) _).setCell (by simp <;> omega) _).setCell (by simp <;> omega) _
set_option maxHeartbeats 8000000 in
theorem eqDevice_any (r : Bool) (x : DeviceV) (s0 s1 : Option Addr) (c0 c1 : Nat) (y : DeviceV) (t0 t1 : Option Addr) (d0 d1 : Nat) (w : World) (hr : r = true ↔ x = y) (hx : LenDevice 4194304 x) (hy : LenDevice 4194304 y) (h1 : SlDevice w s0 s1 x) (h2 : SlDevice w t0 t1 y) :
    Calls Try.prog 15 #[.agg #[.int .i64 x.f0.f0, .int .i64 x.f0.f1, .int .i64 x.f0.f2, .int .i64 x.f0.f3, .slice s0 x.f0.f4.length c0, .int .i64 x.f1, .int .i64 x.f2, .slice s1 x.f3.length c1], .agg #[.int .i64 y.f0.f0, .int .i64 y.f0.f1, .int .i64 y.f0.f2, .int .i64 y.f0.f3, .slice t0 y.f0.f4.length d0, .int .i64 y.f1, .int .i64 y.f2, .slice t1 y.f3.length d1]] w fun e w' => e = .returned (.bool r) ∧ Below w.heap.size w w' := by
  obtain ⟨lx0, lx1⟩ := hx
  obtain ⟨ly0, ly1⟩ := hy
  obtain ⟨hp0, hp1⟩ := h1
  obtain ⟨hq0, hq1⟩ := h2
  obtain ⟨q0, hq_0⟩ : ∃ q : Bool, q = true ↔ x.f0 = y.f0 := ⟨@decide (x.f0 = y.f0) (Classical.propDecidable _), by simp⟩
  have HC0 := Lib.hid (fun w' (hb : Below w.heap.size w w') => eqDisc_any q0 x.f0 s0 c0 y.f0 t0 d0 w' hq_0 lx0 ly0 (hp0.below hb (Nat.le_refl _)) (hq0.below hb (Nat.le_refl _)))
  have HQ0 := Lib.hid hq_0; clear hq_0
  obtain ⟨q3, hq_3⟩ : ∃ q : Bool, q = true ↔ x.f3 = y.f3 := ⟨@decide (x.f3 = y.f3) (Classical.propDecidable _), by simp⟩
  have HC3 := Lib.hid (fun w' (hb : Below w.heap.size w w') => eqIntR_any q3 s1 t1 x.f3 y.f3 c1 d1 w' hq_3 lx1 ly1 (hp1.below hb (Nat.le_refl _)) (hq1.below hb (Nat.le_refl _)))
  have HQ3 := Lib.hid hq_3; clear hq_3
  have HR := Lib.hid hr; clear hr hp0 hq0 lx0 ly0 hp1 hq1 lx1 ly1
  cases q0 with
  | false =>
    have HE := Lib.hid (show r = false by
      cases r with
      | false => rfl
      | true => exact absurd (HQ0.out.2 (by rw [HR.out.1 rfl])) (by simp))
    go_enter Try.func15, Try.ntmps15
    go_wp2_with fail
    refine (HC0.out _ (by go_grown)).mono ?_
    rintro e w0 ⟨rfl, hb0⟩
    have FB0 := Lib.hid (show Below w.heap.size w w0 from Below.trans (by go_grown) (hb0.mono (by simp <;> omega)))
    have FN0 := Lib.hid (show w.heap.size + 2 ≤ w0.heap.size from by have := hb0.size; simp at this; omega); clear hb0
    go_wp2
    go_ret
    exact ⟨ret_bool HE.out.symm, FB0.out⟩
  | true =>
  by_cases g1 : x.f1 = y.f1
  case neg =>
    have HE := Lib.hid (show r = false by
      cases r with
      | false => rfl
      | true => exact absurd (by rw [HR.out.1 rfl]) g1)
    have gb1 : (x.f1 != y.f1) = true := by simp [g1]
    clear g1
    go_enter Try.func15, Try.ntmps15
    go_wp2_with fail
    refine (HC0.out _ (by go_grown)).mono ?_
    rintro e w0 ⟨rfl, hb0⟩
    have u0_5 : w0.cell? ⟨w.heap.size, 5, none⟩ = some (.int .i64 x.f1) := by rw [hb0.cell (p := ⟨w.heap.size, 5, none⟩) (by simp <;> omega)]; simp [go_sem]
    have v0_5 : w0.cell? ⟨w.heap.size + 1, 5, none⟩ = some (.int .i64 y.f1) := by rw [hb0.cell (p := ⟨w.heap.size + 1, 5, none⟩) (by simp <;> omega)]; simp [go_sem]
    have FB0 := Lib.hid (show Below w.heap.size w w0 from Below.trans (by go_grown) (hb0.mono (by simp <;> omega)))
    have FN0 := Lib.hid (show w.heap.size + 2 ≤ w0.heap.size from by have := hb0.size; simp at this; omega); clear hb0
    go_wp2
    go_ret
    exact ⟨ret_bool HE.out.symm, FB0.out⟩
  have gb1 : (x.f1 != y.f1) = false := by simp [g1]
  have GH1 := Lib.hid g1; clear g1
  by_cases g2 : x.f2 = y.f2
  case neg =>
    have HE := Lib.hid (show r = false by
      cases r with
      | false => rfl
      | true => exact absurd (by rw [HR.out.1 rfl]) g2)
    have gb2 : (x.f2 != y.f2) = true := by simp [g2]
    clear g2
    go_enter Try.func15, Try.ntmps15
    go_wp2_with fail
    refine (HC0.out _ (by go_grown)).mono ?_
    rintro e w0 ⟨rfl, hb0⟩
    have u0_5 : w0.cell? ⟨w.heap.size, 5, none⟩ = some (.int .i64 x.f1) := by rw [hb0.cell (p := ⟨w.heap.size, 5, none⟩) (by simp <;> omega)]; simp [go_sem]
    have v0_5 : w0.cell? ⟨w.heap.size + 1, 5, none⟩ = some (.int .i64 y.f1) := by rw [hb0.cell (p := ⟨w.heap.size + 1, 5, none⟩) (by simp <;> omega)]; simp [go_sem]
    have u0_6 : w0.cell? ⟨w.heap.size, 6, none⟩ = some (.int .i64 x.f2) := by rw [hb0.cell (p := ⟨w.heap.size, 6, none⟩) (by simp <;> omega)]; simp [go_sem]
    have v0_6 : w0.cell? ⟨w.heap.size + 1, 6, none⟩ = some (.int .i64 y.f2) := by rw [hb0.cell (p := ⟨w.heap.size + 1, 6, none⟩) (by simp <;> omega)]; simp [go_sem]
    have FB0 := Lib.hid (show Below w.heap.size w w0 from Below.trans (by go_grown) (hb0.mono (by simp <;> omega)))
    have FN0 := Lib.hid (show w.heap.size + 2 ≤ w0.heap.size from by have := hb0.size; simp at this; omega); clear hb0
    go_wp2
    go_ret
    exact ⟨ret_bool HE.out.symm, FB0.out⟩
  have gb2 : (x.f2 != y.f2) = false := by simp [g2]
  have GH2 := Lib.hid g2; clear g2
  cases q3 with
  | false =>
    have HE := Lib.hid (show r = false by
      cases r with
      | false => rfl
      | true => exact absurd (HQ3.out.2 (by rw [HR.out.1 rfl])) (by simp))
    go_enter Try.func15, Try.ntmps15
    go_wp2_with fail
    refine (HC0.out _ (by go_grown)).mono ?_
    rintro e w0 ⟨rfl, hb0⟩
    have u0_5 : w0.cell? ⟨w.heap.size, 5, none⟩ = some (.int .i64 x.f1) := by rw [hb0.cell (p := ⟨w.heap.size, 5, none⟩) (by simp <;> omega)]; simp [go_sem]
    have v0_5 : w0.cell? ⟨w.heap.size + 1, 5, none⟩ = some (.int .i64 y.f1) := by rw [hb0.cell (p := ⟨w.heap.size + 1, 5, none⟩) (by simp <;> omega)]; simp [go_sem]
    have u0_6 : w0.cell? ⟨w.heap.size, 6, none⟩ = some (.int .i64 x.f2) := by rw [hb0.cell (p := ⟨w.heap.size, 6, none⟩) (by simp <;> omega)]; simp [go_sem]
    have v0_6 : w0.cell? ⟨w.heap.size + 1, 6, none⟩ = some (.int .i64 y.f2) := by rw [hb0.cell (p := ⟨w.heap.size + 1, 6, none⟩) (by simp <;> omega)]; simp [go_sem]
    have u0_7 : w0.cell? ⟨w.heap.size, 7, none⟩ = some (.slice s1 x.f3.length c1) := by rw [hb0.cell (p := ⟨w.heap.size, 7, none⟩) (by simp <;> omega)]; simp [go_sem]
    have v0_7 : w0.cell? ⟨w.heap.size + 1, 7, none⟩ = some (.slice t1 y.f3.length d1) := by rw [hb0.cell (p := ⟨w.heap.size + 1, 7, none⟩) (by simp <;> omega)]; simp [go_sem]
    have FB0 := Lib.hid (show Below w.heap.size w w0 from Below.trans (by go_grown) (hb0.mono (by simp <;> omega)))
    have FN0 := Lib.hid (show w.heap.size + 2 ≤ w0.heap.size from by have := hb0.size; simp at this; omega); clear hb0
    go_wp2_with fail
    refine (HC3.out _ FB0.out).mono ?_
    rintro e w1 ⟨rfl, hb1⟩
    have FB1 := Lib.hid (FB0.out.trans (hb1.mono FB0.out.size))
    have FN1 := Lib.hid (Nat.le_trans FN0.out hb1.size); clear hb1
    go_wp2
    go_ret
    exact ⟨ret_bool HE.out.symm, FB1.out⟩
  | true =>
  have HE := Lib.hid (show r = true from HR.out.2 (DeviceV.ext' ⟨HQ0.out.1 rfl, GH1.out, GH2.out, HQ3.out.1 rfl⟩))
  go_enter Try.func15, Try.ntmps15
  go_wp2_with fail
  refine (HC0.out _ (by go_grown)).mono ?_
  rintro e w0 ⟨rfl, hb0⟩
  have u0_5 : w0.cell? ⟨w.heap.size, 5, none⟩ = some (.int .i64 x.f1) := by rw [hb0.cell (p := ⟨w.heap.size, 5, none⟩) (by simp <;> omega)]; simp [go_sem]
  have v0_5 : w0.cell? ⟨w.heap.size + 1, 5, none⟩ = some (.int .i64 y.f1) := by rw [hb0.cell (p := ⟨w.heap.size + 1, 5, none⟩) (by simp <;> omega)]; simp [go_sem]
  have u0_6 : w0.cell? ⟨w.heap.size, 6, none⟩ = some (.int .i64 x.f2) := by rw [hb0.cell (p := ⟨w.heap.size, 6, none⟩) (by simp <;> omega)]; simp [go_sem]
  have v0_6 : w0.cell? ⟨w.heap.size + 1, 6, none⟩ = some (.int .i64 y.f2) := by rw [hb0.cell (p := ⟨w.heap.size + 1, 6, none⟩) (by simp <;> omega)]; simp [go_sem]
  have u0_7 : w0.cell? ⟨w.heap.size, 7, none⟩ = some (.slice s1 x.f3.length c1) := by rw [hb0.cell (p := ⟨w.heap.size, 7, none⟩) (by simp <;> omega)]; simp [go_sem]
  have v0_7 : w0.cell? ⟨w.heap.size + 1, 7, none⟩ = some (.slice t1 y.f3.length d1) := by rw [hb0.cell (p := ⟨w.heap.size + 1, 7, none⟩) (by simp <;> omega)]; simp [go_sem]
  have FB0 := Lib.hid (show Below w.heap.size w w0 from Below.trans (by go_grown) (hb0.mono (by simp <;> omega)))
  have FN0 := Lib.hid (show w.heap.size + 2 ≤ w0.heap.size from by have := hb0.size; simp at this; omega); clear hb0
  go_wp2_with fail
  refine (HC3.out _ FB0.out).mono ?_
  rintro e w1 ⟨rfl, hb1⟩
  have FB1 := Lib.hid (FB0.out.trans (hb1.mono FB0.out.size))
  have FN1 := Lib.hid (Nat.le_trans FN0.out hb1.size); clear hb1
  go_wp2
  go_ret
  exact ⟨ret_bool HE.out.symm, FB1.out⟩
end Go.Proofs.Ytjnabncfkogigaa
