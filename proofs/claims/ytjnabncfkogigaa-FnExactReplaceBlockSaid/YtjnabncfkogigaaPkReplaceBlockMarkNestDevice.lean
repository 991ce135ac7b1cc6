/- laws.markDevice, laws.heldDevice -/
import Derived.Test.YtjnabncfkogigaaPkReplaceBlockC
import Derived.Test.YtjnabncfkogigaaPkReplaceBlockMarkKit
import Derived.Test.YtjnabncfkogigaaPkReplaceBlockMarkOneDisc
import Derived.Test.YtjnabncfkogigaaPkReplaceBlockB
namespace Go.Proofs.Ytjnabncfkogigaa
open Go.RowKit
set_option linter.unusedVariables false
set_option linter.unusedSimpArgs false
set_option maxRecDepth 20000
def cntDevice (x : DeviceV) : Nat := 2 * x.f0.f4.length + x.f3.length
/-- The marked struct: its numbers from k on. -/
def mkNDevice (x : DeviceV) (k : Nat) : DeviceV := { x with f0 := { x.f0 with f4 := mkS mkSector (k) 2 x.f0.f4.length }, f3 := fromK ((k + 2 * x.f0.f4.length : Nat) : Int) x.f3.length }
def MarkedNDevice (B C : Nat) (s0 s1 : Option Addr) (k : Nat) (x : DeviceV) (w : World) (e : Ending) (w' : World) : Prop :=
  e = .returned (.int .i64 (k : Nat)) ∧ SlIDevice w' B C s0 s1 x ∧ (∀ D, D ≤ B → D ≤ w.heap.size → Below D w w') ∧ Sm B C w w'
theorem LenDevice.mono {a b : Nat} {x : DeviceV} (h : LenDevice a x) (hab : a ≤ b) : LenDevice b x := ⟨Nat.le_trans h.1 hab, Nat.le_trans h.2 hab⟩
theorem cntDevice_le {x : DeviceV} (h : LenDevice 1048576 x) : cntDevice x ≤ 3145728 := by
  unfold LenDevice at h
  unfold cntDevice
  omega
set_option maxHeartbeats 8000000 in
theorem markDevice_sm (x : DeviceV) (s0 s1 : Option Addr) (c0 c1 k B C : Nat) (w : World) (hL : LenDevice 1048576 x) (hk1 : 0 < k) (hk : k ≤ 1048577) (hC : C ≤ w.heap.size) (h : SlIDevice w B C s0 s1 x) :
    Calls Try.prog 24 #[.agg #[.int .i64 x.f0.f0, .int .i64 x.f0.f1, .int .i64 x.f0.f2, .int .i64 x.f0.f3, .slice s0 x.f0.f4.length c0, .int .i64 x.f1, .int .i64 x.f2, .slice s1 x.f3.length c1], .int .i64 (k : Nat)] w (MarkedNDevice B C s0 s1 (k + cntDevice x) (mkNDevice x k) w) := by
  obtain ⟨hL0, hL1⟩ := hL
  obtain ⟨h0, h1⟩ := h
  have hend : k + cntDevice x = k + 2 * x.f0.f4.length + x.f3.length := by unfold cntDevice; omega
  have hN : ∀ w', SlIDevice w' B C s0 s1 (mkNDevice x k) = (SlSI rowSector 84 w' B C s0 (mkS mkSector (k) 2 x.f0.f4.length) ∧ SlI w' B C s1 (fromK ((k + 2 * x.f0.f4.length : Nat) : Int) x.f3.length)) := fun _ => rfl
  unfold MarkedNDevice
  simp only [hN]
  rw [hend]
  clear hN hend
  have M0 := fun lo hi w' (hC : hi ≤ w'.heap.size) (h : SlSI rowSector 84 w' lo hi s0 (x.f0.f4)) => markDisc_sm x.f0 s0 c0 k lo hi w' (by omega) (by omega) (by omega) hC h
  unfold MarkedS at M0
  have hk_0 : k + 2 * x.f0.f4.length ≤ 3145729 := by omega
  have hp_0 : 0 < k + 2 * x.f0.f4.length := by omega
  obtain ⟨k0, hq_0⟩ : ∃ z, k + 2 * x.f0.f4.length = z := ⟨_, rfl⟩
  rw [hq_0] at M0 hk_0 hp_0 ⊢
  replace M0 := Lib.hid M0; clear hq_0
  have M1 := fun lo hi w' (hC : hi ≤ w'.heap.size) (h : SlI w' lo hi s1 (x.f3)) => markInt_sm s1 x.f3 c1 k0 lo hi w' (by omega) (by omega) hC h
  unfold Marked at M1
  have hk_1 : k0 + x.f3.length ≤ 4194305 := by omega
  have hp_1 : 0 < k0 + x.f3.length := by omega
  obtain ⟨k1, hq_1⟩ : ∃ z, k0 + x.f3.length = z := ⟨_, rfl⟩
  rw [hq_1] at M1 hk_1 hp_1 ⊢
  replace M1 := Lib.hid M1; clear hq_1
  have HH := Lib.hid (And.intro h0 h1)
  clear h0 h1
  go_enter Try.func24, Try.ntmps24
  obtain ⟨W0, hW0⟩ : ∃ W, w.alloc (.cells #[.int .i64 x.f0.f0, .int .i64 x.f0.f1, .int .i64 x.f0.f2, .int .i64 x.f0.f3, .slice s0 x.f0.f4.length c0, .int .i64 x.f1, .int .i64 x.f2, .slice s1 x.f3.length c1] 34) = W := ⟨_, rfl⟩
  have F0 := Lib.hid (show ∀ D, D ≤ B → D ≤ w.heap.size → Below D w W0 from fun D _ hD => by rw [← hW0]; exact (Below.refl _ _).alloc hD _)
  have S0 := Lib.hid (show Sm B C w W0 from by rw [← hW0]; exact ⟨(Sm.alloc w _).size, fun b hb _ => (Sm.alloc w _).block b hb (.inr (Nat.zero_le _))⟩)
  have G0 := Lib.hid (show W0.heap.size = w.heap.size + 1 from by rw [← hW0]; simp)
  have R0 := Lib.hid (show SlSI rowSector 84 W0 B C s0 x.f0.f4 from by rw [← hW0]; exact (HH.out.1).sm (Sm.alloc w _) (by omega))
  have R1 := Lib.hid (show SlI W0 B C s1 x.f3 from by rw [← hW0]; exact (HH.out.2).sm (Sm.alloc w _) (by omega))
  have a0_0 : W0.cell? ⟨w.heap.size, 0, none⟩ = some (.int .i64 x.f0.f0) := by rw [← hW0]; simp [go_sem]
  have a0_1 : W0.cell? ⟨w.heap.size, 1, none⟩ = some (.int .i64 x.f0.f1) := by rw [← hW0]; simp [go_sem]
  have a0_2 : W0.cell? ⟨w.heap.size, 2, none⟩ = some (.int .i64 x.f0.f2) := by rw [← hW0]; simp [go_sem]
  have a0_3 : W0.cell? ⟨w.heap.size, 3, none⟩ = some (.int .i64 x.f0.f3) := by rw [← hW0]; simp [go_sem]
  have a0_4 : W0.cell? ⟨w.heap.size, 4, none⟩ = some (.slice s0 x.f0.f4.length c0) := by rw [← hW0]; simp [go_sem]
  have a0_5 : W0.cell? ⟨w.heap.size, 5, none⟩ = some (.int .i64 x.f1) := by rw [← hW0]; simp [go_sem]
  have a0_6 : W0.cell? ⟨w.heap.size, 6, none⟩ = some (.int .i64 x.f2) := by rw [← hW0]; simp [go_sem]
  have a0_7 : W0.cell? ⟨w.heap.size, 7, none⟩ = some (.slice s1 x.f3.length c1) := by rw [← hW0]; simp [go_sem]
  clear HH
  go_wp2_with fail
  clear hW0
  obtain ⟨lo0, hi0, N0, hi_0, hb_0, hc_0, O0⟩ := R0.out.narrow
  refine (M0.out lo0 hi0 _ hi_0 N0).mono ?_
  rintro e w0 ⟨rfl, hr0, hd0, hs0⟩
  have P0 := Lib.hid (show Sm lo0 hi0 W0 w0 from hs0)
  have T0 := Lib.hid (show Sm B C W0 w0 from ⟨P0.out.size, fun b hb hp => P0.out.block b hb (by omega)⟩)
  have D0 := Lib.hid (show ∀ D, D ≤ B → D ≤ W0.heap.size → Below D W0 w0 from fun D h1 h2 => hd0 D (by omega) h2)
  have g0 := G0.out
  have a1_5 : w0.cell? ⟨w.heap.size, 5, none⟩ = some (.int .i64 x.f1) := by rw [World.cell?_of_block (P0.out.block w.heap.size (by omega) (by omega))]; exact a0_5
  have a1_6 : w0.cell? ⟨w.heap.size, 6, none⟩ = some (.int .i64 x.f2) := by rw [World.cell?_of_block (P0.out.block w.heap.size (by omega) (by omega))]; exact a0_6
  have a1_7 : w0.cell? ⟨w.heap.size, 7, none⟩ = some (.slice s1 x.f3.length c1) := by rw [World.cell?_of_block (P0.out.block w.heap.size (by omega) (by omega))]; exact a0_7
  replace R1 := Lib.hid (R1.out.past P0.out O0 (by decide))
  have hw_0 := fun (g : Nat) (h : lo0 ≤ g ∧ g < hi0) => (show B ≤ g ∧ g < C by omega)
  have R0 := Lib.hid (hr0.within' hw_0)
  have z0 := P0.out.size
  clear a0_0 a0_1 a0_2 a0_3 a0_4 a0_5 a0_6 a0_7 hr0 hd0 hs0 N0 O0 hb_0 hc_0 hi_0 hw_0 P0 g0
  go_wp2_with fail
  obtain ⟨lo1, hi1, N1, hi_1, hb_1, hc_1, O1⟩ := R1.out.narrow
  refine (M1.out lo1 hi1 _ hi_1 N1).mono ?_
  rintro e w1 ⟨rfl, hr1, hd1, hs1⟩
  have P1 := Lib.hid (show Sm lo1 hi1 w0 w1 from hs1)
  have T1 := Lib.hid (show Sm B C w0 w1 from ⟨P1.out.size, fun b hb hp => P1.out.block b hb (by omega)⟩)
  have D1 := Lib.hid (show ∀ D, D ≤ B → D ≤ w0.heap.size → Below D w0 w1 from fun D h1 h2 => hd1 D (by omega) h2)
  have g1 := G0.out
  replace R0 := Lib.hid (R0.out.past P1.out O1 (by decide))
  have hw_1 := fun (g : Nat) (h : lo1 ≤ g ∧ g < hi1) => (show B ≤ g ∧ g < C by omega)
  have R1 := Lib.hid (hr1.within' hw_1)
  have z1 := P1.out.size
  clear a1_7 hr1 hd1 hs1 N1 O1 hb_1 hc_1 hi_1 hw_1 P1 g1
  go_wp2
  go_ret
  refine ⟨rfl, ⟨R0.out, R1.out⟩, fun D h1 h2 => ((F0.out D h1 h2).trans (D0.out D h1 (Nat.le_trans h2 (F0.out D h1 h2).size))).trans (D1.out D h1 (Nat.le_trans h2 ((F0.out D h1 h2).trans (D0.out D h1 (Nat.le_trans h2 (F0.out D h1 h2).size))).size)), ?_⟩
  have q0 := S0.out
  have q1 := T0.out
  have q2 := T1.out
  refine ⟨by have := q0.size; have := q1.size; have := q2.size; omega, fun b hb hp => ?_⟩
  rw [q2.block b (by have := q0.size; have := q1.size; omega) hp]
  rw [q1.block b (by have := q0.size; omega) hp]
  exact q0.block b hb hp
set_option maxHeartbeats 8000000 in
theorem heldDevice_any (x : DeviceV) (s0 s1 : Option Addr) (c0 c1 k : Nat) (w : World) (hL : LenDevice 1048576 x) (hk1 : 0 < k) (hk : k ≤ 1048577) (h : SlDevice w s0 s1 (mkNDevice x k)) :
    Calls Try.prog 25 #[.agg #[.int .i64 x.f0.f0, .int .i64 x.f0.f1, .int .i64 x.f0.f2, .int .i64 x.f0.f3, .slice s0 x.f0.f4.length c0, .int .i64 x.f1, .int .i64 x.f2, .slice s1 x.f3.length c1], .int .i64 (k : Nat)] w fun e w' => e = .returned (.int .i64 ((k + cntDevice x : Nat) : Int)) ∧ Below w.heap.size w w' := by
  obtain ⟨hL0, hL1⟩ := hL
  obtain ⟨h0, h1⟩ := h
  have hend : k + cntDevice x = k + 2 * x.f0.f4.length + x.f3.length := by unfold cntDevice; omega
  rw [hend]
  clear hend
  change SlS rowSector w s0 (mkS mkSector (k) 2 x.f0.f4.length) at h0
  have M0 := fun w' (hb : Below w.heap.size w w') => heldDisc_any x.f0 s0 x.f0.f4.length c0 (k) w' (by omega) (by omega) (by omega) (h0.below hb (Nat.le_refl _))
  have hk_0 : k + 2 * x.f0.f4.length ≤ 3145729 := by omega
  have hp_0 : 0 < k + 2 * x.f0.f4.length := by omega
  obtain ⟨k0, hq_0⟩ : ∃ z, k + 2 * x.f0.f4.length = z := ⟨_, rfl⟩
  rw [hq_0] at M0 hk_0 hp_0 ⊢
  replace M0 := Lib.hid M0
  have hn_0 : ¬ ((k0 : Int) < 0) := by omega
  change SlA w s1 (fromK ((k + 2 * x.f0.f4.length : Nat) : Int) x.f3.length) at h1
  rw [hq_0] at h1
  have M1 := fun w' (hb : Below w.heap.size w w') => (heldInt_any s1 x.f3.length c1 (k0) w' (by omega) (by omega) (h1.below hb (Nat.le_refl _))).mono (fun e w'' ⟨he, hw⟩ => (show e = Ending.returned (.int .i64 ((k0 + x.f3.length : Nat) : Int)) ∧ Below w'.heap.size w' w'' from ⟨he, hw ▸ Below.refl _ _⟩))
  have hk_1 : k0 + x.f3.length ≤ 4194305 := by omega
  have hp_1 : 0 < k0 + x.f3.length := by omega
  obtain ⟨k1, hq_1⟩ : ∃ z, k0 + x.f3.length = z := ⟨_, rfl⟩
  rw [hq_1] at M1 hk_1 hp_1 ⊢
  replace M1 := Lib.hid M1
  have hn_1 : ¬ ((k1 : Int) < 0) := by omega
  clear h0 h1 hq_0 hq_1
  go_enter Try.func25, Try.ntmps25
  go_wp2_with fail
  refine (M0.out _ (by go_grown)).mono ?_
  rintro e w0 ⟨rfl, hb0⟩
  have a0_5 : w0.cell? ⟨w.heap.size, 5, none⟩ = some (.int .i64 x.f1) := by rw [hb0.cell (p := ⟨w.heap.size, 5, none⟩) (by simp)]; simp [go_sem]
  have a0_6 : w0.cell? ⟨w.heap.size, 6, none⟩ = some (.int .i64 x.f2) := by rw [hb0.cell (p := ⟨w.heap.size, 6, none⟩) (by simp)]; simp [go_sem]
  have a0_7 : w0.cell? ⟨w.heap.size, 7, none⟩ = some (.slice s1 x.f3.length c1) := by rw [hb0.cell (p := ⟨w.heap.size, 7, none⟩) (by simp)]; simp [go_sem]
  have FB0 := Lib.hid (show Below w.heap.size w w0 from Below.trans (by go_grown) (hb0.mono (by simp)))
  have FN0 := Lib.hid (show w.heap.size < w0.heap.size from Nat.lt_of_lt_of_le (by simp) hb0.size); clear hb0
  go_wp2_with fail
  refine (M1.out _ FB0.out).mono ?_
  rintro e w1 ⟨rfl, hb1⟩
  have FB1 := Lib.hid (FB0.out.trans (hb1.mono FB0.out.size))
  have FN1 := Lib.hid (Nat.lt_of_lt_of_le FN0.out hb1.size); clear hb1
  go_wp2
  go_ret
  exact ⟨rfl, FB1.out⟩
end Go.Proofs.Ytjnabncfkogigaa
