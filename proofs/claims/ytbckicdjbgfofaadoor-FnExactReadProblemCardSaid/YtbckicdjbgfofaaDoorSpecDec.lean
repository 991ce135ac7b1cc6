/- spec.l09Dec -/
import Derived.Test.YtbckicdjbgfofaaDoorDecText
namespace Go.Proofs.YtbckicdjbgfofaaDoor
open Go.RowKit
set_option linter.unusedVariables false
set_option linter.unusedSimpArgs false
set_option maxRecDepth 20000
theorem bcellD {W w1 : World} (hb : Below W.heap.size W w1) : (∀ b o, b < W.heap.size → w1.cell? ⟨b, o, none⟩ = W.cell? ⟨b, o, none⟩) :=
  fun b o h => hb.cell (p := ⟨b, o, none⟩) h
theorem cellN (w : World) (x : Value) (T : TypeId) : (w.alloc (.cells #[x] T)).drew.cell? ⟨w.heap.size, 0, none⟩ = some x := by
  show (w.alloc (.cells #[x] T)).cell? ⟨w.heap.size, 0, none⟩ = some x
  simp [go_sem]
theorem cellK {w w3 : World} {x : Value} {T : TypeId} (hb : Below (w.alloc (.cells #[x] T)).drew.heap.size (w.alloc (.cells #[x] T)).drew w3) : w3.cell? ⟨w.heap.size, 0, none⟩ = some x := by
  rw [hb.cell (p := ⟨w.heap.size, 0, none⟩) (by show w.heap.size < (w.alloc (.cells #[x] T)).heap.size; simp)]
  exact cellN w x T
theorem ba_ext {a b : ByteArray} (h : a.data.toList = b.data.toList) : a = b := by
  apply ByteArray.ext
  exact Array.toList_inj.1 h
theorem decT_small {n : Nat} (h : n < 10) : decT (n : Int) = ⟨#[UInt8.ofNat (48 + n)]⟩ := by
  unfold decT Lib.itoa
  rw [if_neg (by omega), Int.toNat_natCast, decDigits_small h]
theorem decT_step {n : Nat} (h : ¬ n < 10) : decT (n : Int) = decT ((n : Int) / 10) ++ ⟨#[UInt8.ofNat (48 + n % 10)]⟩ := by
  have e10 : (n : Int) / 10 = ((n / 10 : Nat) : Int) := by omega
  unfold decT Lib.itoa
  rw [if_neg (by omega), if_neg (by omega), Int.toNat_natCast, e10, Int.toNat_natCast, decDigits_step h]
  apply ba_ext
  simp [ByteArray.data_append]
set_option maxHeartbeats 4000000 in
theorem l09Dec_any (n : Nat) (hn : n < 100000) : ∀ w : World, Calls Tryd.prog 15 #[.int .i64 (n : Int)] w fun e w' => e = .returned (.string (decT n)) ∧ Below w.heap.size w w' := by
  induction n using Nat.strongRecOn with
  | ind n ih =>
    intro w
    by_cases h : n < 10
    · have e1 : (n : Int) < 10 := by omega
      have hcv := conv_new1 w (48 + (n : Int)) (by omega) (by omega)
      have HD := Lib.hid (decT_small h)
      clear ih h
      go_enter Tryd.func15, Tryd.ntmps15
      go_wp2
      go_ret
      exact ⟨by rw [HD.out]; rfl, (Below.refl _ _).alloc (Nat.le_refl _) _⟩
    · have e1 : ¬ (n : Int) < 10 := by omega
      have IH := Lib.hid (fun w => ih (n / 10) (by omega) (by omega) w)
      have e10 : ((n / 10 : Nat) : Int) = (n : Int) / 10 := by omega
      rw [e10] at IH
      have HD := Lib.hid (decT_step h)
      have hsz := decT_size (n := (n : Int) / 10) (by omega) (by omega)
      have hm0 : 0 ≤ (n : Int) % 10 := by omega
      have hm1 : (n : Int) % 10 < 10 := by omega
      have hcv := fun W g (hc : W.cell? ⟨g, 0, none⟩ = some (.int .u8 (48 + (n : Int) % 10))) => conv_cell1 W g (48 + (n : Int) % 10) (by omega) (by omega) hc
      clear ih h e10
      generalize decT ((n : Int) / 10) = t at *
      go_enter Tryd.func15, Tryd.ntmps15
      go_wp2
      have ht1 : (n : Int).tdiv 10 = (n : Int) / 10 := Int.tdiv_eq_ediv_of_nonneg (by omega)
      have ht2 : (n : Int).tmod 10 = (n : Int) % 10 := Int.tmod_eq_emod_of_nonneg (by omega)
      have hw1 : IntKind.i64.wrap ((n : Int) / 10) = (n : Int) / 10 := IntWalk.i64_in _ (by omega)
      have hw2 : IntKind.i64.wrap ((n : Int) % 10) = (n : Int) % 10 := IntWalk.i64_in _ (by omega)
      have hw3 : IntKind.i64.wrap (48 + (n : Int) % 10) = 48 + (n : Int) % 10 := IntWalk.i64_in _ (by omega)
      have hw4 : IntKind.u8.wrap (48 + (n : Int) % 10) = 48 + (n : Int) % 10 := IntWalk.u8_in _ (by omega)
      have hA := hcv (w.alloc (.cells #[.int .u8 (48 + (n : Int) % 10)] 5)).drew w.heap.size (cellN w _ _)
      have HCV := Lib.hid hcv
      have HCN := Lib.hid (fun W => conv_new1 W (48 + (n : Int) % 10) (by omega) (by omega))
      clear hcv
      go_region_with (go_at_call 15; ((with_reducible refine (IH.out _).mono ?_); rintro e w3 ⟨rfl, hb3⟩; (try have hB := HCV.out w3 w.heap.size (cellK hb3)); have hC := HCN.out w3))
      all_goals
        go_wp2
        go_ret
        refine ⟨by rw [HD.out, UInt8.ofNat_add]; rfl, ?_⟩
        first | exact hb3.alloc hb3.size _ | exact Below.alloc (Below.trans (by go_grown) (hb3.mono (by simp))) (by have := hb3.size; simp at this; omega) _ | exact (show Below w.heap.size w _ from Below.trans (by go_grown) (hb3.mono (by simp))) | (trace_state; fail)
end Go.Proofs.YtbckicdjbgfofaaDoor
