/- laws.markDisc, laws.heldDisc -/
import Derived.Test.YtjnabncfkogigaaPkReplaceBlockC
import Derived.Test.YtjnabncfkogigaaPkReplaceBlockMarkSSector
import Derived.Test.YtjnabncfkogigaaPkReplaceBlockB
namespace Go.Proofs.Ytjnabncfkogigaa
open Go.RowKit
set_option linter.unusedVariables false
set_option linter.unusedSimpArgs false
set_option maxHeartbeats 4000000 in
theorem markDisc_sm (x : DiscV) (a : Option Addr) (cap k B C : Nat) (w : World) (hl : x.f4.length ≤ 4194304) (hk1 : 0 < k) (hk : k ≤ 134217728) (hC : C ≤ w.heap.size) (h : SlSI rowSector 84 w B C a x.f4) :
    Calls Try.prog 62 #[.agg #[.int .i64 x.f0, .int .i64 x.f1, .int .i64 x.f2, .int .i64 x.f3, .slice a x.f4.length cap], .int .i64 (k : Nat)] w (MarkedS rowSector 84 B C a (k + 2 * x.f4.length) (mkS mkSector k 2 x.f4.length) w) := by
  have hc := fun w' (hb : Below w.heap.size w w') => markSectorS_sm a x.f4 cap k B C w' hl hk1 hk (Nat.le_trans hC hb.size) (h.below hb hC)
  obtain ⟨m, hm⟩ : ∃ m, k + 2 * x.f4.length = m := ⟨_, rfl⟩
  rw [hm] at hc ⊢
  have HC := Lib.hid hc; clear hc h hm
  go_enter Try.func62, Try.ntmps62
  go_wp2_with fail
  refine (HC.out _ (by go_grown)).mono ?_
  rintro e w1 ⟨rfl, hR, hB, hS⟩
  have HR := Lib.hid hR
  have HB := Lib.hid hB
  have HS := Lib.hid hS
  clear hR hB hS
  go_wp2
  go_ret
  refine ⟨rfl, HR.out, fun D hD hDw => Below.trans (show Below D w _ from (Below.refl _ _).alloc hDw _) (HB.out D hD (by simp; omega)), ?_⟩
  exact ⟨Nat.le_trans (by simp) HS.out.size, fun b hb hp => by rw [HS.out.block b (by simp; omega) hp]; exact Below.heap_alloc w _ b hb⟩
set_option maxHeartbeats 4000000 in
theorem heldDisc_any (x : DiscV) (a : Option Addr) (l c k : Nat) (w : World) (hl : l ≤ 4194304) (hk1 : 0 < k) (hk : k ≤ 134217728) (h : SlS rowSector w a (mkS mkSector k 2 l)) :
    Calls Try.prog 63 #[.agg #[.int .i64 x.f0, .int .i64 x.f1, .int .i64 x.f2, .int .i64 x.f3, .slice a l c], .int .i64 (k : Nat)] w fun e w' => e = .returned (.int .i64 ((k + 2 * l : Nat) : Int)) ∧ Below w.heap.size w w' := by
  have hc := fun w' (hb : Below w.heap.size w w') => heldSectorS_any a l c k w' hl hk1 hk (h.below hb (Nat.le_refl _))
  obtain ⟨m, hm⟩ : ∃ m, k + 2 * l = m := ⟨_, rfl⟩
  rw [hm] at hc ⊢
  have h0 : ¬ ((m : Int) < 0) := by omega
  have HC := Lib.hid hc; clear hc h hm
  go_enter Try.func63, Try.ntmps63
  go_wp2_with fail
  refine (HC.out _ (by go_grown)).mono ?_
  rintro e w1 ⟨rfl, hb1⟩
  go_wp2
  go_ret
  exact ⟨rfl, Below.trans (by go_grown) (hb1.mono (by simp))⟩
end Go.Proofs.Ytjnabncfkogigaa
