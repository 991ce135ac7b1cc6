/- spec.DeviceBlocks, l15Ask, SectorOf, l15Readable, ReadDeviceBlock -/
import Derived.Test.YtllcbiafghhcmaaPkFnDeviceOrderDevBlk
import Derived.Test.YtllcbiafghhcmaaPkFnDeviceOrderDevOkSp
namespace Go.Proofs.Ytllcbiafghhcmaa
open Go.RowKit Go.Maps
set_option linter.unusedVariables false
set_option linter.unusedSimpArgs false
set_option maxRecDepth 20000
set_option maxHeartbeats 2000000 in
theorem l15Ask_any (x : DeviceV) (s0 s1 : Option Addr) (c0 c1 p : Nat) (k : Int) (hL : LenDevice 1048576 x) (hV : StrDevice 1048576 x) (w : World) (hp : BoxAt w p #[.int .i64 x.f0.f0, .int .i64 x.f0.f1, .int .i64 x.f0.f2, .int .i64 x.f0.f3, .slice s0 x.f0.f4.length c0, .int .i64 x.f1, .int .i64 x.f2, .slice s1 x.f3.length c1]) (h : SlDevice w s0 s1 x) :
    Calls Try.prog 90 #[.pointer (some ⟨p, 0, none⟩), .int .i64 k] w fun e w' => e = .returned (.int .i64 (secC x k)) ∧ Below w.heap.size w w' := by
  have OK := Lib.hid (l15Ok_any x s0 s1 c0 c1 p hL hV w hp h)
  have LI := Lib.hid (fun w => l00In_any k 0 ((x.f3.length : Int) - 1) w)
  have hl1 : x.f3.length ≤ 1048576 := hL.2
  have hw1 : wrap64 ((x.f3.length : Int) - 1) = (x.f3.length : Int) - 1 := by unfold wrap64; omega
  have hw2 : IntKind.i64.wrap ((x.f3.length : Int) - 1) = (x.f3.length : Int) - 1 := IntWalk.i64_in _ (by omega)
  have hplt := hp.lt (by simp)
  have BX := Lib.hid hp
  unfold secC
  clear h hV hL hp
  obtain ⟨q, hq⟩ : ∃ q, devB x = q := ⟨_, rfl⟩
  rw [hq] at OK ⊢
  clear hq
  cases q with
  | false =>
    rw [if_neg (by simp)]
    go_enter Try.func90, Try.ntmps90
    go_wp2_with fail
    refine OK.out.mono ?_
    rintro e w1 ⟨rfl, hb1⟩
    go_wp2
    go_ret
    exact ⟨rfl, hb1⟩
  | true =>
    rw [if_pos rfl]
    obtain ⟨q, hq⟩ : ∃ q, inB 0 ((x.f3.length : Int) - 1) k = q := ⟨_, rfl⟩
    rw [hq] at LI ⊢
    clear hq
    cases q
    all_goals
      first | rw [if_pos rfl] | rw [if_neg (by simp)]
      go_enter Try.func90, Try.ntmps90
      go_wp2_with fail
      refine OK.out.mono ?_
      rintro e w1 ⟨rfl, hb1⟩
      have q7 := (BX.out.below hb1 hplt) 7 _ rfl
      go_wp2_with fail
      refine (LI.out _).mono ?_
      rintro e _ ⟨rfl, rfl⟩
      go_wp2
      go_ret
      exact ⟨rfl, hb1⟩
set_option maxHeartbeats 2000000 in
theorem l15Readable_any (e : SectorV) (w : World) :
    Calls Try.prog 93 #[.agg #[.string e.f0, .int .i64 e.f1]] w fun x w' => x = .returned (.bool (goodS e)) ∧ Below w.heap.size w w' := by
  obtain ⟨d, st⟩ := e
  unfold goodS
  dsimp only
  by_cases h1 : st = 1
  · subst h1
    go_enter Try.func93, Try.ntmps93
    go_wp2
    go_ret
    exact ⟨rfl, by go_grown⟩
  have e1 : (st == 1) = false := by simp [h1]
  rw [decide_eq_false h1, Bool.false_or]
  have e4 : (st == 4) = decide (st = 4) := by rfl
  clear h1
  go_enter Try.func93, Try.ntmps93
  go_wp2
  go_ret
  exact ⟨rfl, by go_grown⟩
end Go.Proofs.Ytllcbiafghhcmaa
