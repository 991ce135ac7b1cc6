/- FnExactVotedText: the law's walk. -/
import Derived.Test.YtnlbhdlfpnepfaaDoorSm
import Derived.Test.YtnlbhdlfpnepfaaDoorRecSm
import Derived.Test.YtnlbhdlfpnepfaaDoorBoxes
import Derived.Test.YtnlbhdlfpnepfaaDoorVotSp
import Derived.Test.YtnlbhdlfpnepfaaDoorOneVoted
import Derived.Test.YtnlbhdlfpnepfaaDoorDecTab
namespace Go.Proofs.YtnlbhdlfpnepfaaDoor.fnExactVotedText
open Go.RowKit
set_option linter.unusedVariables false
set_option maxRecDepth 20000 in
set_option maxHeartbeats 8000000 in
theorem walk (x0 : VotedV) (s0 : Option Addr) (cap0 : Nat) (w : World) (hw : 0 < w.heap.size) (htab : DecTab w) (w0 : ArgVoted w s0 x0) :
    Calls Tryd.prog 3 #[.agg #[.int .i64 x0.f0, .int .i64 x0.f1, .int .i64 x0.f2, .int .i64 x0.f3, .string x0.f4, .int .i64 x0.f5, .bool x0.f6, .slice s0 x0.f7.length cap0, .int .i64 x0.f8]] w fun e w' => e = .returned (.bool true) ∧ Below w.heap.size w w' := by
  obtain ⟨hm0, hsl0, v0⟩ := w0
  by_cases hk0 : wtVoted x0 ≤ 1048576
  case neg =>
    have SN0 := Lib.hid (fun w' (hb : Below w.heap.size w w') => (szVoted_any x0 s0 cap0 1048576 w' (by omega) v0 hm0 (hsl0.below hb (Nat.le_refl _))).mono (fun e w'' ⟨he, hw⟩ => (show e = Ending.returned (.int .i64 (-1)) ∧ Below w'.heap.size w' w'' from ⟨by rw [he]; unfold szV; rw [if_neg hk0], hw⟩)))
    clear hsl0
    go_enter Tryd.func3, Tryd.ntmps3
    have FB := Lib.hid (show Below w.heap.size w w from Below.refl _ _)
    have FN : w.heap.size ≤ w.heap.size := Nat.le_refl _
    have hS := Sm.alloc w (.cells #[.int .i64 x0.f0, .int .i64 x0.f1, .int .i64 x0.f2, .int .i64 x0.f3, .string x0.f4, .int .i64 x0.f5, .bool x0.f6, .slice s0 x0.f7.length cap0, .int .i64 x0.f8] 24)
    have BX0 := Lib.hid (BoxAt.new w #[.int .i64 x0.f0, .int .i64 x0.f1, .int .i64 x0.f2, .int .i64 x0.f3, .string x0.f4, .int .i64 x0.f5, .bool x0.f6, .slice s0 x0.f7.length cap0, .int .i64 x0.f8] 24 w.heap.size rfl)
    replace FB := Lib.hid (below_new FB.out FN (.cells #[.int .i64 x0.f0, .int .i64 x0.f1, .int .i64 x0.f2, .int .i64 x0.f3, .string x0.f4, .int .i64 x0.f5, .bool x0.f6, .slice s0 x0.f7.length cap0, .int .i64 x0.f8] 24))
    have hq1 : (w.alloc (.cells #[.int .i64 x0.f0, .int .i64 x0.f1, .int .i64 x0.f2, .int .i64 x0.f3, .string x0.f4, .int .i64 x0.f5, .bool x0.f6, .slice s0 x0.f7.length cap0, .int .i64 x0.f8] 24)).heap.size = w.heap.size + 1 := by simp
    replace FN : w.heap.size ≤ (w.alloc (.cells #[.int .i64 x0.f0, .int .i64 x0.f1, .int .i64 x0.f2, .int .i64 x0.f3, .string x0.f4, .int .i64 x0.f5, .bool x0.f6, .slice s0 x0.f7.length cap0, .int .i64 x0.f8] 24)).heap.size := by omega
    clear hS
    have xBX00 := BX0.out 0 _ rfl
    have xBX01 := BX0.out 1 _ rfl
    have xBX02 := BX0.out 2 _ rfl
    have xBX03 := BX0.out 3 _ rfl
    have xBX04 := BX0.out 4 _ rfl
    have xBX05 := BX0.out 5 _ rfl
    have xBX06 := BX0.out 6 _ rfl
    have xBX07 := BX0.out 7 _ rfl
    have xBX08 := BX0.out 8 _ rfl
    go_wp2_with fail
    refine (SN0.out _ FB.out).mono ?_
    rintro e w2_ ⟨rfl, hb2⟩
    clear xBX00 xBX01 xBX02 xBX03 xBX04 xBX05 xBX06 xBX07 xBX08
    have hS := Sm.of_below hb2
    replace BX0 := Lib.hid (BX0.out.sm hS (by omega))
    replace FB := Lib.hid (below_step FB.out FN hb2)
    have hzw2_ := hb2.size
    replace FN := Nat.le_trans FN hzw2_
    clear hS hb2
    go_wp2
    go_ret
    exact ⟨rfl, FB.out⟩
  case pos =>
    have sz0 := fun w' (hb : Below w.heap.size w w') => (szVoted_any x0 s0 cap0 1048576 w' (by omega) v0 hm0 (hsl0.below hb (Nat.le_refl _))).mono (fun e w'' ⟨he, hw⟩ => (show e = Ending.returned (.int .i64 ((1048576 - wtVoted x0 : Nat) : Int)) ∧ Below w'.heap.size w' w'' from ⟨by rw [he]; unfold szV; rw [if_pos hk0], hw⟩))
    obtain ⟨lf0, hlf0⟩ : ∃ m, 1048576 - wtVoted x0 = m := ⟨_, rfl⟩
    rw [hlf0] at sz0
    have hlfb0 : ¬ ((lf0 : Int) < 0) := by omega
    have hlfc0 : lf0 ≤ 1048576 := by omega
    have SZ0 := Lib.hid sz0; clear sz0
    have hn0 : x0.f7.length ≤ 1048576 := by have := wtVoted_len x0; omega
    have hv0 : x0.f4.size ≤ 1048576 := by have := wtVoted_str x0; omega
    have TO0 := Lib.hid (fun w' (hb : Below w.heap.size w w') => toVoted_any x0 s0 cap0 w' hn0 (hsl0.below hb (Nat.le_refl _)))
    have EX0 := Lib.hid (fun x d y d' w' (h1 : SlA w' x x0.f7) (h2 : SlA w' y x0.f7) => eqVoted_any true x0 x d x0 y d' w' (by simp) (by omega) (by omega) h1 h2)
    have hsp := fun g0 w' (h0 : SlA w' (some ⟨g0, 0, none⟩) x0.f7) => specVotedText_g x0 (some ⟨g0, 0, none⟩) x0.f7.length hn0 hv0 w' h0
    have him := fun g0 w' (h0 : SlA w' (some ⟨g0, 0, none⟩) x0.f7) (hbt : Below w.heap.size w w') => votedText_g x0 (some ⟨g0, 0, none⟩) x0.f7.length hn0 hv0 w' (Nat.lt_of_lt_of_le hw hbt.size) (htab.below hbt hw) h0
    generalize votedT x0 = r0 at hsp him
    have SP := Lib.hid hsp; have IM := Lib.hid him; clear hsp him htab hsl0
    go_enter Tryd.func3, Tryd.ntmps3
    have FB := Lib.hid (show Below w.heap.size w w from Below.refl _ _)
    have FN : w.heap.size ≤ w.heap.size := Nat.le_refl _
    have hS := Sm.alloc w (.cells #[.int .i64 x0.f0, .int .i64 x0.f1, .int .i64 x0.f2, .int .i64 x0.f3, .string x0.f4, .int .i64 x0.f5, .bool x0.f6, .slice s0 x0.f7.length cap0, .int .i64 x0.f8] 24)
    have BX0 := Lib.hid (BoxAt.new w #[.int .i64 x0.f0, .int .i64 x0.f1, .int .i64 x0.f2, .int .i64 x0.f3, .string x0.f4, .int .i64 x0.f5, .bool x0.f6, .slice s0 x0.f7.length cap0, .int .i64 x0.f8] 24 w.heap.size rfl)
    replace FB := Lib.hid (below_new FB.out FN (.cells #[.int .i64 x0.f0, .int .i64 x0.f1, .int .i64 x0.f2, .int .i64 x0.f3, .string x0.f4, .int .i64 x0.f5, .bool x0.f6, .slice s0 x0.f7.length cap0, .int .i64 x0.f8] 24))
    have hq1 : (w.alloc (.cells #[.int .i64 x0.f0, .int .i64 x0.f1, .int .i64 x0.f2, .int .i64 x0.f3, .string x0.f4, .int .i64 x0.f5, .bool x0.f6, .slice s0 x0.f7.length cap0, .int .i64 x0.f8] 24)).heap.size = w.heap.size + 1 := by simp
    replace FN : w.heap.size ≤ (w.alloc (.cells #[.int .i64 x0.f0, .int .i64 x0.f1, .int .i64 x0.f2, .int .i64 x0.f3, .string x0.f4, .int .i64 x0.f5, .bool x0.f6, .slice s0 x0.f7.length cap0, .int .i64 x0.f8] 24)).heap.size := by omega
    clear hS
    have xBX00 := BX0.out 0 _ rfl
    have xBX01 := BX0.out 1 _ rfl
    have xBX02 := BX0.out 2 _ rfl
    have xBX03 := BX0.out 3 _ rfl
    have xBX04 := BX0.out 4 _ rfl
    have xBX05 := BX0.out 5 _ rfl
    have xBX06 := BX0.out 6 _ rfl
    have xBX07 := BX0.out 7 _ rfl
    have xBX08 := BX0.out 8 _ rfl
    go_wp2_with fail
    refine (SZ0.out _ FB.out).mono ?_
    rintro e w2_ ⟨rfl, hb2⟩
    clear xBX00 xBX01 xBX02 xBX03 xBX04 xBX05 xBX06 xBX07 xBX08
    have hS := Sm.of_below hb2
    replace BX0 := Lib.hid (BX0.out.sm hS (by omega))
    replace FB := Lib.hid (below_step FB.out FN hb2)
    have hzw2_ := hb2.size
    replace FN := Nat.le_trans FN hzw2_
    clear hS hb2
    have xBX00 := BX0.out 0 _ rfl
    have xBX01 := BX0.out 1 _ rfl
    have xBX02 := BX0.out 2 _ rfl
    have xBX03 := BX0.out 3 _ rfl
    have xBX04 := BX0.out 4 _ rfl
    have xBX05 := BX0.out 5 _ rfl
    have xBX06 := BX0.out 6 _ rfl
    have xBX07 := BX0.out 7 _ rfl
    have xBX08 := BX0.out 8 _ rfl
    go_wp2_with fail
    refine (TO0.out _ FB.out).mono ?_
    rintro e w3_ ⟨g3, rfl, hrow3, hg3, hb3⟩
    clear xBX00 xBX01 xBX02 xBX03 xBX04 xBX05 xBX06 xBX07 xBX08
    have hS := Sm.of_below hb3
    replace BX0 := Lib.hid (BX0.out.sm hS (by omega))
    replace FB := Lib.hid (below_step FB.out FN hb3)
    have hzw3_ := hb3.size
    replace FN := Nat.le_trans FN hzw3_
    clear hS hb3
    have R0 := Lib.hid (hrow3.sli hg3)
    clear hrow3 hg3
    go_wp2_with fail
    refine (SP.out _ _ R0.out.sl).mono ?_
    rintro e w4_ ⟨rfl, hb4⟩
    have hS := Sm.of_below hb4
    replace BX0 := Lib.hid (BX0.out.sm hS (by omega))
    replace R0 := Lib.hid (R0.out.sm hS (by omega))
    replace FB := Lib.hid (below_step FB.out FN hb4)
    have hzw4_ := hb4.size
    replace FN := Nat.le_trans FN hzw4_
    clear hS hb4
    clear R0
    have xBX00 := BX0.out 0 _ rfl
    have xBX01 := BX0.out 1 _ rfl
    have xBX02 := BX0.out 2 _ rfl
    have xBX03 := BX0.out 3 _ rfl
    have xBX04 := BX0.out 4 _ rfl
    have xBX05 := BX0.out 5 _ rfl
    have xBX06 := BX0.out 6 _ rfl
    have xBX07 := BX0.out 7 _ rfl
    have xBX08 := BX0.out 8 _ rfl
    go_wp2_with fail
    refine (TO0.out _ FB.out).mono ?_
    rintro e w5_ ⟨g5, rfl, hrow5, hg5, hb5⟩
    clear xBX00 xBX01 xBX02 xBX03 xBX04 xBX05 xBX06 xBX07 xBX08
    have hS := Sm.of_below hb5
    replace BX0 := Lib.hid (BX0.out.sm hS (by omega))
    replace FB := Lib.hid (below_step FB.out FN hb5)
    have hzw5_ := hb5.size
    replace FN := Nat.le_trans FN hzw5_
    clear hS hb5
    have X0 := Lib.hid (hrow5.sli hg5)
    clear hrow5 hg5
    have hS := Sm.alloc w5_ (.cells #[.int .i64 x0.f0, .int .i64 x0.f1, .int .i64 x0.f2, .int .i64 x0.f3, .string x0.f4, .int .i64 x0.f5, .bool x0.f6, .slice (some ⟨g5, 0, none⟩) x0.f7.length x0.f7.length, .int .i64 x0.f8] 27)
    replace BX0 := Lib.hid (BX0.out.sm hS (by omega))
    replace X0 := Lib.hid (X0.out.sm hS (by omega))
    have CX0 := Lib.hid (BoxAt.new w5_ #[.int .i64 x0.f0, .int .i64 x0.f1, .int .i64 x0.f2, .int .i64 x0.f3, .string x0.f4, .int .i64 x0.f5, .bool x0.f6, .slice (some ⟨g5, 0, none⟩) x0.f7.length x0.f7.length, .int .i64 x0.f8] 27 w5_.heap.size rfl)
    replace FB := Lib.hid (below_new FB.out FN (.cells #[.int .i64 x0.f0, .int .i64 x0.f1, .int .i64 x0.f2, .int .i64 x0.f3, .string x0.f4, .int .i64 x0.f5, .bool x0.f6, .slice (some ⟨g5, 0, none⟩) x0.f7.length x0.f7.length, .int .i64 x0.f8] 27))
    have hq6 : (w5_.alloc (.cells #[.int .i64 x0.f0, .int .i64 x0.f1, .int .i64 x0.f2, .int .i64 x0.f3, .string x0.f4, .int .i64 x0.f5, .bool x0.f6, .slice (some ⟨g5, 0, none⟩) x0.f7.length x0.f7.length, .int .i64 x0.f8] 27)).heap.size = w5_.heap.size + 1 := by simp
    replace FN : w.heap.size ≤ (w5_.alloc (.cells #[.int .i64 x0.f0, .int .i64 x0.f1, .int .i64 x0.f2, .int .i64 x0.f3, .string x0.f4, .int .i64 x0.f5, .bool x0.f6, .slice (some ⟨g5, 0, none⟩) x0.f7.length x0.f7.length, .int .i64 x0.f8] 27)).heap.size := by omega
    clear hS
    have xCX00 := CX0.out 0 _ rfl
    have xCX01 := CX0.out 1 _ rfl
    have xCX02 := CX0.out 2 _ rfl
    have xCX03 := CX0.out 3 _ rfl
    have xCX04 := CX0.out 4 _ rfl
    have xCX05 := CX0.out 5 _ rfl
    have xCX06 := CX0.out 6 _ rfl
    have xCX07 := CX0.out 7 _ rfl
    have xCX08 := CX0.out 8 _ rfl
    go_wp2_with fail
    refine (IM.out _ _ X0.out.sl FB.out).mono ?_
    rintro e w7_ ⟨rfl, hb7⟩
    clear xCX00 xCX01 xCX02 xCX03 xCX04 xCX05 xCX06 xCX07 xCX08
    have hS := Sm.of_below hb7
    replace BX0 := Lib.hid (BX0.out.sm hS (by omega))
    replace X0 := Lib.hid (X0.out.sm hS (by omega))
    replace CX0 := Lib.hid (CX0.out.sm hS (by omega))
    replace FB := Lib.hid (below_step FB.out FN hb7)
    have hzw7_ := hb7.size
    replace FN := Nat.le_trans FN hzw7_
    clear hS hb7
    have hlCX0 := CX0.out.lt (by simp)
    have hlBX0 := BX0.out.lt (by simp)
    have xCX00 := CX0.out 0 _ rfl
    have xCX01 := CX0.out 1 _ rfl
    have xCX02 := CX0.out 2 _ rfl
    have xCX03 := CX0.out 3 _ rfl
    have xCX04 := CX0.out 4 _ rfl
    have xCX05 := CX0.out 5 _ rfl
    have xCX06 := CX0.out 6 _ rfl
    have xCX07 := CX0.out 7 _ rfl
    have xCX08 := CX0.out 8 _ rfl
    have xBX00 := BX0.out 0 _ rfl
    have xBX01 := BX0.out 1 _ rfl
    have xBX02 := BX0.out 2 _ rfl
    have xBX03 := BX0.out 3 _ rfl
    have xBX04 := BX0.out 4 _ rfl
    have xBX05 := BX0.out 5 _ rfl
    have xBX06 := BX0.out 6 _ rfl
    have xBX07 := BX0.out 7 _ rfl
    have xBX08 := BX0.out 8 _ rfl
    have KS := Lib.hid (fun w' (hb : Below w7_.heap.size w7_ w') => (show (w'.cell? ⟨w5_.heap.size, 0, none⟩ = some (.int .i64 x0.f0) ∧ w'.cell? ⟨w5_.heap.size, 1, none⟩ = some (.int .i64 x0.f1) ∧ w'.cell? ⟨w5_.heap.size, 2, none⟩ = some (.int .i64 x0.f2) ∧ w'.cell? ⟨w5_.heap.size, 3, none⟩ = some (.int .i64 x0.f3) ∧ w'.cell? ⟨w5_.heap.size, 4, none⟩ = some (.string x0.f4) ∧ w'.cell? ⟨w5_.heap.size, 5, none⟩ = some (.int .i64 x0.f5) ∧ w'.cell? ⟨w5_.heap.size, 6, none⟩ = some (.bool x0.f6) ∧ w'.cell? ⟨w5_.heap.size, 7, none⟩ = some (.slice (some ⟨g5, 0, none⟩) x0.f7.length x0.f7.length) ∧ w'.cell? ⟨w5_.heap.size, 8, none⟩ = some (.int .i64 x0.f8)) ∧ (w'.cell? ⟨w.heap.size, 0, none⟩ = some (.int .i64 x0.f0) ∧ w'.cell? ⟨w.heap.size, 1, none⟩ = some (.int .i64 x0.f1) ∧ w'.cell? ⟨w.heap.size, 2, none⟩ = some (.int .i64 x0.f2) ∧ w'.cell? ⟨w.heap.size, 3, none⟩ = some (.int .i64 x0.f3) ∧ w'.cell? ⟨w.heap.size, 4, none⟩ = some (.string x0.f4) ∧ w'.cell? ⟨w.heap.size, 5, none⟩ = some (.int .i64 x0.f5) ∧ w'.cell? ⟨w.heap.size, 6, none⟩ = some (.bool x0.f6) ∧ w'.cell? ⟨w.heap.size, 7, none⟩ = some (.slice s0 x0.f7.length cap0) ∧ w'.cell? ⟨w.heap.size, 8, none⟩ = some (.int .i64 x0.f8)) from ⟨⟨(CX0.out.below hb hlCX0) 0 _ rfl, (CX0.out.below hb hlCX0) 1 _ rfl, (CX0.out.below hb hlCX0) 2 _ rfl, (CX0.out.below hb hlCX0) 3 _ rfl, (CX0.out.below hb hlCX0) 4 _ rfl, (CX0.out.below hb hlCX0) 5 _ rfl, (CX0.out.below hb hlCX0) 6 _ rfl, (CX0.out.below hb hlCX0) 7 _ rfl, (CX0.out.below hb hlCX0) 8 _ rfl⟩, ⟨(BX0.out.below hb hlBX0) 0 _ rfl, (BX0.out.below hb hlBX0) 1 _ rfl, (BX0.out.below hb hlBX0) 2 _ rfl, (BX0.out.below hb hlBX0) 3 _ rfl, (BX0.out.below hb hlBX0) 4 _ rfl, (BX0.out.below hb hlBX0) 5 _ rfl, (BX0.out.below hb hlBX0) 6 _ rfl, (BX0.out.below hb hlBX0) 7 _ rfl, (BX0.out.below hb hlBX0) 8 _ rfl⟩⟩))
    have hks : (w7_.cell? ⟨w5_.heap.size, 0, none⟩ = some (.int .i64 x0.f0) ∧ w7_.cell? ⟨w5_.heap.size, 1, none⟩ = some (.int .i64 x0.f1) ∧ w7_.cell? ⟨w5_.heap.size, 2, none⟩ = some (.int .i64 x0.f2) ∧ w7_.cell? ⟨w5_.heap.size, 3, none⟩ = some (.int .i64 x0.f3) ∧ w7_.cell? ⟨w5_.heap.size, 4, none⟩ = some (.string x0.f4) ∧ w7_.cell? ⟨w5_.heap.size, 5, none⟩ = some (.int .i64 x0.f5) ∧ w7_.cell? ⟨w5_.heap.size, 6, none⟩ = some (.bool x0.f6) ∧ w7_.cell? ⟨w5_.heap.size, 7, none⟩ = some (.slice (some ⟨g5, 0, none⟩) x0.f7.length x0.f7.length) ∧ w7_.cell? ⟨w5_.heap.size, 8, none⟩ = some (.int .i64 x0.f8)) ∧ (w7_.cell? ⟨w.heap.size, 0, none⟩ = some (.int .i64 x0.f0) ∧ w7_.cell? ⟨w.heap.size, 1, none⟩ = some (.int .i64 x0.f1) ∧ w7_.cell? ⟨w.heap.size, 2, none⟩ = some (.int .i64 x0.f2) ∧ w7_.cell? ⟨w.heap.size, 3, none⟩ = some (.int .i64 x0.f3) ∧ w7_.cell? ⟨w.heap.size, 4, none⟩ = some (.string x0.f4) ∧ w7_.cell? ⟨w.heap.size, 5, none⟩ = some (.int .i64 x0.f5) ∧ w7_.cell? ⟨w.heap.size, 6, none⟩ = some (.bool x0.f6) ∧ w7_.cell? ⟨w.heap.size, 7, none⟩ = some (.slice s0 x0.f7.length cap0) ∧ w7_.cell? ⟨w.heap.size, 8, none⟩ = some (.int .i64 x0.f8)) := KS.out _ (Below.refl _ _)
    have FBX := Lib.hid (fun w' (hb : Below w7_.heap.size w7_ w') => (show Below w.heap.size w w' from FB.out.trans (hb.mono FN)))
    have HC := Lib.hid (show Below w7_.heap.size w7_ w7_.drew from (Below.refl _ _).drew)
    replace X0 := Lib.hid X0.out.drew
    go_wp2
    go_region_held3 (fun w' => (w'.cell? ⟨w5_.heap.size, 0, none⟩ = some (.int .i64 x0.f0) ∧ w'.cell? ⟨w5_.heap.size, 1, none⟩ = some (.int .i64 x0.f1) ∧ w'.cell? ⟨w5_.heap.size, 2, none⟩ = some (.int .i64 x0.f2) ∧ w'.cell? ⟨w5_.heap.size, 3, none⟩ = some (.int .i64 x0.f3) ∧ w'.cell? ⟨w5_.heap.size, 4, none⟩ = some (.string x0.f4) ∧ w'.cell? ⟨w5_.heap.size, 5, none⟩ = some (.int .i64 x0.f5) ∧ w'.cell? ⟨w5_.heap.size, 6, none⟩ = some (.bool x0.f6) ∧ w'.cell? ⟨w5_.heap.size, 7, none⟩ = some (.slice (some ⟨g5, 0, none⟩) x0.f7.length x0.f7.length) ∧ w'.cell? ⟨w5_.heap.size, 8, none⟩ = some (.int .i64 x0.f8)) ∧ (w'.cell? ⟨w.heap.size, 0, none⟩ = some (.int .i64 x0.f0) ∧ w'.cell? ⟨w.heap.size, 1, none⟩ = some (.int .i64 x0.f1) ∧ w'.cell? ⟨w.heap.size, 2, none⟩ = some (.int .i64 x0.f2) ∧ w'.cell? ⟨w.heap.size, 3, none⟩ = some (.int .i64 x0.f3) ∧ w'.cell? ⟨w.heap.size, 4, none⟩ = some (.string x0.f4) ∧ w'.cell? ⟨w.heap.size, 5, none⟩ = some (.int .i64 x0.f5) ∧ w'.cell? ⟨w.heap.size, 6, none⟩ = some (.bool x0.f6) ∧ w'.cell? ⟨w.heap.size, 7, none⟩ = some (.slice s0 x0.f7.length cap0) ∧ w'.cell? ⟨w.heap.size, 8, none⟩ = some (.int .i64 x0.f8)))
      (first | (with_reducible exact KS.out _ HC.out) | (with_reducible exact KS.out _ (HC.out.alloc HC.out.size _)) | go_keep)
      (first
        | (go_at_call 6; ((with_reducible refine (TO0.out _ (FBX.out _ HC.out)).mono ?_); rintro e wt0 ⟨gt0, rfl, hrowt0, hgt0, hbt0⟩; (try (replace X0 := Lib.hid (X0.out.sm (Sm.of_below hbt0) (by omega)))); (try (replace Y0 := Lib.hid (Y0.out.sm (Sm.of_below hbt0) (by omega)))); replace HC := Lib.hid (HC.out.trans (hbt0.mono HC.out.size)); have Y0 := Lib.hid (hrowt0.sli hgt0)))
        | (go_at_call 8; ((with_reducible refine (EX0.out _ _ _ _ _ X0.out.sl Y0.out.sl).mono ?_); rintro e w8_ ⟨rfl, hb8⟩; have hbf8 := HC.out.size; (try (replace X0 := Lib.hid (X0.out.sm (Sm.of_below hb8) (by omega)))); (try (replace Y0 := Lib.hid (Y0.out.sm (Sm.of_below hb8) (by omega)))); replace HC := Lib.hid (HC.out.trans (hb8.mono HC.out.size)); skip))
        | fail)
    all_goals
      replace CX0 := Lib.hid (CX0.out.below HC.out hlCX0)
      replace BX0 := Lib.hid (BX0.out.below HC.out hlBX0)
      replace FB := Lib.hid (FBX.out _ HC.out)
      have hzz8 := HC.out.size
      replace FN := Nat.le_trans FN hzz8
      clear hks KS HC FBX hlCX0 hlBX0
      clear hbf8
      clear xCX00 xCX01 xCX02 xCX03 xCX04 xCX05 xCX06 xCX07 xCX08
      clear xBX00 xBX01 xBX02 xBX03 xBX04 xBX05 xBX06 xBX07 xBX08
      clear hrowt0 hgt0
      clear hbt0
      clear Y0
      go_wp2
      go_ret
      exact ⟨rfl, FB.out⟩
end Go.Proofs.YtnlbhdlfpnepfaaDoor.fnExactVotedText
