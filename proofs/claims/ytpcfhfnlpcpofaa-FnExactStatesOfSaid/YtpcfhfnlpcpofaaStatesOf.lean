/- impl.StatesOf, spec.StatesOf -/
import Derived.Test.YtpcfhfnlpcpofaaDiscValid
import Derived.Test.YtpcfhfnlpcpofaaDiscSpecOk
import Derived.Test.YtpcfhfnlpcpofaaSlRes
import Derived.Test.YtpcfhfnlpcpofaaBoxF
namespace Go.Proofs.Ytpcfhfnlpcpofaa
open Go.RowKit
set_option linter.unusedVariables false
set_option linter.unusedSimpArgs false
set_option maxRecDepth 20000
/-- How many sectors have a state. -/
def cntV (s : Int) (es : List SectorV) : Nat := (es.filter (fun e => e.f1 == s)).length
def statesV (x : DiscV) : List Int := if discB x = true then [(cntV 1 x.f4 : Int), (cntV 2 x.f4 : Int), (cntV 3 x.f4 : Int), (cntV 4 x.f4 : Int)] else []
theorem statesV_len (x : DiscV) : (statesV x).length ≤ 1048576 := by unfold statesV; split <;> simp
theorem cntV_succ {es : List SectorV} {k : Nat} {e : SectorV} (h : es[k]? = some e) (s : Int) : cntV s (es.take (k + 1)) = cntV s (es.take k) + (if e.f1 = s then 1 else 0) := by
  unfold cntV
  rw [List.take_add_one, h, List.filter_append, List.length_append]
  by_cases hs : e.f1 = s <;> simp [hs]
theorem cntV_le (s : Int) (es : List SectorV) (k : Nat) : cntV s (es.take k) ≤ k := by
  unfold cntV
  exact Nat.le_trans (List.length_filter_le _ _) (by simp; omega)
theorem discB_state {x : DiscV} (h : discB x = true) {e : SectorV} (he : e ∈ x.f4) : e.f1 = 1 ∨ e.f1 = 2 ∨ e.f1 = 3 ∨ e.f1 = 4 := by
  unfold discB at h
  simp only [Bool.and_eq_true, List.all_eq_true] at h
  have h2 := h.2.2 e he
  unfold secOkB at h2
  simp only [Bool.and_eq_true] at h2
  have := inB_iff.1 h2.2.1
  omega
theorem heap_round (w : World) (g i : Nat) (cs : Array Value) (T : TypeId) (o : Obj) (v : Value) (hg : w.heap[g]? = some (.cells cs T (0, 0))) :
    ((w.setCell ⟨g, i, none⟩ v).alloc o).heap[g]? = some (.cells (cs.setIfInBounds i v) T (0, 0)) := by
  have hlt : g < w.heap.size := (Array.getElem?_eq_some_iff.1 hg).1
  rw [Below.heap_alloc _ o g (by simpa using hlt)]
  exact heap_set_marked w g i cs T (0, 0) v hg
set_option maxHeartbeats 8000000 in
theorem statesOf_g (x : DiscV) (a : Option Addr) (c : Nat) (hm : x.f4.length ≤ 1048576) (hs : ∀ e ∈ x.f4, e.f0.size ≤ 1048576) (w : World) (h : SlS rowSector w a x.f4) :
    Calls Try.prog 36 #[.agg #[.int .i64 x.f0, .int .i64 x.f1, .int .i64 x.f2, .int .i64 x.f3, .slice a x.f4.length c]] w (SlRes (statesV x) w) := by
  have hs2 : ∀ e ∈ x.f4, e.f0.size ≤ maxLen := fun e he => by have := hs e he; unfold maxLen; omega
  have va := fun w' (hb : Below w.heap.size w w') => validDisc_any x a c w' hm hs2 (h.below hb (Nat.le_refl _))
  unfold statesV
  by_cases hd0 : discB x = true
  case neg =>
    have hdf : discB x = false := by simpa using hd0
    rw [hdf] at va
    rw [if_neg hd0]
    have VA := Lib.hid va
    clear hd0 hdf va h hs hs2
    go_enter Try.func36, Try.ntmps36
    go_wp2_with fail
    refine (VA.out _ (by go_grown)).mono ?_
    rintro e w1 ⟨rfl, hb1⟩
    go_wp2
    go_ret
    exact ⟨none, 0, rfl, .inl rfl, Below.trans (by go_grown) (hb1.mono (by simp))⟩
  have HST := Lib.hid (fun e he => discB_state hd0 (e := e) he)
  have hl128 := discB_len hd0
  rw [hd0] at va
  rw [if_pos hd0]
  have VA := Lib.hid va
  have hmk : ∀ w : World, (Instr.makeSlice 51 (.int .i64 4) (.int .i64 4)).run Try.prog w = .ok (.slice (some ⟨w.heap.size, 0, none⟩) 4 4) (w.alloc (.cells #[.int .i64 0, .int .i64 0, .int .i64 0, .int .i64 0] 2)) := fun w => by
    have h := run_make_row' (P := Try.prog) 51 2 (.int .i64 0) 8 Try.underlying51 i64info rfl .i64 .i64 4 (by omega) (by omega) w
    have e4 : madeCells #[Value.int .i64 0] 4 = #[.int .i64 0, .int .i64 0, .int .i64 0, .int .i64 0] := by kernel_rfl
    rw [e4] at h
    exact h
  clear hd0 va hs hs2
  go_enter Try.func36, Try.ntmps36
  go_wp2_with fail
  refine (VA.out _ (by go_grown)).mono ?_
  rintro e w1 ⟨rfl, hb1⟩
  have q4 : w1.cell? ⟨w.heap.size, 4, none⟩ = some (.slice a x.f4.length c) := by rw [hb1.cell (p := ⟨w.heap.size, 4, none⟩) (by simp)]; simp [go_sem]
  have F1 := Lib.hid (show Below w.heap.size w w1 from Below.trans (by go_grown) (hb1.mono (by simp)))
  have hz1 : w.heap.size < w1.heap.size := by have := hb1.size; simp at this; omega
  clear hb1
  go_wp2
  clear hmk q4
  go_loopw [13] (fun i wr => ∃ k : Nat, k ≤ x.f4.length ∧ i = .int .i64 k ∧ ∃ n1 n2 n3 n4 : Nat, Hid (wr.heap[w1.heap.size]? = some (.cells #[.int .i64 n1, .int .i64 n2, .int .i64 n3, .int .i64 n4] 2 (0, 0)) ∧ n1 = cntV 1 (x.f4.take k) ∧ n2 = cntV 2 (x.f4.take k) ∧ n3 = cntV 3 (x.f4.take k) ∧ n4 = cntV 4 (x.f4.take k)) ∧ w1.heap.size < wr.heap.size ∧ Below w.heap.size w wr) (fun i _ => x.f4.length - (intOf i).toNat)
  case atStart => exact ⟨0, Nat.zero_le _, rfl, 0, 0, 0, 0, by unfold Hid; exact ⟨heap_alloc_new w1 _, rfl, rfl, rfl, rfl⟩, by simp, F1.out.alloc (by omega) _⟩
  case round =>
    obtain ⟨k, hk, rfl, n1, n2, n3, n4, hB, hgt, hb⟩ := hrel
    by_cases hlt : k < x.f4.length
    · obtain ⟨e, hx⟩ : ∃ e, x.f4[k]? = some e := ⟨x.f4[k], by simp [hlt]⟩
      obtain ⟨b, off, rfl, hbl, hc⟩ := (h.below hb (Nat.le_refl _)).at rowSector_len hx
      have c0 : wr.cell? ⟨b, off + k * 2, none⟩ = some (.string e.f0) := hc 0 _ rfl
      have c1 : wr.cell? ⟨b, off + k * 2 + 1, none⟩ = some (.int .i64 e.f1) := hc 1 _ rfl
      obtain ⟨hB0, hB1, hB2, hB3, hB4⟩ := hB.out
      have hst := HST.out e (List.mem_of_getElem? hx)
      have g1 := cntV_le 1 x.f4 k
      have g2 := cntV_le 2 x.f4 k
      have g3 := cntV_le 3 x.f4 k
      have g4 := cntV_le 4 x.f4 k
      have HN := Lib.hid (And.intro hB0 (And.intro hB1 (And.intro hB2 (And.intro hB3 hB4))))
      have u1 : (n1 : Int) + 1 ≤ 129 := by omega
      have u2 : (n2 : Int) + 1 ≤ 129 := by omega
      have u3 : (n3 : Int) + 1 ≤ 129 := by omega
      have u4 : (n4 : Int) + 1 ≤ 129 := by omega
      have d0 : wr.cell? ⟨w1.heap.size, 0, none⟩ = some (.int .i64 n1) := by simp [World.cell?, hB0]
      have d1 : wr.cell? ⟨w1.heap.size, 1, none⟩ = some (.int .i64 n2) := by simp [World.cell?, hB0]
      have d2 : wr.cell? ⟨w1.heap.size, 2, none⟩ = some (.int .i64 n3) := by simp [World.cell?, hB0]
      have d3 : wr.cell? ⟨w1.heap.size, 3, none⟩ = some (.int .i64 n4) := by simp [World.cell?, hB0]
      have z0 : ∀ i, wr.frozen? ⟨w1.heap.size, i, none⟩ = false := fun i => by simp [World.frozen?, hB0]
      have z1 := z0 1
      have z2 := z0 2
      have z3 := z0 3
      replace z0 := z0 0
      have HX := Lib.hid (And.intro hx (And.intro h hc))
      clear hB hB0 hB1 hB2 hB3 hB4 hx h hc g1 g2 g3 g4
      obtain ⟨s, st⟩ := e
      dsimp only at *
      rcases hst with rfl | rfl | rfl | rfl
      all_goals
        go_wp2
        go_roundw
        case rel =>
          obtain ⟨hB0, hB1, hB2, hB3, hB4⟩ := HN.out
          refine ⟨k + 1, by omega, by go_num, cntV 1 (x.f4.take (k + 1)), cntV 2 (x.f4.take (k + 1)), cntV 3 (x.f4.take (k + 1)), cntV 4 (x.f4.take (k + 1)), ?_, ?_, ?_⟩
          · unfold Hid
            refine ⟨(heap_round wr w1.heap.size _ _ _ _ _ hB0).trans ?_, rfl, rfl, rfl, rfl⟩
            simp [cntV_succ HX.out.1, hB1, hB2, hB3, hB4]
          · simp; omega
          · have hbs := hb.size
            exact (hb.setCell (by simp <;> omega) _).alloc (by simp <;> omega) _
        case measure => simp [intOf]; omega
    · obtain rfl : k = x.f4.length := by omega
      obtain ⟨hB0, hB1, hB2, hB3, hB4⟩ := hB.out
      rw [List.take_length] at hB1 hB2 hB3 hB4
      have HN := Lib.hid (And.intro hB0 (And.intro hB1 (And.intro hB2 (And.intro hB3 hB4))))
      clear hB hB0 hB1 hB2 hB3 hB4
      go_wp2
      go_ret
      obtain ⟨hB0, rfl, rfl, rfl, rfl⟩ := HN.out
      exact ⟨_, _, rfl, .inr ⟨w1.heap.size, #[], rfl, by omega, by rw [hB0]; simp⟩, hb⟩
set_option maxHeartbeats 8000000 in
theorem specStatesOf_g (x : DiscV) (a : Option Addr) (c : Nat) (hm : x.f4.length ≤ 1048576) (hs : ∀ e ∈ x.f4, e.f0.size ≤ 1048576) (w : World) (h : SlS rowSector w a x.f4) :
    Calls Try.prog 35 #[.agg #[.int .i64 x.f0, .int .i64 x.f1, .int .i64 x.f2, .int .i64 x.f3, .slice a x.f4.length c]] w (SlRes (statesV x) w) := by
  have hs2 : ∀ e ∈ x.f4, e.f0.size ≤ maxLen := fun e he => by have := hs e he; unfold maxLen; omega
  have va := fun w' (hb : Below w.heap.size w w') hp => l12Ok_any x a c w.heap.size w' hm hs2 hp (h.below hb (Nat.le_refl _))
  have BX := Lib.hid (BoxAt.new w #[.int .i64 x.f0, .int .i64 x.f1, .int .i64 x.f2, .int .i64 x.f3, .slice a x.f4.length c] 29 _ rfl)
  unfold statesV
  by_cases hd0 : discB x = true
  case neg =>
    have hdf : discB x = false := by simpa using hd0
    rw [hdf] at va
    rw [if_neg hd0]
    have VA := Lib.hid va
    clear hd0 hdf va h hs hs2
    go_enter Try.func35, Try.ntmps35
    go_wp2_with fail
    refine (VA.out _ ((Below.refl _ _).alloc (Nat.le_refl _) _) BX.out).mono ?_
    rintro e w1 ⟨rfl, hb1⟩
    have F1 := Lib.hid (show Below w.heap.size w w1 from Below.trans ((Below.refl _ _).alloc (Nat.le_refl _) _) (hb1.mono (by simp)))
    clear hb1
    go_wp2
    go_ret
    exact ⟨_, _, rfl, .inl rfl, by first | exact F1.out.alloc F1.out.size _ | exact F1.out⟩
  have HST := Lib.hid (fun e he => discB_state hd0 (e := e) he)
  have hl128 := discB_len hd0
  rw [hd0] at va
  rw [if_pos hd0]
  have VA := Lib.hid va
  have hmk : ∀ w : World, (Instr.makeSlice 51 (.int .i64 4) (.int .i64 4)).run Try.prog w = .ok (.slice (some ⟨w.heap.size, 0, none⟩) 4 4) (w.alloc (.cells #[.int .i64 0, .int .i64 0, .int .i64 0, .int .i64 0] 2)) := fun w => by
    have h := run_make_row' (P := Try.prog) 51 2 (.int .i64 0) 8 Try.underlying51 i64info rfl .i64 .i64 4 (by omega) (by omega) w
    have e4 : madeCells #[Value.int .i64 0] 4 = #[.int .i64 0, .int .i64 0, .int .i64 0, .int .i64 0] := by kernel_rfl
    rw [e4] at h
    exact h
  clear hd0 va hs hs2
  go_enter Try.func35, Try.ntmps35
  go_wp2_with fail
  refine (VA.out _ ((Below.refl _ _).alloc (Nat.le_refl _) _) BX.out).mono ?_
  rintro e w1 ⟨rfl, hb1⟩
  have F1 := Lib.hid (show Below w.heap.size w w1 from Below.trans ((Below.refl _ _).alloc (Nat.le_refl _) _) (hb1.mono (by simp)))
  have hz1 : w.heap.size < w1.heap.size := by have := hb1.size; simp at this; omega
  replace BX := Lib.hid (BX.out.below hb1 (by simp))
  clear hb1
  go_wp2
  clear hmk
  go_loopw [4] (fun i wr => ∃ k : Nat, k ≤ x.f4.length ∧ i = .int .i64 k ∧ ∃ n1 n2 n3 n4 : Nat, Hid (wr.heap[w1.heap.size]? = some (.cells #[.int .i64 n1, .int .i64 n2, .int .i64 n3, .int .i64 n4] 2 (0, 0)) ∧ n1 = cntV 1 (x.f4.take k) ∧ n2 = cntV 2 (x.f4.take k) ∧ n3 = cntV 3 (x.f4.take k) ∧ n4 = cntV 4 (x.f4.take k)) ∧ w1.heap.size < wr.heap.size ∧ Below w.heap.size w wr ∧ Below w1.heap.size w1 wr) (fun i _ => x.f4.length - (intOf i).toNat)
  case atStart => exact ⟨0, Nat.zero_le _, rfl, 0, 0, 0, 0, by unfold Hid; exact ⟨heap_alloc_new w1 _, rfl, rfl, rfl, rfl⟩, by simp, F1.out.alloc (by omega) _, (Below.refl _ _).alloc (Nat.le_refl _) _⟩
  case round =>
    obtain ⟨k, hk, rfl, n1, n2, n3, n4, hB, hgt, hb, hbw⟩ := hrel
    have q4 := (BX.out.below hbw hz1) 4 _ rfl
    by_cases hlt : k < x.f4.length
    · obtain ⟨e, hx⟩ : ∃ e, x.f4[k]? = some e := ⟨x.f4[k], by simp [hlt]⟩
      obtain ⟨b, off, rfl, hbl, hc⟩ := (h.below hb (Nat.le_refl _)).at rowSector_len hx
      have c0 : wr.cell? ⟨b, off + k * 2, none⟩ = some (.string e.f0) := hc 0 _ rfl
      have c1 : wr.cell? ⟨b, off + k * 2 + 1, none⟩ = some (.int .i64 e.f1) := hc 1 _ rfl
      obtain ⟨hB0, hB1, hB2, hB3, hB4⟩ := hB.out
      have hst := HST.out e (List.mem_of_getElem? hx)
      have g1 := cntV_le 1 x.f4 k
      have g2 := cntV_le 2 x.f4 k
      have g3 := cntV_le 3 x.f4 k
      have g4 := cntV_le 4 x.f4 k
      have HN := Lib.hid (And.intro hB0 (And.intro hB1 (And.intro hB2 (And.intro hB3 hB4))))
      have u1 : (n1 : Int) + 1 ≤ 129 := by omega
      have u2 : (n2 : Int) + 1 ≤ 129 := by omega
      have u3 : (n3 : Int) + 1 ≤ 129 := by omega
      have u4 : (n4 : Int) + 1 ≤ 129 := by omega
      have d0 : wr.cell? ⟨w1.heap.size, 0, none⟩ = some (.int .i64 n1) := by simp [World.cell?, hB0]
      have d1 : wr.cell? ⟨w1.heap.size, 1, none⟩ = some (.int .i64 n2) := by simp [World.cell?, hB0]
      have d2 : wr.cell? ⟨w1.heap.size, 2, none⟩ = some (.int .i64 n3) := by simp [World.cell?, hB0]
      have d3 : wr.cell? ⟨w1.heap.size, 3, none⟩ = some (.int .i64 n4) := by simp [World.cell?, hB0]
      have z0 : ∀ i, wr.frozen? ⟨w1.heap.size, i, none⟩ = false := fun i => by simp [World.frozen?, hB0]
      have z1 := z0 1
      have z2 := z0 2
      have z3 := z0 3
      replace z0 := z0 0
      have e1 : (k : Int) < x.f4.length := by omega
      have HX := Lib.hid (And.intro hx (And.intro h hc))
      clear hB hB0 hB1 hB2 hB3 hB4 hx h hc g1 g2 g3 g4
      obtain ⟨s, st⟩ := e
      dsimp only at *
      rcases hst with rfl | rfl | rfl | rfl
      all_goals
        go_wp2
        go_roundw
        case rel =>
          obtain ⟨hB0, hB1, hB2, hB3, hB4⟩ := HN.out
          refine ⟨k + 1, by omega, by go_num, cntV 1 (x.f4.take (k + 1)), cntV 2 (x.f4.take (k + 1)), cntV 3 (x.f4.take (k + 1)), cntV 4 (x.f4.take (k + 1)), ?_, ?_, ?_, ?_⟩
          · unfold Hid
            refine ⟨(heap_set_marked wr w1.heap.size _ _ _ (0, 0) _ hB0).trans ?_, rfl, rfl, rfl, rfl⟩
            simp [cntV_succ HX.out.1, hB1, hB2, hB3, hB4]
          · simp; omega
          · exact hb.setCell (by simp <;> omega) _
          · exact hbw.setCell (by simp <;> omega) _
        case measure => simp [intOf]; omega
    · obtain rfl : k = x.f4.length := by omega
      obtain ⟨hB0, hB1, hB2, hB3, hB4⟩ := hB.out
      rw [List.take_length] at hB1 hB2 hB3 hB4
      have HN := Lib.hid (And.intro hB0 (And.intro hB1 (And.intro hB2 (And.intro hB3 hB4))))
      clear hB hB0 hB1 hB2 hB3 hB4
      go_wp2
      go_ret
      obtain ⟨hB0, rfl, rfl, rfl, rfl⟩ := HN.out
      exact ⟨_, _, rfl, .inr ⟨w1.heap.size, #[], rfl, by omega, by rw [hB0]; simp⟩, hb⟩
end Go.Proofs.Ytpcfhfnlpcpofaa
