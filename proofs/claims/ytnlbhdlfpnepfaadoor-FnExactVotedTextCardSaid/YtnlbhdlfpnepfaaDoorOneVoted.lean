/- The struct Voted, which has one slice: opened among the arguments; laws.szVoted, laws.toVoted, laws.eqVoted -/
import Derived.Test.YtnlbhdlfpnepfaaDoorIntsKit
import Derived.Test.YtnlbhdlfpnepfaaDoorRecKit
import Derived.Test.YtnlbhdlfpnepfaaDoorBoxes
import Derived.Test.YtnlbhdlfpnepfaaDoorRecSm
namespace Go.Proofs.YtnlbhdlfpnepfaaDoor
open Go.RowKit Go.ChangeShapes Go.WideShapes Go.ChangeAt Go.Joins Go.Deep
set_option linter.unusedVariables false
set_option linter.unusedSimpArgs false
set_option maxRecDepth 20000
structure VotedV where
  f0 : Int
  f1 : Int
  f2 : Int
  f3 : Int
  f4 : ByteArray
  f5 : Int
  f6 : Bool
  f7 : List Int
  f8 : Int
theorem cellsVotedL : Tryd.prog.cellsOf 24 = 9 := by kernel_rfl
def wtVoted (x : VotedV) : Nat := x.f4.size + x.f7.length
theorem wtVoted_len (x : VotedV) : x.f7.length ≤ wtVoted x := by unfold wtVoted; omega
theorem wtVoted_str (x : VotedV) : x.f4.size ≤ wtVoted x := by unfold wtVoted; omega
/-- What the walk is told of a Voted that came in. -/
def ArgVoted (W : World) (a : Option Addr) (x : VotedV) : Prop := x.f7.length ≤ maxLen ∧ SlA W a x.f7 ∧ x.f4.size ≤ maxLen
set_option maxRecDepth 100000 in
theorem open_Voted {H : Type} {enc : TypeId × Value → H} {W : World} {base : Nat} {v : Value} {d : DataW H} {p : List MemPlace}
    (hv : Value.okWide Tryd.prog W .any base 24 v) (h : DataW.Trod enc Tryd.prog W 0 (fun _ => true) true 24 v d p) :
    ∃ (x : VotedV) (a : Option Addr) (cap : Nat), v = .agg #[.int .i64 x.f0, .int .i64 x.f1, .int .i64 x.f2, .int .i64 x.f3, .string x.f4, .int .i64 x.f5, .bool x.f6, .slice a x.f7.length cap, .int .i64 x.f8] ∧ ArgVoted W a x := by
  obtain ⟨cs, rfl, hsz, hf⟩ := open_fields Tryd.underlying24 (by kernel_rfl) cellsVotedL (by rfl) hv h
  obtain ⟨l⟩ := cs
  match l, hsz, hf with
  | [c0, c1, c2, c3, c4, c5, c6, c7, c8], _, hf =>
    obtain ⟨c0', n0, y0, e0, t0⟩ := hf 0 _ rfl
    obtain ⟨c1', n1, y1, e1, t1⟩ := hf 1 _ rfl
    obtain ⟨c2', n2, y2, e2, t2⟩ := hf 2 _ rfl
    obtain ⟨c3', n3, y3, e3, t3⟩ := hf 3 _ rfl
    obtain ⟨c4', n4, y4, e4, t4⟩ := hf 4 _ rfl
    obtain ⟨c5', n5, y5, e5, t5⟩ := hf 5 _ rfl
    obtain ⟨c6', n6, y6, e6, t6⟩ := hf 6 _ rfl
    obtain ⟨c7', n7, y7, e7, t7⟩ := hf 7 _ rfl
    obtain ⟨c8', n8, y8, e8, t8⟩ := hf 8 _ rfl
    cases e0; cases e1; cases e2; cases e3; cases e4; cases e5; cases e6; cases e7; cases e8
    obtain ⟨x0, rfl⟩ := int_cell Tryd.underlying2 t0
    obtain ⟨x1, rfl⟩ := int_cell Tryd.underlying2 t1
    obtain ⟨x2, rfl⟩ := int_cell Tryd.underlying2 t2
    obtain ⟨x3, rfl⟩ := int_cell Tryd.underlying2 t3
    obtain ⟨x4, rfl, m4⟩ := string_cell Tryd.underlying9 t4
    obtain ⟨x5, rfl⟩ := int_cell Tryd.underlying2 t5
    obtain ⟨x6, rfl⟩ := bool_cell Tryd.underlying4 t6
    obtain ⟨x8, rfl⟩ := int_cell Tryd.underlying2 t8
    obtain ⟨a0, xs, cap0, rfl, h1, h2⟩ := ints_cell t7
    exact ⟨⟨x0, x1, x2, x3, x4, x5, x6, xs, x8⟩, a0, cap0, rfl, ⟨h1, h2, m4⟩⟩
set_option maxHeartbeats 1000000 in
theorem szVoted_any (x : VotedV) (a : Option Addr) (c left : Nat) (w : World) (hl : left ≤ 1048576) (hz4 : x.f4.size ≤ maxLen) (hm : x.f7.length ≤ maxLen) (h : SlA w a x.f7) :
    Calls Tryd.prog 4 #[.agg #[.int .i64 x.f0, .int .i64 x.f1, .int .i64 x.f2, .int .i64 x.f3, .string x.f4, .int .i64 x.f5, .bool x.f6, .slice a x.f7.length c, .int .i64 x.f8], .int .i64 (left : Nat)] w fun y w' => y = .returned (.int .i64 (szV left (wtVoted x))) ∧ Below w.heap.size w w' := by
  unfold maxLen at hz4
  by_cases hs4 : x.f4.size ≤ left
  case neg =>
    have he : szV left (wtVoted x) = -1 := by unfold szV wtVoted; rw [if_neg (by omega)]
    have h0 : (left : Int) - (x.f4.size : Int) < 0 := by omega
    rw [he]
    clear he h hm
    go_enter Tryd.func4, Tryd.ntmps4
    go_wp2
    go_ret
    exact ⟨rfl, by go_grown⟩
  have hneg : ¬ ((left : Int) - (x.f4.size : Int) < 0) := by omega
  have hwt : szV left (wtVoted x) = szV (left - x.f4.size) (x.f7.length) := by
    by_cases hq : x.f7.length ≤ left - x.f4.size
    · unfold szV wtVoted
      rw [if_pos (by omega), if_pos hq]
      omega
    · unfold szV wtVoted
      rw [if_neg (by omega), if_neg hq]
  rw [hwt]
  clear hwt
  have hc := fun w' (hb : Below w.heap.size w w') => szInt_any a x.f7.length c (left - x.f4.size) w' (by omega) hm
  have hcast : ((left - x.f4.size : Nat) : Int) = (left : Int) - (x.f4.size : Int) := by omega
  simp only [hcast] at hc
  clear hcast
  clear h
  by_cases hk : x.f7.length ≤ (left - x.f4.size)
  · have he : szV (left - x.f4.size) (x.f7.length) = (((left - x.f4.size) - x.f7.length : Nat) : Int) := by unfold szV; rw [if_pos hk]
    rw [he] at hc ⊢
    obtain ⟨r, hr⟩ : ∃ r, (left - x.f4.size) - x.f7.length = r := ⟨_, rfl⟩
    rw [hr] at hc ⊢
    have h0 : ¬ ((r : Int) < 0) := by omega
    have h1 : r ≤ 1048576 := by omega
    have HC := Lib.hid hc; clear hc hr he hk
    go_enter Tryd.func4, Tryd.ntmps4
    go_wp2_with fail
    refine (HC.out _ (by go_grown)).mono ?_
    rintro e w1 ⟨rfl, hb1⟩
    go_wp2
    go_ret
    exact ⟨rfl, Below.trans (by go_grown) (hb1.mono (by simp))⟩
  · have he : szV (left - x.f4.size) (x.f7.length) = -1 := by unfold szV; rw [if_neg hk]
    rw [he] at hc ⊢
    have HC := Lib.hid hc; clear hc he hk
    go_enter Tryd.func4, Tryd.ntmps4
    go_wp2_with fail
    refine (HC.out _ (by go_grown)).mono ?_
    rintro e w1 ⟨rfl, hb1⟩
    go_wp2
    go_ret
    exact ⟨rfl, Below.trans (by go_grown) (hb1.mono (by simp))⟩
def ToVotedPost (x : VotedV) (w : World) (e : Ending) (w' : World) : Prop :=
  ∃ g, e = .returned (.agg #[.int .i64 x.f0, .int .i64 x.f1, .int .i64 x.f2, .int .i64 x.f3, .string x.f4, .int .i64 x.f5, .bool x.f6, .slice (some ⟨g, 0, none⟩) x.f7.length x.f7.length, .int .i64 x.f8]) ∧ RowAt w' g x.f7 ∧ w.heap.size ≤ g ∧ Below w.heap.size w w'
set_option maxHeartbeats 2000000 in
theorem toVoted_any (x : VotedV) (a : Option Addr) (c : Nat) (w : World) (hl : x.f7.length ≤ 1048576) (h : SlA w a x.f7) :
    Calls Tryd.prog 6 #[.agg #[.int .i64 x.f0, .int .i64 x.f1, .int .i64 x.f2, .int .i64 x.f3, .string x.f4, .int .i64 x.f5, .bool x.f6, .slice a x.f7.length c, .int .i64 x.f8]] w (ToVotedPost x w) := by
  have hc := fun w' (hb : Below w.heap.size w w') => toInts_any a x.f7 c w' hl (h.below hb (Nat.le_refl _))
  have HC := Lib.hid hc; clear hc h
  go_enter Tryd.func6, Tryd.ntmps6
  go_wp2_with fail
  refine (HC.out _ (by go_grown)).mono ?_
  rintro e w1 ⟨g, rfl, hrow, hg, hb1⟩
  have q0 : w1.cell? ⟨w.heap.size + 1 + 1, 0, none⟩ = some (.int .i64 x.f0) := by rw [hb1.cell (p := ⟨w.heap.size + 1 + 1, 0, none⟩) (by simp)]; simp [go_sem]
  have r0 : w1.cell? ⟨w.heap.size + 1, 0, none⟩ = some (.int .i64 0) := by rw [hb1.cell (p := ⟨w.heap.size + 1, 0, none⟩) (by simp)]; simp [go_sem]
  have y0 : w1.frozen? ⟨w.heap.size + 1, 0, none⟩ = false := by rw [hb1.frozen (p := ⟨w.heap.size + 1, 0, none⟩) (by simp)]; simp [go_sem]
  have q1 : w1.cell? ⟨w.heap.size + 1 + 1, 1, none⟩ = some (.int .i64 x.f1) := by rw [hb1.cell (p := ⟨w.heap.size + 1 + 1, 1, none⟩) (by simp)]; simp [go_sem]
  have r1 : w1.cell? ⟨w.heap.size + 1, 1, none⟩ = some (.int .i64 0) := by rw [hb1.cell (p := ⟨w.heap.size + 1, 1, none⟩) (by simp)]; simp [go_sem]
  have y1 : w1.frozen? ⟨w.heap.size + 1, 1, none⟩ = false := by rw [hb1.frozen (p := ⟨w.heap.size + 1, 1, none⟩) (by simp)]; simp [go_sem]
  have q2 : w1.cell? ⟨w.heap.size + 1 + 1, 2, none⟩ = some (.int .i64 x.f2) := by rw [hb1.cell (p := ⟨w.heap.size + 1 + 1, 2, none⟩) (by simp)]; simp [go_sem]
  have r2 : w1.cell? ⟨w.heap.size + 1, 2, none⟩ = some (.int .i64 0) := by rw [hb1.cell (p := ⟨w.heap.size + 1, 2, none⟩) (by simp)]; simp [go_sem]
  have y2 : w1.frozen? ⟨w.heap.size + 1, 2, none⟩ = false := by rw [hb1.frozen (p := ⟨w.heap.size + 1, 2, none⟩) (by simp)]; simp [go_sem]
  have q3 : w1.cell? ⟨w.heap.size + 1 + 1, 3, none⟩ = some (.int .i64 x.f3) := by rw [hb1.cell (p := ⟨w.heap.size + 1 + 1, 3, none⟩) (by simp)]; simp [go_sem]
  have r3 : w1.cell? ⟨w.heap.size + 1, 3, none⟩ = some (.int .i64 0) := by rw [hb1.cell (p := ⟨w.heap.size + 1, 3, none⟩) (by simp)]; simp [go_sem]
  have y3 : w1.frozen? ⟨w.heap.size + 1, 3, none⟩ = false := by rw [hb1.frozen (p := ⟨w.heap.size + 1, 3, none⟩) (by simp)]; simp [go_sem]
  have q4 : w1.cell? ⟨w.heap.size + 1 + 1, 4, none⟩ = some (.string x.f4) := by rw [hb1.cell (p := ⟨w.heap.size + 1 + 1, 4, none⟩) (by simp)]; simp [go_sem]
  have r4 : w1.cell? ⟨w.heap.size + 1, 4, none⟩ = some (.string ⟨#[]⟩) := by rw [hb1.cell (p := ⟨w.heap.size + 1, 4, none⟩) (by simp)]; simp [go_sem]
  have y4 : w1.frozen? ⟨w.heap.size + 1, 4, none⟩ = false := by rw [hb1.frozen (p := ⟨w.heap.size + 1, 4, none⟩) (by simp)]; simp [go_sem]
  have q5 : w1.cell? ⟨w.heap.size + 1 + 1, 5, none⟩ = some (.int .i64 x.f5) := by rw [hb1.cell (p := ⟨w.heap.size + 1 + 1, 5, none⟩) (by simp)]; simp [go_sem]
  have r5 : w1.cell? ⟨w.heap.size + 1, 5, none⟩ = some (.int .i64 0) := by rw [hb1.cell (p := ⟨w.heap.size + 1, 5, none⟩) (by simp)]; simp [go_sem]
  have y5 : w1.frozen? ⟨w.heap.size + 1, 5, none⟩ = false := by rw [hb1.frozen (p := ⟨w.heap.size + 1, 5, none⟩) (by simp)]; simp [go_sem]
  have q6 : w1.cell? ⟨w.heap.size + 1 + 1, 6, none⟩ = some (.bool x.f6) := by rw [hb1.cell (p := ⟨w.heap.size + 1 + 1, 6, none⟩) (by simp)]; simp [go_sem]
  have r6 : w1.cell? ⟨w.heap.size + 1, 6, none⟩ = some (.bool false) := by rw [hb1.cell (p := ⟨w.heap.size + 1, 6, none⟩) (by simp)]; simp [go_sem]
  have y6 : w1.frozen? ⟨w.heap.size + 1, 6, none⟩ = false := by rw [hb1.frozen (p := ⟨w.heap.size + 1, 6, none⟩) (by simp)]; simp [go_sem]
  have q7 : w1.cell? ⟨w.heap.size + 1 + 1, 7, none⟩ = some (.slice none 0 0) := by rw [hb1.cell (p := ⟨w.heap.size + 1 + 1, 7, none⟩) (by simp)]; simp [go_sem]
  have r7 : w1.cell? ⟨w.heap.size + 1, 7, none⟩ = some (.slice none 0 0) := by rw [hb1.cell (p := ⟨w.heap.size + 1, 7, none⟩) (by simp)]; simp [go_sem]
  have y7 : w1.frozen? ⟨w.heap.size + 1, 7, none⟩ = false := by rw [hb1.frozen (p := ⟨w.heap.size + 1, 7, none⟩) (by simp)]; simp [go_sem]
  have z7 : w1.frozen? ⟨w.heap.size + 1 + 1, 7, none⟩ = false := by rw [hb1.frozen (p := ⟨w.heap.size + 1 + 1, 7, none⟩) (by simp)]; simp [go_sem]
  have q8 : w1.cell? ⟨w.heap.size + 1 + 1, 8, none⟩ = some (.int .i64 0) := by rw [hb1.cell (p := ⟨w.heap.size + 1 + 1, 8, none⟩) (by simp)]; simp [go_sem]
  have r8 : w1.cell? ⟨w.heap.size + 1, 8, none⟩ = some (.int .i64 0) := by rw [hb1.cell (p := ⟨w.heap.size + 1, 8, none⟩) (by simp)]; simp [go_sem]
  have y8 : w1.frozen? ⟨w.heap.size + 1, 8, none⟩ = false := by rw [hb1.frozen (p := ⟨w.heap.size + 1, 8, none⟩) (by simp)]; simp [go_sem]
  have z8 : w1.frozen? ⟨w.heap.size + 1 + 1, 8, none⟩ = false := by rw [hb1.frozen (p := ⟨w.heap.size + 1 + 1, 8, none⟩) (by simp)]; simp [go_sem]
  have b8 : w1.cell? ⟨w.heap.size, 8, none⟩ = some (.int .i64 x.f8) := by rw [hb1.cell (p := ⟨w.heap.size, 8, none⟩) (by simp; omega)]; simp [go_sem]
  have FB := Lib.hid (show Below w.heap.size w w1 from Below.trans (by go_grown) (hb1.mono (by simp; omega)))
  have hg2 : w.heap.size + 2 < g := by have := hg; simp at this; omega
  have HR := Lib.hid hrow
  clear hb1 hrow hg
  go_wp2
  refine bodyPost_ret (v := .agg #[.int .i64 x.f0, .int .i64 x.f1, .int .i64 x.f2, .int .i64 x.f3, .string x.f4, .int .i64 x.f5, .bool x.f6, .slice (some ⟨g, 0, none⟩) x.f7.length x.f7.length, .int .i64 x.f8]) (by simp [results, Tryd.results6, go_sem, r0, y0, r1, y1, r2, y2, r3, y3, r4, y4, r5, y5, r6, y6, r7, y7, r8, y8]) rfl ⟨g, rfl, ?_, by omega, ?_⟩
  · have := HR.out
    unfold RowAt at this ⊢
    rw [← this]
    refine Eq.symm ?_
    simp only [World.setCell, Array.getElem?_modify]
    rw [if_neg (by omega), if_neg (by omega), if_neg (by omega), if_neg (by omega), if_neg (by omega), if_neg (by omega), if_neg (by omega), if_neg (by omega), if_neg (by omega), if_neg (by omega), if_neg (by omega)]
  · exact (((((((((((FB.out).setCell (by simp <;> omega) _).setCell (by simp <;> omega) _).setCell (by simp <;> omega) _).setCell (by simp <;> omega) _).setCell (by simp <;> omega) _).setCell (by simp <;> omega) _).setCell (by simp <;> omega) _).setCell (by simp <;> omega) _).setCell (by simp <;> omega) _).setCell (by simp <;> omega) _).setCell (by simp <;> omega) _
theorem VotedV.ext' {x y : VotedV} (h : x.f0 = y.f0 ∧ x.f1 = y.f1 ∧ x.f2 = y.f2 ∧ x.f3 = y.f3 ∧ x.f4 = y.f4 ∧ x.f5 = y.f5 ∧ x.f6 = y.f6 ∧ x.f7 = y.f7 ∧ x.f8 = y.f8) : x = y := by
  obtain ⟨x0, x1, x2, x3, x4, x5, x6, x7, x8⟩ := x; obtain ⟨y0, y1, y2, y3, y4, y5, y6, y7, y8⟩ := y
  simpa using h
set_option maxHeartbeats 4000000 in
theorem eqVoted_any (r : Bool) (x : VotedV) (a : Option Addr) (c : Nat) (y : VotedV) (b : Option Addr) (d : Nat) (w : World) (hr : r = true ↔ x = y) (hx : x.f7.length ≤ 4194304) (hy : y.f7.length ≤ 4194304) (h1 : SlA w a x.f7) (h2 : SlA w b y.f7) :
    Calls Tryd.prog 8 #[.agg #[.int .i64 x.f0, .int .i64 x.f1, .int .i64 x.f2, .int .i64 x.f3, .string x.f4, .int .i64 x.f5, .bool x.f6, .slice a x.f7.length c, .int .i64 x.f8], .agg #[.int .i64 y.f0, .int .i64 y.f1, .int .i64 y.f2, .int .i64 y.f3, .string y.f4, .int .i64 y.f5, .bool y.f6, .slice b y.f7.length d, .int .i64 y.f8]] w fun e w' => e = .returned (.bool r) ∧ Below w.heap.size w w' := by
  have hq : ∃ q : Bool, q = true ↔ x.f7 = y.f7 := ⟨@decide (x.f7 = y.f7) (Classical.propDecidable _), by simp⟩
  obtain ⟨q, hq⟩ := hq
  have hc := fun w' (hb : Below w.heap.size w w') => eqInt64S_q q a b x.f7 y.f7 c d w' hq hx hy (h1.below hb (Nat.le_refl _)) (h2.below hb (Nat.le_refl _))
  have HC := Lib.hid hc; clear hc h1 h2
  have HQ := Lib.hid hq; have HR := Lib.hid hr; clear hq hr
  by_cases h0 : x.f0 = y.f0
  case neg =>
    have HE := Lib.hid (show r = false by
      cases r with
      | false => rfl
      | true => exact absurd (by rw [HR.out.1 rfl]) h0)
    have hb0 : (x.f0 != y.f0) = true := by simp [h0]
    clear h0
    go_enter Tryd.func8, Tryd.ntmps8
    go_wp2
    go_ret
    exact ⟨ret_bool HE.out.symm, by go_grown⟩
  have hb0 : (x.f0 != y.f0) = false := by simp [h0]
  have H0 := Lib.hid h0; clear h0
  by_cases h1 : x.f1 = y.f1
  case neg =>
    have HE := Lib.hid (show r = false by
      cases r with
      | false => rfl
      | true => exact absurd (by rw [HR.out.1 rfl]) h1)
    have hb1 : (x.f1 != y.f1) = true := by simp [h1]
    clear h1
    go_enter Tryd.func8, Tryd.ntmps8
    go_wp2
    go_ret
    exact ⟨ret_bool HE.out.symm, by go_grown⟩
  have hb1 : (x.f1 != y.f1) = false := by simp [h1]
  have H1 := Lib.hid h1; clear h1
  by_cases h2 : x.f2 = y.f2
  case neg =>
    have HE := Lib.hid (show r = false by
      cases r with
      | false => rfl
      | true => exact absurd (by rw [HR.out.1 rfl]) h2)
    have hb2 : (x.f2 != y.f2) = true := by simp [h2]
    clear h2
    go_enter Tryd.func8, Tryd.ntmps8
    go_wp2
    go_ret
    exact ⟨ret_bool HE.out.symm, by go_grown⟩
  have hb2 : (x.f2 != y.f2) = false := by simp [h2]
  have H2 := Lib.hid h2; clear h2
  by_cases h3 : x.f3 = y.f3
  case neg =>
    have HE := Lib.hid (show r = false by
      cases r with
      | false => rfl
      | true => exact absurd (by rw [HR.out.1 rfl]) h3)
    have hb3 : (x.f3 != y.f3) = true := by simp [h3]
    clear h3
    go_enter Tryd.func8, Tryd.ntmps8
    go_wp2
    go_ret
    exact ⟨ret_bool HE.out.symm, by go_grown⟩
  have hb3 : (x.f3 != y.f3) = false := by simp [h3]
  have H3 := Lib.hid h3; clear h3
  by_cases h4 : x.f4 = y.f4
  case neg =>
    have HE := Lib.hid (show r = false by
      cases r with
      | false => rfl
      | true => exact absurd (by rw [HR.out.1 rfl]) h4)
    have hb4 := toList_ne2 h4
    clear h4
    go_enter Tryd.func8, Tryd.ntmps8
    go_wp2
    go_ret
    exact ⟨ret_bool HE.out.symm, by go_grown⟩
  have hb4 : (x.f4.toList == y.f4.toList) = true := by simp [h4]
  have H4 := Lib.hid h4; clear h4
  by_cases h5 : x.f5 = y.f5
  case neg =>
    have HE := Lib.hid (show r = false by
      cases r with
      | false => rfl
      | true => exact absurd (by rw [HR.out.1 rfl]) h5)
    have hb5 : (x.f5 != y.f5) = true := by simp [h5]
    clear h5
    go_enter Tryd.func8, Tryd.ntmps8
    go_wp2
    go_ret
    exact ⟨ret_bool HE.out.symm, by go_grown⟩
  have hb5 : (x.f5 != y.f5) = false := by simp [h5]
  have H5 := Lib.hid h5; clear h5
  by_cases h6 : x.f6 = y.f6
  case neg =>
    have HE := Lib.hid (show r = false by
      cases r with
      | false => rfl
      | true => exact absurd (by rw [HR.out.1 rfl]) h6)
    have hb6 : (!(x.f6 == y.f6)) = true := by simp [h6]
    clear h6
    go_enter Tryd.func8, Tryd.ntmps8
    go_wp2
    go_ret
    exact ⟨ret_bool HE.out.symm, by go_grown⟩
  have hb6 : (!(x.f6 == y.f6)) = false := by simp [h6]
  have H6 := Lib.hid h6; clear h6
  cases q with
  | false =>
    have HE := Lib.hid (show r = false by
      cases r with
      | false => rfl
      | true => exact absurd (HQ.out.2 (by rw [HR.out.1 rfl])) (by simp))
    go_enter Tryd.func8, Tryd.ntmps8
    go_wp2_with fail
    refine (HC.out _ (by go_grown)).mono ?_
    rintro e w1 ⟨rfl, hb1⟩
    go_wp2
    go_ret
    exact ⟨ret_bool HE.out.symm, Below.trans (by go_grown) (hb1.mono (by simp; omega))⟩
  | true =>
    by_cases h8 : x.f8 = y.f8
    case neg =>
      have HE := Lib.hid (show r = false by
        cases r with
        | false => rfl
        | true => exact absurd (by rw [HR.out.1 rfl]) h8)
      have hb8 : (x.f8 != y.f8) = true := by simp [h8]
      clear h8
      go_enter Tryd.func8, Tryd.ntmps8
      go_wp2_with fail
      refine (HC.out _ (by go_grown)).mono ?_
      rintro e w1 ⟨rfl, hb1⟩
      have k8x : w1.cell? ⟨w.heap.size, 8, none⟩ = some (.int .i64 x.f8) := by rw [hb1.cell (p := ⟨w.heap.size, 8, none⟩) (by simp; omega)]; simp [go_sem]
      have k8y : w1.cell? ⟨w.heap.size + 1, 8, none⟩ = some (.int .i64 y.f8) := by rw [hb1.cell (p := ⟨w.heap.size + 1, 8, none⟩) (by simp)]; simp [go_sem]
      go_wp2
      go_ret
      exact ⟨ret_bool HE.out.symm, Below.trans (by go_grown) (hb1.mono (by simp; omega))⟩
    have hb8 : (x.f8 != y.f8) = false := by simp [h8]
    have H8 := Lib.hid h8; clear h8
    have HE := Lib.hid (show r = true from HR.out.2 (VotedV.ext' ⟨H0.out, H1.out, H2.out, H3.out, H4.out, H5.out, H6.out, HQ.out.1 rfl, H8.out⟩))
    go_enter Tryd.func8, Tryd.ntmps8
    go_wp2_with fail
    refine (HC.out _ (by go_grown)).mono ?_
    rintro e w1 ⟨rfl, hb1⟩
    have k8x : w1.cell? ⟨w.heap.size, 8, none⟩ = some (.int .i64 x.f8) := by rw [hb1.cell (p := ⟨w.heap.size, 8, none⟩) (by simp; omega)]; simp [go_sem]
    have k8y : w1.cell? ⟨w.heap.size + 1, 8, none⟩ = some (.int .i64 y.f8) := by rw [hb1.cell (p := ⟨w.heap.size + 1, 8, none⟩) (by simp)]; simp [go_sem]
    go_wp2
    go_ret
    exact ⟨ret_bool HE.out.symm, Below.trans (by go_grown) (hb1.mono (by simp; omega))⟩
end Go.Proofs.YtnlbhdlfpnepfaaDoor
