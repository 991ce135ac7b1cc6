/- (impl.geometry).tracks, (impl.shapedDisc).trackCode, addresses, impl.entered, impl.isBetter -/
import Derived.Test.YtnfcalegnijobaaFoundOk
import Derived.Test.YtnfcalegnijobaaPutSector
namespace Go.Proofs.Ytnfcalegnijobaa
open Go.RowKit
set_option linter.unusedVariables false
set_option linter.unusedSimpArgs false
set_option maxRecDepth 20000
set_option maxHeartbeats 1000000 in
theorem foundAddr_any (e : FoundV) (w : World) :
    Calls Try.prog 99 #[.agg #[.int .i64 e.f0, .int .i64 e.f1, .int .i64 e.f2, .int .i64 e.f3, .string e.f4, .int .i64 e.f5, .bool e.f6, .int .i64 e.f7]] w fun r w' => r = .returned (.agg #[.int .i64 e.f0, .int .i64 e.f1, .int .i64 e.f2, .int .i64 e.f3]) ∧ Below w.heap.size w w' := by
  go_enter Try.func99, Try.ntmps99
  go_wp2
  refine bodyPost_ret (v := .agg #[.int .i64 e.f0, .int .i64 e.f1, .int .i64 e.f2, .int .i64 e.f3]) (by simp [results, Try.results99, go_sem]) rfl ⟨rfl, ?_⟩
  go_grown
def quoI (t b : Int) : Int := t / b
def remI (t b : Int) : Int := t % b
set_option maxHeartbeats 2000000 in
theorem geoAddr_any (a b c d t nu : Int) (w : World) (hb : 1 ≤ b ∧ b ≤ 2) (ht : 0 ≤ t ∧ t ≤ 15) (hn : 0 ≤ nu ∧ nu ≤ 300) :
    Calls Try.prog 100 #[.agg #[.int .i64 a, .int .i64 b, .int .i64 c, .int .i64 d], .int .i64 t, .int .i64 nu] w fun e w' => e = .returned (.agg #[.int .i64 (quoI t b), .int .i64 (remI t b), .int .i64 (nu + 1), .int .i64 d]) ∧ Below w.heap.size w w' := by
  have b0 : ¬ b = 0 := by omega
  have b1 : (b == 0) = false := by simpa using b0
  go_enter Try.func100, Try.ntmps100
  go_wp2
  go_region
  go_wp2
  refine bodyPost_ret (v := .agg #[.int .i64 (quoI t b), .int .i64 (remI t b), .int .i64 (nu + 1), .int .i64 d]) (by simp [results, Try.results100, go_sem, quoI, remI]) rfl ⟨rfl, ?_⟩
  go_grown
/-- Is a found sector one to be entered, and as what? -/
def entV (e : FoundV) : SectorV := if e.f5 = 1 then ⟨e.f4, 1⟩ else if e.f5 = 3 then ⟨e.f4, 2⟩ else ⟨⟨#[]⟩, 0⟩
def entK (e : FoundV) : Bool := if e.f5 = 1 then true else if e.f5 = 3 then true else false
set_option maxHeartbeats 2000000 in
theorem entered_any (e : FoundV) (w : World) :
    Calls Try.prog 97 #[.agg #[.int .i64 e.f0, .int .i64 e.f1, .int .i64 e.f2, .int .i64 e.f3, .string e.f4, .int .i64 e.f5, .bool e.f6, .int .i64 e.f7]] w fun r w' => r = .returned (.tuple #[.agg #[.string (entV e).f0, .int .i64 (entV e).f1], .bool (entK e)]) ∧ Below w.heap.size w w' := by
  unfold entV entK
  obtain ⟨f0, f1, f2, f3, f4, f5, f6, f7⟩ := e
  dsimp only
  by_cases h1 : f5 = 1
  · subst h1
    rw [if_pos rfl, if_pos rfl]
    go_enter Try.func97, Try.ntmps97
    go_wp2
    refine bodyPost_ret (v := .tuple #[.agg #[.string f4, .int .i64 1], .bool true]) (by simp [results, Try.results97, go_sem]) rfl ⟨rfl, ?_⟩
    go_grown
  by_cases h3 : f5 = 3
  · subst h3
    rw [if_neg (by decide), if_pos rfl, if_neg (by decide), if_pos rfl]
    go_enter Try.func97, Try.ntmps97
    go_wp2
    refine bodyPost_ret (v := .tuple #[.agg #[.string f4, .int .i64 2], .bool true]) (by simp [results, Try.results97, go_sem]) rfl ⟨rfl, ?_⟩
    go_grown
  rw [if_neg h1, if_neg h3, if_neg h1, if_neg h3]
  have b1 : (f5 == 1) = false := by simpa using h1
  have b3 : (f5 == 3) = false := by simpa using h3
  clear h1 h3
  go_enter Try.func97, Try.ntmps97
  go_wp2
  refine bodyPost_ret (v := .tuple #[.agg #[.string ⟨#[]⟩, .int .i64 0], .bool false]) (by simp [results, Try.results97, go_sem]) rfl ⟨rfl, ?_⟩
  go_grown
def betB (s o : SectorV) : Bool := decide (o.f1 = 3) || (decide (o.f1 = 2) && decide (s.f1 = 1))
set_option maxHeartbeats 2000000 in
theorem isBetter_any (s o : SectorV) (w : World) :
    Calls Try.prog 102 #[.agg #[.string s.f0, .int .i64 s.f1], .agg #[.string o.f0, .int .i64 o.f1]] w fun r w' => r = .returned (.bool (betB s o)) ∧ Below w.heap.size w w' := by
  unfold betB
  obtain ⟨s0, s1⟩ := s
  obtain ⟨o0, o1⟩ := o
  dsimp only
  by_cases h3 : o1 = 3
  · subst h3
    go_enter Try.func102, Try.ntmps102
    go_wp2
    go_ret
    exact ⟨ret_bool (by simp), by go_grown⟩
  have b3 : (o1 == 3) = false := by simpa using h3
  have d3 : decide (o1 = 3) = false := by simpa using h3
  rw [d3]
  by_cases h2 : o1 = 2
  · subst h2
    clear h3 b3 d3
    by_cases h1 : s1 = 1
    · subst h1
      go_enter Try.func102, Try.ntmps102
      go_wp2
      go_ret
      exact ⟨ret_bool (by simp), by go_grown⟩
    have b1 : (s1 == 1) = false := by simpa using h1
    have HD := Lib.hid (show decide (s1 = 1) = false by simpa using h1)
    clear h1
    go_enter Try.func102, Try.ntmps102
    go_wp2
    go_ret
    exact ⟨ret_bool (by rw [HD.out]; simp), by go_grown⟩
  have b2 : (o1 == 2) = false := by simpa using h2
  have HD := Lib.hid (show decide (o1 = 2) = false by simpa using h2)
  clear h2 h3 d3
  go_enter Try.func102, Try.ntmps102
  go_wp2
  go_ret
  exact ⟨ret_bool (by rw [HD.out]; simp), by go_grown⟩
/-- The code of a track of a disc. -/
def trkC (x : DiscV) (t : Int) : Int := if discB x = true then (if inB 0 (x.f0 * x.f1 - 1) t = true then 0 else 2) else 1
set_option maxHeartbeats 4000000 in
theorem trackCode_any (x : DiscV) (a : Option Addr) (c : Nat) (t : Int) (w : World) (hm : x.f4.length ≤ 1048576) (hs : ∀ e ∈ x.f4, e.f0.size ≤ maxLen) (h : SlS rowSector w a x.f4) :
    Calls Try.prog 95 #[.agg #[.int .i64 x.f0, .int .i64 x.f1, .int .i64 x.f2, .int .i64 x.f3, .slice a x.f4.length c], .int .i64 t] w fun r w' => r = .returned (.int .i64 (trkC x t)) ∧ Below w.heap.size w w' := by
  have VA := Lib.hid (fun w' (hb : Below w.heap.size w w') => shValid_any x a c w' hm hs (h.below hb (Nat.le_refl _)))
  unfold trkC
  by_cases hd : discB x = true
  case neg =>
    rw [if_neg hd]
    have hd0 : discB x = false := by simpa using hd
    rw [hd0] at VA
    clear hd hd0 h hs hm
    go_enter Try.func95, Try.ntmps95
    go_wp2_with fail
    refine (VA.out _ (by go_grown)).mono ?_
    rintro e w1 ⟨rfl, hb1⟩
    have FB := Lib.hid (show Below w.heap.size w w1 from Below.trans (by go_grown) (hb1.mono (by simp <;> omega)))
    clear hb1
    go_wp2
    go_ret
    exact ⟨rfl, FB.out⟩
  rw [if_pos hd]
  rw [hd] at VA
  have hg := hd
  unfold discB at hg
  simp only [Bool.and_eq_true, decide_eq_true_eq] at hg
  obtain ⟨hg, hln, _⟩ := hg
  obtain ⟨g0, g1, g2, g3⟩ := geoB_iff.1 hg
  obtain ⟨m0, m1, m2, m3⟩ := mul_bound g0 g1 g2
  have TR := Lib.hid (fun w => tracks_any x.f0 x.f1 x.f2 x.f3 w g0 g1)
  have PL := Lib.hid (fun w => isPlace_any t (x.f0 * x.f1) w (by omega) (by omega))
  have HA0 := Lib.hid (BoxF.new w #[.int .i64 x.f0, .int .i64 x.f1, .int .i64 x.f2, .int .i64 x.f3, .slice a x.f4.length c] 143 _ rfl)
  obtain ⟨q, hq⟩ : ∃ q, inB 0 (x.f0 * x.f1 - 1) t = q := ⟨_, rfl⟩
  rw [hq] at PL ⊢
  have HQ := Lib.hid hq
  clear hq hd hg hln g0 g1 g2 g3 m0 m1 m2 m3 h hs hm
  go_enter Try.func95, Try.ntmps95
  go_wp2_with fail
  refine (VA.out _ (by go_grown)).mono ?_
  rintro e w1 ⟨rfl, hb1⟩
  have A := Lib.hid (HA0.out.below hb1 (by simp))
  have FB := Lib.hid (show Below w.heap.size w w1 from Below.trans (by go_grown) (hb1.mono (by simp <;> omega)))
  clear hb1 HA0
  obtain ⟨a0, z0⟩ := A.out 0 _ rfl; obtain ⟨a1, z1⟩ := A.out 1 _ rfl; obtain ⟨a2, z2⟩ := A.out 2 _ rfl; obtain ⟨a3, z3⟩ := A.out 3 _ rfl; obtain ⟨a4, z4⟩ := A.out 4 _ rfl
  go_wp2_with fail
  refine (TR.out _).mono ?_
  rintro e w2 ⟨rfl, hb2⟩
  replace FB := Lib.hid (FB.out.trans (hb2.mono FB.out.size))
  clear hb2 a0 z0 a1 z1 a2 z2 a3 z3 a4 z4
  go_wp2_with fail
  refine (PL.out _).mono ?_
  rintro e w3 ⟨rfl, hb3⟩
  replace FB := Lib.hid (FB.out.trans (hb3.mono FB.out.size))
  clear hb3
  cases q
  · go_wp2
    go_ret
    exact ⟨rfl, FB.out⟩
  · go_wp2
    go_ret
    exact ⟨rfl, FB.out⟩
theorem heldAddr : Try.prog.stoodInHeld 153 = false := by kernel_rfl
theorem neqAddr (a b c d a' b' c' d' : Int) (w : World) : (binOp .neq 153 (.agg #[.int .i64 a, .int .i64 b, .int .i64 c, .int .i64 d]) (.agg #[.int .i64 a', .int .i64 b', .int .i64 c', .int .i64 d'])).run Try.prog w = .ok (.bool (!(decide (a = a') && (decide (b = b') && (decide (c = c') && decide (d = d')))))) w := by
  rw [run_neq_struct]
  have e := run_equalIn_struct (P := Try.prog) w 9999 153 #[.int .i64 a, .int .i64 b, .int .i64 c, .int .i64 d] #[.int .i64 a', .int .i64 b', .int .i64 c', .int .i64 d'] (by kernel_rfl) heldAddr
  rw [e]
  simp only [Program.fieldsOf, Try.underlying153]
  simp [Op.eqFields, go_sem, Try.underlying2]
  by_cases h0 : a = a'
  case neg => simp [h0]
  by_cases h1 : b = b'
  case neg => simp [h0, h1]
  by_cases h2 : c = c'
  case neg => simp [h0, h1, h2]
  by_cases h3 : d = d'
  case neg => simp [h0, h1, h2, h3]
  simp [h0, h1, h2, h3]
end Go.Proofs.Ytnfcalegnijobaa
