/- The struct TrackSpec, which has one slice: opened among the arguments; laws.szTrackSpec, laws.toTrackSpec, laws.eqTrackSpec -/
import Derived.Test.YtdpnpmfhnfecaaaRecSectorSpec
import Derived.Test.YtdpnpmfhnfecaaaRecKit
import Derived.Test.YtdpnpmfhnfecaaaBoxes
import Derived.Test.YtdpnpmfhnfecaaaRecSm
namespace Go.Proofs.Ytdpnpmfhnfecaaa
open Go.RowKit Go.ChangeShapes Go.WideShapes Go.ChangeAt Go.Joins Go.Deep
set_option linter.unusedVariables false
set_option linter.unusedSimpArgs false
set_option maxRecDepth 20000
structure TrackSpecV where
  f0 : Int
  f1 : Int
  f2 : List SectorSpecV
theorem cellsTrackSpecL : Try.prog.cellsOf 24 = 3 := by kernel_rfl
def wtTrackSpec (x : TrackSpecV) : Nat := wtSectorSpec x.f2
theorem wtTrackSpec_len (x : TrackSpecV) : x.f2.length ≤ wtTrackSpec x := wtSectorSpec_len _
/-- What the walk is told of a TrackSpec that came in. -/
def ArgTrackSpec (W : World) (a : Option Addr) (x : TrackSpecV) : Prop := x.f2.length ≤ maxLen ∧ SlS rowSectorSpec W a x.f2 ∧ ∀ e ∈ x.f2, e.f4.size ≤ maxLen
set_option maxRecDepth 100000 in
theorem open_TrackSpec {H : Type} {enc : TypeId × Value → H} {W : World} {base : Nat} {v : Value} {d : DataW H} {p : List MemPlace}
    (hv : Value.okWide Try.prog W .any base 24 v) (h : DataW.Trod enc Try.prog W 0 (fun _ => true) true 24 v d p) :
    ∃ (x : TrackSpecV) (a : Option Addr) (cap : Nat), v = .agg #[.int .i64 x.f0, .int .i64 x.f1, .slice a x.f2.length cap] ∧ ArgTrackSpec W a x := by
  obtain ⟨cs, rfl, hsz, hf⟩ := open_fields Try.underlying24 (by kernel_rfl) cellsTrackSpecL (by rfl) hv h
  obtain ⟨l⟩ := cs
  match l, hsz, hf with
  | [c0, c1, c2], _, hf =>
    obtain ⟨c0', n0, y0, e0, t0⟩ := hf 0 _ rfl
    obtain ⟨c1', n1, y1, e1, t1⟩ := hf 1 _ rfl
    obtain ⟨c2', n2, y2, e2, t2⟩ := hf 2 _ rfl
    cases e0; cases e1; cases e2
    obtain ⟨x0, rfl⟩ := int_cell Try.underlying2 t0
    obtain ⟨x1, rfl⟩ := int_cell Try.underlying2 t1
    obtain ⟨a0, len0, cap0, rfl⟩ : ∃ a0 len0 cap0, c2 = .slice a0 len0 cap0 := by
      rcases open_slice Try.underlying22 t2 with ⟨hcs, _⟩ | ⟨a', len', cap', m, k, D, Pl, hcs, _⟩
      · simp at hcs; exact ⟨_, _, _, hcs⟩
      · simp at hcs; exact ⟨_, _, _, hcs⟩
    obtain ⟨es, rfl, hm, hs, hx⟩ := readSectorSpecS t2
    exact ⟨⟨x0, x1, es⟩, a0, cap0, rfl, ⟨hm, hs, hx⟩⟩
set_option maxHeartbeats 1000000 in
theorem szTrackSpec_any (x : TrackSpecV) (a : Option Addr) (c left : Nat) (w : World) (hl : left ≤ 1048576) (hm : x.f2.length ≤ maxLen) (hs : ∀ e ∈ x.f2, e.f4.size ≤ maxLen) (h : SlS rowSectorSpec w a x.f2) :
    Calls Try.prog 10 #[.agg #[.int .i64 x.f0, .int .i64 x.f1, .slice a x.f2.length c], .int .i64 (left : Nat)] w fun y w' => y = .returned (.int .i64 (szV left (wtTrackSpec x))) ∧ Below w.heap.size w w' := by
  have hc := fun w' (hb : Below w.heap.size w w') => szSectorSpecS_any a x.f2 c left w' hl hm hs (h.below hb (Nat.le_refl _))
  unfold wtTrackSpec
  clear h hs
  by_cases hk : wtSectorSpec x.f2 ≤ left
  · have he : szV left (wtSectorSpec x.f2) = ((left - wtSectorSpec x.f2 : Nat) : Int) := by unfold szV; rw [if_pos hk]
    rw [he] at hc ⊢
    obtain ⟨r, hr⟩ : ∃ r, left - wtSectorSpec x.f2 = r := ⟨_, rfl⟩
    rw [hr] at hc ⊢
    have h0 : ¬ ((r : Int) < 0) := by omega
    have h1 : r ≤ 1048576 := by omega
    have HC := Lib.hid hc; clear hc hr he hk
    go_enter Try.func10, Try.ntmps10
    go_wp2_with fail
    refine (HC.out _ (by go_grown)).mono ?_
    rintro e w1 ⟨rfl, hb1⟩
    go_wp2
    go_ret
    exact ⟨rfl, Below.trans (by go_grown) (hb1.mono (by simp))⟩
  · have he : szV left (wtSectorSpec x.f2) = -1 := by unfold szV; rw [if_neg hk]
    rw [he] at hc ⊢
    have HC := Lib.hid hc; clear hc he hk
    go_enter Try.func10, Try.ntmps10
    go_wp2_with fail
    refine (HC.out _ (by go_grown)).mono ?_
    rintro e w1 ⟨rfl, hb1⟩
    go_wp2
    go_ret
    exact ⟨rfl, Below.trans (by go_grown) (hb1.mono (by simp))⟩
def ToTrackSpecPost (x : TrackSpecV) (w : World) (e : Ending) (w' : World) : Prop :=
  ∃ g, e = .returned (.agg #[.int .i64 x.f0, .int .i64 x.f1, .slice (some ⟨g, 0, none⟩) x.f2.length x.f2.length]) ∧ BlkS rowSectorSpec 84 w' g x.f2 ∧ w.heap.size ≤ g ∧ Below w.heap.size w w'
set_option maxHeartbeats 2000000 in
theorem toTrackSpec_any (x : TrackSpecV) (a : Option Addr) (c : Nat) (w : World) (hl : x.f2.length ≤ 1048576) (h : SlS rowSectorSpec w a x.f2) :
    Calls Try.prog 12 #[.agg #[.int .i64 x.f0, .int .i64 x.f1, .slice a x.f2.length c]] w (ToTrackSpecPost x w) := by
  have hc := fun w' (hb : Below w.heap.size w w') => toSectorSpecS_any a x.f2 c w' hl (h.below hb (Nat.le_refl _))
  have HC := Lib.hid hc; clear hc h
  go_enter Try.func12, Try.ntmps12
  go_wp2_with fail
  refine (HC.out _ (by go_grown)).mono ?_
  rintro e w1 ⟨g, rfl, hrow, hg, hb1⟩
  have q0 : w1.cell? ⟨w.heap.size + 1 + 1, 0, none⟩ = some (.int .i64 x.f0) := by rw [hb1.cell (p := ⟨w.heap.size + 1 + 1, 0, none⟩) (by simp)]; simp [go_sem]
  have r0 : w1.cell? ⟨w.heap.size + 1, 0, none⟩ = some (.int .i64 0) := by rw [hb1.cell (p := ⟨w.heap.size + 1, 0, none⟩) (by simp)]; simp [go_sem]
  have y0 : w1.frozen? ⟨w.heap.size + 1, 0, none⟩ = false := by rw [hb1.frozen (p := ⟨w.heap.size + 1, 0, none⟩) (by simp)]; simp [go_sem]
  have q1 : w1.cell? ⟨w.heap.size + 1 + 1, 1, none⟩ = some (.int .i64 x.f1) := by rw [hb1.cell (p := ⟨w.heap.size + 1 + 1, 1, none⟩) (by simp)]; simp [go_sem]
  have r1 : w1.cell? ⟨w.heap.size + 1, 1, none⟩ = some (.int .i64 0) := by rw [hb1.cell (p := ⟨w.heap.size + 1, 1, none⟩) (by simp)]; simp [go_sem]
  have y1 : w1.frozen? ⟨w.heap.size + 1, 1, none⟩ = false := by rw [hb1.frozen (p := ⟨w.heap.size + 1, 1, none⟩) (by simp)]; simp [go_sem]
  have q2 : w1.cell? ⟨w.heap.size + 1 + 1, 2, none⟩ = some (.slice none 0 0) := by rw [hb1.cell (p := ⟨w.heap.size + 1 + 1, 2, none⟩) (by simp)]; simp [go_sem]
  have r2 : w1.cell? ⟨w.heap.size + 1, 2, none⟩ = some (.slice none 0 0) := by rw [hb1.cell (p := ⟨w.heap.size + 1, 2, none⟩) (by simp)]; simp [go_sem]
  have y2 : w1.frozen? ⟨w.heap.size + 1, 2, none⟩ = false := by rw [hb1.frozen (p := ⟨w.heap.size + 1, 2, none⟩) (by simp)]; simp [go_sem]
  have z2 : w1.frozen? ⟨w.heap.size + 1 + 1, 2, none⟩ = false := by rw [hb1.frozen (p := ⟨w.heap.size + 1 + 1, 2, none⟩) (by simp)]; simp [go_sem]
  have FB := Lib.hid (show Below w.heap.size w w1 from Below.trans (by go_grown) (hb1.mono (by simp; omega)))
  have hg2 : w.heap.size + 2 < g := by have := hg; simp at this; omega
  have HR := Lib.hid hrow
  clear hb1 hrow hg
  go_wp2
  refine bodyPost_ret (v := .agg #[.int .i64 x.f0, .int .i64 x.f1, .slice (some ⟨g, 0, none⟩) x.f2.length x.f2.length]) (by simp [results, Try.results12, go_sem, r0, y0, r1, y1, r2, y2]) rfl ⟨g, rfl, ?_, by omega, ?_⟩
  · have := HR.out
    unfold BlkS at this ⊢
    rw [← this]
    refine Eq.symm ?_
    simp only [World.setCell, Array.getElem?_modify]
    rw [if_neg (by omega), if_neg (by omega), if_neg (by omega), if_neg (by omega)]
  · exact ((((FB.out).setCell (by simp <;> omega) _).setCell (by simp <;> omega) _).setCell (by simp <;> omega) _).setCell (by simp <;> omega) _
theorem TrackSpecV.ext' {x y : TrackSpecV} (h : x.f0 = y.f0 ∧ x.f1 = y.f1 ∧ x.f2 = y.f2) : x = y := by
  obtain ⟨x0, x1, x2⟩ := x; obtain ⟨y0, y1, y2⟩ := y
  simpa using h
set_option maxHeartbeats 4000000 in
theorem eqTrackSpec_any (r : Bool) (x : TrackSpecV) (a : Option Addr) (c : Nat) (y : TrackSpecV) (b : Option Addr) (d : Nat) (w : World) (hr : r = true ↔ x = y) (hx : x.f2.length ≤ 4194304) (hy : y.f2.length ≤ 4194304) (h1 : SlS rowSectorSpec w a x.f2) (h2 : SlS rowSectorSpec w b y.f2) :
    Calls Try.prog 14 #[.agg #[.int .i64 x.f0, .int .i64 x.f1, .slice a x.f2.length c], .agg #[.int .i64 y.f0, .int .i64 y.f1, .slice b y.f2.length d]] w fun e w' => e = .returned (.bool r) ∧ Below w.heap.size w w' := by
  have hq : ∃ q : Bool, q = true ↔ x.f2 = y.f2 := ⟨@decide (x.f2 = y.f2) (Classical.propDecidable _), by simp⟩
  obtain ⟨q, hq⟩ := hq
  have hc := fun w' (hb : Below w.heap.size w w') => eqSectorSpecS_any q a b x.f2 y.f2 c d w' hq hx hy (h1.below hb (Nat.le_refl _)) (h2.below hb (Nat.le_refl _))
  have HC := Lib.hid hc; clear hc h1 h2
  have HQ := Lib.hid hq; have HR := Lib.hid hr; clear hq hr
  by_cases h0 : x.f0 = y.f0
  case neg =>
    have HE := Lib.hid (show r = false by
      cases r with
      | false => rfl
      | true => exact absurd (by rw [HR.out.1 rfl]) h0)
    have hb0 : (x.f0 != y.f0) = true := by simp [h0]
    clear h0
    go_enter Try.func14, Try.ntmps14
    go_wp2
    go_ret
    exact ⟨ret_bool HE.out.symm, by go_grown⟩
  have hb0 : (x.f0 != y.f0) = false := by simp [h0]
  have H0 := Lib.hid h0; clear h0
  by_cases h1 : x.f1 = y.f1
  case neg =>
    have HE := Lib.hid (show r = false by
      cases r with
      | false => rfl
      | true => exact absurd (by rw [HR.out.1 rfl]) h1)
    have hb1 : (x.f1 != y.f1) = true := by simp [h1]
    clear h1
    go_enter Try.func14, Try.ntmps14
    go_wp2
    go_ret
    exact ⟨ret_bool HE.out.symm, by go_grown⟩
  have hb1 : (x.f1 != y.f1) = false := by simp [h1]
  have H1 := Lib.hid h1; clear h1
  cases q with
  | false =>
    have HE := Lib.hid (show r = false by
      cases r with
      | false => rfl
      | true => exact absurd (HQ.out.2 (by rw [HR.out.1 rfl])) (by simp))
    go_enter Try.func14, Try.ntmps14
    go_wp2_with fail
    refine (HC.out _ (by go_grown)).mono ?_
    rintro e w1 ⟨rfl, hb1⟩
    go_wp2
    go_ret
    exact ⟨ret_bool HE.out.symm, Below.trans (by go_grown) (hb1.mono (by simp; omega))⟩
  | true =>
    have HE := Lib.hid (show r = true from HR.out.2 (TrackSpecV.ext' ⟨H0.out, H1.out, HQ.out.1 rfl⟩))
    go_enter Try.func14, Try.ntmps14
    go_wp2_with fail
    refine (HC.out _ (by go_grown)).mono ?_
    rintro e w1 ⟨rfl, hb1⟩
    go_wp2
    go_ret
    exact ⟨ret_bool HE.out.symm, Below.trans (by go_grown) (hb1.mono (by simp; omega))⟩
end Go.Proofs.Ytdpnpmfhnfecaaa
