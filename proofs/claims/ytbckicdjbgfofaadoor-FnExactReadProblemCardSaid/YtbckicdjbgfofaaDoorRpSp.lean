/- spec.ReadProblem -/
import Derived.Test.YtbckicdjbgfofaaDoorSplit19
import Derived.Test.YtbckicdjbgfofaaDoorNum19
import Derived.Test.YtbckicdjbgfofaaDoorProbSp
import Derived.Test.YtbckicdjbgfofaaDoorRpIm
namespace Go.Proofs.YtbckicdjbgfofaaDoor
open Go.RowKit
set_option linter.unusedVariables false
set_option linter.unusedSimpArgs false
set_option maxRecDepth 20000
theorem l19WordsAll_any (w : World) :
    Calls Tryd.prog 9 #[] w fun e w' => ∃ g, e = .returned (.slice (some ⟨g, 0, none⟩) 11 11) ∧ w.heap.size ≤ g ∧ g < w'.heap.size ∧ (∀ k s, problemStrings[k]? = some s → w'.cell? ⟨g, k, none⟩ = some (.string s)) ∧ Below w.heap.size w w' := by
  have hc : ∀ k s, problemStrings[k]? = some s → (w.alloc (.cells (problemStrings.map Value.string).toArray 9)).cell? ⟨w.heap.size, k, none⟩ = some (.string s) := by
    intro k s hs
    simp only [World.cell?, heap_alloc_new]
    simp [hs]
  have HC := Lib.hid hc; clear hc
  go_enter Tryd.func9, Tryd.ntmps9
  go_wp2
  go_ret
  exact ⟨w.heap.size, rfl, Nat.le_refl _, by simp, HC.out, (Below.refl _ _).alloc (Nat.le_refl _) _⟩
/-- A problem in a block of its own. -/
def ProbAt (w : World) (p : Nat) (a b c : Int) : Prop := w.heap[p]? = some (.cells #[.int .i64 a, .int .i64 b, .int .i64 c] 23 (0, 0))
theorem ProbAt.facts {w : World} {p : Nat} {a b c : Int} (h : ProbAt w p a b c) : w.cell? ⟨p, 0, none⟩ = some (.int .i64 a) ∧ w.cell? ⟨p, 1, none⟩ = some (.int .i64 b) ∧ w.cell? ⟨p, 2, none⟩ = some (.int .i64 c) ∧ w.frozen? ⟨p, 0, none⟩ = false := by
  unfold ProbAt at h
  simp [World.cell?, World.frozen?, h]
theorem ProbAt.below {w w' : World} {B p : Nat} {a b c : Int} (h : ProbAt w p a b c) (hb : Below B w w') (hp : p < B) : ProbAt w' p a b c := by
  unfold ProbAt; rw [hb.block p hp]; exact h
theorem ProbAt.lt {w : World} {p : Nat} {a b c : Int} (h : ProbAt w p a b c) : p < w.heap.size := (Array.getElem?_eq_some_iff.1 h).1
theorem ProbAt.set0 {w : World} {p : Nat} {a b c : Int} (h : ProbAt w p a b c) (u : Int) : ProbAt (w.setCell ⟨p, 0, none⟩ (.int .i64 u)) p u b c := by
  unfold ProbAt at h ⊢
  rw [heap_set_row w p 0 _ _ _ h]
  rfl
theorem kindK_yes {s : ByteArray} {k : Nat} (h : problemStrings[k + 1]? = some s) : kindK s (k + 1) = ((k + 1 : Nat) : Int) := by rw [kindK, if_pos h]
theorem kindK_no {s : ByteArray} {k : Nat} (h : ¬ problemStrings[k + 1]? = some s) : kindK s (k + 1) = kindK s k := by rw [kindK, if_neg h]
theorem rp_nonempty {s : ByteArray} (h : ¬ s.size = 0) : s.toList.isEmpty = false ∧ ¬ s.toList = [] := by
  have hls : s.toList.length = s.size := by rw [ByteArray.toList_eq]; simp
  constructor
  · cases h : s.toList with
    | nil => rw [h] at hls; simp at hls; omega
    | cons => rfl
  · intro h; rw [h] at hls; simp at hls; omega
theorem spl19_word (s : ByteArray) (b k : Nat) : ∀ x ∈ (spl s b k).1, x.f0.size ≤ s.size := by
  induction k with
  | zero => rw [spl]; simp
  | succ k ih =>
    rw [spl]
    split
    · intro x hx
      rcases List.mem_append.1 hx with h | h
      · exact ih x h
      · rw [List.mem_singleton] at h
        subst h
        show (s.extract _ _).size ≤ _
        rw [ByteArray.size_extract]
        omega
    · exact ih
theorem splV19_word (s : ByteArray) (b : Nat) : ∀ x ∈ splV s b, x.f0.size ≤ s.size := by
  intro x hx
  rcases List.mem_append.1 hx with h | h
  · exact spl19_word s b _ x h
  · rw [List.mem_singleton] at h
    subst h
    show (s.extract _ _).size ≤ _
    rw [ByteArray.size_extract]
    omega
set_option maxHeartbeats 8000000 in
theorem specReadProblem_any (s : ByteArray) (hs : s.size ≤ 1048576) (w : World) :
    Calls Tryd.prog 4 #[.string s] w fun e w' => e = .returned (.tuple #[.agg #[.int .i64 (rpV s).f0, .int .i64 (rpV s).f1, .int .i64 (rpV s).f2], .bool (rpOk s)]) ∧ Below w.heap.size w w' := by
  have SP := Lib.hid (fun w' => split19_any s hs w')
  unfold SplRes at SP
  have HW := Lib.hid (splV19_word s 32)
  have HZR := Lib.hid (fun (h : rpOk s = false) => rpV_no h)
  have HZY := Lib.hid (fun (h : rpOk s = true) => rpV_yes h)
  have R0 := Lib.hid (BoxF.new w #[.int .i64 0, .int .i64 0, .int .i64 0] 23 _ rfl)
  have FA := Lib.hid (show Below w.heap.size w (w.alloc (.cells #[.int .i64 0, .int .i64 0, .int .i64 0] 23)) from (Below.refl _ _).alloc (Nat.le_refl _) _)
  have hz0 : w.heap.size < (w.alloc (.cells #[.int .i64 0, .int .i64 0, .int .i64 0] 23)).heap.size := by simp
  by_cases h3 : (splV s 32).length = 3
  case neg =>
    have HV := Lib.hid (show rpOk s = false by unfold rpOk; rw [decide_eq_false h3]; rfl)
    generalize splV s 32 = es at *
    have hne : ((es.length : Int) != 3) = true := by simp; omega
    clear h3
    go_enter Tryd.func4, Tryd.ntmps4
    go_upto_region 1 with (fail)
    generalize (w.alloc (.cells #[.int .i64 0, .int .i64 0, .int .i64 0] 23)) = W0 at *
    go_wp2_with fail
    refine (SP.out _).mono ?_
    rintro e w1 ⟨⟨v, rfl, hown⟩, hb1⟩
    obtain ⟨a, cp, rfl, hsi⟩ := hown.slSI
    replace R0 := Lib.hid (R0.out.below hb1 hz0)
    replace FA := Lib.hid (FA.out.trans (hb1.mono FA.out.size))
    clear hb1 hown hsi
    obtain ⟨a0, z0⟩ := R0.out 0 _ rfl
    obtain ⟨a1, z1⟩ := R0.out 1 _ rfl
    obtain ⟨a2, z2⟩ := R0.out 2 _ rfl
    go_wp2
    refine bodyPost_ret (v := .tuple #[.agg #[.int .i64 0, .int .i64 0, .int .i64 0], .bool false]) (by simp [results, Tryd.results4, go_sem, a0, a1, a2]) rfl ⟨by rw [HZR.out HV.out, HV.out], ?_⟩
    exact ((FA.out.setCell (by simp) _).setCell (by simp) _).setCell (by simp) _
  case pos =>
    have hnz := splV_empty h3
    have HNE := Lib.hid (rp_nonempty hnz)
    have HOK := Lib.hid (fun (h : probV (rpX s) = s) => (show rpOk s = true by unfold rpOk; rw [decide_eq_true h3, probV_ne hnz h, decide_eq_true h]; rfl))
    have HNO := Lib.hid (fun (h : ¬ probV (rpX s) = s) => (show rpOk s = false by unfold rpOk; rw [decide_eq_false h]; simp))
    obtain ⟨x0, x1, x2, hes⟩ : ∃ x0 x1 x2, splV s 32 = [x0, x1, x2] := by
      match splV s 32, h3 with
      | [a, b, c], _ => exact ⟨a, b, c, rfl⟩
    have HX := Lib.hid (show rpX s = ⟨kindK x0.f0 10, num19 x1.f0, num19 x2.f0⟩ by unfold rpX rpW; rw [hes]; rfl)
    rw [hes] at SP HW
    have N1 := Lib.hid (fun w' => l19Number_any x1.f0 (by have := HW.out x1 (by simp); omega) w')
    have N2 := Lib.hid (fun w' => l19Number_any x2.f0 (by have := HW.out x2 (by simp); omega) w')
    rw [HX.out] at HOK HNO HZY
    have PT := Lib.hid (fun x w' => specProblemText_any x w')
    clear h3 hes hnz
    generalize num19 x1.f0 = n1 at *
    generalize num19 x2.f0 = n2 at *
    go_enter Tryd.func4, Tryd.ntmps4
    go_upto_region 1 with (fail)
    generalize (w.alloc (.cells #[.int .i64 0, .int .i64 0, .int .i64 0] 23)) = W0 at *
    go_wp2_with fail
    refine (SP.out _).mono ?_
    rintro e w1 ⟨⟨v, rfl, hown⟩, hb1⟩
    obtain ⟨a, cp, rfl, hsi⟩ := hown.slSI
    have HS := Lib.hid hsi.sl
    replace R0 := Lib.hid (R0.out.below hb1 hz0)
    replace FA := Lib.hid (FA.out.trans (hb1.mono FA.out.size))
    replace hz0 := Nat.lt_of_lt_of_le hz0 hb1.size
    clear hb1 hown hsi SP HW
    obtain ⟨b, off, rfl, hbl, hc0⟩ := HS.out.at rowString_len (show [x0, x1, x2][0]? = some x0 from rfl)
    obtain ⟨b', off', hbo, _, hc1⟩ := HS.out.at rowString_len (show [x0, x1, x2][1]? = some x1 from rfl)
    simp only [Option.some.injEq, Addr.mk.injEq, and_true] at hbo
    obtain ⟨rfl, rfl⟩ := hbo
    obtain ⟨b', off', hbo, _, hc2⟩ := HS.out.at rowString_len (show [x0, x1, x2][2]? = some x2 from rfl)
    simp only [Option.some.injEq, Addr.mk.injEq, and_true] at hbo
    obtain ⟨rfl, rfl⟩ := hbo
    have c0 : w1.cell? ⟨b, off, none⟩ = some (.string x0.f0) := by simpa using hc0 0 _ rfl
    have c1 : w1.cell? ⟨b, off + 1, none⟩ = some (.string x1.f0) := by simpa using hc1 0 _ rfl
    have c2 : w1.cell? ⟨b, off + 2, none⟩ = some (.string x2.f0) := by simpa using hc2 0 _ rfl
    have hl3 : [x0, x1, x2].length = 3 := rfl
    rw [hl3]
    have hne3 : (((3 : Nat) : Int) != 3) = false := by simp
    clear hc0 hc1 hc2 HS
    have C0 := Lib.hid c0
    clear c0
    go_wp2
    go_region_held3 (fun w' => w'.cell? ⟨b, off + 1, none⟩ = some (.string x1.f0) ∧ w'.cell? ⟨b, off + 2, none⟩ = some (.string x2.f0)) (go_keep)
      (first | (go_at_call 8; (with_reducible refine (N1.out _).mono ?_); rintro e w2 ⟨rfl, rfl⟩) | (go_at_call 8; (with_reducible refine (N2.out _).mono ?_); rintro e w3 ⟨rfl, rfl⟩) | fail)
    all_goals
      have BA := Lib.hid (show Below w1.heap.size w1 (w1.alloc (.cells #[.int .i64 0, .int .i64 n1, .int .i64 n2] 23)).drew from ((Below.refl _ _).alloc (Nat.le_refl _) _).drew)
      have PA := Lib.hid (show ProbAt (w1.alloc (.cells #[.int .i64 0, .int .i64 n1, .int .i64 n2] 23)).drew w1.heap.size 0 n1 n2 from heap_alloc_new w1 _)
      generalize (w1.alloc (.cells #[.int .i64 0, .int .i64 n1, .int .i64 n2] 23)).drew = W2 at *
      have hp2 := PA.out.lt
      clear c1 c2
      go_wp2_with fail
      refine (l19WordsAll_any _).mono ?_
      rintro e w3 ⟨g, rfl, hg1, hg2, hgc, hb3⟩
      have PA3 := Lib.hid (PA.out.below hb3 hp2)
      have BA3 := Lib.hid (BA.out.trans (hb3.mono (Nat.le_of_lt hp2)))
      have R3 := Lib.hid (R0.out.below BA3.out hz0)
      have F3 := Lib.hid (FA.out.trans (BA3.out.mono (Nat.le_of_lt hz0)))
      have C3 := Lib.hid (show w3.cell? ⟨b, off, none⟩ = some (.string x0.f0) by rw [BA3.out.cell (p := ⟨b, off, none⟩) hbl]; exact C0.out)
      have HG := Lib.hid hgc
      generalize w1.heap.size = p at *
      have hgp : g ≠ p := by omega
      have hbp : b ≠ p := by omega
      have hwp : w.heap.size ≠ p := by omega
      clear hb3 PA BA BA3 R0 FA C0 hgc
      go_wp2
      go_loopw [7] (fun i wr => ∃ k : Nat, k ≤ 10 ∧ i = .int .i64 ((k + 1 : Nat) : Int) ∧ ProbAt wr p (kindK x0.f0 k) n1 n2 ∧ Touch p w3 wr) (fun i _ => 11 - (intOf i).toNat)
      case atStart => exact ⟨0, by omega, rfl, PA3.out, Touch.refl _ _⟩
      case round =>
        obtain ⟨k, hk, rfl, hpa, htc⟩ := hrel
        have HTC := Lib.hid htc
        obtain ⟨m, hm⟩ : ∃ m, k + 1 = m := ⟨_, rfl⟩
        by_cases hlt : k < 10
        · obtain ⟨sk, hsk⟩ : ∃ sk, problemStrings[k + 1]? = some sk := ⟨_, List.getElem?_eq_getElem (show k + 1 < problemStrings.length by simp [problemStrings]; omega)⟩
          have d0 : wr.cell? ⟨b, off, none⟩ = some (.string x0.f0) := by rw [World.cell?_of_block (htc.block b hbp)]; exact C3.out
          have d1 : wr.cell? ⟨g, k + 1, none⟩ = some (.string sk) := by rw [World.cell?_of_block (htc.block g hgp)]; exact HG.out _ _ hsk
          obtain ⟨q0, q1, q2, y0⟩ := hpa.facts
          have hml : (m : Int) < 11 := by omega
          have hml2 : m < 11 := by omega
          by_cases he : sk = x0.f0
          · subst he
            have HK := Lib.hid (kindK_yes hsk)
            rw [hm] at HK d1 ⊢
            have HPA := Lib.hid hpa
            clear hpa htc hsk
            go_wp2
            go_region
            go_wp2
            go_roundw
            case rel => exact ⟨m, by omega, by go_num, by rw [HK.out]; exact HPA.out.set0 _, (HTC.out.drew.setCell _ _)⟩
            case measure => simp [intOf]; omega
          · have HK := Lib.hid (kindK_no (s := x0.f0) (k := k) (by rw [hsk]; intro h; exact he (Option.some.inj h)))
            have hne' := rp_toList_ne he
            have HPA := Lib.hid hpa
            rw [hm] at HK d1 ⊢
            clear hpa htc hsk he
            go_wp2
            go_region
            go_wp2
            go_roundw
            case rel => exact ⟨m, by omega, by go_num, by rw [HK.out]; exact HPA.out, HTC.out.drew⟩
            case measure => simp [intOf]; omega
        · obtain rfl : k = 10 := by omega
          obtain rfl : m = 11 := by omega
          obtain ⟨q0, q1, q2, y0⟩ := hpa.facts
          have R4 := Lib.hid (show BoxF wr w.heap.size #[.int .i64 0, .int .i64 0, .int .i64 0] from fun i v hv => by
            obtain ⟨e1, e2⟩ := R3.out i v hv
            exact ⟨by rw [World.cell?_of_block (htc.block _ hwp)]; exact e1, by
              have hb := htc.block w.heap.size hwp
              unfold World.frozen? at e2 ⊢
              rw [hb]; exact e2⟩)
          have F4 := Lib.hid (F3.out.trans (htc.below (show w.heap.size ≤ p by omega)))
          have HPA := Lib.hid hpa
          have hsz := htc.size
          have hpl := hpa.lt
          have hwl : w.heap.size < wr.heap.size := by omega
          rw [hm]
          clear htc HTC hpa R3 F3 C3 HG PA3 hm
          generalize kindK x0.f0 10 = kd at *
          go_wp2_with fail
          refine (PT.out ⟨kd, n1, n2⟩ _).mono ?_
          rintro e w5 ⟨rfl, hb5⟩
          have HP5 := Lib.hid (HPA.out.below hb5 hpl)
          have R5 := Lib.hid (R4.out.below hb5 hwl)
          have F5 := Lib.hid (F4.out.trans (hb5.mono (by omega)))
          clear hb5 q0 q1 q2 y0 HPA R4 F4 hsz hpl hwl
          obtain ⟨q0, q1, q2, y0⟩ := HP5.out.facts
          obtain ⟨a0, z0⟩ := R5.out 0 _ rfl
          obtain ⟨a1, z1⟩ := R5.out 1 _ rfl
          obtain ⟨a2, z2⟩ := R5.out 2 _ rfl
          obtain ⟨s1, s2⟩ := HNE.out
          by_cases hp : probV ⟨kd, n1, n2⟩ = s
          · have HV := Lib.hid (HOK.out hp)
            rw [hp]
            clear hp
            go_wp2
            refine bodyPost_ret (v := .tuple #[.agg #[.int .i64 kd, .int .i64 n1, .int .i64 n2], .bool true]) (by simp [results, Tryd.results4, go_sem, a0, a1, a2]) rfl ⟨by rw [HZY.out HV.out, HV.out], ?_⟩
            exact ((F5.out.setCell (by simp) _).setCell (by simp) _).setCell (by simp) _
          · have HV := Lib.hid (HNO.out hp)
            have hne' := rp_toList_ne hp
            generalize probV ⟨kd, n1, n2⟩ = tx at *
            clear hp
            go_wp2
            refine bodyPost_ret (v := .tuple #[.agg #[.int .i64 0, .int .i64 0, .int .i64 0], .bool false]) (by simp [results, Tryd.results4, go_sem, a0, a1, a2]) rfl ⟨by rw [HZR.out HV.out, HV.out], ?_⟩
            exact ((F5.out.setCell (by simp) _).setCell (by simp) _).setCell (by simp) _
end Go.Proofs.YtbckicdjbgfofaaDoor
