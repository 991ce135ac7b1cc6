/- impl.ReadProblem -/
import Derived.Test.YtbckicdjbgfofaaDoorCutOne
import Derived.Test.YtbckicdjbgfofaaDoorNumsIn
import Derived.Test.YtbckicdjbgfofaaDoorBoxes
import Derived.Test.YtbckicdjbgfofaaDoorBoxF
import Derived.Deep.DeepCutAuto
import Derived.Deep.RegionHeld3
namespace Go.Proofs.YtbckicdjbgfofaaDoor
open Go.RowKit
set_option linter.unusedVariables false
set_option linter.unusedSimpArgs false
set_option maxRecDepth 20000
theorem OwnI.slO3 {w : World} {B : Nat} {v : Value} {l : List Int} (h : OwnI w B v l) : ∃ a c, v = .slice a l.length c ∧ SlA w a l := by
  obtain ⟨a, c, e, hs⟩ := h.slO
  exact ⟨a, c, e, hs.sl⟩
theorem rp_toList_ne {m s : ByteArray} (h : ¬ m = s) : (m.toList == s.toList) = false := by
  rw [beq_eq_false_iff_ne]
  intro h2
  rw [ByteArray.toList_eq, ByteArray.toList_eq] at h2
  exact h (ByteArray.ext (Array.toList_inj.1 h2))
theorem cutRest_size (s : ByteArray) : (cutRest s).size ≤ s.size := by
  have h := rpRest_len s.data.toList
  have hl : s.data.toList.length = s.size := by simp
  show (rpRest s.data.toList).toArray.size ≤ _
  rw [List.size_toArray]; omega
set_option maxHeartbeats 8000000 in
theorem readProblem_any (s : ByteArray) (hs : s.size ≤ 1048576) (w : World) (hw : 0 < w.heap.size) (ht : ProbTabs w) :
    Calls Tryd.prog 5 #[.string s] w fun e w' => e = .returned (.tuple #[.agg #[.int .i64 (rpV s).f0, .int .i64 (rpV s).f1, .int .i64 (rpV s).f2], .bool (rpOk s)]) ∧ Below w.heap.size w w' := by
  have CU := Lib.hid (fun w' => cutBlank_any s hs w')
  have NI := Lib.hid (fun w' => numbersIn_any (cutRest s) (Nat.le_trans (cutRest_size s) hs) w')
  have RN := Lib.hid (rp_nums_no (s := s))
  have RK := Lib.hid (fun n m => rp_kinds_no (s := s) (n := n) (m := m))
  have RY := Lib.hid (fun n m k => rp_kind_yes (s := s) (n := n) (m := m) (k := k))
  have PT := Lib.hid (fun x w' h1 h2 => problemText_any x w' h1 h2)
  have HT := Lib.hid (fun w' (hb : Below w.heap.size w w') => (show 0 < w'.heap.size ∧ ProbTabs w' from ⟨Nat.lt_of_lt_of_le hw hb.size, ht.below hb hw⟩))
  have R0 := Lib.hid (BoxF.new w #[.int .i64 0, .int .i64 0, .int .i64 0] 23 _ rfl)
  have FA := Lib.hid (show Below w.heap.size w (w.alloc (.cells #[.int .i64 0, .int .i64 0, .int .i64 0] 23)) from (Below.refl _ _).alloc (Nat.le_refl _) _)
  have hz0 : w.heap.size < (w.alloc (.cells #[.int .i64 0, .int .i64 0, .int .i64 0] 23)).heap.size := by simp
  unfold NumRes at NI
  have hcr : (cutRest s).data.toList = rpRest s.data.toList := rfl
  rw [hcr] at NI
  obtain ⟨o, ho⟩ : ∃ o, numsV (rpRest s.data.toList) = o := ⟨_, rfl⟩
  rw [ho] at NI RN RK RY
  clear ho hcr hw ht
  generalize cutRest s = rest at *
  have ZR := fun (h : rpOk s = false) => rpV_no h
  have HZR := Lib.hid ZR; clear ZR
  go_enter Tryd.func5, Tryd.ntmps5
  go_upto_region 1 with (fail)
  generalize (w.alloc (.cells #[.int .i64 0, .int .i64 0, .int .i64 0] 23)) = W0 at *
  go_wp2_with fail
  refine (CU.out _).mono ?_
  rintro e w1 ⟨⟨tt, tb, rfl⟩, hb1⟩
  replace R0 := Lib.hid (R0.out.below hb1 hz0)
  replace FA := Lib.hid (FA.out.trans (hb1.mono FA.out.size))
  replace hz0 := Nat.lt_of_lt_of_le hz0 hb1.size
  clear hb1 CU
  cases o with
  | none =>
    have HV := Lib.hid (RN.out (fun n m => by simp))
    go_wp2_with fail
    refine (NI.out _).mono ?_
    rintro e w2 ⟨rfl, hb2⟩
    replace R0 := Lib.hid (R0.out.below hb2 hz0)
    replace FA := Lib.hid (FA.out.trans (hb2.mono FA.out.size))
    clear hb2
    obtain ⟨a0, z0⟩ := R0.out 0 _ rfl
    obtain ⟨a1, z1⟩ := R0.out 1 _ rfl
    obtain ⟨a2, z2⟩ := R0.out 2 _ rfl
    go_wp2
    refine bodyPost_ret (v := .tuple #[.agg #[.int .i64 0, .int .i64 0, .int .i64 0], .bool false]) (by simp [results, Tryd.results5, go_sem, a0, a1, a2]) rfl ⟨by rw [HZR.out HV.out, HV.out], ?_⟩
    exact ((FA.out.setCell (by simp) _).setCell (by simp) _).setCell (by simp) _
  | some xs =>
    by_cases h2 : xs.length = 2
    case neg =>
      have HV := Lib.hid (RN.out (fun n m h => by
        apply h2
        rw [Option.some.inj h]; rfl))
      have hne : ((xs.length : Int) != 2) = true := by simp; omega
      clear h2
      go_wp2_with fail
      refine (NI.out _).mono ?_
      rintro e w2 ⟨⟨v, rfl, hown⟩, hb2⟩
      obtain ⟨a, cp, rfl, hsl⟩ := hown.slO3
      replace R0 := Lib.hid (R0.out.below hb2 hz0)
      replace FA := Lib.hid (FA.out.trans (hb2.mono FA.out.size))
      clear hb2 hown hsl
      obtain ⟨a0, z0⟩ := R0.out 0 _ rfl
      obtain ⟨a1, z1⟩ := R0.out 1 _ rfl
      obtain ⟨a2, z2⟩ := R0.out 2 _ rfl
      go_wp2
      refine bodyPost_ret (v := .tuple #[.agg #[.int .i64 0, .int .i64 0, .int .i64 0], .bool false]) (by simp [results, Tryd.results5, go_sem, a0, a1, a2]) rfl ⟨by rw [HZR.out HV.out, HV.out], ?_⟩
      exact ((FA.out.setCell (by simp) _).setCell (by simp) _).setCell (by simp) _
    case pos =>
      obtain ⟨n, m, rfl⟩ : ∃ n m, xs = [n, m] := by
        match xs, h2 with
        | [a, b], _ => exact ⟨a, b, rfl⟩
      clear h2
      have YK := Lib.hid (fun k h => RY.out n m k rfl h)
      have NK := Lib.hid (RK.out n m rfl)
      clear RY RK RN
      go_wp2_with fail
      refine (NI.out _).mono ?_
      rintro e w2 ⟨⟨v, rfl, hown⟩, hb2⟩
      obtain ⟨a, cp, rfl, hsl⟩ := hown.slO3
      have HSL := Lib.hid hsl
      obtain ⟨g, off, rfl, c0⟩ := hsl.cell (show [n, m][0]? = some n from rfl)
      have RK2 := Lib.hid (fun w' (hb : Below w2.heap.size w2 w') => (R0.out.below hb2 hz0).below hb (Nat.lt_of_lt_of_le hz0 hb2.size))
      have FK := Lib.hid (fun w' (hb : Below w2.heap.size w2 w') => (FA.out.trans (hb2.mono FA.out.size)).trans (hb.mono (Nat.le_of_lt (Nat.lt_of_lt_of_le hz0 hb2.size))))
      have CK := Lib.hid (fun w' (hb : Below w2.heap.size w2 w') => (show w'.cell? ⟨g, off, none⟩ = some (.int .i64 n) ∧ w'.cell? ⟨g, off + 1, none⟩ = some (.int .i64 m) from by
        have h := HSL.out.below hb (Nat.le_refl _)
        obtain ⟨g1, o1, e1, k0⟩ := h.cell (show [n, m][0]? = some n from rfl)
        obtain ⟨g2, o2, e2, k1⟩ := h.cell (show [n, m][1]? = some m from rfl)
        cases e1; cases e2
        exact ⟨by simpa using k0, k1⟩))
      have hwp : w.heap.size < w2.heap.size := Nat.lt_of_lt_of_le hz0 hb2.size
      clear hb2 hown hsl c0 R0 FA NI hz0
      have hl2 : [n, m].length = 2 := rfl
      rw [hl2]
      have hne : (((2 : Nat) : Int) != 2) = false := by simp
      go_wp2
      go_loopw [9] (fun i wr => ∃ k : Nat, 1 ≤ k ∧ k ≤ 11 ∧ i = .int .i64 (k : Int) ∧ Hid (∀ j : Nat, 1 ≤ j → j < k → ¬ probV ⟨(j : Int), n, m⟩ = s) ∧ Below w2.heap.size w2 wr) (fun i _ => 11 - (intOf i).toNat)
      case atStart => exact ⟨1, by omega, by omega, rfl, (by unfold Hid; intro j h1 h2; omega), Below.refl _ _⟩
      case round =>
        obtain ⟨k, hk1, hk2, rfl, hN, hb⟩ := hrel
        have HB := Lib.hid hb
        by_cases hlt : k ≤ 10
        · have hle : (k : Int) ≤ 10 := by omega
          obtain ⟨c0, c1⟩ := CK.out _ hb
          clear hb
          go_wp2
          go_region_held3 (fun w' => w'.cell? ⟨g, off, none⟩ = some (.int .i64 n) ∧ w'.cell? ⟨g, off + 1, none⟩ = some (.int .i64 m)) (go_keep) (fail)
          have BA := Lib.hid (show Below wr.heap.size wr (wr.alloc (.cells #[.int .i64 (k : Int), .int .i64 n, .int .i64 m] 23)).drew from ((Below.refl _ _).alloc (Nat.le_refl _) _).drew)
          have KB := Lib.hid (show BoxAt (wr.alloc (.cells #[.int .i64 (k : Int), .int .i64 n, .int .i64 m] 23)).drew wr.heap.size #[.int .i64 (k : Int), .int .i64 n, .int .i64 m] from BoxAt.new wr #[.int .i64 (k : Int), .int .i64 n, .int .i64 m] 23 _ rfl)
          have hpb : wr.heap.size < (wr.alloc (.cells #[.int .i64 (k : Int), .int .i64 n, .int .i64 m] 23)).drew.heap.size := by show wr.heap.size < (wr.alloc (.cells #[.int .i64 (k : Int), .int .i64 n, .int .i64 m] 23)).heap.size; simp
          have HB3 := Lib.hid (HB.out.trans (BA.out.mono HB.out.size))
          clear BA HB c0 c1
          generalize (wr.alloc (.cells #[.int .i64 (k : Int), .int .i64 n, .int .i64 m] 23)).drew = W3 at *
          generalize wr.heap.size = pb at *
          have k0 := KB.out 0 _ rfl
          have k1 := KB.out 1 _ rfl
          have k2 := KB.out 2 _ rfl
          have HT3 := HT.out W3 (FK.out _ HB3.out)
          go_wp2_with fail
          refine (PT.out ⟨(k : Int), n, m⟩ _ HT3.1 HT3.2).mono ?_
          rintro e w4 ⟨rfl, hb4⟩
          clear k0 k1 k2 HT3
          have KB4 := Lib.hid (KB.out.below hb4 hpb)
          have HB4 := Lib.hid (HB3.out.trans (hb4.mono HB3.out.size))
          clear hb4 KB HB3
          by_cases hp : probV ⟨(k : Int), n, m⟩ = s
          · have HY := Lib.hid (YK.out k hp)
            rw [hp]
            clear hp
            have k0 := KB4.out 0 _ rfl
            have k1 := KB4.out 1 _ rfl
            have k2 := KB4.out 2 _ rfl
            obtain ⟨a0, z0⟩ := (RK2.out _ HB4.out) 0 _ rfl
            obtain ⟨a1, z1⟩ := (RK2.out _ HB4.out) 1 _ rfl
            obtain ⟨a2, z2⟩ := (RK2.out _ HB4.out) 2 _ rfl
            have FR := Lib.hid (FK.out _ HB4.out)
            go_wp2
            refine bodyPost_ret (v := .tuple #[.agg #[.int .i64 (k : Int), .int .i64 n, .int .i64 m], .bool true]) (by simp [results, Tryd.results5, go_sem, a0, a1, a2]) rfl ⟨by rw [HY.out.2, HY.out.1], ?_⟩
            exact ((FR.out.setCell (by simp) _).setCell (by simp) _).setCell (by simp) _
          · have HN2 := Lib.hid (show ∀ j : Nat, 1 ≤ j → j < k + 1 → ¬ probV ⟨(j : Int), n, m⟩ = s from fun j h1 h2 => by
              by_cases e : j = k
              · rw [e]; exact hp
              · exact hN.out j h1 (by omega))
            have hne' := rp_toList_ne hp
            generalize probV ⟨(k : Int), n, m⟩ = tx at *
            clear hp
            go_wp2
            go_roundw
            case rel => exact ⟨k + 1, by omega, by omega, by go_num, HN2, HB4.out⟩
            case measure => simp [intOf]; omega
        · obtain rfl : k = 11 := by omega
          have HV := Lib.hid (NK.out (fun j h1 h2 => hN.out j h1 (by omega)))
          obtain ⟨a0, z0⟩ := (RK2.out _ hb) 0 _ rfl
          obtain ⟨a1, z1⟩ := (RK2.out _ hb) 1 _ rfl
          obtain ⟨a2, z2⟩ := (RK2.out _ hb) 2 _ rfl
          have FR := Lib.hid (FK.out _ hb)
          clear hb hN
          go_wp2
          refine bodyPost_ret (v := .tuple #[.agg #[.int .i64 0, .int .i64 0, .int .i64 0], .bool false]) (by simp [results, Tryd.results5, go_sem, a0, a1, a2]) rfl ⟨by rw [HZR.out HV.out, HV.out], ?_⟩
          exact ((FR.out.setCell (by simp) _).setCell (by simp) _).setCell (by simp) _
end Go.Proofs.YtbckicdjbgfofaaDoor
