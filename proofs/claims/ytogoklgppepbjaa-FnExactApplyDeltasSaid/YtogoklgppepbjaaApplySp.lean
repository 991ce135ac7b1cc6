/- spec.ApplyDeltas -/
import Derived.Test.YtogoklgppepbjaaApplyVal
namespace Go.Proofs.Ytogoklgppepbjaa
open Go.RowKit
set_option linter.unusedVariables false
set_option linter.unusedSimpArgs false
set_option maxRecDepth 20000
theorem ap_cat {s o t : ByteArray} {P : List UInt8} {q x : Nat} (h : o.data.toList = P) : (o ++ (s.extract q x ++ t)).data.toList = P ++ (s.data.toList.drop q).take (x - q) ++ t.data.toList := by
  rw [← h]
  simp [ByteArray.data_append, ByteArray.data_extract, List.extract_eq_drop_take']
theorem ap_end {s o : ByteArray} {P : List UInt8} {q : Nat} (h : o.data.toList = P) : o ++ s.extract q s.size = ⟨(P ++ s.data.toList.drop q).toArray⟩ := by
  apply ByteArray.ext
  apply Array.ext'
  rw [← h]
  have hs : s.data.toList.length = s.size := by simp
  simp [ByteArray.data_append, ByteArray.data_extract, List.extract_eq_drop_take']
  rw [List.take_of_length_le (by rw [hs]; omega)]
set_option maxHeartbeats 8000000 in
theorem specApplyDeltas_any (s : ByteArray) (a : Option Addr) (c : Nat) (es : List DeltaV) (hs : s.size ≤ 1048576) (hm : es.length ≤ 1048576) (hv : ∀ e ∈ es, e.f1.size ≤ 1048576) (w : World) (h : SlS rowDelta w a es) :
    Calls Try.prog 21 #[.string s, .slice a es.length c] w fun x w' => x = .returned (.tuple #[.string (apV s es), .bool (apB s es)]) ∧ Below w.heap.size w w' := by
  obtain ⟨r, hr⟩ : ∃ r, apV s es = r := ⟨_, rfl⟩
  obtain ⟨q0, hq0⟩ : ∃ q, apB s es = q := ⟨_, rfl⟩
  rw [hr, hq0]
  have HR := Lib.hid hr; have HQ0 := Lib.hid hq0; clear hr hq0
  by_cases h4 : s.size ≤ 4096
  case neg =>
    have e : apB s es = false := by unfold apB; simp [h4]
    have hr1 : r = ByteArray.empty := by rw [← HR.out]; unfold apV; rw [e, if_neg (by simp)]
    have hq1 : q0 = false := by rw [← HQ0.out, e]
    subst hr1 hq1
    have h1 : (4096 : Int) < (s.size : Int) := by omega
    clear h
    go_enter Try.func21, Try.ntmps21
    go_wp2
    go_ret2
    exact ⟨rfl, Below.refl _ _⟩
  have h1 : ¬ (4096 : Int) < (s.size : Int) := by omega
  go_enter Try.func21, Try.ntmps21
  go_wp2
  go_loopw [6, 7, 8, 9] (fun o f i _ wr => ∃ (k : Nat) (out : ByteArray), k ≤ es.length ∧ i = .int .i64 k ∧ o = .string out ∧ f = .int .i64 ((apSt s es k).2 : Nat) ∧ Hid (out.data.toList = (apSt s es k).1) ∧ Hid (apGood s es k = true) ∧ Below w.heap.size w wr) (fun _ _ i _ _ => es.length - (intOf i).toNat)
  case atStart => exact ⟨0, ⟨#[]⟩, Nat.zero_le _, rfl, rfl, rfl, by unfold Hid; rfl, by unfold Hid; rfl, Below.refl _ _⟩
  case round =>
    obtain ⟨k, out, hk, rfl, rfl, rfl, hO, hG, hb⟩ := hrel
    obtain ⟨hbd1, hbd2⟩ := apSt_bd k hk hG.out
    have hos : out.size = (apSt s es k).2 := by rw [← hbd2, ← hO.out]; simp
    by_cases hlt : k < es.length
    · obtain ⟨e, hx⟩ : ∃ e, es[k]? = some e := ⟨es[k], by simp [hlt]⟩
      obtain ⟨b, off, rfl, hbl, hc⟩ := (h.below hb (Nat.le_refl _)).at rowDelta_len hx
      have c0 : wr.cell? ⟨b, off + k * 2, none⟩ = some (.int .i64 e.f0) := hc 0 _ rfl
      have c1 : wr.cell? ⟨b, off + k * 2 + 1, none⟩ = some (.string e.f1) := hc 1 _ rfl
      have hes := hv e (List.mem_of_getElem? hx)
      have hgs := apGood_succ (s := s) hx
      rw [hG.out, Bool.true_and] at hgs
      have hss := apSt_succ (s := s) hx
      obtain ⟨P, q, hPq⟩ : ∃ P q, apSt s es k = (P, q) := ⟨_, _, rfl⟩
      rw [hPq] at hbd1 hbd2 hgs hss hO hos ⊢
      dsimp only at hbd1 hbd2 hgs hO hos ⊢
      have H := Lib.hid (And.intro h (And.intro hc hx)); clear h hc hx hPq
      by_cases he : e.f1.size = 0
      · have hbad := Lib.hid (apB_bad (k := k + 1) (s := s) hlt (by rw [hgs]; unfold apOk; rw [he]; rfl))
        have he1 : (e.f1.size : Int) = 0 := by omega
        have he2 : ((e.f1.size : Int) == 0) = true := by rw [beq_iff_eq]; exact he1
        clear hgs hss hes
        go_wp2
        go_ret2
        exact ⟨by rw [← HR.out, ← HQ0.out]; unfold apV; rw [hbad.out, if_neg (by simp)]; rfl, hb⟩
      · have he1 : ¬ (e.f1.size : Int) = 0 := by omega
        have he2 : ((e.f1.size : Int) == 0) = false := by rw [beq_eq_false_iff_ne]; exact he1
        have WI := Lib.hid (fun w => l00In_any e.f0 (q : Int) ((s.size : Int) - (e.f1.size : Int)) w)
        cases hq : inB (q : Int) ((s.size : Int) - (e.f1.size : Int)) e.f0 with
        | false =>
          rw [hq] at WI
          have hbad := Lib.hid (apB_bad (k := k + 1) (s := s) hlt (by rw [hgs]; unfold apOk; rw [hq]; simp))
          clear hgs hss hq
          go_wp2_with fail
          refine (WI.out _).mono ?_
          rintro e_ w1 ⟨rfl, rfl⟩
          go_wp2
          go_ret2
          exact ⟨by rw [← HR.out, ← HQ0.out]; unfold apV; rw [hbad.out, if_neg (by simp)]; rfl, hb⟩
        | true =>
          rw [hq] at WI
          have hgood := Lib.hid (show apGood s es (k + 1) = true by rw [hgs]; exact apOk_iff.2 ⟨he, hq⟩)
          obtain ⟨hq0, hq1⟩ := inB_iff.1 hq
          obtain ⟨x, hx0⟩ : ∃ x : Nat, e.f0 = x := ⟨e.f0.toNat, by omega⟩
          rw [hx0] at c0 WI hq0 hq1
          have hxe : e.f0.toNat = x := by omega
          unfold apStep at hss
          rw [hxe] at hss
          dsimp only at hss
          obtain ⟨t, ht⟩ : ∃ t, e.f1 = t := ⟨_, rfl⟩
          rw [ht] at c1 WI hq1 he he1 he2 hes hss
          have hwadd : IntKind.i64.wrap ((x : Int) + (t.size : Int)) = (x : Int) + (t.size : Int) := IntWalk.i64_in _ (by omega)
          have hxs : q ≤ x ∧ x ≤ s.size := by omega
          have hxs1 : (q : Int) ≤ (x : Int) := by omega
          have hxs2 : x ≤ s.size := by omega
          have HE := Lib.hid (show (apSt s es (k + 1)).2 = x + t.size by rw [hss])
          have HO := Lib.hid (show (out ++ (s.extract q x ++ t)).data.toList = (apSt s es (k + 1)).1 by rw [ap_cat hO.out, hss])
          have hesz : (s.extract q x).size = x - q := by rw [ByteArray.size_extract]; omega
          clear hgs hss hq hx0 hxe ht
          go_wp2_with fail
          refine (WI.out _).mono ?_
          rintro e_ w1 ⟨rfl, rfl⟩
          go_wp2
          go_region
          all_goals
            go_wp2
            go_roundw
            case rel => exact ⟨k + 1, out ++ (s.extract q x ++ t), by omega, by go_num, rfl, by rw [HE.out]; congr 1, HO, hgood, hb.drew⟩
            case measure => simp [intOf]; omega
    · obtain rfl : k = es.length := by omega
      have hgd := hG.out
      have hb0 : apB s es = true := by unfold apB; rw [hgd, decide_eq_true h4]; rfl
      have HV := Lib.hid (ap_end (s := s) (q := (apSt s es es.length).2) hO.out)
      generalize hqq : (apSt s es es.length).2 = q at *
      have hsz : (s.extract q s.size).size = s.size - q := by rw [ByteArray.size_extract]; omega
      have hqs : q ≤ s.size := hbd1
      go_wp2
      go_ret2
      refine ⟨?_, hb⟩
      rw [← HR.out, ← HQ0.out]
      unfold apV
      rw [hb0, if_pos rfl, hqq, ← HV.out]
      rfl
end Go.Proofs.Ytogoklgppepbjaa
