/- impl.NewDisc -/
import Derived.Test.YtpcfhfnlpcpofaaNewSpec
import Derived.Test.YtpcfhfnlpcpofaaRepSector
import Derived.Test.YtpcfhfnlpcpofaaOneCut
namespace Go.Proofs.Ytpcfhfnlpcpofaa
open Go.RowKit
set_option linter.unusedVariables false
set_option linter.unusedSimpArgs false
set_option maxRecDepth 20000
set_option maxHeartbeats 8000000 in
theorem newDisc_g (a b c d : Int) (w : World) :
    Calls Try.prog 23 #[.int .i64 a, .int .i64 b, .int .i64 c, .int .i64 d] w (DiscRes (newV a b c d) (newC a b c d) w) := by
  have ex := fun w => exists_any a b c d w
  unfold newV newC
  by_cases hg : geoB a b c d = true
  case neg =>
    have hf : geoB a b c d = false := by simpa using hg
    rw [hf] at ex
    have EX := Lib.hid ex
    rw [if_neg hg, if_neg hg]
    clear hg hf ex
    go_enter Try.func23, Try.ntmps23
    go_wp2_with fail
    refine (EX.out _).mono ?_
    rintro e w1 ⟨rfl, hb1⟩
    have R : BoxF w1 w.heap.size #[.int .i64 0, .int .i64 0, .int .i64 0, .int .i64 0, .slice none 0 0] := BoxF.below (boxF5 (by simp [go_sem]) (by simp [go_sem]) (by simp [go_sem]) (by simp [go_sem]) (by simp [go_sem])) hb1 (by simp <;> omega)
    have F1 := Lib.hid (show Below w.heap.size w w1 from Below.trans (by go_grown) (hb1.mono (by simp <;> omega)))
    obtain ⟨xR0, yR0⟩ := R 0 _ rfl
    obtain ⟨xR1, yR1⟩ := R 1 _ rfl
    obtain ⟨xR2, yR2⟩ := R 2 _ rfl
    obtain ⟨xR3, yR3⟩ := R 3 _ rfl
    obtain ⟨xR4, yR4⟩ := R 4 _ rfl
    clear hb1 R
    go_wp2
    refine bodyPost_ret (v := .tuple #[.agg #[.int .i64 0, .int .i64 0, .int .i64 0, .int .i64 0, .slice none 0 0], .int .i64 2]) (by simp [results, Try.results23, go_sem, xR0, yR0, xR1, yR1, xR2, yR2, xR3, yR3, xR4, yR4]) rfl ⟨none, 0, rfl, .inl rfl, ?_⟩
    exact ((((F1.out.setCell (by simp) _).setCell (by simp) _).setCell (by simp) _).setCell (by simp) _).setCell (by simp) _
  rw [hg] at ex
  have EX := Lib.hid ex
  rw [if_pos hg, if_pos hg]
  have TO := Lib.hid (fun w => total_any a b c d w hg)
  obtain ⟨n, m, h1, h2, h3, h4, h5, h6, h7⟩ := geo_nm hg
  have MI := Lib.hid (fun w => missing_any a b c d m w (inB_iff.2 (geoB_iff.1 hg).2.2.2) h5 h7)
  rw [h1] at TO
  rw [h2, h6]
  have RP := Lib.hid (fun (w : World) (b : Nat) (c0 : w.cell? ⟨b, 0, none⟩ = some (.string (missS m).f0)) (c1 : w.cell? ⟨b, 1, none⟩ = some (.int .i64 (missS m).f1)) => repSector_any (missS m) n b 0 1 w h3 h4 c0 c1)
  obtain ⟨z, hz⟩ : ∃ z, zerosS m = z := ⟨_, rfl⟩
  unfold missS at RP
  rw [hz] at RP MI
  have HMS := Lib.hid (show missS m = ⟨z, 3⟩ by unfold missS; rw [hz])
  rw [HMS.out]
  clear hg ex h1 h2 h5 h6 h7 hz
  go_enter Try.func23, Try.ntmps23
  go_wp2_with fail
  refine (EX.out _).mono ?_
  rintro e w1 ⟨rfl, hb1⟩
  have R1 := Lib.hid (show BoxF w1 w.heap.size #[.int .i64 0, .int .i64 0, .int .i64 0, .int .i64 0, .slice none 0 0] from BoxF.below (boxF5 (by simp [go_sem]) (by simp [go_sem]) (by simp [go_sem]) (by simp [go_sem]) (by simp [go_sem])) hb1 (by simp <;> omega))
  have G1 := Lib.hid (show BoxF w1 (w.heap.size + 1) #[.int .i64 a, .int .i64 b, .int .i64 c, .int .i64 d] from BoxF.below (boxF4 (by simp [go_sem]) (by simp [go_sem]) (by simp [go_sem]) (by simp [go_sem])) hb1 (by simp <;> omega))
  have F1 := Lib.hid (show Below w.heap.size w w1 from Below.trans (by go_grown) (hb1.mono (by simp <;> omega)))
  have hl1 : w.heap.size + 2 ≤ w1.heap.size := by have := hb1.size; simp at this; omega
  clear hb1
  have KS := Lib.hid (fun w' (hb : Below w1.heap.size w1 w') => (show w'.cell? ⟨w.heap.size + 1, 0, none⟩ = some (.int .i64 a) ∧ w'.cell? ⟨w.heap.size + 1, 1, none⟩ = some (.int .i64 b) ∧ w'.cell? ⟨w.heap.size + 1, 2, none⟩ = some (.int .i64 c) ∧ w'.cell? ⟨w.heap.size + 1, 3, none⟩ = some (.int .i64 d) from ⟨(G1.out.below hb (by omega) 0 _ rfl).1, (G1.out.below hb (by omega) 1 _ rfl).1, (G1.out.below hb (by omega) 2 _ rfl).1, (G1.out.below hb (by omega) 3 _ rfl).1⟩))
  have hks : w1.cell? ⟨w.heap.size + 1, 0, none⟩ = some (.int .i64 a) ∧ w1.cell? ⟨w.heap.size + 1, 1, none⟩ = some (.int .i64 b) ∧ w1.cell? ⟨w.heap.size + 1, 2, none⟩ = some (.int .i64 c) ∧ w1.cell? ⟨w.heap.size + 1, 3, none⟩ = some (.int .i64 d) := KS.out _ (Below.refl _ _)
  have HC := Lib.hid (show Below w1.heap.size w1 w1.drew from (Below.refl _ _).drew)
  go_wp2
  go_region_held3 (fun w' => w'.cell? ⟨w.heap.size + 1, 0, none⟩ = some (.int .i64 a) ∧ w'.cell? ⟨w.heap.size + 1, 1, none⟩ = some (.int .i64 b) ∧ w'.cell? ⟨w.heap.size + 1, 2, none⟩ = some (.int .i64 c) ∧ w'.cell? ⟨w.heap.size + 1, 3, none⟩ = some (.int .i64 d))
    (first | (with_reducible exact KS.out _ HC.out) | (with_reducible exact KS.out _ (HC.out.alloc HC.out.size _)) | (simp [go_sem]; first | exact KS.out _ HC.out | omega) | go_keep)
    (first
      | (go_at_call 70; ((with_reducible refine (MI.out _).mono ?_); rintro e w2 ⟨rfl, hb2⟩; replace HC := Lib.hid (HC.out.trans (hb2.mono HC.out.size))))
      | (go_at_call 71; first
        | ((with_reducible refine (TO.out w2).mono ?_); rintro e w3 ⟨rfl, hb3⟩; replace HC := Lib.hid (HC.out.trans (hb3.mono HC.out.size)))
        | ((with_reducible refine (TO.out (w2.alloc (.cells #[.string z, .int .i64 3] 41))).mono ?_); rintro e w3 ⟨rfl, hb3⟩; have EA := Lib.hid ((MadeAt.new w2 (.cells #[.string z, .int .i64 3] 41)).below hb3); replace HC := Lib.hid ((HC.out.alloc HC.out.size (.cells #[.string z, .int .i64 3] 41)).trans (hb3.mono (HC.out.alloc HC.out.size (.cells #[.string z, .int .i64 3] 41)).size))))
      | (go_at_call 69; first
        | ((with_reducible refine (RP.out w3 w2.heap.size (EA.out.at 0 rfl).1 (EA.out.at 1 rfl).1).mono ?_); rintro e w4 ⟨g, rfl, hown, hb4⟩; have hg3 := HC.out.size; replace HC := Lib.hid (HC.out.trans (hb4.mono HC.out.size)))
        | ((with_reducible refine (RP.out (w3.alloc (.cells #[.string z, .int .i64 3] 41)) w3.heap.size (by simp [go_sem]) (by simp [go_sem])).mono ?_); rintro e w4 ⟨g, rfl, hown, hb4⟩; replace hown := hown.mono (B' := w3.heap.size) (by simp); have hg3 := HC.out.size; replace HC := Lib.hid ((HC.out.alloc HC.out.size (.cells #[.string z, .int .i64 3] 41)).trans (hb4.mono (HC.out.alloc HC.out.size (.cells #[.string z, .int .i64 3] 41)).size))))
      | (go_at_call 68; (with_reducible refine (disc_any a b c d (some ⟨g, 0, none⟩) n n _).mono ?_); rintro e w5 ⟨rfl, hb5⟩; have HO := Lib.hid (hown.below hb5 hown.lt); replace HC := Lib.hid (HC.out.trans (hb5.mono HC.out.size)); obtain ⟨xR0, yR0⟩ := R1.out.below HC.out (by omega) 0 _ rfl; obtain ⟨xR1, yR1⟩ := R1.out.below HC.out (by omega) 1 _ rfl; obtain ⟨xR2, yR2⟩ := R1.out.below HC.out (by omega) 2 _ rfl; obtain ⟨xR3, yR3⟩ := R1.out.below HC.out (by omega) 3 _ rfl; obtain ⟨xR4, yR4⟩ := R1.out.below HC.out (by omega) 4 _ rfl)
      | fail)
  all_goals
    have hgB : w3.heap.size ≤ g := HO.out.choose_spec.1
    have FZ := Lib.hid (F1.out.trans (HC.out.mono F1.out.size))
    go_wp2
    refine bodyPost_ret (v := .tuple #[.agg #[.int .i64 a, .int .i64 b, .int .i64 c, .int .i64 d, .slice (some ⟨g, 0, none⟩) n n], .int .i64 0]) (by simp [results, Try.results23, go_sem, xR0, yR0, xR1, yR1, xR2, yR2, xR3, yR3, xR4, yR4]) rfl ⟨some ⟨g, 0, none⟩, n, by simp, ?_, ?_⟩
    · refine OwnBlk.so ((HO.out.mono (by omega)).keep ?_)
      simp only [World.setCell, Array.getElem?_modify]
      rw [if_neg (by omega), if_neg (by omega), if_neg (by omega), if_neg (by omega), if_neg (by omega)]
    · exact ((((FZ.out.setCell (by simp) _).setCell (by simp) _).setCell (by simp) _).setCell (by simp) _).setCell (by simp) _
end Go.Proofs.Ytpcfhfnlpcpofaa
