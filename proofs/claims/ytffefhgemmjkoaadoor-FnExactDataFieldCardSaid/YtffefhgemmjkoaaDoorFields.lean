/- impl.dataKind, impl.IdField, impl.DataField -/
import Derived.Test.YtffefhgemmjkoaaDoorSpecField
namespace Go.Proofs.YtffefhgemmjkoaaDoor
open Go.RowKit
set_option maxRecDepth 20000
set_option linter.unusedVariables false
set_option maxHeartbeats 1000000 in
theorem dataKind_any (c h n z : Int) (d : ByteArray) (de bi bd : Bool) (w : World) :
    Calls Tryd.prog 45 #[.agg #[.int .i64 c, .int .i64 h, .int .i64 n, .int .i64 z, .string d, .bool de, .bool bi, .bool bd]] w fun e w' => e = .returned (.int .i64 (dataK de)) ∧ Below w.heap.size w w' := by
  cases de <;>
  · go_enter Tryd.func45, Tryd.ntmps45
    go_wp2
    go_ret
    exact ⟨rfl, by go_grown⟩
set_option maxHeartbeats 8000000 in
theorem idField_any (f c h n z : Int) (d : ByteArray) (de bi bd : Bool) (w : World) (hd : d.size ≤ maxLen) (ht : SecTabs w) :
    Calls Tryd.prog 15 #[.int .i64 f, secV c h n z d de bi bd] w fun e w' => e = .returned (.tuple #[.string (idV f c h n z d bi), .bool (fldOk f c h n z d)]) ∧ Below w.heap.size w w' := by
  have HF := Lib.hid (fun w => isFormat_any f w)
  have HS := Lib.hid (fun w' => validSector_any c h n z d de bi bd w' hd)
  unfold secV at HS
  have hbx := BoxAt.new w #[.int .i64 c, .int .i64 h, .int .i64 n, .int .i64 z, .string d, .bool de, .bool bi, .bool bd] 29 _ rfl
  have hW0 : Below w.heap.size w (w.alloc (.cells #[.int .i64 c, .int .i64 h, .int .i64 n, .int .i64 z, .string d, .bool de, .bool bi, .bool bd] 29)) := (Below.refl _ _).alloc (Nat.le_refl _) _
  have hlt : w.heap.size < (w.alloc (.cells #[.int .i64 c, .int .i64 h, .int .i64 n, .int .i64 z, .string d, .bool de, .bool bi, .bool bd] 29)).heap.size := by simp
  obtain ⟨W1, hW1⟩ : ∃ W1, w.alloc (.cells #[.int .i64 c, .int .i64 h, .int .i64 n, .int .i64 z, .string d, .bool de, .bool bi, .bool bd] 29) = W1 := ⟨_, rfl⟩
  rw [hW1] at hbx hW0 hlt
  unfold secV
  have HX := Lib.hid hbx; clear hbx
  by_cases hf : inB 1 3 f = true
  · rw [hf] at HF
    by_cases hs : secB c h n z d = true
    · rw [hs] at HS
      have ho := fldOk_yes hf hs
      have e : idV f c h n z d bi = idT f c h n z bi := by unfold idV; rw [if_pos ho]
      rw [e, ho]
      obtain ⟨⟨c0, c1⟩, ⟨h0, h1⟩, ⟨n0, n1⟩, ⟨z0, z1⟩, hd32⟩ := secB_bd hs
      clear e ho
      obtain ⟨c, rfl⟩ : ∃ k : Nat, c = k := ⟨c.toNat, by omega⟩
      obtain ⟨h, rfl⟩ : ∃ k : Nat, h = k := ⟨h.toNat, by omega⟩
      obtain ⟨n, rfl⟩ : ∃ k : Nat, n = k := ⟨n.toNat, by omega⟩
      obtain ⟨z, rfl⟩ : ∃ k : Nat, z = k := ⟨z.toNat, by omega⟩
      have HB1 := Lib.hid (fun w' => byteText_any c (by omega) w')
      have HB2 := Lib.hid (fun w' => byteText_any h (by omega) w')
      have HB3 := Lib.hid (fun w' => byteText_any n (by omega) w')
      have HB4 := Lib.hid (fun w' => byteText_any z (by omega) w')
      have HWC := Lib.hid (fun w' (hb : Below w.heap.size w w') => withChecksum_any f 1 (idB c h n z) bi w' (markOk_id hf) (by rw [idB_size]; omega) (ht.below hb))
      unfold idT
      generalize sumS (prefS f 1) (idB c h n z) bi = r at *
      unfold idB at HWC
      rw [Int.toNat_natCast, Int.toNat_natCast, Int.toNat_natCast, Int.toNat_natCast] at HWC
      have s1 : (byteS c).size = 1 := rfl
      have s2 : (byteS h).size = 1 := rfl
      have s3 : (byteS n).size = 1 := rfl
      have s4 : (byteS z).size = 1 := rfl
      generalize byteS c = t1 at *
      generalize byteS h = t2 at *
      generalize byteS n = t3 at *
      generalize byteS z = t4 at *
      have q1 : (9223372036854775807 < t1.size + t2.size) = False := by rw [eq_iff_iff, iff_false]; omega
      have q2 : (9223372036854775807 < t1.size + t2.size + t3.size) = False := by rw [eq_iff_iff, iff_false]; omega
      have q3 : (9223372036854775807 < t1.size + t2.size + t3.size + t4.size) = False := by rw [eq_iff_iff, iff_false]; omega
      have HQ := Lib.hid (And.intro s1 (And.intro s2 (And.intro s3 s4))); clear s1 s2 s3 s4
      clear hf hs hd ht
      go_enter Tryd.func15, Tryd.ntmps15
      go_wp2_with (first | (go_at_call 41; refine (HF.out _).mono ?_; rintro e w1 ⟨rfl, hb1⟩; have BX1 := HX.out.below hb1 hlt; have x0 := BX1 0 _ rfl; have x1 := BX1 1 _ rfl; have x2 := BX1 2 _ rfl; have x3 := BX1 3 _ rfl; have x4 := BX1 4 _ rfl; have x5 := BX1 5 _ rfl; have x6 := BX1 6 _ rfl; have x7 := BX1 7 _ rfl) | (go_at_call 42; refine (HS.out _).mono ?_; rintro e w2 ⟨rfl, hb2⟩; have HB12 := Lib.hid (hb1.trans (hb2.mono hb1.size)); clear x0 x1 x2 x3 x4 x5 x6 x7 BX1; have KS := Lib.hid (fun w' (hb : Below w2.heap.size w2 w') => (show w'.cell? ⟨w.heap.size, 0, none⟩ = some (.int .i64 c) ∧ w'.cell? ⟨w.heap.size, 1, none⟩ = some (.int .i64 h) ∧ w'.cell? ⟨w.heap.size, 2, none⟩ = some (.int .i64 n) ∧ w'.cell? ⟨w.heap.size, 3, none⟩ = some (.int .i64 z) from ⟨(HX.out.below (HB12.out.trans (hb.mono HB12.out.size)) hlt) 0 _ rfl, (HX.out.below (HB12.out.trans (hb.mono HB12.out.size)) hlt) 1 _ rfl, (HX.out.below (HB12.out.trans (hb.mono HB12.out.size)) hlt) 2 _ rfl, (HX.out.below (HB12.out.trans (hb.mono HB12.out.size)) hlt) 3 _ rfl⟩)); have HC := Lib.hid (show Below w2.heap.size w2 w2.drew from (Below.refl _ _).drew); have hks : w2.cell? ⟨w.heap.size, 0, none⟩ = some (.int .i64 c) ∧ w2.cell? ⟨w.heap.size, 1, none⟩ = some (.int .i64 h) ∧ w2.cell? ⟨w.heap.size, 2, none⟩ = some (.int .i64 n) ∧ w2.cell? ⟨w.heap.size, 3, none⟩ = some (.int .i64 z) := KS.out _ (Below.refl _ _)))
      go_region_held3 (fun w' => w'.cell? ⟨w.heap.size, 0, none⟩ = some (.int .i64 c) ∧ w'.cell? ⟨w.heap.size, 1, none⟩ = some (.int .i64 h) ∧ w'.cell? ⟨w.heap.size, 2, none⟩ = some (.int .i64 n) ∧ w'.cell? ⟨w.heap.size, 3, none⟩ = some (.int .i64 z))
        (first | (with_reducible exact KS.out _ HC.out) | go_keep)
        (first | (go_at_call 38; first | ((with_reducible refine (HB1.out _).mono ?_); rintro e w3 ⟨rfl, hb3⟩; replace HC := Lib.hid (HC.out.trans (hb3.mono HC.out.size))) | ((with_reducible refine (HB2.out _).mono ?_); rintro e w3 ⟨rfl, hb3⟩; replace HC := Lib.hid (HC.out.trans (hb3.mono HC.out.size))) | ((with_reducible refine (HB3.out _).mono ?_); rintro e w3 ⟨rfl, hb3⟩; replace HC := Lib.hid (HC.out.trans (hb3.mono HC.out.size))) | ((with_reducible refine (HB4.out _).mono ?_); rintro e w3 ⟨rfl, hb3⟩; replace HC := Lib.hid (HC.out.trans (hb3.mono HC.out.size)))) | fail)
      all_goals
        have hcc := HB12.out.trans (HC.out.mono HB12.out.size)
        have y6 := (HX.out.below hcc hlt) 6 _ rfl
        have hww := hW0.trans (hcc.mono (Nat.le_of_lt hlt))
        clear hks
        go_wp2_with (go_at_call 43; refine (HWC.out _ hww).mono ?_; rintro e w5 ⟨rfl, hb5⟩)
        go_ret2
        exact ⟨rfl, hww.trans (hb5.mono hww.size)⟩
    · have hs0 : secB c h n z d = false := by simpa using hs
      rw [hs0] at HS
      have ho : fldOk f c h n z d = false := fldOk_no2 hs0
      have e : idV f c h n z d bi = ⟨#[]⟩ := by unfold idV; rw [if_neg (by simp [ho])]
      rw [e, ho]
      clear e ho hs hs0
      go_enter Tryd.func15, Tryd.ntmps15
      go_wp2_with (first | (go_at_call 41; refine (HF.out _).mono ?_; rintro e w1 ⟨rfl, hb1⟩; have BX1 := HX.out.below hb1 hlt; have x0 := BX1 0 _ rfl; have x1 := BX1 1 _ rfl; have x2 := BX1 2 _ rfl; have x3 := BX1 3 _ rfl; have x4 := BX1 4 _ rfl; have x5 := BX1 5 _ rfl; have x6 := BX1 6 _ rfl; have x7 := BX1 7 _ rfl) | (go_at_call 42; refine (HS.out _).mono ?_; rintro e w2 ⟨rfl, hb2⟩))
      go_ret2
      exact ⟨rfl, hW0.trans ((hb1.trans (hb2.mono hb1.size)).mono (Nat.le_of_lt hlt))⟩
  · have hf0 : inB 1 3 f = false := by simpa using hf
    rw [hf0] at HF
    have ho : fldOk f c h n z d = false := fldOk_no1 hf0
    have e : idV f c h n z d bi = ⟨#[]⟩ := by unfold idV; rw [if_neg (by simp [ho])]
    rw [e, ho]
    clear e ho hf hf0
    go_enter Tryd.func15, Tryd.ntmps15
    go_wp2_with (first | (go_at_call 41; refine (HF.out _).mono ?_; rintro e w1 ⟨rfl, hb1⟩))
    go_ret2
    exact ⟨rfl, hW0.trans (hb1.mono (Nat.le_of_lt hlt))⟩
set_option maxHeartbeats 8000000 in
theorem dataField_any (f c h n z : Int) (d : ByteArray) (de bi bd : Bool) (w : World) (hd : d.size ≤ maxLen) (ht : SecTabs w) :
    Calls Tryd.prog 17 #[.int .i64 f, secV c h n z d de bi bd] w fun e w' => e = .returned (.tuple #[.string (datV f c h n z d de bd), .bool (fldOk f c h n z d)]) ∧ Below w.heap.size w w' := by
  have HF := Lib.hid (fun w => isFormat_any f w)
  have HS := Lib.hid (fun w' => validSector_any c h n z d de bi bd w' hd)
  unfold secV at HS
  have hbx := BoxAt.new w #[.int .i64 c, .int .i64 h, .int .i64 n, .int .i64 z, .string d, .bool de, .bool bi, .bool bd] 29 _ rfl
  have hW0 : Below w.heap.size w (w.alloc (.cells #[.int .i64 c, .int .i64 h, .int .i64 n, .int .i64 z, .string d, .bool de, .bool bi, .bool bd] 29)) := (Below.refl _ _).alloc (Nat.le_refl _) _
  have hlt : w.heap.size < (w.alloc (.cells #[.int .i64 c, .int .i64 h, .int .i64 n, .int .i64 z, .string d, .bool de, .bool bi, .bool bd] 29)).heap.size := by simp
  obtain ⟨W1, hW1⟩ : ∃ W1, w.alloc (.cells #[.int .i64 c, .int .i64 h, .int .i64 n, .int .i64 z, .string d, .bool de, .bool bi, .bool bd] 29) = W1 := ⟨_, rfl⟩
  rw [hW1] at hbx hW0 hlt
  unfold secV
  have HX := Lib.hid hbx; clear hbx
  by_cases hf : inB 1 3 f = true
  · rw [hf] at HF
    by_cases hs : secB c h n z d = true
    · rw [hs] at HS
      have ho := fldOk_yes hf hs
      have e : datV f c h n z d de bd = datT f d de bd := by unfold datV; rw [if_pos ho]
      rw [e, ho]
      obtain ⟨⟨c0, c1⟩, ⟨h0, h1⟩, ⟨n0, n1⟩, ⟨z0, z1⟩, hd32⟩ := secB_bd hs
      clear e ho
      have HDK := Lib.hid (fun w' => dataKind_any c h n z d de bi bd w')
      have HWC := Lib.hid (fun w' (hb : Below w.heap.size w w') => withChecksum_any f (dataK de) d bd w' (markOk_data de hf) (by omega) (ht.below hb))
      unfold datT
      generalize sumS (prefS f (dataK de)) d bd = r at *
      generalize dataK de = k at *
      clear hf hs hd ht
      go_enter Tryd.func17, Tryd.ntmps17
      go_wp2_with (first | (go_at_call 41; refine (HF.out _).mono ?_; rintro e w1 ⟨rfl, hb1⟩; have BX1 := HX.out.below hb1 hlt; have x0 := BX1 0 _ rfl; have x1 := BX1 1 _ rfl; have x2 := BX1 2 _ rfl; have x3 := BX1 3 _ rfl; have x4 := BX1 4 _ rfl; have x5 := BX1 5 _ rfl; have x6 := BX1 6 _ rfl; have x7 := BX1 7 _ rfl) | (go_at_call 42; refine (HS.out _).mono ?_; rintro e w2 ⟨rfl, hb2⟩; have HB12 := Lib.hid (hb1.trans (hb2.mono hb1.size)); clear x0 x1 x2 x3 x4 x5 x6 x7 BX1; have KS := Lib.hid (fun w' (hb : Below w2.heap.size w2 w') => (show w'.cell? ⟨w.heap.size, 0, none⟩ = some (.int .i64 c) ∧ w'.cell? ⟨w.heap.size, 1, none⟩ = some (.int .i64 h) ∧ w'.cell? ⟨w.heap.size, 2, none⟩ = some (.int .i64 n) ∧ w'.cell? ⟨w.heap.size, 3, none⟩ = some (.int .i64 z) ∧ w'.cell? ⟨w.heap.size, 4, none⟩ = some (.string d) ∧ w'.cell? ⟨w.heap.size, 5, none⟩ = some (.bool de) ∧ w'.cell? ⟨w.heap.size, 6, none⟩ = some (.bool bi) ∧ w'.cell? ⟨w.heap.size, 7, none⟩ = some (.bool bd) from ⟨(HX.out.below (HB12.out.trans (hb.mono HB12.out.size)) hlt) 0 _ rfl, (HX.out.below (HB12.out.trans (hb.mono HB12.out.size)) hlt) 1 _ rfl, (HX.out.below (HB12.out.trans (hb.mono HB12.out.size)) hlt) 2 _ rfl, (HX.out.below (HB12.out.trans (hb.mono HB12.out.size)) hlt) 3 _ rfl, (HX.out.below (HB12.out.trans (hb.mono HB12.out.size)) hlt) 4 _ rfl, (HX.out.below (HB12.out.trans (hb.mono HB12.out.size)) hlt) 5 _ rfl, (HX.out.below (HB12.out.trans (hb.mono HB12.out.size)) hlt) 6 _ rfl, (HX.out.below (HB12.out.trans (hb.mono HB12.out.size)) hlt) 7 _ rfl⟩)); have HC := Lib.hid (show Below w2.heap.size w2 w2.drew from (Below.refl _ _).drew); have HWW := Lib.hid (fun w' (hb : Below w2.heap.size w2 w') => (show Below w.heap.size w w' from hW0.trans ((HB12.out.trans (hb.mono HB12.out.size)).mono (Nat.le_of_lt hlt)))); have hks : w2.cell? ⟨w.heap.size, 0, none⟩ = some (.int .i64 c) ∧ w2.cell? ⟨w.heap.size, 1, none⟩ = some (.int .i64 h) ∧ w2.cell? ⟨w.heap.size, 2, none⟩ = some (.int .i64 n) ∧ w2.cell? ⟨w.heap.size, 3, none⟩ = some (.int .i64 z) ∧ w2.cell? ⟨w.heap.size, 4, none⟩ = some (.string d) ∧ w2.cell? ⟨w.heap.size, 5, none⟩ = some (.bool de) ∧ w2.cell? ⟨w.heap.size, 6, none⟩ = some (.bool bi) ∧ w2.cell? ⟨w.heap.size, 7, none⟩ = some (.bool bd) := KS.out _ (Below.refl _ _)))
      go_region_held3 (fun w' => w'.cell? ⟨w.heap.size, 0, none⟩ = some (.int .i64 c) ∧ w'.cell? ⟨w.heap.size, 1, none⟩ = some (.int .i64 h) ∧ w'.cell? ⟨w.heap.size, 2, none⟩ = some (.int .i64 n) ∧ w'.cell? ⟨w.heap.size, 3, none⟩ = some (.int .i64 z) ∧ w'.cell? ⟨w.heap.size, 4, none⟩ = some (.string d) ∧ w'.cell? ⟨w.heap.size, 5, none⟩ = some (.bool de) ∧ w'.cell? ⟨w.heap.size, 6, none⟩ = some (.bool bi) ∧ w'.cell? ⟨w.heap.size, 7, none⟩ = some (.bool bd))
        (first | (with_reducible exact KS.out _ HC.out) | go_keep)
        (first | (go_at_call 45; refine (HDK.out _).mono ?_; rintro e w3 ⟨rfl, hb3⟩; replace HC := Lib.hid (HC.out.trans (hb3.mono HC.out.size))) | (go_at_call 43; refine (HWC.out _ (HWW.out _ HC.out)).mono ?_; rintro e w4 ⟨rfl, hb4⟩; replace HC := Lib.hid (HC.out.trans (hb4.mono HC.out.size))) | fail)
      all_goals
        go_wp2
        go_ret2
        exact ⟨rfl, HWW.out _ HC.out⟩
    · have hs0 : secB c h n z d = false := by simpa using hs
      rw [hs0] at HS
      have ho : fldOk f c h n z d = false := fldOk_no2 hs0
      have e : datV f c h n z d de bd = ⟨#[]⟩ := by unfold datV; rw [if_neg (by simp [ho])]
      rw [e, ho]
      clear e ho hs hs0
      go_enter Tryd.func17, Tryd.ntmps17
      go_wp2_with (first | (go_at_call 41; refine (HF.out _).mono ?_; rintro e w1 ⟨rfl, hb1⟩; have BX1 := HX.out.below hb1 hlt; have x0 := BX1 0 _ rfl; have x1 := BX1 1 _ rfl; have x2 := BX1 2 _ rfl; have x3 := BX1 3 _ rfl; have x4 := BX1 4 _ rfl; have x5 := BX1 5 _ rfl; have x6 := BX1 6 _ rfl; have x7 := BX1 7 _ rfl) | (go_at_call 42; refine (HS.out _).mono ?_; rintro e w2 ⟨rfl, hb2⟩))
      go_ret2
      exact ⟨rfl, hW0.trans ((hb1.trans (hb2.mono hb1.size)).mono (Nat.le_of_lt hlt))⟩
  · have hf0 : inB 1 3 f = false := by simpa using hf
    rw [hf0] at HF
    have ho : fldOk f c h n z d = false := fldOk_no1 hf0
    have e : datV f c h n z d de bd = ⟨#[]⟩ := by unfold datV; rw [if_neg (by simp [ho])]
    rw [e, ho]
    clear e ho hf hf0
    go_enter Tryd.func17, Tryd.ntmps17
    go_wp2_with (first | (go_at_call 41; refine (HF.out _).mono ?_; rintro e w1 ⟨rfl, hb1⟩))
    go_ret2
    exact ⟨rfl, hW0.trans (hb1.mono (Nat.le_of_lt hlt))⟩
end Go.Proofs.YtffefhgemmjkoaaDoor
