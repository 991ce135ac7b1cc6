/- spec.l08Id, spec.l08Kind, spec.l08Data, spec.IdField, spec.DataField -/
import Derived.Test.YtffefhgemmjkoaaDoorSumOf2
import Derived.Test.YtffefhgemmjkoaaDoorSpecSector
import Derived.StillTailTactics
namespace Go.Proofs.YtffefhgemmjkoaaDoor
open Go.RowKit
set_option maxRecDepth 20000
set_option linter.unusedVariables false
def idB (c h n z : Int) : ByteArray := byteS c.toNat ++ byteS h.toNat ++ byteS n.toNat ++ byteS z.toNat
theorem idB_eq (c h n z : Int) : (⟨#[c.toNat.toUInt8, h.toNat.toUInt8, n.toNat.toUInt8, z.toNat.toUInt8]⟩ : ByteArray) = idB c h n z := by
  unfold idB byteS
  have e : ∀ x y : List UInt8, (ByteArray.mk x.toArray ++ ByteArray.mk y.toArray) = ByteArray.mk (x ++ y).toArray := ByteArray.mk_append_mk
  have h1 := e [c.toNat.toUInt8] [h.toNat.toUInt8]
  have h2 := e ([c.toNat.toUInt8] ++ [h.toNat.toUInt8]) [n.toNat.toUInt8]
  have h3 := e (([c.toNat.toUInt8] ++ [h.toNat.toUInt8]) ++ [n.toNat.toUInt8]) [z.toNat.toUInt8]
  show _ = ByteArray.mk [c.toNat.toUInt8].toArray ++ ByteArray.mk [h.toNat.toUInt8].toArray ++ ByteArray.mk [n.toNat.toUInt8].toArray ++ ByteArray.mk [z.toNat.toUInt8].toArray
  rw [h1, h2, h3]
  rfl
theorem idB_size (c h n z : Int) : (idB c h n z).size = 4 := by rw [← idB_eq]; rfl
def fldOk (f c h n z : Int) (d : ByteArray) : Bool := inB 1 3 f && secB c h n z d
def idT (f c h n z : Int) (bi : Bool) : ByteArray := sumS (prefS f 1) (idB c h n z) bi
def idV (f c h n z : Int) (d : ByteArray) (bi : Bool) : ByteArray := if fldOk f c h n z d = true then idT f c h n z bi else ⟨#[]⟩
def dataK (de : Bool) : Int := if de then 3 else 2
def datT (f : Int) (d : ByteArray) (de bd : Bool) : ByteArray := sumS (prefS f (dataK de)) d bd
def datV (f c h n z : Int) (d : ByteArray) (de bd : Bool) : ByteArray := if fldOk f c h n z d = true then datT f d de bd else ⟨#[]⟩
theorem secB_bd {c h n z : Int} {d : ByteArray} (h1 : secB c h n z d = true) : (0 ≤ c ∧ c ≤ 255) ∧ (0 ≤ h ∧ h ≤ 255) ∧ (0 ≤ n ∧ n ≤ 255) ∧ (0 ≤ z ∧ z ≤ 2) ∧ d.size ≤ 32 := by
  unfold secB at h1
  simp only [Bool.and_eq_true, inB_iff, decide_eq_true_eq] at h1
  obtain ⟨⟨⟨a, b⟩, c'⟩, d', e⟩ := h1
  refine ⟨a, b, c', d', ?_⟩
  have : secN z ≤ 32 := by unfold secN; split <;> (try split) <;> omega
  omega
theorem markOk_id {f : Int} (h : inB 1 3 f = true) : markOk f 1 = true := by unfold markOk; rw [h]; rfl
theorem markOk_data {f : Int} (de : Bool) (h : inB 1 3 f = true) : markOk f (dataK de) = true := by unfold markOk; rw [h]; cases de <;> rfl
theorem conv_new4 (W : World) (x y z u : Int) (h1 : 0 ≤ x ∧ x < 256) (h2 : 0 ≤ y ∧ y < 256) (h3 : 0 ≤ z ∧ z < 256) (h4 : 0 ≤ u ∧ u < 256) :
    (convert 34 9 (.slice (some ⟨W.heap.size, 0, none⟩) 4 4)).run Tryd.prog (W.alloc (.cells #[.int .u8 x, .int .u8 y, .int .u8 z, .int .u8 u] 5)) = .ok (.string ⟨#[x.toNat.toUInt8, y.toNat.toUInt8, z.toNat.toUInt8, u.toNat.toUInt8]⟩) (W.alloc (.cells #[.int .u8 x, .int .u8 y, .int .u8 z, .int .u8 u] 5)) := by
  refine conv_of _ _ 4 [x.toNat.toUInt8, y.toNat.toUInt8, z.toNat.toUInt8, u.toNat.toUInt8] ?_
  intro j hj
  have e := add0 W.heap.size j
  have hx : x.toNat % 256 = x.toNat := Nat.mod_eq_of_lt (by omega)
  have hy : y.toNat % 256 = y.toNat := Nat.mod_eq_of_lt (by omega)
  have hz : z.toNat % 256 = z.toNat := Nat.mod_eq_of_lt (by omega)
  have hu : u.toNat % 256 = u.toNat := Nat.mod_eq_of_lt (by omega)
  match j, hj with
  | 0, _ => rw [e]; simp [go_sem, hx]; omega
  | 1, _ => rw [e]; simp [go_sem, hy]; omega
  | 2, _ => rw [e]; simp [go_sem, hz]; omega
  | 3, _ => rw [e]; simp [go_sem, hu]; omega
  | j + 4, hj => exact absurd (show j + 4 < 4 from hj) (by omega)
set_option maxHeartbeats 8000000 in
theorem l08Id_any (f c h n z : Int) (d : ByteArray) (de bi bd : Bool) (p : Nat) (w : World) (hf : inB 1 3 f = true) (hs : secB c h n z d = true) (hp : SecAt w p c h n z d de bi bd) :
    Calls Tryd.prog 40 #[.int .i64 f, .pointer (some ⟨p, 0, none⟩)] w fun e w' => e = .returned (.string (idT f c h n z bi)) ∧ Below w.heap.size w w' := by
  obtain ⟨⟨c0, c1⟩, ⟨h0, h1⟩, ⟨n0, n1⟩, ⟨z0, z1⟩, hd⟩ := secB_bd hs
  have hlt := hp.lt (Nat.zero_lt_succ 7)
  have x0 := hp 0 _ rfl
  have x1 := hp 1 _ rfl
  have x2 := hp 2 _ rfl
  have x3 := hp 3 _ rfl
  have hcv : ∀ W : World, (convert 34 9 (.slice (some ⟨W.heap.size, 0, none⟩) 4 4)).run Tryd.prog (W.alloc (.cells #[.int .u8 c, .int .u8 h, .int .u8 n, .int .u8 z] 5)) = .ok (.string (idB c h n z)) (W.alloc (.cells #[.int .u8 c, .int .u8 h, .int .u8 n, .int .u8 z] 5)) := fun W => by
    have hh := conv_new4 W c h n z (by omega) (by omega) (by omega) (by omega)
    rw [idB_eq] at hh
    exact hh
  have HPF := Lib.hid (fun w => l08Prefix_any f 1 w (markOk_id hf))
  have HSM := Lib.hid (fun w => l08Sum_any (prefS f 1) (idB c h n z) bi w (by have := prefS_size f 1; omega) (by rw [idB_size]; omega))
  unfold idT
  generalize sumS (prefS f 1) (idB c h n z) bi = r at *
  generalize prefS f 1 = pr at *
  generalize idB c h n z = ib at *
  clear hf hs hd
  go_enter Tryd.func40, Tryd.ntmps40
  go_wp2
  go_still_tail 20, (by kernel_rfl)
  change wpList _ _ _ _ _ w.drew
  have hb0 : Below w.heap.size w w.drew := (Below.refl _ _).drew
  have hcv1 := hcv w.drew
  clear hcv
  have HP := Lib.hid hp; clear hp x0 x1 x2 x3
  generalize w.drew = W at *
  have hz0 := hb0.size
  have hb1 := hb0.alloc hz0 (.cells #[.int .u8 c, .int .u8 h, .int .u8 n, .int .u8 z] 5)
  obtain ⟨W1, hW1⟩ : ∃ W1, W.alloc (.cells #[.int .u8 c, .int .u8 h, .int .u8 n, .int .u8 z] 5) = W1 := ⟨_, rfl⟩
  rw [hW1] at hcv1 hb1
  have KS := Lib.hid (fun w' (hb : Below W1.heap.size W1 w') => (show w'.cell? ⟨p, 6, none⟩ = some (.bool bi) from (HP.out.below (hb1.trans (hb.mono hb1.size)) hlt) 6 _ rfl))
  have HC := Lib.hid (show Below W1.heap.size W1 W1.drew from (Below.refl _ _).drew)
  have hks : W1.cell? ⟨p, 6, none⟩ = some (.bool bi) := KS.out _ (Below.refl _ _)
  have HB1 := Lib.hid hb1; clear hb1 hb0
  go_wp2
  go_region_held3 (fun w' => w'.cell? ⟨p, 6, none⟩ = some (.bool bi))
    (first | (with_reducible exact KS.out _ HC.out) | go_keep)
    (first | (go_at_call 87; refine (HPF.out _).mono ?_; rintro e w1 ⟨rfl, hb1⟩; replace HC := Lib.hid (HC.out.trans (hb1.mono HC.out.size))) | (go_at_call 86; refine (HSM.out _).mono ?_; rintro e w2 ⟨rfl, hb2⟩; replace HC := Lib.hid (HC.out.trans (hb2.mono HC.out.size))) | fail)
  all_goals
    go_wp2
    go_ret
    exact ⟨rfl, HB1.out.trans (HC.out.mono HB1.out.size)⟩
set_option maxHeartbeats 1000000 in
theorem l08Kind_any (c h n z : Int) (d : ByteArray) (de bi bd : Bool) (p : Nat) (w : World) (hp : SecAt w p c h n z d de bi bd) :
    Calls Tryd.prog 92 #[.pointer (some ⟨p, 0, none⟩)] w fun e w' => e = .returned (.int .i64 (dataK de)) ∧ Below w.heap.size w w' := by
  have x5 := hp 5 _ rfl
  clear hp
  cases de <;>
  · go_enter Tryd.func92, Tryd.ntmps92
    go_wp2
    go_ret
    exact ⟨rfl, Below.refl _ _⟩
set_option maxHeartbeats 8000000 in
theorem l08Data_any (f c h n z : Int) (d : ByteArray) (de bi bd : Bool) (p : Nat) (w : World) (hf : inB 1 3 f = true) (hs : secB c h n z d = true) (hp : SecAt w p c h n z d de bi bd) :
    Calls Tryd.prog 44 #[.int .i64 f, .pointer (some ⟨p, 0, none⟩)] w fun e w' => e = .returned (.string (datT f d de bd)) ∧ Below w.heap.size w w' := by
  obtain ⟨_, _, _, _, hd⟩ := secB_bd hs
  have hlt := hp.lt (Nat.zero_lt_succ 7)
  have HK := Lib.hid (fun w' (hb : Below w.heap.size w w') => l08Kind_any c h n z d de bi bd p w' (hp.below hb hlt))
  have HPF := Lib.hid (fun w => l08Prefix_any f (dataK de) w (markOk_data de hf))
  have HSM := Lib.hid (fun w => l08Sum_any (prefS f (dataK de)) d bd w (by have := prefS_size f (dataK de); omega) (by omega))
  have KS := Lib.hid (fun w' (hb : Below w.heap.size w w') => (show w'.cell? ⟨p, 4, none⟩ = some (.string d) ∧ w'.cell? ⟨p, 7, none⟩ = some (.bool bd) from ⟨(hp.below hb hlt) 4 _ rfl, (hp.below hb hlt) 7 _ rfl⟩))
  have HC := Lib.hid (show Below w.heap.size w w.drew from (Below.refl _ _).drew)
  have hks : w.cell? ⟨p, 4, none⟩ = some (.string d) ∧ w.cell? ⟨p, 7, none⟩ = some (.bool bd) := KS.out _ (Below.refl _ _)
  unfold datT
  generalize sumS (prefS f (dataK de)) d bd = r at *
  generalize prefS f (dataK de) = pr at *
  generalize dataK de = k at *
  clear hf hs hd hp
  go_enter Tryd.func44, Tryd.ntmps44
  go_wp2
  go_region_held3 (fun w' => w'.cell? ⟨p, 4, none⟩ = some (.string d) ∧ w'.cell? ⟨p, 7, none⟩ = some (.bool bd))
    (first | (with_reducible exact KS.out _ HC.out) | go_keep)
    (first | (go_at_call 92; refine (HK.out _ HC.out).mono ?_; rintro e w0 ⟨rfl, hb0⟩; replace HC := Lib.hid (HC.out.trans (hb0.mono HC.out.size))) | (go_at_call 87; refine (HPF.out _).mono ?_; rintro e w1 ⟨rfl, hb1⟩; replace HC := Lib.hid (HC.out.trans (hb1.mono HC.out.size))) | (go_at_call 86; refine (HSM.out _).mono ?_; rintro e w2 ⟨rfl, hb2⟩; replace HC := Lib.hid (HC.out.trans (hb2.mono HC.out.size))) | fail)
  all_goals
    go_wp2
    go_ret
    exact ⟨rfl, HC.out⟩
theorem fldOk_no1 {f c h n z : Int} {d : ByteArray} (hf : inB 1 3 f = false) : fldOk f c h n z d = false := by unfold fldOk; rw [hf]; rfl
theorem fldOk_no2 {f c h n z : Int} {d : ByteArray} (hs : secB c h n z d = false) : fldOk f c h n z d = false := by unfold fldOk; rw [hs]; simp
theorem fldOk_yes {f c h n z : Int} {d : ByteArray} (hf : inB 1 3 f = true) (hs : secB c h n z d = true) : fldOk f c h n z d = true := by unfold fldOk; rw [hf, hs]; rfl
set_option maxHeartbeats 4000000 in
theorem specIdField_any (f c h n z : Int) (d : ByteArray) (de bi bd : Bool) (w : World) (hd : d.size ≤ maxLen) :
    Calls Tryd.prog 13 #[.int .i64 f, secV c h n z d de bi bd] w fun e w' => e = .returned (.tuple #[.string (idV f c h n z d bi), .bool (fldOk f c h n z d)]) ∧ Below w.heap.size w w' := by
  have HF := Lib.hid (fun w => l07Format_any f w)
  have HS := Lib.hid (fun p w hp => l08Sector_any c h n z d de bi bd p w hd hp)
  have hbx := BoxAt.new w #[.int .i64 c, .int .i64 h, .int .i64 n, .int .i64 z, .string d, .bool de, .bool bi, .bool bd] 29 _ rfl
  have hW0 : Below w.heap.size w (w.alloc (.cells #[.int .i64 c, .int .i64 h, .int .i64 n, .int .i64 z, .string d, .bool de, .bool bi, .bool bd] 29)) := (Below.refl _ _).alloc (Nat.le_refl _) _
  have hlt : w.heap.size < (w.alloc (.cells #[.int .i64 c, .int .i64 h, .int .i64 n, .int .i64 z, .string d, .bool de, .bool bi, .bool bd] 29)).heap.size := by simp
  obtain ⟨W1, hW1⟩ : ∃ W1, w.alloc (.cells #[.int .i64 c, .int .i64 h, .int .i64 n, .int .i64 z, .string d, .bool de, .bool bi, .bool bd] 29) = W1 := ⟨_, rfl⟩
  rw [hW1] at hbx hW0 hlt
  unfold secV
  have HX := Lib.hid hbx; clear hbx
  by_cases hf : inB 1 3 f = true
  · rw [hf] at HF
    by_cases hs : secB c h n z d = true
    · rw [hs] at HS
      have ho := fldOk_yes hf hs
      have e : idV f c h n z d bi = idT f c h n z bi := by unfold idV; rw [if_pos ho]
      rw [e, ho]
      have HI := Lib.hid (fun w' hp => l08Id_any f c h n z d de bi bd w.heap.size w' hf hs hp)
      clear e ho
      go_enter Tryd.func13, Tryd.ntmps13
      go_wp2_with (first | (go_at_call 30; refine (HF.out _).mono ?_; rintro e w1 ⟨rfl, rfl⟩) | (go_at_call 39; refine (HS.out _ _ HX.out).mono ?_; rintro e w2 ⟨rfl, hb2⟩; have HY := Lib.hid (HX.out.below hb2 hlt)) | (go_at_call 40; refine (HI.out _ HY.out).mono ?_; rintro e w3 ⟨rfl, hb3⟩))
      go_ret2
      exact ⟨rfl, hW0.trans ((hb2.trans (hb3.mono hb2.size)).mono (Nat.le_of_lt hlt))⟩
    · have hs0 : secB c h n z d = false := by simpa using hs
      rw [hs0] at HS
      have ho : fldOk f c h n z d = false := fldOk_no2 hs0
      have e : idV f c h n z d bi = ⟨#[]⟩ := by unfold idV; rw [if_neg (by simp [ho])]
      rw [e, ho]
      clear e ho hs hs0
      go_enter Tryd.func13, Tryd.ntmps13
      go_wp2_with (first | (go_at_call 30; refine (HF.out _).mono ?_; rintro e w1 ⟨rfl, rfl⟩) | (go_at_call 39; refine (HS.out _ _ HX.out).mono ?_; rintro e w2 ⟨rfl, hb2⟩))
      go_ret2
      exact ⟨rfl, hW0.trans (hb2.mono (Nat.le_of_lt hlt))⟩
  · have hf0 : inB 1 3 f = false := by simpa using hf
    rw [hf0] at HF
    have ho : fldOk f c h n z d = false := fldOk_no1 hf0
    have e : idV f c h n z d bi = ⟨#[]⟩ := by unfold idV; rw [if_neg (by simp [ho])]
    rw [e, ho]
    clear e ho hf hf0
    go_enter Tryd.func13, Tryd.ntmps13
    go_wp2_with (first | (go_at_call 30; refine (HF.out _).mono ?_; rintro e w1 ⟨rfl, rfl⟩))
    go_ret2
    exact ⟨rfl, hW0⟩
set_option maxHeartbeats 4000000 in
theorem specDataField_any (f c h n z : Int) (d : ByteArray) (de bi bd : Bool) (w : World) (hd : d.size ≤ maxLen) :
    Calls Tryd.prog 16 #[.int .i64 f, secV c h n z d de bi bd] w fun e w' => e = .returned (.tuple #[.string (datV f c h n z d de bd), .bool (fldOk f c h n z d)]) ∧ Below w.heap.size w w' := by
  have HF := Lib.hid (fun w => l07Format_any f w)
  have HS := Lib.hid (fun p w hp => l08Sector_any c h n z d de bi bd p w hd hp)
  have hbx := BoxAt.new w #[.int .i64 c, .int .i64 h, .int .i64 n, .int .i64 z, .string d, .bool de, .bool bi, .bool bd] 29 _ rfl
  have hW0 : Below w.heap.size w (w.alloc (.cells #[.int .i64 c, .int .i64 h, .int .i64 n, .int .i64 z, .string d, .bool de, .bool bi, .bool bd] 29)) := (Below.refl _ _).alloc (Nat.le_refl _) _
  have hlt : w.heap.size < (w.alloc (.cells #[.int .i64 c, .int .i64 h, .int .i64 n, .int .i64 z, .string d, .bool de, .bool bi, .bool bd] 29)).heap.size := by simp
  obtain ⟨W1, hW1⟩ : ∃ W1, w.alloc (.cells #[.int .i64 c, .int .i64 h, .int .i64 n, .int .i64 z, .string d, .bool de, .bool bi, .bool bd] 29) = W1 := ⟨_, rfl⟩
  rw [hW1] at hbx hW0 hlt
  unfold secV
  have HX := Lib.hid hbx; clear hbx
  by_cases hf : inB 1 3 f = true
  · rw [hf] at HF
    by_cases hs : secB c h n z d = true
    · rw [hs] at HS
      have ho := fldOk_yes hf hs
      have e : datV f c h n z d de bd = datT f d de bd := by unfold datV; rw [if_pos ho]
      rw [e, ho]
      have HI := Lib.hid (fun w' hp => l08Data_any f c h n z d de bi bd w.heap.size w' hf hs hp)
      clear e ho
      go_enter Tryd.func16, Tryd.ntmps16
      go_wp2_with (first | (go_at_call 30; refine (HF.out _).mono ?_; rintro e w1 ⟨rfl, rfl⟩) | (go_at_call 39; refine (HS.out _ _ HX.out).mono ?_; rintro e w2 ⟨rfl, hb2⟩; have HY := Lib.hid (HX.out.below hb2 hlt)) | (go_at_call 44; refine (HI.out _ HY.out).mono ?_; rintro e w3 ⟨rfl, hb3⟩))
      go_ret2
      exact ⟨rfl, hW0.trans ((hb2.trans (hb3.mono hb2.size)).mono (Nat.le_of_lt hlt))⟩
    · have hs0 : secB c h n z d = false := by simpa using hs
      rw [hs0] at HS
      have ho : fldOk f c h n z d = false := fldOk_no2 hs0
      have e : datV f c h n z d de bd = ⟨#[]⟩ := by unfold datV; rw [if_neg (by simp [ho])]
      rw [e, ho]
      clear e ho hs hs0
      go_enter Tryd.func16, Tryd.ntmps16
      go_wp2_with (first | (go_at_call 30; refine (HF.out _).mono ?_; rintro e w1 ⟨rfl, rfl⟩) | (go_at_call 39; refine (HS.out _ _ HX.out).mono ?_; rintro e w2 ⟨rfl, hb2⟩))
      go_ret2
      exact ⟨rfl, hW0.trans (hb2.mono (Nat.le_of_lt hlt))⟩
  · have hf0 : inB 1 3 f = false := by simpa using hf
    rw [hf0] at HF
    have ho : fldOk f c h n z d = false := fldOk_no1 hf0
    have e : datV f c h n z d de bd = ⟨#[]⟩ := by unfold datV; rw [if_neg (by simp [ho])]
    rw [e, ho]
    clear e ho hf hf0
    go_enter Tryd.func16, Tryd.ntmps16
    go_wp2_with (first | (go_at_call 30; refine (HF.out _).mono ?_; rintro e w1 ⟨rfl, rfl⟩))
    go_ret2
    exact ⟨rfl, hW0⟩
end Go.Proofs.YtffefhgemmjkoaaDoor
