/- spec.l16Bytes -/
import Derived.Test.YtpdodpnhohmjaaaGreatDoorPkGoneBlocksD
import Derived.Test.YtpdodpnhohmjaaaGreatDoorPkGoneBlocksE
import Derived.Test.YtpdodpnhohmjaaaGreatDoorPkGoneBlocksApplyVal
import Derived.Deep.DeepCutAuto
import Derived.Deep.RegionLaw
namespace Go.Proofs.YtpdodpnhohmjaaaGreatDoor
open Go.RowKit
set_option maxRecDepth 20000
set_option linter.unusedVariables false
set_option linter.unusedSimpArgs false
set_option maxRecDepth 20000
theorem sizeU8d (w : World) : (Go.sizeOf 5).run Tryz.prog w = .ok 1 w := by
  obtain ⟨i0, hi, hz0, hz1, hz2⟩ := info_parts u8info
  simp [Go.sizeOf, typeInfo, hi, hz1]
section
variable {ops : Array Oper} {o : Oper} {a : Act} {Q : Exit → Act → World → Prop} {w : World}
/-- A copy of a string into own bytes, in a plain region. -/
theorem wpList_copyS {rest : List Oper} (hgd : o.guard = none) (d x : Operand) (hop : o.op = Op.call { callee := Callee.builtin Builtin.copy, args := #[d, x], argTypes := #[41, 9] })
    (b off dLen dCap : Nat) (hd : a.eval d = .slice (some ⟨b, off, none⟩) dLen dCap) (t : ByteArray) (hx : a.eval x = .string t) (hle : t.size ≤ dLen)
    (hc : ∀ j, j < t.size → (w.cell? ⟨b, off + j, none⟩).isSome = true) (hf : ∀ j, j < t.size → w.frozen? ⟨b, off + j, none⟩ = false)
    (h : wpList Tryz.prog ops Q rest (a.put o.dst (goInt t.size)) (w.setCells b off (t.data.toList.map fun x => Value.int .u8 (x.toNat : Int)))) : wpList Tryz.prog ops Q (o :: rest) a w := by
  refine wpList_plain hgd fun K hK => ?_
  have hrun := run_copy_string (P := Tryz.prog) w 41 9 o.type 5 b off dLen dCap t Tryz.underlying41 sizeU8d hle hc hf
  unfold Oper.wp
  simp [execOp, hop, resolve, invoke, builtin, hd, hx, hrun, Result.andThen]
  exact hK _ _ h
end
def RB (w : World) (g : Nat) (l : List UInt8) : Prop := ∃ C, w.heap[g]? = some (.cells C 5 (0, 0)) ∧ RowB C l 12
theorem RB.cell {w : World} {g : Nat} {l : List UInt8} (h : RB w g l) (k : Nat) (hk : k < l.length) : w.cell? ⟨g, k, none⟩ = some (.int .u8 (l[k].toNat : Int)) ∧ w.frozen? ⟨g, k, none⟩ = false := by
  obtain ⟨C, hC, hr⟩ := h
  exact ⟨hr.cell hC k hk, by simp [World.frozen?, hC]⟩
theorem RB.put {w : World} {g : Nat} {l : List UInt8} (h : RB w g l) (k : Nat) (hk : k < l.length) (x : UInt8) (v : Int) (hv : v = (x.toNat : Int)) : RB (w.setCell ⟨g, k, none⟩ (.int .u8 v)) g (l.set k x) := by
  subst hv
  obtain ⟨C, hC, hr⟩ := h
  exact ⟨_, heap_set_marked w g k C _ _ _ hC, hr.set k x hk⟩
theorem RB.below {w w' : World} {g B : Nat} {l : List UInt8} (h : RB w g l) (hb : Below B w w') (hg : g < B) : RB w' g l := by
  obtain ⟨C, hC, hr⟩ := h
  exact ⟨C, by rw [hb.block g hg]; exact hC, hr⟩
theorem RB.lt {w : World} {g : Nat} {l : List UInt8} (h : RB w g l) : g < w.heap.size := by
  obtain ⟨C, hC, hr⟩ := h
  exact (Array.getElem?_eq_some_iff.1 hC).1
theorem RB.made (w : World) : RB (w.alloc (.cells (madeCells #[Value.int .u8 0] 12) 5)) w.heap.size (List.replicate 12 (0 : UInt8)) := by
  refine ⟨_, heap_alloc_new w _, by simp [size_madeCells], by simp, ?_⟩
  intro j hj
  have hj2 : j < 12 := by rw [List.length_replicate] at hj; exact hj
  rw [List.getElem_replicate]
  simp [madeCells, hj2, Nat.mod_one]
theorem RB.copied {w : World} {g : Nat} (h : RB w g (List.replicate 12 (0 : UInt8))) (t : ByteArray) (ht : t.size ≤ 8) :
    RB (w.setCells g 0 (t.data.toList.map fun x => Value.int .u8 (x.toNat : Int))) g (t.data.toList ++ List.replicate (12 - t.size) 0) := by
  obtain ⟨C, hC, hr⟩ := h
  have e : t.data.toList.length = t.size := by simp
  obtain ⟨C', h1, h2⟩ := RowB.setCells t.data.toList 0 C _ w hr hC (by rw [List.length_replicate, e]; omega)
  refine ⟨C', h1, ?_⟩
  rw [e, List.take_zero, List.nil_append, List.drop_replicate] at h2
  simpa using h2
theorem set_tail (nm : List UInt8) (hn : nm.length ≤ 8) (a b c d : UInt8) :
    ((((nm ++ List.replicate (12 - nm.length) 0).set 8 a).set 9 b).set 10 c).set 11 d = nm ++ List.replicate (8 - nm.length) 0 ++ [a, b, c, d] := by
  have e : List.replicate (12 - nm.length) (0 : UInt8) = List.replicate (8 - nm.length) 0 ++ [0, 0, 0, 0] := by
    rw [show ([0, 0, 0, 0] : List UInt8) = List.replicate 4 0 from rfl, List.replicate_append_replicate]
    congr 1
    omega
  have hl : (nm ++ List.replicate (8 - nm.length) (0 : UInt8)).length = 8 := by rw [List.length_append, List.length_replicate]; omega
  rw [e, ← List.append_assoc]
  generalize nm ++ List.replicate (8 - nm.length) (0 : UInt8) = m at *
  match m, hl with
  | [m0, m1, m2, m3, m4, m5, m6, m7], _ => rfl
theorem set_tail0 (nm : List UInt8) (hn : nm.length ≤ 8) (a b c : UInt8) :
    (((nm ++ List.replicate (12 - nm.length) 0).set 8 a).set 9 b).set 10 c = nm ++ List.replicate (8 - nm.length) 0 ++ [a, b, c, 0] := by
  have e : List.replicate (12 - nm.length) (0 : UInt8) = List.replicate (8 - nm.length) 0 ++ [0, 0, 0, 0] := by
    rw [show ([0, 0, 0, 0] : List UInt8) = List.replicate 4 0 from rfl, List.replicate_append_replicate]
    congr 1
    omega
  have hl : (nm ++ List.replicate (8 - nm.length) (0 : UInt8)).length = 8 := by rw [List.length_append, List.length_replicate]; omega
  rw [e, ← List.append_assoc]
  generalize nm ++ List.replicate (8 - nm.length) (0 : UInt8) = m at *
  match m, hl with
  | [m0, m1, m2, m3, m4, m5, m6, m7], _ => rfl
theorem bytesS_len {e : ChainEntryV} (h : e.f0.size ≤ 8) : (bytesS e).length = 12 := by
  unfold bytesS
  have e1 : e.f0.data.toList.length = e.f0.size := by simp
  rw [List.length_append, List.length_append, List.length_replicate, e1]
  simp
  omega
theorem byte_cast (n : Int) (h0 : 0 ≤ n) (h1 : n ≤ 255) : ((n.toNat.toUInt8).toNat : Int) = n := by
  have : n.toNat.toUInt8.toNat = n.toNat % 256 := by simp
  omega
theorem make12 (w : World) : (Instr.makeSlice 41 (.int .i64 12) (.int .i64 12)).run Tryz.prog w = .ok (.slice (some ⟨w.heap.size, 0, none⟩) 12 12) (w.alloc (.cells (madeCells #[Value.int .u8 0] 12) 5)) := by
  obtain ⟨i0, hi, hz0, hz1, hz2⟩ := info_parts u8info
  have h := run_make (P := Tryz.prog) w 41 5 i0 (.int .u8 0) Tryz.underlying41 hi hz0 .i64 .i64 12 12 (by omega) (by omega) (by rw [hz2]; omega) (by omega)
  rw [hz1] at h
  simpa [Value.cells] using h
theorem belowSetd {B b : Nat} {a : World} (hb : B ≤ b) : ∀ (vs : List Value) (o : Nat) (w : World), Below B a w → Below B a (w.setCells b o vs)
  | [], _, _, h => h
  | v :: r, o, w, h => belowSetd hb r (o + 1) _ (h.setCell (by exact hb) v)
def validBd (e : ChainEntryV) : Prop := e.f0.size ≤ 8 ∧ (0 ≤ e.f1 ∧ e.f1 ≤ 255) ∧ (0 ≤ e.f2 ∧ e.f2 ≤ 512)
set_option maxHeartbeats 8000000 in
theorem l16Bytes_any (e : ChainEntryV) (p : Nat) (hv : validBd e) (w : World) (hp : BoxAt w p #[.string e.f0, .int .i64 e.f1, .int .i64 e.f2, .bool e.f3, .bool e.f4]) :
    Calls Tryz.prog 35 #[.pointer (some ⟨p, 0, none⟩)] w fun x w' => ∃ g, x = .returned (.slice (some ⟨g, 0, none⟩) 12 12) ∧ RB w' g (bytesS e) ∧ w.heap.size ≤ g ∧ Below w.heap.size w w' := by
  have hplt := hp.lt (by simp)
  obtain ⟨f0, f1, f2, f3, f4⟩ := e
  obtain ⟨hz, h1, h2⟩ := hv
  dsimp only at *
  have BA := Lib.hid (show Below w.heap.size w (w.alloc (.cells (madeCells #[Value.int .u8 0] 12) 5)) from (Below.refl _ _).alloc (Nat.le_refl _) _)
  have HP := Lib.hid hp
  have R0 := Lib.hid (RB.made w)
  have p0 := hp 0 _ rfl
  have hl0 : f0.data.toList.length = f0.size := by simp
  have HB := Lib.hid (show bytesS ⟨f0, f1, f2, f3, f4⟩ = f0.data.toList ++ List.replicate (8 - f0.data.toList.length) 0 ++ [f1.toNat.toUInt8, (f2 / 256).toNat.toUInt8, (f2 % 256).toNat.toUInt8, (stE ⟨f0, f1, f2, f3, f4⟩).toUInt8] by unfold bytesS; rw [hl0])
  have HST := Lib.hid (show ∀ d, ((((f0.data.toList ++ List.replicate (12 - f0.size) 0).set 8 f1.toNat.toUInt8).set 9 (f2 / 256).toNat.toUInt8).set 10 (f2 % 256).toNat.toUInt8).set 11 d = f0.data.toList ++ List.replicate (8 - f0.data.toList.length) 0 ++ [f1.toNat.toUInt8, (f2 / 256).toNat.toUInt8, (f2 % 256).toNat.toUInt8, d] from fun d => by rw [← hl0]; exact set_tail _ (by omega) _ _ _ _)
  have HS0 := Lib.hid (show ((((f0.data.toList ++ List.replicate (12 - f0.size) 0).set 8 f1.toNat.toUInt8).set 9 (f2 / 256).toNat.toUInt8).set 10 (f2 % 256).toNat.toUInt8) = f0.data.toList ++ List.replicate (8 - f0.data.toList.length) 0 ++ [f1.toNat.toUInt8, (f2 / 256).toNat.toUInt8, (f2 % 256).toNat.toUInt8, 0] from by rw [← hl0]; exact set_tail0 _ (by omega) _ _ _)
  have w1 := byte_cast f1 h1.1 h1.2
  have w2 := byte_cast (f2 / 256) (by omega) (by omega)
  have w3 := byte_cast (f2 % 256) (by omega) (by omega)
  have hmk := fun w => make12 w
  go_enter Tryz.func35, Tryz.ntmps35
  go_upto_region 3 with (refine wpList_copyS rfl _ _ rfl w.heap.size 0 12 12 rfl f0 rfl (by omega) (fun j hj => by rw [Nat.zero_add, (R0.out.cell j (by simp; omega)).1]; rfl) (fun j hj => by rw [Nat.zero_add]; exact (R0.out.cell j (by simp; omega)).2) ?_)
  have R1 := Lib.hid (R0.out.copied f0 hz)
  have F1 := Lib.hid (belowSetd (b := w.heap.size) (Nat.le_refl _) (f0.data.toList.map fun x => Value.int .u8 (x.toNat : Int)) 0 _ BA.out)
  clear R0 BA hmk p0 hp hl0
  generalize (w.alloc (.cells (madeCells #[Value.int .u8 0] 12) 5)).setCells w.heap.size 0 (f0.data.toList.map fun x => Value.int .u8 (x.toNat : Int)) = W at *
  have x1 := (HP.out.below F1.out hplt) 1 _ rfl
  have x2 := (HP.out.below F1.out hplt) 2 _ rfl
  have x3 := (HP.out.below F1.out hplt) 3 _ rfl
  have x4 := (HP.out.below F1.out hplt) 4 _ rfl
  have hlen : (f0.data.toList ++ List.replicate (12 - f0.size) (0 : UInt8)).length = 12 := by rw [List.length_append, List.length_replicate]; simp; omega
  obtain ⟨v8, k8, z8⟩ : ∃ v, W.cell? ⟨w.heap.size, 8, none⟩ = some v ∧ W.frozen? ⟨w.heap.size, 8, none⟩ = false := ⟨_, R1.out.cell 8 (by omega)⟩
  obtain ⟨v9, k9, z9⟩ : ∃ v, W.cell? ⟨w.heap.size, 9, none⟩ = some v ∧ W.frozen? ⟨w.heap.size, 9, none⟩ = false := ⟨_, R1.out.cell 9 (by omega)⟩
  obtain ⟨v10, k10, z10⟩ : ∃ v, W.cell? ⟨w.heap.size, 10, none⟩ = some v ∧ W.frozen? ⟨w.heap.size, 10, none⟩ = false := ⟨_, R1.out.cell 10 (by omega)⟩
  obtain ⟨v11, k11, z11⟩ : ∃ v, W.cell? ⟨w.heap.size, 11, none⟩ = some v ∧ W.frozen? ⟨w.heap.size, 11, none⟩ = false := ⟨_, R1.out.cell 11 (by omega)⟩
  have n1 : ¬ p = w.heap.size := by omega
  have n2 : ¬ w.heap.size = p := by omega
  have HLN := Lib.hid hlen
  have u1 := IntWalk.u8_in f1 (by omega)
  have u2 := IntWalk.u8_in (f2 / 256) (by omega)
  have u3 : IntKind.u8.wrap f2 = f2 % 256 := IntKind.wrap_u8 f2
  clear hlen
  have P8 := Lib.hid (R1.out.put 8 (by rw [HLN.out]; omega) f1.toNat.toUInt8 f1 w1.symm)
  have P9 := Lib.hid (P8.out.put 9 (by rw [List.length_set, HLN.out]; omega) (f2 / 256).toNat.toUInt8 (f2 / 256) w2.symm)
  have P10 := Lib.hid (P9.out.put 10 (by rw [List.length_set, List.length_set, HLN.out]; omega) (f2 % 256).toNat.toUInt8 (f2 % 256) w3.symm)
  have P11 := Lib.hid (fun (x : UInt8) v hv => P10.out.put 11 (by rw [List.length_set, List.length_set, List.length_set, HLN.out]; omega) x v hv)
  have FF := Lib.hid (((F1.out.setCell (p := ⟨w.heap.size, 8, none⟩) (Nat.le_refl _) (.int .u8 f1)).setCell (p := ⟨w.heap.size, 9, none⟩) (Nat.le_refl _) (.int .u8 (f2 / 256))).setCell (p := ⟨w.heap.size, 10, none⟩) (Nat.le_refl _) (.int .u8 (f2 % 256)))
  cases f3 <;> cases f4
  all_goals go_wp2
  all_goals go_ret
  · exact ⟨w.heap.size, rfl, by rw [HB.out, ← show (0 : UInt8) = (stE ⟨f0, f1, f2, false, false⟩).toUInt8 from rfl, ← HS0.out]; exact P10.out, Nat.le_refl _, FF.out⟩
  · exact ⟨w.heap.size, rfl, by rw [HB.out, ← show (2 : UInt8) = (stE ⟨f0, f1, f2, false, true⟩).toUInt8 from rfl, ← HST.out]; exact P11.out 2 2 rfl, Nat.le_refl _, FF.out.setCell (p := ⟨w.heap.size, 11, none⟩) (Nat.le_refl _) _⟩
  · exact ⟨w.heap.size, rfl, by rw [HB.out, ← show (1 : UInt8) = (stE ⟨f0, f1, f2, true, false⟩).toUInt8 from rfl, ← HST.out]; exact P11.out 1 1 rfl, Nat.le_refl _, FF.out.setCell (p := ⟨w.heap.size, 11, none⟩) (Nat.le_refl _) _⟩
  · exact ⟨w.heap.size, rfl, by rw [HB.out, ← show (1 : UInt8) = (stE ⟨f0, f1, f2, true, true⟩).toUInt8 from rfl, ← HST.out]; exact P11.out 1 1 rfl, Nat.le_refl _, FF.out.setCell (p := ⟨w.heap.size, 11, none⟩) (Nat.le_refl _) _⟩
end Go.Proofs.YtpdodpnhohmjaaaGreatDoor
