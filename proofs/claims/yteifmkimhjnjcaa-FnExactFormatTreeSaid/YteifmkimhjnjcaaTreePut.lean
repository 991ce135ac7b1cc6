/- (*impl.treeBlock).put: bytes at a place, and the seal. -/
import Derived.Test.YteifmkimhjnjcaaSealIm
import Derived.Lib.LazyBuf
namespace Go.Proofs.Yteifmkimhjnjcaa
open Go.RowKit
set_option linter.unusedVariables false
set_option linter.unusedSimpArgs false
set_option maxRecDepth 20000
def putL : List UInt8 → Nat → List UInt8 → List UInt8
  | bs, _, [] => bs
  | bs, i, x :: r => putL (bs.set i x) (i + 1) r
theorem putL_len : ∀ (l : List UInt8) (i : Nat) (bs : List UInt8), (putL bs i l).length = bs.length
  | [], _, _ => rfl
  | x :: r, i, bs => by rw [putL, putL_len r, List.length_set]
theorem TBk.setCells {b : Nat} : ∀ (l : List UInt8) (i : Nat) (bs : List UInt8) (w : World), TBk w b bs → i + l.length ≤ bs.length → TBk (w.setCells b i (l.map fun x => Value.int .u8 (x.toNat : Int))) b (putL bs i l)
  | [], _, _, _, h, _ => h
  | x :: r, i, bs, w, h, hl => by
    have hl2 : i + (r.length + 1) ≤ bs.length := hl
    exact TBk.setCells r (i + 1) _ _ (h.set i x _ rfl (by omega)) (by rw [List.length_set]; omega)
theorem tSetCells_ne (g q : Nat) (h : q ≠ g) : ∀ (l : List Value) (i : Nat) (w : World), (w.setCells g i l).heap[q]? = w.heap[q]?
  | [], i, w => rfl
  | v :: l, i, w => by
    show ((w.setCell ⟨g, i, none⟩ v).setCells g (i + 1) l).heap[q]? = _
    rw [tSetCells_ne g q h l]
    exact heap_setCell_ne _ _ _ _ _ h
theorem tSetCells_size (g : Nat) : ∀ (l : List Value) (i : Nat) (w : World), (w.setCells g i l).heap.size = w.heap.size
  | [], i, w => rfl
  | v :: l, i, w => by
    show ((w.setCell ⟨g, i, none⟩ v).setCells g (i + 1) l).heap.size = _
    rw [tSetCells_size g l]
    simp [World.setCell]
theorem belowSetT {B b : Nat} {a : World} (hb : B ≤ b) : ∀ (vs : List Value) (o : Nat) (w : World), Below B a w → Below B a (w.setCells b o vs)
  | [], _, _, h => h
  | v :: r, o, w, h => belowSetT hb r (o + 1) _ (h.setCell (by exact hb) v)
theorem sizeU8t (w : World) : (Go.sizeOf 5).run Try.prog w = .ok 1 w := by
  obtain ⟨i0, hi, hz0, hz1, hz2⟩ := info_parts u8info
  simp [Go.sizeOf, typeInfo, hi, hz1]
theorem wp_copyT {P : Program} {o : Oper} {a : Act} {w : World} {K : Act → World → Prop} {Q : Exit → Act → World → Prop}
    (d x : Operand) (dT sT : TypeId) (hop : o.op = Op.call { callee := Callee.builtin Builtin.copy, args := #[d, x], argTypes := #[dT, sT] })
    (elem : TypeId) (hu : P.underlying dT = some (.slice elem)) (hz : ∀ w, (Go.sizeOf elem).run P w = .ok 1 w)
    (b off dLen dCap : Nat) (hd : a.eval d = .slice (some ⟨b, off, none⟩) dLen dCap) (t : ByteArray) (hx : a.eval x = .string t) (hle : t.size ≤ dLen)
    (hc : ∀ j, j < t.size → (w.cell? ⟨b, off + j, none⟩).isSome = true) (hf : ∀ j, j < t.size → w.frozen? ⟨b, off + j, none⟩ = false)
    (hK : K (a.put o.dst (goInt t.size)) (w.setCells b off (t.data.toList.map fun x => Value.int .u8 (x.toNat : Int)))) : o.wp P a w K Q := by
  have hrun := run_copy_string (P := P) w dT sT o.type elem b off dLen dCap t hu hz hle hc hf
  unfold Oper.wp
  simp [execOp, hop, resolve, invoke, builtin, hd, hx, hrun, Result.andThen]
  exact hK
theorem put_any (b i : Nat) (s : ByteArray) (bs : List UInt8) (w : World) (h : TBk w b bs) (hl : bs.length = 32) (hi : i = 0 ∨ i = 2 ∨ i = 12) (hs : s.size = 1) :
    Calls Try.prog 31 #[.pointer (some ⟨b, 0, none⟩), .int .i64 (i : Int), .string s] w fun e w' => e = .returned (.tuple #[]) ∧ TBk w' b (sealL (putL bs i s.data.toList)) ∧ OnlyB b w w' := by
  have e1 : s.data.toList.length = 1 := by simp [hs]
  have HC : ∀ j, j < s.size → (w.cell? ⟨b, i + j, none⟩).isSome = true := fun j hj => by rw [(h (i + j) (by omega)).1]; rfl
  have HF : ∀ j, j < s.size → w.frozen? ⟨b, i + j, none⟩ = false := fun j hj => (h (i + j) (by omega)).2
  have ht := TBk.setCells s.data.toList i bs w h (by omega)
  have ho : OnlyB b w (w.setCells b i (s.data.toList.map fun x => Value.int .u8 (x.toNat : Int))) := ⟨tSetCells_size _ _ _ _, fun q hq => tSetCells_ne _ _ hq _ _ _, belowSetT (Nat.le_refl _) _ _ _ (Below.refl _ _)⟩
  have SE := Lib.hid (fun W (h' : TBk W b (putL bs i s.data.toList)) => seal_any b (putL bs i s.data.toList) W h' (by rw [putL_len]; exact hl))
  have HT := Lib.hid ht; have HO := Lib.hid ho; clear ht ho h
  have HS := Lib.hid hs; clear hs e1
  have HCC := Lib.hid HC; have HFF := Lib.hid HF; clear HC HF
  rcases hi with rfl | rfl | rfl
  all_goals
    go_enter Try.func31, Try.ntmps31
    go_upto_region 0 with (fail)
    iterate 16 go_step
    refine wpList_plain rfl fun K hK => ?_
    refine wp_copyT _ _ 32 9 rfl 5 Try.underlying32 sizeU8t b _ _ _ rfl s rfl (by rw [HS.out]; omega) HCC.out HFF.out ?_
    refine hK _ _ ?_
    clear hK K HCC HFF
    simp only [Act.put, List.setIfInBounds_toArray, List.set_cons_zero, List.set_cons_succ]
    generalize World.setCells _ _ _ _ = W at *
    go_wp2_with (go_at_call 20; refine (SE.out _ HT.out).mono ?_; rintro e w2 ⟨rfl, ht2, ho2⟩)
    go_end0
    exact ⟨rfl, ht2, ho2.1.trans HO.out.1, fun q hq => (ho2.2.1 q hq).trans (HO.out.2.1 q hq), HO.out.2.2.trans ho2.2.2⟩
end Go.Proofs.Yteifmkimhjnjcaa
