/- spec.l16Open, spec.LayoutOf -/
import Derived.Test.YtpdodpnhohmjaaaGreatDoorPkGoneBlocksChSp
import Derived.Test.YtpdodpnhohmjaaaGreatDoorPkGoneBlocksChLay
import Derived.Test.YtpdodpnhohmjaaaGreatDoorPkGoneBlocksE
namespace Go.Proofs.YtpdodpnhohmjaaaGreatDoor
open Go.RowKit
set_option maxRecDepth 20000
set_option linter.unusedVariables false
set_option linter.unusedSimpArgs false
set_option maxRecDepth 20000
/-- The bytes of a disk, one behind the other. -/
def flatL (es : List StringV) : List UInt8 := (es.map fun e => e.f0.data.toList).flatten
theorem flatL_snoc {es : List StringV} {k : Nat} {e : StringV} (h : es[k]? = some e) : flatL (es.take (k + 1)) = flatL (es.take k) ++ e.f0.data.toList := by
  unfold flatL
  rw [List.take_add_one, h]
  simp
theorem bytes_len (s : ByteArray) : s.data.toList.length = s.size := by simp
theorem flatL_len {es : List StringV} {z : Nat} (h : ∀ e ∈ es, e.f0.size = z) : (flatL es).length = es.length * z := by
  unfold flatL
  induction es with
  | nil => simp
  | cons e r ih =>
    have h1 := h e (by simp)
    have h2 := ih fun x hx => h x (by simp [hx])
    simp only [List.map_cons, List.flatten_cons, List.length_append, h2, List.length_cons, bytes_len, h1]
    rw [Nat.add_mul]
    omega
/-- Byte i of block k. -/
theorem flatL_at {es : List StringV} {z k i : Nat} {e : StringV} (h : ∀ e ∈ es, e.f0.size = z) (hk : es[k]? = some e) (hi : i < z) : (flatL es)[k * z + i]? = e.f0.data.toList[i]? := by
  induction es generalizing k with
  | nil => simp at hk
  | cons e0 r ih =>
    have h1 := h e0 (by simp)
    unfold flatL
    simp only [List.map_cons, List.flatten_cons]
    cases k with
    | zero =>
      simp at hk
      subst hk
      rw [Nat.zero_mul, Nat.zero_add, List.getElem?_append_left (by rw [bytes_len, h1]; exact hi)]
    | succ k =>
      simp at hk
      rw [List.getElem?_append_right (by rw [bytes_len, h1, Nat.add_mul]; omega), bytes_len, h1]
      have e1 : (k + 1) * z + i - z = k * z + i := by rw [Nat.add_mul]; omega
      rw [e1]
      exact ih (fun x hx => h x (by simp [hx])) hk
theorem chTop_list (n z : Nat) (hz : 6 ≤ z) (i : Nat) (hi : i < z) : (chHead n z).data.toList[i]? = some (if h : i < (chTop n).size then (chTop n)[i] else 0) := by
  have hs := chTop_size n
  unfold chHead padB
  by_cases h : i < (chTop n).size
  · rw [dif_pos h]
    simp only [ByteArray.data_append, Array.toList_append]
    rw [List.getElem?_append_left (by rw [bytes_len]; exact h)]
    rw [List.getElem?_eq_getElem (by rw [bytes_len]; exact h)]
    simp [ByteArray.getElem_eq_getElem_data]
  · rw [dif_neg h]
    simp only [ByteArray.data_append, Array.toList_append]
    rw [List.getElem?_append_right (by rw [bytes_len]; omega), bytes_len]
    show (List.replicate (z - (chTop n).size) (0 : UInt8)).toArray.toList[i - (chTop n).size]? = some 0
    rw [List.getElem?_replicate, if_pos (by omega)]
theorem eq_of_bytes {s t : ByteArray} {z : Nat} (hs : s.size = z) (ht : t.size = z) (h : ∀ i, i < z → s.data.toList[i]? = t.data.toList[i]?) : s = t := by
  apply ByteArray.ext
  apply Array.toList_inj.1
  apply List.ext_getElem?
  intro i
  by_cases hi : i < z
  · exact h i hi
  · rw [List.getElem?_eq_none (by rw [bytes_len]; omega), List.getElem?_eq_none (by rw [bytes_len]; omega)]
/-- A disk with chains as spec has it: at block p its layout and the slice of its bytes, which lie in block g. -/
def DAt (w : World) (p g cap : Nat) (L : ChainLayoutV) (bs : List UInt8) : Prop :=
  BoxF w p #[.int .i64 L.f0, .int .i64 L.f1, .int .i64 L.f2, .int .i64 L.f3, .int .i64 L.f4, .slice (some ⟨g, 0, none⟩) bs.length cap] ∧ ∃ cur, w.heap[g]? = some (.cells cur 5 (0, 0)) ∧ RowB cur bs cap
def OpYes (es : List StringV) (w : World) (e : Ending) (w' : World) : Prop :=
  ∃ p g cap, e = .returned (.tuple #[.pointer (some ⟨p, 0, none⟩), .int .i64 0]) ∧ w.heap.size ≤ p ∧ p < g ∧ DAt w' p g cap (chLay es.length (len0 es)) (flatL es)
def OpRes (es : List StringV) (w : World) (e : Ending) (w' : World) : Prop :=
  (chCode es = 0 → OpYes es w e w') ∧
  (chCode es ≠ 0 → e = .returned (.tuple #[.pointer none, .int .i64 (chCode es)])) ∧ Below w.heap.size w w'
theorem wp_append_str {P : Program} {w : World} {o : Oper} {a : Act} {K : Act → World → Prop} {Q : Exit → Act → World → Prop} (sl x : Operand) (t u : TypeId)
    (ho : o.op = .call { callee := .builtin .append, args := #[sl, x], argTypes := #[t, u] })
    (base : Nat) (e : TypeId) (i : TypeInfo) (ht : P.underlying t = some (.slice e)) (hu : P.underlying u = some .string) (hi : P.info? e = some i) (hz : i.zero = some (.int .u8 0))
    (hsize : i.size = 1) (hby : i.bytes = 1)
    (v : Value) (n : Nat) (xs : List Value) (hs : a.eval sl = v) (hown : w.ownsRow base e 1 v n xs) (s : ByteArray) (hx : a.eval x = .string s)
    (h63 : n + s.size ≤ maxLen) (hbytes : n + s.size ≤ 140737488355328) (hbase : base ≤ w.heap.size)
    (h : ∀ v' w', w'.ownsRow base e 1 v' (n + s.size) (xs ++ Lib.strCells s) → w.grownBy w' v.ownBlock → K (a.put o.dst v') w') : o.wp P a w K Q := by
  obtain ⟨v', w', hr, h2, h3, h4⟩ := Lib.run_append_own_string (P := P) (w := w) base t u o.type e i ht hu hi hz hsize hby v n xs hown s h63 hbytes hbase
  unfold Oper.wp execOp
  simp only [ho, resolve, invoke, builtin, Sem.run_bind, Sem.run_pure, Result.andThen_ok, List.map_toArray, List.map_cons, List.map_nil, hs, hx, hr]
  exact h v' w' h2 h3
theorem ownB_app {w : World} {B : Nat} {v : Value} {l : List UInt8} {s : ByteArray} (h : w.ownsRow B 5 1 v (l.length + s.size) (Lib.byteCells l ++ Lib.strCells s)) : OwnB w B v (l ++ s.data.toList) := by
  unfold OwnB
  rw [Lib.byteCells_append, List.length_append, bytes_len]
  exact h
/-- Bytes of the call's own are a row. -/
theorem OwnB.row {w : World} {B : Nat} {v : Value} {l : List UInt8} (h : OwnB w B v l) (hl : l ≠ []) : ∃ g cap cur, v = .slice (some ⟨g, 0, none⟩) l.length cap ∧ B ≤ g ∧ w.heap[g]? = some (.cells cur 5 (0, 0)) ∧ RowB cur l cap := by
  obtain ⟨h1, h2⟩ := h
  rcases h2 with ⟨_, h3⟩ | ⟨g, cap, cur, rfl, hg, hh, hle, hm, hsz, htk⟩
  · exact absurd (List.eq_nil_of_length_eq_zero h3) hl
  · refine ⟨g, cap, cur, rfl, hg, hh, by rw [hsz]; omega, hle, fun j hj => ?_⟩
    have e : (cur.toList.take (l.length * 1))[j]? = (Lib.byteCells l)[j]? := by rw [htk]
    rw [List.getElem?_take, if_pos (by omega)] at e
    rw [← Array.getElem?_toList, e]
    simp [Lib.byteCells, hj]
theorem ownB_setCell {w : World} {B p i : Nat} {v u : Value} {l : List UInt8} (h : OwnB w B v l) (hp : p < B) : OwnB (w.setCell ⟨p, i, none⟩ u) B v l := by
  obtain ⟨h1, h2⟩ := h
  refine ⟨h1, ?_⟩
  rcases h2 with h3 | ⟨g, cap, cur, rfl, hg, hh, r⟩
  · exact .inl h3
  · exact .inr ⟨g, cap, cur, rfl, hg, by rw [heap_setCell_ne _ _ _ _ _ (by omega)]; exact hh, r⟩
theorem ownBlock_ne {w : World} {B p : Nat} {v : Value} {l : List UInt8} (h : OwnB w B v l) (hp : p < B) : some p ≠ v.ownBlock := by
  rcases h.2 with ⟨rfl, _⟩ | ⟨g, cap, cur, rfl, hg, _⟩
  · simp [Value.ownBlock]
  · simp only [Value.ownBlock, ne_eq, Option.some.injEq]
    omega
theorem boxF_grown {w w' : World} {p : Nat} {row : Option Nat} {vs : Array Value} (h : BoxF w p vs) (hp : p < w.heap.size) (hg : w.grownBy w' row) (hne : some p ≠ row) : BoxF w' p vs := h.kept (hg.block p hp hne)
set_option maxHeartbeats 8000000 in
theorem l16Open_any (a : Option Addr) (c : Nat) (es : List StringV) (hm : es.length ≤ 1048576) (hs : ∀ e ∈ es, e.f0.size ≤ 1048576) (w : World) (h : SlS rowString w a es) :
    Calls Tryz.prog 20 #[.slice a es.length c] w (OpRes es w) := by
  unfold OpRes
  by_cases hnil : es = []
  · subst hnil
    have hC : chCode [] = 1 := rfl
    rw [hC]
    clear hC h hs hm
    go_enter Tryz.func20, Tryz.ntmps20
    go_wp2
    go_ret2
    exact ⟨fun h => absurd h (by omega), fun _ => rfl, by go_grown⟩
  have hpos : 0 < es.length := List.length_pos_iff.2 hnil
  have hne0 : ((es.length : Int) == 0) = false := by simp; exact hnil
  obtain ⟨e0, hx0⟩ : ∃ e, es[0]? = some e := ⟨es[0], by simp⟩
  have hl0 : len0 es = e0.f0.size := by unfold len0; rw [hx0]; rfl
  have SH := Lib.hid (fun w => l16Shape_any (es.length : Int) (e0.f0.size : Int) w)
  obtain ⟨b, off, rfl, hbl, hc⟩ := h.at rowString_len hx0
  have C0 := Lib.hid (fun w' (hb : Below w.heap.size w w') => show w'.cell? ⟨b, off, none⟩ = some (.string e0.f0) by rw [hb.cell (p := ⟨b, off, none⟩) hbl]; simpa using hc 0 _ rfl)
  have hs0 := hs e0 (List.mem_of_getElem? hx0)
  clear hc
  by_cases h1 : (inB 8 128 (es.length : Int) && sizeI (e0.f0.size : Int)) = true
  case neg =>
    have h1 : (inB 8 128 (es.length : Int) && sizeI (e0.f0.size : Int)) = false := by simpa using h1
    have hC : chCode es = 1 := by
      unfold chCode diskB
      rw [hl0, ← sizeI_nat]
      rw [if_neg]
      intro h2
      simp only [Bool.and_eq_true] at h2
      rw [h2.1, h2.2.2] at h1
      cases h1
    rw [h1] at SH
    rw [hC]
    clear h1 hC hl0 hx0 h hs hm hnil
    have c0 := C0.out _ ((Below.refl w.heap.size w).alloc (Nat.le_refl _) (.cells #[.int .i64 0, .int .i64 0, .int .i64 0, .int .i64 0, .int .i64 0, .slice none 0 0] 43))
    go_enter Tryz.func20, Tryz.ntmps20
    go_wp2_with fail
    refine (SH.out _).mono ?_
    rintro e w1 ⟨rfl, hb1⟩
    have FB := Lib.hid (show Below w.heap.size w w1 from Below.trans (by go_grown) (hb1.mono (by simp)))
    clear hb1 c0
    go_wp2
    go_ret2
    exact ⟨fun h => absurd h (by omega), fun _ => rfl, FB.out⟩
  rw [h1] at SH
  simp only [Bool.and_eq_true] at h1
  have hn := inB_iff.1 h1.1
  have hz := sizeI_iff.1 h1.2
  have hz2 : e0.f0.size = 8 ∨ e0.f0.size = 16 ∨ e0.f0.size = 32 := by omega
  have HNO := Lib.hid (show allLen e0.f0.size es = false → chCode es = 1 from fun hal => by unfold chCode diskB; rw [hl0, hal]; simp)
  have HYE := Lib.hid (show allLen e0.f0.size es = true → chCode es = if e0.f0 = chHead es.length e0.f0.size then 0 else 7 from fun hal => by
    unfold chCode diskB
    rw [hl0, hal, ← sizeI_nat, h1.1, h1.2, blkAt_of hx0]
    simp)
  have SZ := Lib.hid (fun w => l16Sizes_any es.length e0.f0.size w (by omega) (by omega) (by omega))
  have HE := Lib.hid (fun d d2 w => l16Head_any es.length e0.f0.size d d2 w (by omega))
  have hsl := Lib.hid h
  have HS := Lib.hid hs
  have HL0 := Lib.hid hl0
  have HX0 := Lib.hid hx0
  clear h1 hl0 h hs hnil hx0
  have c0 := C0.out _ ((Below.refl w.heap.size w).alloc (Nat.le_refl _) (.cells #[.int .i64 0, .int .i64 0, .int .i64 0, .int .i64 0, .int .i64 0, .slice none 0 0] 43))
  go_enter Tryz.func20, Tryz.ntmps20
  go_wp2_with fail
  refine (SH.out _).mono ?_
  rintro e w1 ⟨rfl, hb1⟩
  have R1 := Lib.hid ((BoxF.new w #[.int .i64 0, .int .i64 0, .int .i64 0, .int .i64 0, .int .i64 0, .slice none 0 0] 43 _ rfl).below hb1 (by simp))
  have FB := Lib.hid (show Below w.heap.size w w1 from Below.trans (by go_grown) (hb1.mono (by simp)))
  have hz1 : w.heap.size < w1.heap.size := Nat.lt_of_lt_of_le (by simp) hb1.size
  clear hb1 c0
  go_wp2
  go_loopw [5] (fun i wr => ∃ k : Nat, k ≤ es.length ∧ i = .int .i64 k ∧ Hid (allLen e0.f0.size (es.take k) = true) ∧ (∃ v, BoxF wr w.heap.size #[.int .i64 0, .int .i64 0, .int .i64 0, .int .i64 0, .int .i64 0, v] ∧ OwnB wr (w.heap.size + 1) v (flatL (es.take k))) ∧ Below w.heap.size w wr ∧ Hid (w.heap.size + 1 ≤ wr.heap.size)) (fun i _ => es.length - (intOf i).toNat)
  case atStart => exact ⟨0, Nat.zero_le _, rfl, Lib.hid rfl, ⟨_, R1.out, ⟨rfl, .inl ⟨rfl, rfl⟩⟩⟩, FB.out, Lib.hid hz1⟩
  case round =>
    obtain ⟨k, hk, rfl, hR, ⟨v, hbx, hown⟩, hb, hzr⟩ := hrel
    by_cases hlt : k < es.length
    · obtain ⟨e, hx⟩ : ∃ e, es[k]? = some e := ⟨es[k], by simp [hlt]⟩
      obtain ⟨b', off', hbo, _, hck⟩ := hsl.out.at rowString_len hx
      simp only [Option.some.injEq, Addr.mk.injEq, and_true] at hbo
      obtain ⟨rfl, rfl⟩ := hbo
      have CK := Lib.hid (fun w' (hb : Below w.heap.size w w') => show w'.cell? ⟨b, off + k, none⟩ = some (.string e.f0) by rw [hb.cell (p := ⟨b, off + k, none⟩) hbl]; simpa using hck 0 _ rfl)
      have hse := HS.out e (List.mem_of_getElem? hx)
      have HX := Lib.hid hx; clear hx hck
      have c0 := C0.out _ hb
      have ck := CK.out _ hb
      have HC := Lib.hid (show Below wr.heap.size wr wr.drew from (Below.refl _ _).drew)
      have KS := Lib.hid (fun w' (hb' : Below wr.heap.size wr w') => (show w'.cell? ⟨b, off + k, none⟩ = some (.string e.f0) ∧ w'.cell? ⟨b, off, none⟩ = some (.string e0.f0) from ⟨CK.out _ (hb.trans (hb'.mono hb.size)), C0.out _ (hb.trans (hb'.mono hb.size))⟩))
      by_cases hq : e.f0.size = e0.f0.size
      · have hne : ((e.f0.size : Int) == (e0.f0.size : Int)) = true := by simp; omega
        have HQ := Lib.hid hq
        have hfl : (flatL (es.take k)).length ≤ 4096 := by
          have hal := hR.out
          unfold allLen at hal
          rw [List.all_eq_true] at hal
          rw [flatL_len (z := e0.f0.size) (fun x hx => of_decide_eq_true (hal x hx)), List.length_take]
          have h1 : min k es.length ≤ 128 := by omega
          have h2 : e0.f0.size ≤ 32 := by omega
          exact Nat.le_trans (Nat.mul_le_mul h1 h2) (by omega)
        have HF := Lib.hid (flatL_snoc HX.out)
        have hse2 : e.f0.size ≤ 32 := by omega
        have HNE := Lib.hid (show flatL (es.take k) ++ e.f0.data.toList ≠ [] from fun h0 => by have := congrArg List.length h0; rw [List.length_append, bytes_len, hq] at this; have h8 : (([] : List UInt8)).length = 0 := rfl; rw [h8] at this; omega)
        generalize flatL (es.take k) = fl at *
        have HBX := Lib.hid hbx; have HOWN := Lib.hid hown; have HB := Lib.hid hb
        obtain ⟨i0, hi0, hi1, hi2, hi3⟩ := info_parts u8info
        have HI := Lib.hid (And.intro hi0 (And.intro hi1 (And.intro hi2 hi3)))
        clear hq hb hbx hown hi0 hi1 hi2 hi3
        go_wp2_with fail
        refine wp_region_held_drew (S := (fun w' => w'.cell? ⟨b, off + k, none⟩ = some (.string e.f0) ∧ w'.cell? ⟨b, off, none⟩ = some (.string e0.f0))) (by kernel_rfl) (KS.out _ HC.out) (fun hHeld => ?_)
        refine wpAnyH_take (i := 0) (oi := { dst := some 30, op := Op.move (Operand.tmp 0), type := 22, pos := "l16_chains.go:38", after := #[], guard := none }) (v := ?_) rfl (by kernel_rfl) (by kernel_rfl) (by kernel_rfl) (fun _ _ _ h => h) (Or.inl ⟨by rfl, ?hy⟩) hHeld ?_
        case hy => (intro w' hSw; (try dsimp only at hSw); go_simp; try with_reducible rfl)
        simp only [Act.put, List.setIfInBounds_toArray, List.set_cons_zero, List.set_cons_succ]
        refine wpAnyH_take (i := 1) (oi := { dst := some 31, op := Op.move (Operand.tmp 5), type := 3, pos := "l16_chains.go:38", after := #[], guard := none }) (v := ?_) rfl (by kernel_rfl) (by kernel_rfl) (by kernel_rfl) (fun _ _ _ h => h) (Or.inl ⟨by rfl, ?hy⟩) hHeld ?_
        case hy => (intro w' hSw; (try dsimp only at hSw); go_simp; try with_reducible rfl)
        simp only [Act.put, List.setIfInBounds_toArray, List.set_cons_zero, List.set_cons_succ]
        refine wpAnyH_take (i := 2) (oi := { dst := some 32, op := Op.indexAddr 22 (Operand.tmp 30) (Operand.tmp 31), type := 0, pos := "l16_chains.go:38", after := #[{ on := 0, ground := Ground.data }, { on := 1, ground := Ground.data }], guard := none }) (v := ?_) rfl (by kernel_rfl) (by kernel_rfl) (by kernel_rfl) (fun _ _ _ h => h) (Or.inl ⟨by rfl, ?hy⟩) hHeld ?_
        case hy => (intro w' hSw; (try dsimp only at hSw); go_simp; try with_reducible rfl)
        simp only [Act.put, List.setIfInBounds_toArray, List.set_cons_zero, List.set_cons_succ]
        refine wpAnyH_take (i := 3) (oi := { dst := some 33, op := Op.load 9 (Operand.tmp 32), type := 9, pos := "l16_chains.go:38", after := #[{ on := 2, ground := Ground.data }], guard := none }) (v := ?_) rfl (by kernel_rfl) (by kernel_rfl) (by kernel_rfl) (fun _ _ _ h => h) (Or.inl ⟨by rfl, ?hy⟩) hHeld ?_
        case hy => (intro w' hSw; (try dsimp only at hSw); go_simp; try with_reducible rfl)
        simp only [Act.put, List.setIfInBounds_toArray, List.set_cons_zero, List.set_cons_succ]
        refine wpAnyH_take (i := 4) (oi := { dst := some 34, op := Op.call { callee := Callee.builtin Builtin.len, args := #[Operand.tmp 33], argTypes := #[9] }, type := 3, pos := "l16_chains.go:38", after := #[{ on := 3, ground := Ground.data }], guard := none }) (v := ?_) rfl (by kernel_rfl) (by kernel_rfl) (by kernel_rfl) (fun _ _ _ h => h) (Or.inl ⟨by rfl, ?hy⟩) hHeld ?_
        case hy => (intro w' hSw; (try dsimp only at hSw); go_simp; try with_reducible rfl)
        simp only [Act.put, List.setIfInBounds_toArray, List.set_cons_zero, List.set_cons_succ]
        refine wpAnyH_take (i := 5) (oi := { dst := some 35, op := Op.move (Operand.tmp 0), type := 22, pos := "l16_chains.go:38", after := #[], guard := none }) (v := ?_) rfl (by kernel_rfl) (by kernel_rfl) (by kernel_rfl) (fun _ _ _ h => h) (Or.inl ⟨by rfl, ?hy⟩) hHeld ?_
        case hy => (intro w' hSw; (try dsimp only at hSw); go_simp; try with_reducible rfl)
        simp only [Act.put, List.setIfInBounds_toArray, List.set_cons_zero, List.set_cons_succ]
        refine wpAnyH_take (i := 6) (oi := { dst := some 36, op := Op.indexAddr 22 (Operand.tmp 35) (Operand.const (Value.int IntKind.i64 0)), type := 0, pos := "l16_chains.go:38", after := #[{ on := 5, ground := Ground.data }], guard := none }) (v := ?_) rfl (by kernel_rfl) (by kernel_rfl) (by kernel_rfl) (fun _ _ _ h => h) (Or.inl ⟨by rfl, ?hy⟩) hHeld ?_
        case hy => (intro w' hSw; (try dsimp only at hSw); go_simp; try with_reducible rfl)
        simp only [Act.put, List.setIfInBounds_toArray, List.set_cons_zero, List.set_cons_succ]
        refine wpAnyH_take (i := 7) (oi := { dst := some 37, op := Op.load 9 (Operand.tmp 36), type := 9, pos := "l16_chains.go:38", after := #[{ on := 6, ground := Ground.data }], guard := none }) (v := ?_) rfl (by kernel_rfl) (by kernel_rfl) (by kernel_rfl) (fun _ _ _ h => h) (Or.inl ⟨by rfl, ?hy⟩) hHeld ?_
        case hy => (intro w' hSw; (try dsimp only at hSw); go_simp; try with_reducible rfl)
        simp only [Act.put, List.setIfInBounds_toArray, List.set_cons_zero, List.set_cons_succ]
        refine wpAnyH_take (i := 8) (oi := { dst := some 38, op := Op.call { callee := Callee.builtin Builtin.len, args := #[Operand.tmp 37], argTypes := #[9] }, type := 3, pos := "l16_chains.go:38", after := #[{ on := 7, ground := Ground.data }], guard := none }) (v := ?_) rfl (by kernel_rfl) (by kernel_rfl) (by kernel_rfl) (fun _ _ _ h => h) (Or.inl ⟨by rfl, ?hy⟩) hHeld ?_
        case hy => (intro w' hSw; (try dsimp only at hSw); go_simp; try with_reducible rfl)
        simp only [Act.put, List.setIfInBounds_toArray, List.set_cons_zero, List.set_cons_succ]
        refine wpAnyH_take (i := 9) (oi := { dst := some 39, op := Op.binOp BinOp.neq 3 (Operand.tmp 34) (Operand.tmp 38) 3, type := 4, pos := "l16_chains.go:38", after := #[{ on := 4, ground := Ground.data }, { on := 8, ground := Ground.data }], guard := none }) (v := ?_) rfl (by kernel_rfl) (by kernel_rfl) (by kernel_rfl) (fun _ _ _ h => h) (Or.inl ⟨by rfl, ?hy⟩) hHeld ?_
        case hy => (intro w' hSw; (try dsimp only at hSw); go_simp; try with_reducible rfl)
        simp only [Act.put, List.setIfInBounds_toArray, List.set_cons_zero, List.set_cons_succ]
        refine wpAnyH_done (by kernel_rfl) ?_ _
        clear hHeld
        go_upto_region 9 with (fail)
        refine wp_region_held_drew (S := (fun w' => w'.cell? ⟨b, off + k, none⟩ = some (.string e.f0))) (by kernel_rfl) (KS.out _ HC.out.drew).1 (fun hHeld => ?_)
        refine wpAnyH_take (i := 0) (oi := { dst := some 40, op := Op.move (Operand.tmp 4), type := 36, pos := "l16_chains.go:41", after := #[], guard := none }) (v := ?_) rfl (by kernel_rfl) (by kernel_rfl) (by kernel_rfl) (fun _ _ _ h => h) (Or.inl ⟨by rfl, ?hy⟩) hHeld ?_
        case hy => (intro w' hSw; (try dsimp only at hSw); go_simp; try with_reducible rfl)
        simp only [Act.put, List.setIfInBounds_toArray, List.set_cons_zero, List.set_cons_succ]
        refine wpAnyH_take (i := 1) (oi := { dst := some 41, op := Op.move (Operand.tmp 4), type := 36, pos := "l16_chains.go:41", after := #[], guard := none }) (v := ?_) rfl (by kernel_rfl) (by kernel_rfl) (by kernel_rfl) (fun _ _ _ h => h) (Or.inl ⟨by rfl, ?hy⟩) hHeld ?_
        case hy => (intro w' hSw; (try dsimp only at hSw); go_simp; try with_reducible rfl)
        simp only [Act.put, List.setIfInBounds_toArray, List.set_cons_zero, List.set_cons_succ]
        refine wpAnyH_take (i := 2) (oi := { dst := some 42, op := Op.nilCheck (Operand.tmp 41), type := 0, pos := "l16_chains.go:41", after := #[{ on := 1, ground := Ground.data }], guard := none }) (v := ?_) rfl (by kernel_rfl) (by kernel_rfl) (by kernel_rfl) (fun _ _ _ h => h) (Or.inl ⟨by rfl, ?hy⟩) hHeld ?_
        case hy => (intro w' hSw; (try dsimp only at hSw); go_simp; try with_reducible rfl)
        simp only [Act.put, List.setIfInBounds_toArray, List.set_cons_zero, List.set_cons_succ]
        refine wpAnyH_take (i := 3) (oi := { dst := some 43, op := Op.fieldAddr 43 (Operand.tmp 42) 1, type := 0, pos := "l16_chains.go:41", after := #[{ on := 2, ground := Ground.data }], guard := none }) (v := ?_) rfl (by kernel_rfl) (by kernel_rfl) (by kernel_rfl) (fun _ _ _ h => h) (Or.inl ⟨by rfl, ?hy⟩) hHeld ?_
        case hy => (intro w' hSw; (try dsimp only at hSw); go_simp; try with_reducible rfl)
        simp only [Act.put, List.setIfInBounds_toArray, List.set_cons_zero, List.set_cons_succ]
        refine wpAnyH_take (i := 5) (oi := { dst := some 45, op := Op.move (Operand.tmp 0), type := 22, pos := "l16_chains.go:41", after := #[], guard := none }) (v := ?_) rfl (by kernel_rfl) (by kernel_rfl) (by kernel_rfl) (fun _ _ _ h => h) (Or.inl ⟨by rfl, ?hy⟩) hHeld ?_
        case hy => (intro w' hSw; (try dsimp only at hSw); go_simp; try with_reducible rfl)
        simp only [Act.put, List.setIfInBounds_toArray, List.set_cons_zero, List.set_cons_succ]
        refine wpAnyH_take (i := 6) (oi := { dst := some 46, op := Op.move (Operand.tmp 5), type := 3, pos := "l16_chains.go:41", after := #[], guard := none }) (v := ?_) rfl (by kernel_rfl) (by kernel_rfl) (by kernel_rfl) (fun _ _ _ h => h) (Or.inl ⟨by rfl, ?hy⟩) hHeld ?_
        case hy => (intro w' hSw; (try dsimp only at hSw); go_simp; try with_reducible rfl)
        simp only [Act.put, List.setIfInBounds_toArray, List.set_cons_zero, List.set_cons_succ]
        refine wpAnyH_take (i := 7) (oi := { dst := some 47, op := Op.indexAddr 22 (Operand.tmp 45) (Operand.tmp 46), type := 0, pos := "l16_chains.go:41", after := #[{ on := 5, ground := Ground.data }, { on := 6, ground := Ground.data }], guard := none }) (v := ?_) rfl (by kernel_rfl) (by kernel_rfl) (by kernel_rfl) (fun _ _ _ h => h) (Or.inl ⟨by rfl, ?hy⟩) hHeld ?_
        case hy => (intro w' hSw; (try dsimp only at hSw); go_simp; try with_reducible rfl)
        simp only [Act.put, List.setIfInBounds_toArray, List.set_cons_zero, List.set_cons_succ]
        refine wpAnyH_take (i := 8) (oi := { dst := some 48, op := Op.load 9 (Operand.tmp 47), type := 9, pos := "l16_chains.go:41", after := #[{ on := 7, ground := Ground.data }], guard := none }) (v := ?_) rfl (by kernel_rfl) (by kernel_rfl) (by kernel_rfl) (fun _ _ _ h => h) (Or.inl ⟨by rfl, ?hy⟩) hHeld ?_
        case hy => (intro w' hSw; (try dsimp only at hSw); go_simp; try with_reducible rfl)
        simp only [Act.put, List.setIfInBounds_toArray, List.set_cons_zero, List.set_cons_succ]
        refine wpAnyH_ready (rs := [4]) (by kernel_rfl) (by simp) ?_
        refine AllReadyH.cons (o := { dst := some 44, op := Op.load 41 (Operand.tmp 43), type := 41, pos := "l16_chains.go:41", after := #[{ on := 3, ground := Ground.data }], guard := none }) rfl (fun K hK => ?_) AllReadyH.nil
        have x5 : wr.drew.drew.cell? ⟨w.heap.size, 5, none⟩ = some v := (HBX.out 5 _ rfl).1
        go_simp
        clear x5
        go_wp2_with fail
        refine hK.out _ _ (KS.out _ HC.out.drew).1 (fun hHeld => ?_)
        clear hK K
        try simp only [Act.put, List.setIfInBounds_toArray, List.set_cons_zero, List.set_cons_succ]
        refine wpAnyH_ready (rs := [9]) (by kernel_rfl) (by simp) ?_
        refine AllReadyH.cons (o := { dst := some 49, op := Op.call { callee := Callee.builtin Builtin.append, args := #[Operand.tmp 44, Operand.tmp 48], argTypes := #[41, 9] }, type := 41, pos := "l16_chains.go:41", after := #[{ on := 4, ground := Ground.data }, { on := 8, ground := Ground.data }], guard := none }) rfl (fun K hK => ?_) AllReadyH.nil
        refine wp_append_str _ _ 41 9 rfl (w.heap.size + 1) 5 i0 Tryz.underlying41 Tryz.underlying9 HI.out.1 HI.out.2.1 HI.out.2.2.1 HI.out.2.2.2 v fl.length _ rfl (show OwnB wr.drew.drew (w.heap.size + 1) v fl from HOWN.out) e.f0 rfl (by unfold maxLen; omega) (by omega) (show w.heap.size + 1 ≤ wr.heap.size from hzr.out) ?_
        intro v4 w4 hown4 hgr4
        obtain ⟨g4, cap4, cur4, hv4, _⟩ := (ownB_app hown4).row HNE.out
        obtain ⟨n4, hn4⟩ : ∃ m, (fl ++ e.f0.data.toList).length = m := ⟨_, rfl⟩
        rw [hn4] at hv4
        subst hv4
        have O4 := Lib.hid (ownB_app hown4)
        have B4 := Lib.hid (boxF_grown (w := wr.drew.drew) HBX.out (show w.heap.size < wr.heap.size from hzr.out) hgr4 (ownBlock_ne HOWN.out (by omega)))
        have hb4 := below_of_grown (w := wr.drew.drew) HOWN.out (show w.heap.size + 1 ≤ wr.heap.size from hzr.out) hgr4
        have HB4 := Lib.hid (show Below w.heap.size w w4 from HB.out.drew.drew.trans (hb4.mono (by omega)))
        have HZ4 := Lib.hid (show w.heap.size + 1 ≤ w4.heap.size from Nat.le_trans hzr.out hb4.size)
        clear hown4 hgr4 hb4 hn4
        go_simp
        skip
        go_wp2_with fail
        refine hK.out _ _ (CK.out _ HB4.out) (fun hHeld => ?_)
        clear hK K
        try simp only [Act.put, List.setIfInBounds_toArray, List.set_cons_zero, List.set_cons_succ]
        refine wpAnyH_take (i := 10) (oi := { dst := some 50, op := Op.nilCheck (Operand.tmp 40), type := 0, pos := "l16_chains.go:41", after := #[{ on := 0, ground := Ground.data }, { on := 0, ground := Ground.phase }, { on := 1, ground := Ground.phase }, { on := 2, ground := Ground.phase }, { on := 3, ground := Ground.phase }, { on := 4, ground := Ground.phase }, { on := 5, ground := Ground.phase }, { on := 6, ground := Ground.phase }, { on := 7, ground := Ground.phase }, { on := 8, ground := Ground.phase }, { on := 9, ground := Ground.phase }], guard := none }) (v := ?_) rfl (by kernel_rfl) (by kernel_rfl) (by kernel_rfl) (fun _ _ _ h => h) (Or.inl ⟨by rfl, ?hy⟩) hHeld ?_
        case hy => (intro w' hSw; (try dsimp only at hSw); go_simp; try with_reducible rfl)
        simp only [Act.put, List.setIfInBounds_toArray, List.set_cons_zero, List.set_cons_succ]
        refine wpAnyH_take (i := 11) (oi := { dst := some 51, op := Op.fieldAddr 43 (Operand.tmp 50) 1, type := 0, pos := "l16_chains.go:41", after := #[{ on := 10, ground := Ground.data }, { on := 0, ground := Ground.phase }, { on := 1, ground := Ground.phase }, { on := 2, ground := Ground.phase }, { on := 3, ground := Ground.phase }, { on := 4, ground := Ground.phase }, { on := 5, ground := Ground.phase }, { on := 6, ground := Ground.phase }, { on := 7, ground := Ground.phase }, { on := 8, ground := Ground.phase }, { on := 9, ground := Ground.phase }], guard := none }) (v := ?_) rfl (by kernel_rfl) (by kernel_rfl) (by kernel_rfl) (fun _ _ _ h => h) (Or.inl ⟨by rfl, ?hy⟩) hHeld ?_
        case hy => (intro w' hSw; (try dsimp only at hSw); go_simp; try with_reducible rfl)
        simp only [Act.put, List.setIfInBounds_toArray, List.set_cons_zero, List.set_cons_succ]
        refine wpAnyH_ready (rs := [12]) (by kernel_rfl) (by simp) ?_
        refine AllReadyH.cons (o := { dst := none, op := Op.store 41 (Operand.tmp 51) (Operand.tmp 49), type := 0, pos := "l16_chains.go:41", after := #[{ on := 11, ground := Ground.data }, { on := 9, ground := Ground.data }, { on := 9, ground := Ground.chain }, { on := 0, ground := Ground.phase }, { on := 1, ground := Ground.phase }, { on := 2, ground := Ground.phase }, { on := 3, ground := Ground.phase }, { on := 4, ground := Ground.phase }, { on := 5, ground := Ground.phase }, { on := 6, ground := Ground.phase }, { on := 7, ground := Ground.phase }, { on := 8, ground := Ground.phase }, { on := 9, ground := Ground.phase }], guard := none }) rfl (fun K hK => ?_) AllReadyH.nil
        obtain ⟨x5, y5⟩ := B4.out 5 _ rfl
        go_simp
        refine hK.out _ _ (CK.out _ (HB4.out.setCell (p := ⟨w.heap.size, 5, none⟩) (Nat.le_refl _) (.slice (some ⟨g4, 0, none⟩) n4 cap4))) (fun hHeld => ?_)
        clear hK K
        try simp only [Act.put, List.setIfInBounds_toArray, List.set_cons_zero, List.set_cons_succ]
        refine wpAnyH_done (by kernel_rfl) ?_ _
        clear x5 y5 hHeld KS HC CK ck c0
        have B5 := Lib.hid (B4.out.put 5 (.slice (some ⟨g4, 0, none⟩) n4 cap4) (by simp))
        have O5 := Lib.hid (ownB_setCell (i := 5) (u := (.slice (some ⟨g4, 0, none⟩) n4 cap4)) O4.out (show w.heap.size < w.heap.size + 1 by omega))
        have HB5 := Lib.hid (HB4.out.setCell (p := ⟨w.heap.size, 5, none⟩) (Nat.le_refl _) (.slice (some ⟨g4, 0, none⟩) n4 cap4))
        have HZ5 := Lib.hid (show w.heap.size + 1 ≤ (w4.setCell ⟨w.heap.size, 5, none⟩ (.slice (some ⟨g4, 0, none⟩) n4 cap4)).heap.size by simpa [World.setCell] using HZ4.out)
        clear B4 O4 HB4 HZ4
        generalize w4.setCell ⟨w.heap.size, 5, none⟩ (.slice (some ⟨g4, 0, none⟩) n4 cap4) = w5 at *
        go_wp2
        go_roundw
        case rel => exact ⟨k + 1, by omega, by go_num, Lib.hid (by unfold allLen; rw [all_take_snocE HX.out]; have := hR.out; unfold allLen at this; rw [this]; simp [HQ.out]), ⟨_, B5.out, by rw [HF.out]; exact O5.out⟩, HB5.out, HZ5⟩
        case measure => simp [intOf]; omega
      · have hne : ((e.f0.size : Int) == (e0.f0.size : Int)) = false := by rw [beq_eq_false_iff_ne]; omega
        have HN := Lib.hid (HNO.out (all_false_ofE HX.out (by simp [hq])))
        have HB := Lib.hid hb
        clear hq hb hbx hown
        go_wp2_with fail
        refine wp_region_held_drew (S := (fun w' => w'.cell? ⟨b, off + k, none⟩ = some (.string e.f0) ∧ w'.cell? ⟨b, off, none⟩ = some (.string e0.f0))) (by kernel_rfl) (KS.out _ HC.out) (fun hHeld => ?_)
        refine wpAnyH_take (i := 0) (oi := { dst := some 30, op := Op.move (Operand.tmp 0), type := 22, pos := "l16_chains.go:38", after := #[], guard := none }) (v := ?_) rfl (by kernel_rfl) (by kernel_rfl) (by kernel_rfl) (fun _ _ _ h => h) (Or.inl ⟨by rfl, ?hy⟩) hHeld ?_
        case hy => (intro w' hSw; (try dsimp only at hSw); go_simp; try with_reducible rfl)
        simp only [Act.put, List.setIfInBounds_toArray, List.set_cons_zero, List.set_cons_succ]
        refine wpAnyH_take (i := 1) (oi := { dst := some 31, op := Op.move (Operand.tmp 5), type := 3, pos := "l16_chains.go:38", after := #[], guard := none }) (v := ?_) rfl (by kernel_rfl) (by kernel_rfl) (by kernel_rfl) (fun _ _ _ h => h) (Or.inl ⟨by rfl, ?hy⟩) hHeld ?_
        case hy => (intro w' hSw; (try dsimp only at hSw); go_simp; try with_reducible rfl)
        simp only [Act.put, List.setIfInBounds_toArray, List.set_cons_zero, List.set_cons_succ]
        refine wpAnyH_take (i := 2) (oi := { dst := some 32, op := Op.indexAddr 22 (Operand.tmp 30) (Operand.tmp 31), type := 0, pos := "l16_chains.go:38", after := #[{ on := 0, ground := Ground.data }, { on := 1, ground := Ground.data }], guard := none }) (v := ?_) rfl (by kernel_rfl) (by kernel_rfl) (by kernel_rfl) (fun _ _ _ h => h) (Or.inl ⟨by rfl, ?hy⟩) hHeld ?_
        case hy => (intro w' hSw; (try dsimp only at hSw); go_simp; try with_reducible rfl)
        simp only [Act.put, List.setIfInBounds_toArray, List.set_cons_zero, List.set_cons_succ]
        refine wpAnyH_take (i := 3) (oi := { dst := some 33, op := Op.load 9 (Operand.tmp 32), type := 9, pos := "l16_chains.go:38", after := #[{ on := 2, ground := Ground.data }], guard := none }) (v := ?_) rfl (by kernel_rfl) (by kernel_rfl) (by kernel_rfl) (fun _ _ _ h => h) (Or.inl ⟨by rfl, ?hy⟩) hHeld ?_
        case hy => (intro w' hSw; (try dsimp only at hSw); go_simp; try with_reducible rfl)
        simp only [Act.put, List.setIfInBounds_toArray, List.set_cons_zero, List.set_cons_succ]
        refine wpAnyH_take (i := 4) (oi := { dst := some 34, op := Op.call { callee := Callee.builtin Builtin.len, args := #[Operand.tmp 33], argTypes := #[9] }, type := 3, pos := "l16_chains.go:38", after := #[{ on := 3, ground := Ground.data }], guard := none }) (v := ?_) rfl (by kernel_rfl) (by kernel_rfl) (by kernel_rfl) (fun _ _ _ h => h) (Or.inl ⟨by rfl, ?hy⟩) hHeld ?_
        case hy => (intro w' hSw; (try dsimp only at hSw); go_simp; try with_reducible rfl)
        simp only [Act.put, List.setIfInBounds_toArray, List.set_cons_zero, List.set_cons_succ]
        refine wpAnyH_take (i := 5) (oi := { dst := some 35, op := Op.move (Operand.tmp 0), type := 22, pos := "l16_chains.go:38", after := #[], guard := none }) (v := ?_) rfl (by kernel_rfl) (by kernel_rfl) (by kernel_rfl) (fun _ _ _ h => h) (Or.inl ⟨by rfl, ?hy⟩) hHeld ?_
        case hy => (intro w' hSw; (try dsimp only at hSw); go_simp; try with_reducible rfl)
        simp only [Act.put, List.setIfInBounds_toArray, List.set_cons_zero, List.set_cons_succ]
        refine wpAnyH_take (i := 6) (oi := { dst := some 36, op := Op.indexAddr 22 (Operand.tmp 35) (Operand.const (Value.int IntKind.i64 0)), type := 0, pos := "l16_chains.go:38", after := #[{ on := 5, ground := Ground.data }], guard := none }) (v := ?_) rfl (by kernel_rfl) (by kernel_rfl) (by kernel_rfl) (fun _ _ _ h => h) (Or.inl ⟨by rfl, ?hy⟩) hHeld ?_
        case hy => (intro w' hSw; (try dsimp only at hSw); go_simp; try with_reducible rfl)
        simp only [Act.put, List.setIfInBounds_toArray, List.set_cons_zero, List.set_cons_succ]
        refine wpAnyH_take (i := 7) (oi := { dst := some 37, op := Op.load 9 (Operand.tmp 36), type := 9, pos := "l16_chains.go:38", after := #[{ on := 6, ground := Ground.data }], guard := none }) (v := ?_) rfl (by kernel_rfl) (by kernel_rfl) (by kernel_rfl) (fun _ _ _ h => h) (Or.inl ⟨by rfl, ?hy⟩) hHeld ?_
        case hy => (intro w' hSw; (try dsimp only at hSw); go_simp; try with_reducible rfl)
        simp only [Act.put, List.setIfInBounds_toArray, List.set_cons_zero, List.set_cons_succ]
        refine wpAnyH_take (i := 8) (oi := { dst := some 38, op := Op.call { callee := Callee.builtin Builtin.len, args := #[Operand.tmp 37], argTypes := #[9] }, type := 3, pos := "l16_chains.go:38", after := #[{ on := 7, ground := Ground.data }], guard := none }) (v := ?_) rfl (by kernel_rfl) (by kernel_rfl) (by kernel_rfl) (fun _ _ _ h => h) (Or.inl ⟨by rfl, ?hy⟩) hHeld ?_
        case hy => (intro w' hSw; (try dsimp only at hSw); go_simp; try with_reducible rfl)
        simp only [Act.put, List.setIfInBounds_toArray, List.set_cons_zero, List.set_cons_succ]
        refine wpAnyH_take (i := 9) (oi := { dst := some 39, op := Op.binOp BinOp.neq 3 (Operand.tmp 34) (Operand.tmp 38) 3, type := 4, pos := "l16_chains.go:38", after := #[{ on := 4, ground := Ground.data }, { on := 8, ground := Ground.data }], guard := none }) (v := ?_) rfl (by kernel_rfl) (by kernel_rfl) (by kernel_rfl) (fun _ _ _ h => h) (Or.inl ⟨by rfl, ?hy⟩) hHeld ?_
        case hy => (intro w' hSw; (try dsimp only at hSw); go_simp; try with_reducible rfl)
        simp only [Act.put, List.setIfInBounds_toArray, List.set_cons_zero, List.set_cons_succ]
        refine wpAnyH_done (by kernel_rfl) ?_ _
        go_wp2
        go_ret2
        exact ⟨fun h => absurd h (by rw [HN.out]; omega), fun _ => by rw [HN.out]; rfl, HB.out.drew⟩
    · obtain rfl : k = es.length := by omega
      have hal : allLen e0.f0.size es = true := by have := hR.out; rwa [List.take_length] at this
      have hCC := Lib.hid (HYE.out hal)
      have hall : ∀ e ∈ es, e.f0.size = e0.f0.size := by
        unfold allLen at hal
        rw [List.all_eq_true] at hal
        exact fun x hx => of_decide_eq_true (hal x hx)
      rw [List.take_length] at hown
      have hfn := flatL_len hall
      have hfn2 : 64 ≤ (flatL es).length := by rw [hfn]; exact Nat.le_trans (show 64 ≤ 8 * 8 by omega) (Nat.mul_le_mul (by omega) (by omega))
      have hfn3 : (flatL es).length ≤ 4096 := by rw [hfn]; exact Nat.le_trans (Nat.mul_le_mul (show es.length ≤ 128 by omega) (show e0.f0.size ≤ 32 by omega)) (by omega)
      have FA := Lib.hid (fun i (hi : i < e0.f0.size) => show (flatL es)[i]? = e0.f0.data.toList[i]? by have := flatL_at hall HX0.out hi; rwa [Nat.zero_mul, Nat.zero_add] at this)
      have hzn : e0.f0.size ≤ (flatL es).length := by omega
      have HLay := Lib.hid (show chLay es.length (len0 es) = ⟨(es.length : Int), (e0.f0.size : Int), ((es.length / 8 : Nat) : Int), (chDir es.length e0.f0.size : Int), (chData es.length e0.f0.size : Int)⟩ by rw [HL0.out]; rfl)
      obtain ⟨g, cap, cur, rfl, hgB, hh, hrow⟩ := hown.row (by intro h0; rw [h0] at hfn2; simp at hfn2)
      have HT := Lib.hid (fun i (hi : i < e0.f0.size) => chTop_list es.length e0.f0.size (by omega) i hi)
      have HEQ := Lib.hid (fun h => eq_of_bytes (s := e0.f0) (t := chHead es.length e0.f0.size) (z := e0.f0.size) rfl (chHead_size hz2) h)
      have HTS := Lib.hid (chTop_size es.length)
      have HROW := Lib.hid (And.intro hh hrow)
      have HBX := Lib.hid hbx; have HB := Lib.hid hb
      have hglt : g < wr.heap.size := (Array.getElem?_eq_some_iff.1 hh).1
      have c0 := C0.out _ hb
      have hzr2 := hzr.out
      clear hR hal hall hfn hown hh hrow hbx hb hfn2 SH
      generalize hfl : flatL es = fl at *
      have HFL := Lib.hid hfl; clear hfl
      generalize chTop es.length = top at *
      generalize chHead es.length e0.f0.size = hdr at *
      generalize chDir es.length e0.f0.size = d3 at *
      generalize chData es.length e0.f0.size = d4 at *
      generalize es.length / 8 = q8 at *
      go_wp2_with fail
      refine (SZ.out _).mono ?_
      rintro e w2 ⟨rfl, hb2⟩
      have hz2' := hb2.size
      have R2 := HBX.out.below hb2 (by omega)
      have H2 := Lib.hid (show w2.heap[g]? = some (.cells cur 5 (0, 0)) by rw [hb2.block g hglt]; exact HROW.out.1)
      have FB2 := Lib.hid (HB.out.trans (hb2.mono HB.out.size))
      obtain ⟨a0, y0⟩ := R2 0 _ rfl; obtain ⟨a1, y1⟩ := R2 1 _ rfl; obtain ⟨a2, y2⟩ := R2 2 _ rfl; obtain ⟨a3, y3⟩ := R2 3 _ rfl; obtain ⟨a4, y4⟩ := R2 4 _ rfl
      have R3 := Lib.hid (show BoxF (((((w2.setCell ⟨w.heap.size, 0, none⟩ (.int .i64 (es.length : Int))).setCell ⟨w.heap.size, 1, none⟩ (.int .i64 (e0.f0.size : Int))).setCell ⟨w.heap.size, 2, none⟩ (.int .i64 (q8 : Int))).setCell ⟨w.heap.size, 3, none⟩ (.int .i64 (d3 : Int))).setCell ⟨w.heap.size, 4, none⟩ (.int .i64 (d4 : Int))) w.heap.size #[.int .i64 (es.length : Int), .int .i64 (e0.f0.size : Int), .int .i64 (q8 : Int), .int .i64 (d3 : Int), .int .i64 (d4 : Int), .slice (some ⟨g, 0, none⟩) fl.length cap] from ((((R2.put 0 (.int .i64 (es.length : Int)) (by simp)).put 1 (.int .i64 (e0.f0.size : Int)) (by simp)).put 2 (.int .i64 (q8 : Int)) (by simp)).put 3 (.int .i64 (d3 : Int)) (by simp)).put 4 (.int .i64 (d4 : Int)) (by simp))
      clear hb2 R2 c0
      go_wp2_with fail
      have H3 := Lib.hid (show (((((w2.setCell ⟨w.heap.size, 0, none⟩ (.int .i64 (es.length : Int))).setCell ⟨w.heap.size, 1, none⟩ (.int .i64 (e0.f0.size : Int))).setCell ⟨w.heap.size, 2, none⟩ (.int .i64 (q8 : Int))).setCell ⟨w.heap.size, 3, none⟩ (.int .i64 (d3 : Int))).setCell ⟨w.heap.size, 4, none⟩ (.int .i64 (d4 : Int))).heap[g]? = some (.cells cur 5 (0, 0)) by rw [heap_setCell_ne _ _ _ _ _ (by omega), heap_setCell_ne _ _ _ _ _ (by omega), heap_setCell_ne _ _ _ _ _ (by omega), heap_setCell_ne _ _ _ _ _ (by omega), heap_setCell_ne _ _ _ _ _ (by omega)]; exact H2.out)
      have FB3 := Lib.hid (show Below w.heap.size w (((((w2.setCell ⟨w.heap.size, 0, none⟩ (.int .i64 (es.length : Int))).setCell ⟨w.heap.size, 1, none⟩ (.int .i64 (e0.f0.size : Int))).setCell ⟨w.heap.size, 2, none⟩ (.int .i64 (q8 : Int))).setCell ⟨w.heap.size, 3, none⟩ (.int .i64 (d3 : Int))).setCell ⟨w.heap.size, 4, none⟩ (.int .i64 (d4 : Int))) from ((((FB2.out.setCell (p := ⟨w.heap.size, 0, none⟩) (Nat.le_refl _) _).setCell (p := ⟨w.heap.size, 1, none⟩) (Nat.le_refl _) _).setCell (p := ⟨w.heap.size, 2, none⟩) (Nat.le_refl _) _).setCell (p := ⟨w.heap.size, 3, none⟩) (Nat.le_refl _) _).setCell (p := ⟨w.heap.size, 4, none⟩) (Nat.le_refl _) _)
      have HS3 := Lib.hid (show (((((w2.setCell ⟨w.heap.size, 0, none⟩ (.int .i64 (es.length : Int))).setCell ⟨w.heap.size, 1, none⟩ (.int .i64 (e0.f0.size : Int))).setCell ⟨w.heap.size, 2, none⟩ (.int .i64 (q8 : Int))).setCell ⟨w.heap.size, 3, none⟩ (.int .i64 (d3 : Int))).setCell ⟨w.heap.size, 4, none⟩ (.int .i64 (d4 : Int))).heap.size = w2.heap.size by simp [World.setCell])
      clear a0 y0 a1 y1 a2 y2 a3 y3 a4 y4 H2 FB2
      generalize ((((w2.setCell ⟨w.heap.size, 0, none⟩ (.int .i64 (es.length : Int))).setCell ⟨w.heap.size, 1, none⟩ (.int .i64 (e0.f0.size : Int))).setCell ⟨w.heap.size, 2, none⟩ (.int .i64 (q8 : Int))).setCell ⟨w.heap.size, 3, none⟩ (.int .i64 (d3 : Int))).setCell ⟨w.heap.size, 4, none⟩ (.int .i64 (d4 : Int)) = w3 at *
      have hz3 : w.heap.size < w3.heap.size ∧ g < w3.heap.size := by have := HS3.out; omega
      refine (HE.out _ _ _).mono ?_
      rintro e w4 ⟨rfl, hb4⟩
      have R4 := Lib.hid (R3.out.below hb4 hz3.1)
      have H4 := Lib.hid (show w4.heap[g]? = some (.cells cur 5 (0, 0)) by rw [hb4.block g hz3.2]; exact H3.out)
      have FB4 := Lib.hid (FB3.out.trans (hb4.mono FB3.out.size))
      have x1 := (R4.out 1 _ rfl).1
      have x5 := (R4.out 5 _ rfl).1
      have hts6 : top.size = 6 := HTS.out
      have HTS6 := Lib.hid hts6
      clear hb4 R3 H3 FB3 hz3 HE SZ hzr hglt hts6
      go_wp2
      go_loop [7, 8] (fun i _ => ∃ k : Nat, k ≤ e0.f0.size ∧ i = .int .i64 k ∧ Hid (∀ j, j < k → e0.f0.data.toList[j]? = hdr.data.toList[j]?)) (fun i _ => e0.f0.size - (intOf i).toNat)
      case atStart => exact ⟨0, Nat.zero_le _, rfl, Lib.hid (fun j hj => absurd hj (by omega))⟩
      case round =>
        obtain ⟨k, hk, rfl, hR⟩ := hrel
        by_cases hlt : k < e0.f0.size
        · have hkf : k < fl.length := by omega
          have ck := HROW.out.2.cell H4.out k hkf
          have e1 : (k : Int) < (e0.f0.size : Int) := by omega
          have hfk : fl[k]? = some fl[k] := List.getElem?_eq_getElem hkf
          have F0 := Lib.hid (show e0.f0.data.toList[k]? = some fl[k] by rw [← FA.out k hlt, hfk])
          have HK := Lib.hid (HT.out k hlt)
          generalize fl[k] = x at *
          clear hfk hzn hfn3
          have HB7 := Lib.hid (fun (h : ¬ e0.f0.data.toList[k]? = hdr.data.toList[k]?) => show chCode es = 7 by rw [hCC.out, if_neg (fun h9 => h (by rw [h9]))])
          have HR7 := Lib.hid (show e0.f0.data.toList[k]? = hdr.data.toList[k]? → ∀ j, j < k + 1 → e0.f0.data.toList[j]? = hdr.data.toList[j]? from fun h9 j hj => by
            by_cases hjk : j = k
            · rw [hjk]; exact h9
            · exact hR.out j (by omega))
          by_cases h6 : k < top.size
          · rw [dif_pos h6] at HK
            have e2 : (k : Int) < (top.size : Int) := by omega
            by_cases hxy : x = top[k]
            · have hq1 : ((x.toNat : Int) != (top[k].toNat : Int)) = false := by rw [hxy]; simp
              have hx2 := Lib.hid (show e0.f0.data.toList[k]? = hdr.data.toList[k]? by rw [F0.out, HK.out, hxy])
              clear hxy
              go_wp2
              go_round
              case rel => exact ⟨k + 1, by omega, by go_num, Lib.hid (HR7.out hx2.out)⟩
              case measure => simp [intOf]; omega
            · have hq1 : ((x.toNat : Int) != (top[k].toNat : Int)) = true := by
                rw [bne_iff_ne]
                intro h9
                exact hxy (UInt8.toNat_inj.1 (by omega))
              have h7 := Lib.hid (HB7.out (by rw [F0.out, HK.out]; intro h9; exact hxy (Option.some.inj h9)))
              clear hxy
              go_wp2
              go_ret2
              exact ⟨fun h => absurd h (by rw [h7.out]; omega), fun _ => by rw [h7.out]; rfl, FB4.out⟩
          · rw [dif_neg h6] at HK
            have e2 : ¬ (k : Int) < (top.size : Int) := by omega
            by_cases hxy : x = 0
            · have hq1 : ((x.toNat : Int) != 0) = false := by rw [hxy]; rfl
              have hx2 := Lib.hid (show e0.f0.data.toList[k]? = hdr.data.toList[k]? by rw [F0.out, HK.out, hxy])
              clear hxy
              go_wp2
              go_round
              case rel => exact ⟨k + 1, by omega, by go_num, Lib.hid (HR7.out hx2.out)⟩
              case measure => simp [intOf]; omega
            · have hq1 : ((x.toNat : Int) != 0) = true := by
                rw [bne_iff_ne]
                intro h9
                exact hxy (UInt8.toNat_inj.1 (by simp; omega))
              have h7 := Lib.hid (HB7.out (by rw [F0.out, HK.out]; intro h9; exact hxy (Option.some.inj h9)))
              clear hxy
              go_wp2
              go_ret2
              exact ⟨fun h => absurd h (by rw [h7.out]; omega), fun _ => by rw [h7.out]; rfl, FB4.out⟩
        · obtain rfl : k = e0.f0.size := by omega
          have hye := Lib.hid (HEQ.out hR.out)
          have hC0 := Lib.hid (show chCode es = 0 by rw [hCC.out, if_pos hye.out])
          go_wp2
          go_ret2
          exact ⟨fun _ => ⟨w.heap.size, g, cap, rfl, Nat.le_refl _, by omega, by rw [HLay.out, HFL.out]; exact ⟨R4.out, cur, H4.out, HROW.out.2⟩⟩, fun h => absurd hC0.out h, FB4.out⟩
end Go.Proofs.YtpdodpnhohmjaaaGreatDoor
