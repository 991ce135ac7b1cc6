/- impl.RotateCells -/
import Derived.Test.YtpdodpnhohmjaaaGreatDoorPkGoneBlocksC
import Derived.Test.YtpdodpnhohmjaaaGreatDoorPkGoneBlocksD
import Derived.Test.YtpdodpnhohmjaaaGreatDoorPkGoneBlocksB
import Derived.BigRegion
section
set_option linter.unusedVariables false
namespace Go.Proofs.YtpdodpnhohmjaaaGreatDoor
open Go.RowKit
set_option maxRecDepth 20000
theorem validCells_bd {s : ByteArray} (h : validCells s = true) : 0 < s.size ∧ s.size ≤ 8000 := by
  unfold validCells at h
  simp only [Bool.and_eq_true, inB_iff] at h
  omega
end Go.Proofs.YtpdodpnhohmjaaaGreatDoor
end
section
set_option linter.unusedVariables false
namespace Go.Proofs.YtpdodpnhohmjaaaGreatDoor
open Go.RowKit
set_option maxRecDepth 20000
/-- The cell at place k of a circle. -/
def cycB (s : ByteArray) (k : Nat) : UInt8 := s[k % s.size]?.getD 0
/-- The first k cells from place a on. -/
def arcL (s : ByteArray) (a k : Nat) : List UInt8 := ((s.data.toList ++ s.data.toList).drop a).take k
theorem cyc_at (s : ByteArray) (k q : Nat) (hq : k % s.size = q) (h : q < s.size) : cycB s k = s[q] := by
  subst hq
  unfold cycB
  simp [h]
theorem cyc_toList (s : ByteArray) (k : Nat) (h : 0 < s.size) : s.data.toList[k % s.size]? = some (cycB s k) := by
  have hlt : k % s.size < s.size := Nat.mod_lt _ h
  rw [cyc_at s k _ rfl hlt]
  rw [List.getElem?_eq_getElem (by simpa using hlt)]
  rfl
theorem arcL_nil (s : ByteArray) (a : Nat) : arcL s a 0 = [] := by simp [arcL]
theorem arcL_succ (s : ByteArray) (a k : Nat) (ha : a < s.size) (hk : k < s.size) : arcL s a (k + 1) = arcL s a k ++ [cycB s (a + k)] := by
  have hl : s.data.toList.length = s.size := by simp
  have h1 : (s.data.toList ++ s.data.toList)[a + k]? = some (cycB s (a + k)) := by
    rw [← cyc_toList s (a + k) (by omega)]
    by_cases h : a + k < s.size
    · rw [List.getElem?_append_left (by omega), Nat.mod_eq_of_lt h]
    · rw [List.getElem?_append_right (by omega), hl]
      congr 1
      rw [Nat.mod_eq_sub_mod (by omega), Nat.mod_eq_of_lt (by omega)]
  unfold arcL
  rw [List.take_add_one, List.getElem?_drop, h1]
  rfl
theorem arcL_length (s : ByteArray) (a k : Nat) (ha : a < s.size) (hk : k ≤ s.size) : (arcL s a k).length = k := by
  have hl : s.data.toList.length = s.size := by simp
  simp [arcL]; omega
def arcS (s : ByteArray) (a n : Nat) : ByteArray := (s ++ s).extract a (a + n)
theorem arc_eq (s : ByteArray) (a n : Nat) : arcS s a n = ⟨(arcL s a n).toArray⟩ := by
  unfold arcS arcL
  rw [show ∀ x y : ByteArray, x = y ↔ x.data = y.data from fun x y => ⟨fun h => by rw [h], fun h => by cases x; cases y; simp at h; rw [h]⟩]
  apply Array.ext'
  rw [ByteArray.data_extract, Array.toList_extract]
  show List.take (a + n - a) (List.drop a (s ++ s).data.toList) = _
  rw [show (s ++ s).data.toList = s.data.toList ++ s.data.toList by simp, show a + n - a = n by omega]
def sliceOk (s : ByteArray) (a n : Int) : Bool := validCells s && inB 0 ((s.size : Int) - 1) a && inB 0 s.size n
def sliceV (s : ByteArray) (a n : Int) : ByteArray := if sliceOk s a n = true then arcS s a.toNat n.toNat else ⟨#[]⟩
end Go.Proofs.YtpdodpnhohmjaaaGreatDoor
end
section
set_option linter.unusedVariables false
namespace Go.Proofs.YtpdodpnhohmjaaaGreatDoor
open Go.RowKit
set_option maxRecDepth 20000
set_option maxHeartbeats 400000 in
theorem isPlace_any (n total : Int) (w : World) (h0 : -9223372036854775808 < total) (h1 : total ≤ 9223372036854775807) :
    Calls Tryz.prog 37 #[.int .i64 n, .int .i64 total] w fun e w' => e = .returned (.bool (inB 0 (total - 1) n)) ∧ Below w.heap.size w w' := by
  go_enter Tryz.func37, Tryz.ntmps37
  go_wp2_with (go_at_call 57; refine (within_at _ _ _ _ _ _ (by simp)).mono ?_; rintro e w' ⟨rfl, rfl⟩)
  go_ret
  exact ⟨rfl, (Below.refl _ _).alloc (Nat.le_refl _) _⟩
theorem within_b (lo hi n : Int) (w : World) (T : TypeId) (b : Nat) (hb : w.heap.size = b) :
    Calls Tryz.prog 57 #[.int .i64 lo, .int .i64 hi, .slice (some ⟨b, 0, none⟩) 1 1] (w.alloc (.cells #[.int .i64 n] T)) fun e w' => e = .returned (.bool (inB lo hi n)) ∧ Below w.heap.size w w' :=
  (within_at lo hi n w T b hb).mono fun e w' ⟨he, hw⟩ => ⟨he, by rw [← hw]; exact (Below.refl _ _).alloc (Nat.le_refl _) _⟩
end Go.Proofs.YtpdodpnhohmjaaaGreatDoor
end
section
set_option linter.unusedVariables false
namespace Go.Proofs.YtpdodpnhohmjaaaGreatDoor
open Go.RowKit
set_option maxRecDepth 20000
set_option linter.unusedVariables false
/-- The bytes of a sector of a size that exists. -/
def secN (z : Int) : Int := if z = 0 then 8 else if z = 1 then 16 else 32
def secDataB (z : Int) (d : ByteArray) : Bool := inB 0 2 z && decide ((d.size : Int) = secN z)
theorem areBytes_list (zs : List Int) (b off c : Nat) (w : World) (hl : zs.length ≤ maxLen) (hc : Ints w b off zs) :
    Calls Tryz.prog 95 #[.slice (some ⟨b, off, none⟩) zs.length c] w fun e w' => e = .returned (.bool (zs.all (inB 0 255))) ∧ w = w' := by
  have WI := Lib.hid (within_list 0 255 zs b off c w hl hc)
  go_enter Tryz.func95, Tryz.ntmps95
  go_wp2_with (go_at_call 57; refine WI.out.mono ?_; rintro e w' ⟨rfl, rfl⟩)
  go_ret
  exact ⟨rfl, rfl⟩
theorem areBytes_4 (x0 x1 x2 x3 : Int) (w : World) (T : TypeId) (b : Nat) (hb : w.heap.size = b) :
    Calls Tryz.prog 95 #[.slice (some ⟨b, 0, none⟩) 4 4] (w.alloc (.cells #[.int .i64 x0, .int .i64 x1, .int .i64 x2, .int .i64 x3] T)) fun e w' => e = .returned (.bool ([x0, x1, x2, x3].all (inB 0 255))) ∧ Below w.heap.size w w' := by
  subst hb
  refine (areBytes_list [x0, x1, x2, x3] w.heap.size 0 4 _ (by simp [maxLen]) (by
    intro i v hv
    match i, hv with
    | 0, hv => simp at hv; subst hv; simp [go_sem]
    | 1, hv => simp at hv; subst hv; simp [go_sem]
    | 2, hv => simp at hv; subst hv; simp [go_sem]
    | 3, hv => simp at hv; subst hv; simp [go_sem]
    | i + 4, hv => simp at hv)).mono ?_
  rintro e w' ⟨rfl, rfl⟩
  exact ⟨rfl, (Below.refl _ _).alloc (Nat.le_refl _) _⟩
theorem areBytes_3 (x0 x1 x2 : Int) (w : World) (T : TypeId) (b : Nat) (hb : w.heap.size = b) :
    Calls Tryz.prog 95 #[.slice (some ⟨b, 0, none⟩) 3 3] (w.alloc (.cells #[.int .i64 x0, .int .i64 x1, .int .i64 x2] T)) fun e w' => e = .returned (.bool ([x0, x1, x2].all (inB 0 255))) ∧ Below w.heap.size w w' := by
  subst hb
  refine (areBytes_list [x0, x1, x2] w.heap.size 0 3 _ (by simp [maxLen]) (by
    intro i v hv
    match i, hv with
    | 0, hv => simp at hv; subst hv; simp [go_sem]
    | 1, hv => simp at hv; subst hv; simp [go_sem]
    | 2, hv => simp at hv; subst hv; simp [go_sem]
    | i + 3, hv => simp at hv)).mono ?_
  rintro e w' ⟨rfl, rfl⟩
  exact ⟨rfl, (Below.refl _ _).alloc (Nat.le_refl _) _⟩
theorem empty_no {s : ByteArray} (h : ¬ s = ⟨#[]⟩) : (s.toList == (⟨#[]⟩ : ByteArray).toList) = false ∧ (s.toList == []) = false := by
  have h2 : ¬ s.toList = [] := by
    intro e
    apply h
    rw [ByteArray.toList_eq] at e
    apply ByteArray.ext
    exact Array.toList_eq_nil_iff.1 e
  have e1 : (⟨#[]⟩ : ByteArray).toList = [] := by rw [ByteArray.toList_eq]
  rw [e1]
  exact ⟨beq_eq_false_iff_ne.2 h2, beq_eq_false_iff_ne.2 h2⟩
end Go.Proofs.YtpdodpnhohmjaaaGreatDoor
end
section
set_option linter.unusedVariables false
namespace Go.Proofs.YtpdodpnhohmjaaaGreatDoor
open Go.RowKit
set_option maxRecDepth 20000
/-- The cells from p on hold these values, and none of them is frozen. -/
def BoxF (w : World) (p : Nat) (vs : Array Value) : Prop := ∀ i v, vs[i]? = some v → w.cell? ⟨p, i, none⟩ = some v ∧ w.frozen? ⟨p, i, none⟩ = false
theorem BoxF.below {w w' : World} {B p : Nat} {vs : Array Value} (h : BoxF w p vs) (hb : Below B w w') (hp : p < B) : BoxF w' p vs := by
  intro i v hv
  rw [hb.cell (p := ⟨p, i, none⟩) hp, hb.frozen (p := ⟨p, i, none⟩) hp]; exact h i v hv
theorem BoxF.box {w : World} {p : Nat} {vs : Array Value} (h : BoxF w p vs) : BoxAt w p vs := fun i v hv => (h i v hv).1
theorem BoxF.new (w : World) (vs : Array Value) (T : TypeId) (p : Nat) (hp : w.heap.size = p) : BoxF (w.alloc (.cells vs T)) p vs := by
  subst hp
  intro i v hv
  have e := heap_alloc_new w (.cells vs T)
  refine ⟨?_, ?_⟩
  · simp only [World.cell?, e, hv]; rfl
  · simp only [World.frozen?, e]; simp
theorem BoxF.drew {w : World} {p : Nat} {vs : Array Value} (h : BoxF w p vs) : BoxF w.drew p vs := h
theorem BoxF.drewN {w : World} {p : Nat} {vs : Array Value} (h : BoxF w p vs) (n : Nat) : BoxF (w.drewN n) p vs := h
theorem boxF1 {w : World} {p : Nat} {a : Value} (h0 : w.cell? ⟨p, 0, none⟩ = some a ∧ w.frozen? ⟨p, 0, none⟩ = false) : BoxF w p #[a] := by
  intro i v hv
  match i, hv with
  | 0, hv => simp at hv; subst hv; exact h0
  | n + 1, hv => simp at hv
theorem boxF2 {w : World} {p : Nat} {a b : Value} (h0 : w.cell? ⟨p, 0, none⟩ = some a ∧ w.frozen? ⟨p, 0, none⟩ = false) (h1 : w.cell? ⟨p, 1, none⟩ = some b ∧ w.frozen? ⟨p, 1, none⟩ = false) : BoxF w p #[a, b] := by
  intro i v hv
  match i, hv with
  | 0, hv => simp at hv; subst hv; exact h0
  | 1, hv => simp at hv; subst hv; exact h1
  | n + 2, hv => simp at hv
theorem boxF3 {w : World} {p : Nat} {a b c : Value} (h0 : w.cell? ⟨p, 0, none⟩ = some a ∧ w.frozen? ⟨p, 0, none⟩ = false) (h1 : w.cell? ⟨p, 1, none⟩ = some b ∧ w.frozen? ⟨p, 1, none⟩ = false) (h2 : w.cell? ⟨p, 2, none⟩ = some c ∧ w.frozen? ⟨p, 2, none⟩ = false) : BoxF w p #[a, b, c] := by
  intro i v hv
  match i, hv with
  | 0, hv => simp at hv; subst hv; exact h0
  | 1, hv => simp at hv; subst hv; exact h1
  | 2, hv => simp at hv; subst hv; exact h2
  | n + 3, hv => simp at hv
theorem boxF4 {w : World} {p : Nat} {a b c d : Value} (h0 : w.cell? ⟨p, 0, none⟩ = some a ∧ w.frozen? ⟨p, 0, none⟩ = false) (h1 : w.cell? ⟨p, 1, none⟩ = some b ∧ w.frozen? ⟨p, 1, none⟩ = false) (h2 : w.cell? ⟨p, 2, none⟩ = some c ∧ w.frozen? ⟨p, 2, none⟩ = false) (h3 : w.cell? ⟨p, 3, none⟩ = some d ∧ w.frozen? ⟨p, 3, none⟩ = false) : BoxF w p #[a, b, c, d] := by
  intro i v hv
  match i, hv with
  | 0, hv => simp at hv; subst hv; exact h0
  | 1, hv => simp at hv; subst hv; exact h1
  | 2, hv => simp at hv; subst hv; exact h2
  | 3, hv => simp at hv; subst hv; exact h3
  | n + 4, hv => simp at hv
theorem boxF5 {w : World} {p : Nat} {a b c d e : Value} (h0 : w.cell? ⟨p, 0, none⟩ = some a ∧ w.frozen? ⟨p, 0, none⟩ = false) (h1 : w.cell? ⟨p, 1, none⟩ = some b ∧ w.frozen? ⟨p, 1, none⟩ = false) (h2 : w.cell? ⟨p, 2, none⟩ = some c ∧ w.frozen? ⟨p, 2, none⟩ = false) (h3 : w.cell? ⟨p, 3, none⟩ = some d ∧ w.frozen? ⟨p, 3, none⟩ = false) (h4 : w.cell? ⟨p, 4, none⟩ = some e ∧ w.frozen? ⟨p, 4, none⟩ = false) : BoxF w p #[a, b, c, d, e] := by
  intro i v hv
  match i, hv with
  | 0, hv => simp at hv; subst hv; exact h0
  | 1, hv => simp at hv; subst hv; exact h1
  | 2, hv => simp at hv; subst hv; exact h2
  | 3, hv => simp at hv; subst hv; exact h3
  | 4, hv => simp at hv; subst hv; exact h4
  | n + 5, hv => simp at hv
end Go.Proofs.YtpdodpnhohmjaaaGreatDoor
end
section
set_option linter.unusedVariables false
namespace Go.Proofs.YtpdodpnhohmjaaaGreatDoor
open Go.RowKit
set_option maxRecDepth 20000
def RowB (C : Array Value) (l : List UInt8) (cap : Nat) : Prop := C.size = cap ∧ l.length ≤ cap ∧ ∀ j (h : j < l.length), C[j]? = some (.int .u8 (l[j].toNat : Int))
theorem RowB.ofBytes (s : ByteArray) (cap : Nat) (h : s.size ≤ cap) : RowB (bytesRow s cap) s.data.toList cap := by
  have hl : s.data.toList.length = s.size := by simp
  refine ⟨?_, by omega, ?_⟩
  · have : s.data.size = s.size := rfl
    simp [bytesRow]; omega
  · intro j hj
    have := bytesRow_at s cap j (by omega)
    rw [this]
    simp
theorem RowB.set {C : Array Value} {l : List UInt8} {cap : Nat} (h : RowB C l cap) (k : Nat) (x : UInt8) (hk : k < l.length) : RowB (C.setIfInBounds k (.int .u8 (x.toNat : Int))) (l.set k x) cap := by
  obtain ⟨h1, h2, h3⟩ := h
  refine ⟨by simpa using h1, by simpa using h2, ?_⟩
  intro j hj
  rw [List.length_set] at hj
  rw [Array.getElem?_setIfInBounds, List.getElem_set]
  by_cases e : k = j
  · subst e
    rw [if_pos rfl, if_pos (by omega), if_pos rfl]
  · rw [if_neg e, if_neg e]
    exact h3 j hj
theorem RowB.cell {C : Array Value} {l : List UInt8} {cap : Nat} (h : RowB C l cap) {w : World} {b : Nat} {fr : Nat × Nat} {T : TypeId} (hC : w.heap[b]? = some (.cells C T fr)) (k : Nat) (hk : k < l.length) : w.cell? ⟨b, k, none⟩ = some (.int .u8 (l[k].toNat : Int)) := by
  simp [World.cell?, hC, h.2.2 k hk]
theorem RowB.conv {C : Array Value} {l : List UInt8} {cap : Nat} (h : RowB C l cap) {w : World} {b : Nat} {fr : Nat × Nat} {T : TypeId} (hC : w.heap[b]? = some (.cells C T fr)) (n c : Nat) (hn : l.length = n) :
    (convert 41 9 (.slice (some ⟨b, 0, none⟩) n c)).run Tryz.prog w = .ok (.string ⟨l.toArray⟩) w := by
  subst hn
  refine conv_of _ _ _ _ ?_
  intro j hj
  rw [add0]
  exact h.cell hC j hj
theorem conv_new1 (W : World) (x : Int) (h1 : 0 ≤ x) (h2 : x < 256) :
    (convert 41 9 (.slice (some ⟨W.heap.size, 0, none⟩) 1 1)).run Tryz.prog (W.alloc (.cells #[.int .u8 x] 5)) = .ok (.string ⟨#[x.toNat.toUInt8]⟩) (W.alloc (.cells #[.int .u8 x] 5)) := by
  refine conv_of _ _ 1 [x.toNat.toUInt8] ?_
  intro j hj
  have e := add0 W.heap.size j
  have hx : x.toNat % 256 = x.toNat := Nat.mod_eq_of_lt (by omega)
  match j, hj with
  | 0, _ => rw [e]; simp [go_sem, hx]; omega
  | j + 1, hj => simp at hj
end Go.Proofs.YtpdodpnhohmjaaaGreatDoor
end
section
set_option linter.unusedVariables false
namespace Go.Proofs.YtpdodpnhohmjaaaGreatDoor
open Go.RowKit
set_option maxRecDepth 20000
set_option linter.unusedVariables false
set_option linter.unusedSimpArgs false
set_option maxRecDepth 20000
theorem validE_bds {e : ChainEntryV} (h : validE e = true) : e.f0.size ≤ 8 ∧ (0 ≤ e.f1 ∧ e.f1 ≤ 255) ∧ (0 ≤ e.f2 ∧ e.f2 ≤ 512) := by
  unfold validE at h
  rw [Bool.or_eq_true] at h
  rcases h with h | h
  · have h3 := sameChainEntry_iff.1 h
    subst h3
    exact ⟨by show 0 ≤ 8; omega, ⟨by show (0 : Int) ≤ 0; omega, by show (0 : Int) ≤ 255; omega⟩, ⟨by show (0 : Int) ≤ 0; omega, by show (0 : Int) ≤ 512; omega⟩⟩
  · simp only [Bool.and_eq_true] at h
    obtain ⟨_, hn, h1, h2⟩ := h
    unfold nameB at hn
    rw [Bool.and_eq_true] at hn
    have := inB_iff.1 hn.2
    exact ⟨by omega, inB_iff.1 h1, inB_iff.1 h2⟩
theorem byteTextE_any (n : Nat) (h : n < 256) (w : World) :
    Calls Tryz.prog 84 #[.int .i64 (n : Int)] w fun e w' => e = .returned (.string (byteE n)) ∧ Below w.heap.size w w' := by
  have hcv := conv_new1 w (n : Int) (by omega) (by omega)
  rw [Int.toNat_natCast] at hcv
  have h2 : (n : Int) < 256 := by omega
  go_enter Tryz.func84, Tryz.ntmps84
  go_wp2
  go_ret
  exact ⟨rfl, (Below.refl _ _).alloc (Nat.le_refl _) _⟩
set_option maxHeartbeats 4000000 in
theorem entEmpty_any (e : ChainEntryV) (w : World) :
    Calls Tryz.prog 93 #[.agg #[.string e.f0, .int .i64 e.f1, .int .i64 e.f2, .bool e.f3, .bool e.f4]] w fun x w' => x = .returned (.bool (emptyE e)) ∧ Below w.heap.size w w' := by
  obtain ⟨f0, f1, f2, f3, f4⟩ := e
  dsimp only
  by_cases h0 : f0 = ⟨#[]⟩
  · subst h0
    go_enter Tryz.func93, Tryz.ntmps93
    go_wp2
    all_goals
      go_ret
      refine ⟨ret_bool ?_, by go_grown⟩
      simp_all [emptyE, sameChainEntry, zeroE]
  · have h1 : ¬ f0.toList = [] := fun h => h0 ((toList_nil_iff_emptyBytes _).mp h)
    go_enter Tryz.func93, Tryz.ntmps93
    go_wp2
    all_goals
      go_ret
      refine ⟨ret_bool ?_, by go_grown⟩
      simp_all [emptyE, sameChainEntry, zeroE]
set_option maxHeartbeats 8000000 in
theorem entValid_any (e : ChainEntryV) (hs : e.f0.size ≤ maxLen) (w : World) :
    Calls Tryz.prog 62 #[.agg #[.string e.f0, .int .i64 e.f1, .int .i64 e.f2, .bool e.f3, .bool e.f4]] w fun x w' => x = .returned (.bool (validE e)) ∧ Below w.heap.size w w' := by
  have EM := Lib.hid (fun w => entEmpty_any e w)
  have NM := Lib.hid (fun w => isName_any e.f0 w hs)
  have AB := Lib.hid (fun (W : World) (b : Nat) (hb : W.heap.size = b) => areBytes_list [e.f1] b 0 1 (W.alloc (.cells #[.int .i64 e.f1] 2)) (by simp [maxLen]) (by
    subst hb
    intro i v hv
    simp only [World.cell?, Nat.zero_add, heap_alloc_new]
    match i, hv with
    | 0, hv => cases hv; rfl
    | i + 1, hv => simp at hv))
  have KB := Lib.hid (BoxAt.new w #[.string e.f0, .int .i64 e.f1, .int .i64 e.f2, .bool e.f3, .bool e.f4] 45 w.heap.size rfl)
  unfold validE
  generalize emptyE e = b0 at *
  generalize nameB e.f0 = b1 at *
  have h255 : [e.f1].all (inB 0 255) = inB 0 255 e.f1 := by simp
  rw [h255] at AB
  clear h255
  have WI := Lib.hid (fun W b hb => within_b 0 512 e.f2 W 2 b hb)
  generalize inB 0 255 e.f1 = b2 at *
  generalize inB 0 512 e.f2 = b3 at *
  clear hs
  go_enter Tryz.func62, Tryz.ntmps62
  go_wp2_with fail
  refine (EM.out _).mono ?_
  rintro x w1 ⟨rfl, hb1⟩
  replace KB := Lib.hid (KB.out.below hb1 (by simp))
  have F1 := Lib.hid (show Below w.heap.size w w1 from Below.trans (by go_grown) (hb1.mono (by simp)))
  have hlt : w.heap.size < w1.heap.size := by have := hb1.size; simp at this; omega
  clear hb1
  cases b0
  case true =>
    go_wp2
    go_ret
    exact ⟨rfl, F1.out⟩
  case false =>
    have c3 := KB.out 3 _ rfl
    have c4 := KB.out 4 _ rfl
    cases hx : (e.f3 != e.f4)
    case false =>
      have h34 : e.f3 = e.f4 := by simpa using hx
      rw [h34] at c3
      clear hx
      go_wp2
      all_goals
        first
          | (go_ret; exact ⟨ret_bool (by simp_all), F1.out⟩)
          | (exfalso; simp_all; done)
    case true =>
      have h34 : e.f3 = !e.f4 := by
        cases h3 : e.f3 <;> cases h4 : e.f4 <;> simp_all
      rw [h34] at c3
      have HX := Lib.hid hx
      clear hx h34
      cases h4 : e.f4
      all_goals
        rw [h4] at c3 c4
        simp only [Bool.not_false, Bool.not_true] at c3
        clear h4
        have c0 := KB.out 0 _ rfl
        go_wp2_with fail
        refine (NM.out _).mono ?_
        rintro x w2 ⟨rfl, hb2⟩
        replace KB := Lib.hid (KB.out.below hb2 hlt)
        have F2 := Lib.hid (F1.out.trans (hb2.mono F1.out.size))
        have hlt2 : w.heap.size < w2.heap.size := Nat.lt_of_lt_of_le hlt hb2.size
        clear hb2 c0 c3 c4
        cases b1
        case false =>
          go_wp2
          go_ret
          exact ⟨ret_bool (by simp [HX.out]), F2.out⟩
        case true =>
          have c1 := KB.out 1 _ rfl
          go_wp2_with fail
          refine (AB.out _ _ rfl).mono ?_
          rintro x w3 ⟨rfl, hw3⟩
          have hb3 : Below w2.heap.size w2 w3 := by rw [← hw3]; exact (Below.refl _ _).alloc (Nat.le_refl _) _
          clear hw3
          replace KB := Lib.hid (KB.out.below hb3 hlt2)
          have F3 := Lib.hid (F2.out.trans (hb3.mono F2.out.size))
          clear hb3 c1
          cases b2
          case false =>
            go_wp2
            go_ret
            exact ⟨ret_bool (by simp [HX.out]), F3.out⟩
          case true =>
            have c2 := KB.out 2 _ rfl
            go_wp2_with fail
            refine (WI.out _ _ rfl).mono ?_
            rintro x w4 ⟨rfl, hb4⟩
            have F4 := Lib.hid (F3.out.trans (hb4.mono F3.out.size))
            clear hb4 c2
            go_wp2
            go_ret
            exact ⟨ret_bool (by simp [HX.out]), F4.out⟩
def stE2 (a b : Bool) : Nat := if a = true then 1 else if b = true then 2 else 0
set_option maxHeartbeats 8000000 in
theorem entBytes_any (e : ChainEntryV) (h : validE e = true) (w : World) :
    Calls Tryz.prog 63 #[.agg #[.string e.f0, .int .i64 e.f1, .int .i64 e.f2, .bool e.f3, .bool e.f4]] w fun x w' => x = .returned (.string (bytesE e)) ∧ Below w.heap.size w w' := by
  obtain ⟨hz, h1, h2⟩ := validE_bds h
  obtain ⟨n1, hn1⟩ : ∃ n : Nat, e.f1 = n := ⟨e.f1.toNat, by omega⟩
  have PD := Lib.hid (fun w => padded_any e.f0 8 0 w hz (by omega))
  have B1 := Lib.hid (fun w => byteTextE_any n1 (by omega) w)
  have PW := Lib.hid (fun w => putWord_yes e.f2 w (by omega) (by omega))
  have B2 := Lib.hid (fun w => byteTextE_any (stE2 e.f3 e.f4) (by unfold stE2; split <;> (try split) <;> omega) w)
  have z0 := padB_size (c := 0) hz
  have KB := Lib.hid (BoxAt.new w #[.string e.f0, .int .i64 e.f1, .int .i64 e.f2, .bool e.f3, .bool e.f4] 45 w.heap.size rfl)
  unfold bytesE
  rw [show stE e = stE2 e.f3 e.f4 from rfl, hn1, Int.toNat_natCast]
  rw [hn1] at KB
  have zb : (byteE n1).size = 1 := rfl
  have zw : (wordBytes e.f2).size = 2 := rfl
  have zs : (byteE (stE2 e.f3 e.f4)).size = 1 := rfl
  clear h hz h1 h2 hn1
  generalize padB e.f0 8 0 = t0 at *
  generalize byteE n1 = t1 at *
  generalize wordBytes e.f2 = t2 at *
  have g1 : (9223372036854775807 < t0.size + t1.size) = False := by simp; omega
  have g2 : (9223372036854775807 < t0.size + t1.size + t2.size) = False := by simp; omega
  obtain ⟨f0, f1, f2, f3, f4⟩ := e
  dsimp only at *
  cases f3 <;> cases f4
  · dsimp only [stE2] at *
    simp only [if_true, if_false, Bool.false_eq_true, if_neg, if_pos] at B2 zs ⊢
    go_enter Tryz.func63, Tryz.ntmps63
    go_wp2
    have F1 := Lib.hid (show Below w.heap.size w _ from (Below.refl _ w).alloc (Nat.le_refl _) (.cells #[.string f0, .int .i64 (n1 : Int), .int .i64 f2, .bool false, .bool false] 45))
    have hlt : w.heap.size < (w.alloc (.cells #[.string f0, .int .i64 (n1 : Int), .int .i64 f2, .bool false, .bool false] 45)).heap.size := by simp
    generalize (w.alloc (.cells #[.string f0, .int .i64 (n1 : Int), .int .i64 f2, .bool false, .bool false] 45)) = W at KB F1 hlt ⊢
    have KS := Lib.hid (fun w' (hb : Below W.heap.size W w') => (show w'.cell? ⟨w.heap.size, 0, none⟩ = some (.string f0) ∧ w'.cell? ⟨w.heap.size, 1, none⟩ = some (.int .i64 (n1 : Int)) ∧ w'.cell? ⟨w.heap.size, 2, none⟩ = some (.int .i64 f2) from ⟨(KB.out.below hb hlt) 0 _ rfl, (KB.out.below hb hlt) 1 _ rfl, (KB.out.below hb hlt) 2 _ rfl⟩))
    have HC := Lib.hid (show Below W.heap.size W W.drew from (Below.refl _ _).drew)
    refine wp_region_held_drew (S := (fun w' => w'.cell? ⟨w.heap.size, 0, none⟩ = some (.string f0) ∧ w'.cell? ⟨w.heap.size, 1, none⟩ = some (.int .i64 (n1 : Int)) ∧ w'.cell? ⟨w.heap.size, 2, none⟩ = some (.int .i64 f2))) (by kernel_rfl) (KS.out _ HC.out) (fun hHeld => ?_)
    refine wpAnyH_take (i := 0) (oi := { dst := some 10, op := Op.fieldAddr 45 (Operand.tmp 1) 0, type := 0, pos := "l16_chains.go:242", after := #[], guard := none }) (v := ?_) rfl (by kernel_rfl) (by kernel_rfl) (by kernel_rfl) (fun _ _ _ h => h) (Or.inl ⟨by rfl, ?hy⟩) hHeld ?_
    case hy => (intro w' hSw; (try dsimp only at hSw); go_simp; try with_reducible rfl)
    simp only [Act.put, List.setIfInBounds_toArray, List.set_cons_zero, List.set_cons_succ]
    refine wpAnyH_take (i := 1) (oi := { dst := some 11, op := Op.load 9 (Operand.tmp 10), type := 9, pos := "l16_chains.go:242", after := #[{ on := 0, ground := Ground.data }], guard := none }) (v := ?_) rfl (by kernel_rfl) (by kernel_rfl) (by kernel_rfl) (fun _ _ _ h => h) (Or.inl ⟨by rfl, ?hy⟩) hHeld ?_
    case hy => (intro w' hSw; (try dsimp only at hSw); go_simp; try with_reducible rfl)
    simp only [Act.put, List.setIfInBounds_toArray, List.set_cons_zero, List.set_cons_succ]
    refine wpAnyH_take (i := 3) (oi := { dst := some 13, op := Op.fieldAddr 45 (Operand.tmp 1) 1, type := 0, pos := "l16_chains.go:242", after := #[], guard := none }) (v := ?_) rfl (by kernel_rfl) (by kernel_rfl) (by kernel_rfl) (fun _ _ _ h => h) (Or.inl ⟨by rfl, ?hy⟩) hHeld ?_
    case hy => (intro w' hSw; (try dsimp only at hSw); go_simp; try with_reducible rfl)
    simp only [Act.put, List.setIfInBounds_toArray, List.set_cons_zero, List.set_cons_succ]
    refine wpAnyH_take (i := 4) (oi := { dst := some 14, op := Op.load 2 (Operand.tmp 13), type := 2, pos := "l16_chains.go:242", after := #[{ on := 3, ground := Ground.data }], guard := none }) (v := ?_) rfl (by kernel_rfl) (by kernel_rfl) (by kernel_rfl) (fun _ _ _ h => h) (Or.inl ⟨by rfl, ?hy⟩) hHeld ?_
    case hy => (intro w' hSw; (try dsimp only at hSw); go_simp; try with_reducible rfl)
    simp only [Act.put, List.setIfInBounds_toArray, List.set_cons_zero, List.set_cons_succ]
    refine wpAnyH_take (i := 7) (oi := { dst := some 17, op := Op.fieldAddr 45 (Operand.tmp 1) 2, type := 0, pos := "l16_chains.go:242", after := #[], guard := none }) (v := ?_) rfl (by kernel_rfl) (by kernel_rfl) (by kernel_rfl) (fun _ _ _ h => h) (Or.inl ⟨by rfl, ?hy⟩) hHeld ?_
    case hy => (intro w' hSw; (try dsimp only at hSw); go_simp; try with_reducible rfl)
    simp only [Act.put, List.setIfInBounds_toArray, List.set_cons_zero, List.set_cons_succ]
    refine wpAnyH_take (i := 8) (oi := { dst := some 18, op := Op.load 2 (Operand.tmp 17), type := 2, pos := "l16_chains.go:242", after := #[{ on := 7, ground := Ground.data }], guard := none }) (v := ?_) rfl (by kernel_rfl) (by kernel_rfl) (by kernel_rfl) (fun _ _ _ h => h) (Or.inl ⟨by rfl, ?hy⟩) hHeld ?_
    case hy => (intro w' hSw; (try dsimp only at hSw); go_simp; try with_reducible rfl)
    simp only [Act.put, List.setIfInBounds_toArray, List.set_cons_zero, List.set_cons_succ]
    refine wpAnyH_take (i := 11) (oi := { dst := some 21, op := Op.move (Operand.tmp 3), type := 2, pos := "l16_chains.go:242", after := #[], guard := none }) (v := ?_) rfl (by kernel_rfl) (by kernel_rfl) (by kernel_rfl) (fun _ _ _ h => h) (Or.inl ⟨by rfl, ?hy⟩) hHeld ?_
    case hy => (intro w' hSw; (try dsimp only at hSw); go_simp; try with_reducible rfl)
    simp only [Act.put, List.setIfInBounds_toArray, List.set_cons_zero, List.set_cons_succ]
    refine wpAnyH_ready (rs := [2]) (by kernel_rfl) (by simp) ?_
    refine AllReadyH.cons (o := { dst := some 12, op := Op.call { callee := Callee.value (Operand.func 85), args := #[Operand.tmp 11, Operand.const (Value.int IntKind.i64 8), Operand.const (Value.string { data := #[0] })], argTypes := #[9, 2, 9] }, type := 9, pos := "l16_chains.go:242", after := #[{ on := 1, ground := Ground.data }], guard := none }) rfl (fun K hK => ?_) AllReadyH.nil
    go_simp
    go_at_call 85; refine (PD.out _).mono ?_; rintro e wk1 ⟨rfl, hb1⟩; replace HC := Lib.hid (HC.out.trans (hb1.mono HC.out.size))
    go_wp2_with fail
    refine hK.out _ _ (KS.out _ HC.out) (fun hHeld => ?_)
    clear hK K
    try simp only [Act.put, List.setIfInBounds_toArray, List.set_cons_zero, List.set_cons_succ]
    refine wpAnyH_ready (rs := [5]) (by kernel_rfl) (by simp) ?_
    refine AllReadyH.cons (o := { dst := some 15, op := Op.call { callee := Callee.value (Operand.func 84), args := #[Operand.tmp 14], argTypes := #[2] }, type := 9, pos := "l16_chains.go:242", after := #[{ on := 4, ground := Ground.data }, { on := 2, ground := Ground.chain }], guard := none }) rfl (fun K hK => ?_) AllReadyH.nil
    go_simp
    go_at_call 84; refine (B1.out _).mono ?_; rintro e wk2 ⟨rfl, hb2⟩; replace HC := Lib.hid (HC.out.trans (hb2.mono HC.out.size))
    go_wp2_with fail
    refine hK.out _ _ (KS.out _ HC.out) (fun hHeld => ?_)
    clear hK K
    try simp only [Act.put, List.setIfInBounds_toArray, List.set_cons_zero, List.set_cons_succ]
    refine wpAnyH_take (i := 6) (oi := { dst := some 16, op := Op.binOp BinOp.add 9 (Operand.tmp 12) (Operand.tmp 15) 9, type := 9, pos := "l16_chains.go:242", after := #[{ on := 2, ground := Ground.data }, { on := 5, ground := Ground.data }], guard := none }) (v := ?_) rfl (by kernel_rfl) (by kernel_rfl) (by kernel_rfl) (fun _ _ _ h => h) (Or.inl ⟨by rfl, ?hy⟩) hHeld ?_
    case hy => (intro w' hSw; (try dsimp only at hSw); go_simp; try with_reducible rfl)
    simp only [Act.put, List.setIfInBounds_toArray, List.set_cons_zero, List.set_cons_succ]
    refine wpAnyH_ready (rs := [9]) (by kernel_rfl) (by simp) ?_
    refine AllReadyH.cons (o := { dst := some 19, op := Op.call { callee := Callee.value (Operand.func 86), args := #[Operand.tmp 18], argTypes := #[2] }, type := 9, pos := "l16_chains.go:242", after := #[{ on := 8, ground := Ground.data }, { on := 5, ground := Ground.chain }], guard := none }) rfl (fun K hK => ?_) AllReadyH.nil
    go_simp
    go_at_call 86; refine (PW.out _).mono ?_; rintro e wk3 ⟨rfl, hb3⟩; replace HC := Lib.hid (HC.out.trans (hb3.mono HC.out.size))
    go_wp2_with fail
    refine hK.out _ _ (KS.out _ HC.out) (fun hHeld => ?_)
    clear hK K
    try simp only [Act.put, List.setIfInBounds_toArray, List.set_cons_zero, List.set_cons_succ]
    refine wpAnyH_take (i := 10) (oi := { dst := some 20, op := Op.binOp BinOp.add 9 (Operand.tmp 16) (Operand.tmp 19) 9, type := 9, pos := "l16_chains.go:242", after := #[{ on := 6, ground := Ground.data }, { on := 9, ground := Ground.data }], guard := none }) (v := ?_) rfl (by kernel_rfl) (by kernel_rfl) (by kernel_rfl) (fun _ _ _ h => h) (Or.inl ⟨by rfl, ?hy⟩) hHeld ?_
    case hy => (intro w' hSw; (try dsimp only at hSw); go_simp; try with_reducible rfl)
    simp only [Act.put, List.setIfInBounds_toArray, List.set_cons_zero, List.set_cons_succ]
    refine wpAnyH_ready (rs := [12]) (by kernel_rfl) (by simp) ?_
    refine AllReadyH.cons (o := { dst := some 22, op := Op.call { callee := Callee.value (Operand.func 84), args := #[Operand.tmp 21], argTypes := #[2] }, type := 9, pos := "l16_chains.go:242", after := #[{ on := 11, ground := Ground.data }, { on := 9, ground := Ground.chain }], guard := none }) rfl (fun K hK => ?_) AllReadyH.nil
    go_simp
    go_at_call 84; refine (B2.out _).mono ?_; rintro e wk4 ⟨rfl, hb4⟩; replace HC := Lib.hid (HC.out.trans (hb4.mono HC.out.size))
    go_wp2_with fail
    refine hK.out _ _ (KS.out _ HC.out) (fun hHeld => ?_)
    clear hK K
    try simp only [Act.put, List.setIfInBounds_toArray, List.set_cons_zero, List.set_cons_succ]
    refine wpAnyH_take (i := 13) (oi := { dst := some 23, op := Op.binOp BinOp.add 9 (Operand.tmp 20) (Operand.tmp 22) 9, type := 9, pos := "l16_chains.go:242", after := #[{ on := 10, ground := Ground.data }, { on := 12, ground := Ground.data }], guard := none }) (v := ?_) rfl (by kernel_rfl) (by kernel_rfl) (by kernel_rfl) (fun _ _ _ h => h) (Or.inl ⟨by rfl, ?hy⟩) hHeld ?_
    case hy => (intro w' hSw; (try dsimp only at hSw); go_simp; try with_reducible rfl)
    simp only [Act.put, List.setIfInBounds_toArray, List.set_cons_zero, List.set_cons_succ]
    refine wpAnyH_take (i := 14) (oi := { dst := some 2, op := Op.assign (Operand.tmp 23), type := 9, pos := "l16_chains.go:242", after := #[{ on := 13, ground := Ground.data }, { on := 12, ground := Ground.chain }, { on := 0, ground := Ground.phase }, { on := 1, ground := Ground.phase }, { on := 2, ground := Ground.phase }, { on := 3, ground := Ground.phase }, { on := 4, ground := Ground.phase }, { on := 5, ground := Ground.phase }, { on := 6, ground := Ground.phase }, { on := 7, ground := Ground.phase }, { on := 8, ground := Ground.phase }, { on := 9, ground := Ground.phase }, { on := 10, ground := Ground.phase }, { on := 11, ground := Ground.phase }, { on := 12, ground := Ground.phase }, { on := 13, ground := Ground.phase }], guard := none }) (v := ?_) rfl (by kernel_rfl) (by kernel_rfl) (by kernel_rfl) (fun _ _ _ h => h) (Or.inl ⟨by rfl, ?hy⟩) hHeld ?_
    case hy => (intro w' hSw; (try dsimp only at hSw); go_simp; try with_reducible rfl)
    simp only [Act.put, List.setIfInBounds_toArray, List.set_cons_zero, List.set_cons_succ]
    refine wpAnyH_done (by kernel_rfl) ?_ _
    go_wp2
    go_ret
    exact ⟨rfl, F1.out.trans (HC.out.mono F1.out.size)⟩
  · dsimp only [stE2] at *
    simp only [if_true, if_false, Bool.false_eq_true, if_neg, if_pos] at B2 zs ⊢
    go_enter Tryz.func63, Tryz.ntmps63
    go_wp2
    have F1 := Lib.hid (show Below w.heap.size w _ from (Below.refl _ w).alloc (Nat.le_refl _) (.cells #[.string f0, .int .i64 (n1 : Int), .int .i64 f2, .bool false, .bool true] 45))
    have hlt : w.heap.size < (w.alloc (.cells #[.string f0, .int .i64 (n1 : Int), .int .i64 f2, .bool false, .bool true] 45)).heap.size := by simp
    generalize (w.alloc (.cells #[.string f0, .int .i64 (n1 : Int), .int .i64 f2, .bool false, .bool true] 45)) = W at KB F1 hlt ⊢
    have KS := Lib.hid (fun w' (hb : Below W.heap.size W w') => (show w'.cell? ⟨w.heap.size, 0, none⟩ = some (.string f0) ∧ w'.cell? ⟨w.heap.size, 1, none⟩ = some (.int .i64 (n1 : Int)) ∧ w'.cell? ⟨w.heap.size, 2, none⟩ = some (.int .i64 f2) from ⟨(KB.out.below hb hlt) 0 _ rfl, (KB.out.below hb hlt) 1 _ rfl, (KB.out.below hb hlt) 2 _ rfl⟩))
    have HC := Lib.hid (show Below W.heap.size W W.drew from (Below.refl _ _).drew)
    refine wp_region_held_drew (S := (fun w' => w'.cell? ⟨w.heap.size, 0, none⟩ = some (.string f0) ∧ w'.cell? ⟨w.heap.size, 1, none⟩ = some (.int .i64 (n1 : Int)) ∧ w'.cell? ⟨w.heap.size, 2, none⟩ = some (.int .i64 f2))) (by kernel_rfl) (KS.out _ HC.out) (fun hHeld => ?_)
    refine wpAnyH_take (i := 0) (oi := { dst := some 10, op := Op.fieldAddr 45 (Operand.tmp 1) 0, type := 0, pos := "l16_chains.go:242", after := #[], guard := none }) (v := ?_) rfl (by kernel_rfl) (by kernel_rfl) (by kernel_rfl) (fun _ _ _ h => h) (Or.inl ⟨by rfl, ?hy⟩) hHeld ?_
    case hy => (intro w' hSw; (try dsimp only at hSw); go_simp; try with_reducible rfl)
    simp only [Act.put, List.setIfInBounds_toArray, List.set_cons_zero, List.set_cons_succ]
    refine wpAnyH_take (i := 1) (oi := { dst := some 11, op := Op.load 9 (Operand.tmp 10), type := 9, pos := "l16_chains.go:242", after := #[{ on := 0, ground := Ground.data }], guard := none }) (v := ?_) rfl (by kernel_rfl) (by kernel_rfl) (by kernel_rfl) (fun _ _ _ h => h) (Or.inl ⟨by rfl, ?hy⟩) hHeld ?_
    case hy => (intro w' hSw; (try dsimp only at hSw); go_simp; try with_reducible rfl)
    simp only [Act.put, List.setIfInBounds_toArray, List.set_cons_zero, List.set_cons_succ]
    refine wpAnyH_take (i := 3) (oi := { dst := some 13, op := Op.fieldAddr 45 (Operand.tmp 1) 1, type := 0, pos := "l16_chains.go:242", after := #[], guard := none }) (v := ?_) rfl (by kernel_rfl) (by kernel_rfl) (by kernel_rfl) (fun _ _ _ h => h) (Or.inl ⟨by rfl, ?hy⟩) hHeld ?_
    case hy => (intro w' hSw; (try dsimp only at hSw); go_simp; try with_reducible rfl)
    simp only [Act.put, List.setIfInBounds_toArray, List.set_cons_zero, List.set_cons_succ]
    refine wpAnyH_take (i := 4) (oi := { dst := some 14, op := Op.load 2 (Operand.tmp 13), type := 2, pos := "l16_chains.go:242", after := #[{ on := 3, ground := Ground.data }], guard := none }) (v := ?_) rfl (by kernel_rfl) (by kernel_rfl) (by kernel_rfl) (fun _ _ _ h => h) (Or.inl ⟨by rfl, ?hy⟩) hHeld ?_
    case hy => (intro w' hSw; (try dsimp only at hSw); go_simp; try with_reducible rfl)
    simp only [Act.put, List.setIfInBounds_toArray, List.set_cons_zero, List.set_cons_succ]
    refine wpAnyH_take (i := 7) (oi := { dst := some 17, op := Op.fieldAddr 45 (Operand.tmp 1) 2, type := 0, pos := "l16_chains.go:242", after := #[], guard := none }) (v := ?_) rfl (by kernel_rfl) (by kernel_rfl) (by kernel_rfl) (fun _ _ _ h => h) (Or.inl ⟨by rfl, ?hy⟩) hHeld ?_
    case hy => (intro w' hSw; (try dsimp only at hSw); go_simp; try with_reducible rfl)
    simp only [Act.put, List.setIfInBounds_toArray, List.set_cons_zero, List.set_cons_succ]
    refine wpAnyH_take (i := 8) (oi := { dst := some 18, op := Op.load 2 (Operand.tmp 17), type := 2, pos := "l16_chains.go:242", after := #[{ on := 7, ground := Ground.data }], guard := none }) (v := ?_) rfl (by kernel_rfl) (by kernel_rfl) (by kernel_rfl) (fun _ _ _ h => h) (Or.inl ⟨by rfl, ?hy⟩) hHeld ?_
    case hy => (intro w' hSw; (try dsimp only at hSw); go_simp; try with_reducible rfl)
    simp only [Act.put, List.setIfInBounds_toArray, List.set_cons_zero, List.set_cons_succ]
    refine wpAnyH_take (i := 11) (oi := { dst := some 21, op := Op.move (Operand.tmp 3), type := 2, pos := "l16_chains.go:242", after := #[], guard := none }) (v := ?_) rfl (by kernel_rfl) (by kernel_rfl) (by kernel_rfl) (fun _ _ _ h => h) (Or.inl ⟨by rfl, ?hy⟩) hHeld ?_
    case hy => (intro w' hSw; (try dsimp only at hSw); go_simp; try with_reducible rfl)
    simp only [Act.put, List.setIfInBounds_toArray, List.set_cons_zero, List.set_cons_succ]
    refine wpAnyH_ready (rs := [2]) (by kernel_rfl) (by simp) ?_
    refine AllReadyH.cons (o := { dst := some 12, op := Op.call { callee := Callee.value (Operand.func 85), args := #[Operand.tmp 11, Operand.const (Value.int IntKind.i64 8), Operand.const (Value.string { data := #[0] })], argTypes := #[9, 2, 9] }, type := 9, pos := "l16_chains.go:242", after := #[{ on := 1, ground := Ground.data }], guard := none }) rfl (fun K hK => ?_) AllReadyH.nil
    go_simp
    go_at_call 85; refine (PD.out _).mono ?_; rintro e wk1 ⟨rfl, hb1⟩; replace HC := Lib.hid (HC.out.trans (hb1.mono HC.out.size))
    go_wp2_with fail
    refine hK.out _ _ (KS.out _ HC.out) (fun hHeld => ?_)
    clear hK K
    try simp only [Act.put, List.setIfInBounds_toArray, List.set_cons_zero, List.set_cons_succ]
    refine wpAnyH_ready (rs := [5]) (by kernel_rfl) (by simp) ?_
    refine AllReadyH.cons (o := { dst := some 15, op := Op.call { callee := Callee.value (Operand.func 84), args := #[Operand.tmp 14], argTypes := #[2] }, type := 9, pos := "l16_chains.go:242", after := #[{ on := 4, ground := Ground.data }, { on := 2, ground := Ground.chain }], guard := none }) rfl (fun K hK => ?_) AllReadyH.nil
    go_simp
    go_at_call 84; refine (B1.out _).mono ?_; rintro e wk2 ⟨rfl, hb2⟩; replace HC := Lib.hid (HC.out.trans (hb2.mono HC.out.size))
    go_wp2_with fail
    refine hK.out _ _ (KS.out _ HC.out) (fun hHeld => ?_)
    clear hK K
    try simp only [Act.put, List.setIfInBounds_toArray, List.set_cons_zero, List.set_cons_succ]
    refine wpAnyH_take (i := 6) (oi := { dst := some 16, op := Op.binOp BinOp.add 9 (Operand.tmp 12) (Operand.tmp 15) 9, type := 9, pos := "l16_chains.go:242", after := #[{ on := 2, ground := Ground.data }, { on := 5, ground := Ground.data }], guard := none }) (v := ?_) rfl (by kernel_rfl) (by kernel_rfl) (by kernel_rfl) (fun _ _ _ h => h) (Or.inl ⟨by rfl, ?hy⟩) hHeld ?_
    case hy => (intro w' hSw; (try dsimp only at hSw); go_simp; try with_reducible rfl)
    simp only [Act.put, List.setIfInBounds_toArray, List.set_cons_zero, List.set_cons_succ]
    refine wpAnyH_ready (rs := [9]) (by kernel_rfl) (by simp) ?_
    refine AllReadyH.cons (o := { dst := some 19, op := Op.call { callee := Callee.value (Operand.func 86), args := #[Operand.tmp 18], argTypes := #[2] }, type := 9, pos := "l16_chains.go:242", after := #[{ on := 8, ground := Ground.data }, { on := 5, ground := Ground.chain }], guard := none }) rfl (fun K hK => ?_) AllReadyH.nil
    go_simp
    go_at_call 86; refine (PW.out _).mono ?_; rintro e wk3 ⟨rfl, hb3⟩; replace HC := Lib.hid (HC.out.trans (hb3.mono HC.out.size))
    go_wp2_with fail
    refine hK.out _ _ (KS.out _ HC.out) (fun hHeld => ?_)
    clear hK K
    try simp only [Act.put, List.setIfInBounds_toArray, List.set_cons_zero, List.set_cons_succ]
    refine wpAnyH_take (i := 10) (oi := { dst := some 20, op := Op.binOp BinOp.add 9 (Operand.tmp 16) (Operand.tmp 19) 9, type := 9, pos := "l16_chains.go:242", after := #[{ on := 6, ground := Ground.data }, { on := 9, ground := Ground.data }], guard := none }) (v := ?_) rfl (by kernel_rfl) (by kernel_rfl) (by kernel_rfl) (fun _ _ _ h => h) (Or.inl ⟨by rfl, ?hy⟩) hHeld ?_
    case hy => (intro w' hSw; (try dsimp only at hSw); go_simp; try with_reducible rfl)
    simp only [Act.put, List.setIfInBounds_toArray, List.set_cons_zero, List.set_cons_succ]
    refine wpAnyH_ready (rs := [12]) (by kernel_rfl) (by simp) ?_
    refine AllReadyH.cons (o := { dst := some 22, op := Op.call { callee := Callee.value (Operand.func 84), args := #[Operand.tmp 21], argTypes := #[2] }, type := 9, pos := "l16_chains.go:242", after := #[{ on := 11, ground := Ground.data }, { on := 9, ground := Ground.chain }], guard := none }) rfl (fun K hK => ?_) AllReadyH.nil
    go_simp
    go_at_call 84; refine (B2.out _).mono ?_; rintro e wk4 ⟨rfl, hb4⟩; replace HC := Lib.hid (HC.out.trans (hb4.mono HC.out.size))
    go_wp2_with fail
    refine hK.out _ _ (KS.out _ HC.out) (fun hHeld => ?_)
    clear hK K
    try simp only [Act.put, List.setIfInBounds_toArray, List.set_cons_zero, List.set_cons_succ]
    refine wpAnyH_take (i := 13) (oi := { dst := some 23, op := Op.binOp BinOp.add 9 (Operand.tmp 20) (Operand.tmp 22) 9, type := 9, pos := "l16_chains.go:242", after := #[{ on := 10, ground := Ground.data }, { on := 12, ground := Ground.data }], guard := none }) (v := ?_) rfl (by kernel_rfl) (by kernel_rfl) (by kernel_rfl) (fun _ _ _ h => h) (Or.inl ⟨by rfl, ?hy⟩) hHeld ?_
    case hy => (intro w' hSw; (try dsimp only at hSw); go_simp; try with_reducible rfl)
    simp only [Act.put, List.setIfInBounds_toArray, List.set_cons_zero, List.set_cons_succ]
    refine wpAnyH_take (i := 14) (oi := { dst := some 2, op := Op.assign (Operand.tmp 23), type := 9, pos := "l16_chains.go:242", after := #[{ on := 13, ground := Ground.data }, { on := 12, ground := Ground.chain }, { on := 0, ground := Ground.phase }, { on := 1, ground := Ground.phase }, { on := 2, ground := Ground.phase }, { on := 3, ground := Ground.phase }, { on := 4, ground := Ground.phase }, { on := 5, ground := Ground.phase }, { on := 6, ground := Ground.phase }, { on := 7, ground := Ground.phase }, { on := 8, ground := Ground.phase }, { on := 9, ground := Ground.phase }, { on := 10, ground := Ground.phase }, { on := 11, ground := Ground.phase }, { on := 12, ground := Ground.phase }, { on := 13, ground := Ground.phase }], guard := none }) (v := ?_) rfl (by kernel_rfl) (by kernel_rfl) (by kernel_rfl) (fun _ _ _ h => h) (Or.inl ⟨by rfl, ?hy⟩) hHeld ?_
    case hy => (intro w' hSw; (try dsimp only at hSw); go_simp; try with_reducible rfl)
    simp only [Act.put, List.setIfInBounds_toArray, List.set_cons_zero, List.set_cons_succ]
    refine wpAnyH_done (by kernel_rfl) ?_ _
    go_wp2
    go_ret
    exact ⟨rfl, F1.out.trans (HC.out.mono F1.out.size)⟩
  · dsimp only [stE2] at *
    simp only [if_true, if_false, Bool.false_eq_true, if_neg, if_pos] at B2 zs ⊢
    go_enter Tryz.func63, Tryz.ntmps63
    go_wp2
    have F1 := Lib.hid (show Below w.heap.size w _ from (Below.refl _ w).alloc (Nat.le_refl _) (.cells #[.string f0, .int .i64 (n1 : Int), .int .i64 f2, .bool true, .bool false] 45))
    have hlt : w.heap.size < (w.alloc (.cells #[.string f0, .int .i64 (n1 : Int), .int .i64 f2, .bool true, .bool false] 45)).heap.size := by simp
    generalize (w.alloc (.cells #[.string f0, .int .i64 (n1 : Int), .int .i64 f2, .bool true, .bool false] 45)) = W at KB F1 hlt ⊢
    have KS := Lib.hid (fun w' (hb : Below W.heap.size W w') => (show w'.cell? ⟨w.heap.size, 0, none⟩ = some (.string f0) ∧ w'.cell? ⟨w.heap.size, 1, none⟩ = some (.int .i64 (n1 : Int)) ∧ w'.cell? ⟨w.heap.size, 2, none⟩ = some (.int .i64 f2) from ⟨(KB.out.below hb hlt) 0 _ rfl, (KB.out.below hb hlt) 1 _ rfl, (KB.out.below hb hlt) 2 _ rfl⟩))
    have HC := Lib.hid (show Below W.heap.size W W.drew from (Below.refl _ _).drew)
    refine wp_region_held_drew (S := (fun w' => w'.cell? ⟨w.heap.size, 0, none⟩ = some (.string f0) ∧ w'.cell? ⟨w.heap.size, 1, none⟩ = some (.int .i64 (n1 : Int)) ∧ w'.cell? ⟨w.heap.size, 2, none⟩ = some (.int .i64 f2))) (by kernel_rfl) (KS.out _ HC.out) (fun hHeld => ?_)
    refine wpAnyH_take (i := 0) (oi := { dst := some 10, op := Op.fieldAddr 45 (Operand.tmp 1) 0, type := 0, pos := "l16_chains.go:242", after := #[], guard := none }) (v := ?_) rfl (by kernel_rfl) (by kernel_rfl) (by kernel_rfl) (fun _ _ _ h => h) (Or.inl ⟨by rfl, ?hy⟩) hHeld ?_
    case hy => (intro w' hSw; (try dsimp only at hSw); go_simp; try with_reducible rfl)
    simp only [Act.put, List.setIfInBounds_toArray, List.set_cons_zero, List.set_cons_succ]
    refine wpAnyH_take (i := 1) (oi := { dst := some 11, op := Op.load 9 (Operand.tmp 10), type := 9, pos := "l16_chains.go:242", after := #[{ on := 0, ground := Ground.data }], guard := none }) (v := ?_) rfl (by kernel_rfl) (by kernel_rfl) (by kernel_rfl) (fun _ _ _ h => h) (Or.inl ⟨by rfl, ?hy⟩) hHeld ?_
    case hy => (intro w' hSw; (try dsimp only at hSw); go_simp; try with_reducible rfl)
    simp only [Act.put, List.setIfInBounds_toArray, List.set_cons_zero, List.set_cons_succ]
    refine wpAnyH_take (i := 3) (oi := { dst := some 13, op := Op.fieldAddr 45 (Operand.tmp 1) 1, type := 0, pos := "l16_chains.go:242", after := #[], guard := none }) (v := ?_) rfl (by kernel_rfl) (by kernel_rfl) (by kernel_rfl) (fun _ _ _ h => h) (Or.inl ⟨by rfl, ?hy⟩) hHeld ?_
    case hy => (intro w' hSw; (try dsimp only at hSw); go_simp; try with_reducible rfl)
    simp only [Act.put, List.setIfInBounds_toArray, List.set_cons_zero, List.set_cons_succ]
    refine wpAnyH_take (i := 4) (oi := { dst := some 14, op := Op.load 2 (Operand.tmp 13), type := 2, pos := "l16_chains.go:242", after := #[{ on := 3, ground := Ground.data }], guard := none }) (v := ?_) rfl (by kernel_rfl) (by kernel_rfl) (by kernel_rfl) (fun _ _ _ h => h) (Or.inl ⟨by rfl, ?hy⟩) hHeld ?_
    case hy => (intro w' hSw; (try dsimp only at hSw); go_simp; try with_reducible rfl)
    simp only [Act.put, List.setIfInBounds_toArray, List.set_cons_zero, List.set_cons_succ]
    refine wpAnyH_take (i := 7) (oi := { dst := some 17, op := Op.fieldAddr 45 (Operand.tmp 1) 2, type := 0, pos := "l16_chains.go:242", after := #[], guard := none }) (v := ?_) rfl (by kernel_rfl) (by kernel_rfl) (by kernel_rfl) (fun _ _ _ h => h) (Or.inl ⟨by rfl, ?hy⟩) hHeld ?_
    case hy => (intro w' hSw; (try dsimp only at hSw); go_simp; try with_reducible rfl)
    simp only [Act.put, List.setIfInBounds_toArray, List.set_cons_zero, List.set_cons_succ]
    refine wpAnyH_take (i := 8) (oi := { dst := some 18, op := Op.load 2 (Operand.tmp 17), type := 2, pos := "l16_chains.go:242", after := #[{ on := 7, ground := Ground.data }], guard := none }) (v := ?_) rfl (by kernel_rfl) (by kernel_rfl) (by kernel_rfl) (fun _ _ _ h => h) (Or.inl ⟨by rfl, ?hy⟩) hHeld ?_
    case hy => (intro w' hSw; (try dsimp only at hSw); go_simp; try with_reducible rfl)
    simp only [Act.put, List.setIfInBounds_toArray, List.set_cons_zero, List.set_cons_succ]
    refine wpAnyH_take (i := 11) (oi := { dst := some 21, op := Op.move (Operand.tmp 3), type := 2, pos := "l16_chains.go:242", after := #[], guard := none }) (v := ?_) rfl (by kernel_rfl) (by kernel_rfl) (by kernel_rfl) (fun _ _ _ h => h) (Or.inl ⟨by rfl, ?hy⟩) hHeld ?_
    case hy => (intro w' hSw; (try dsimp only at hSw); go_simp; try with_reducible rfl)
    simp only [Act.put, List.setIfInBounds_toArray, List.set_cons_zero, List.set_cons_succ]
    refine wpAnyH_ready (rs := [2]) (by kernel_rfl) (by simp) ?_
    refine AllReadyH.cons (o := { dst := some 12, op := Op.call { callee := Callee.value (Operand.func 85), args := #[Operand.tmp 11, Operand.const (Value.int IntKind.i64 8), Operand.const (Value.string { data := #[0] })], argTypes := #[9, 2, 9] }, type := 9, pos := "l16_chains.go:242", after := #[{ on := 1, ground := Ground.data }], guard := none }) rfl (fun K hK => ?_) AllReadyH.nil
    go_simp
    go_at_call 85; refine (PD.out _).mono ?_; rintro e wk1 ⟨rfl, hb1⟩; replace HC := Lib.hid (HC.out.trans (hb1.mono HC.out.size))
    go_wp2_with fail
    refine hK.out _ _ (KS.out _ HC.out) (fun hHeld => ?_)
    clear hK K
    try simp only [Act.put, List.setIfInBounds_toArray, List.set_cons_zero, List.set_cons_succ]
    refine wpAnyH_ready (rs := [5]) (by kernel_rfl) (by simp) ?_
    refine AllReadyH.cons (o := { dst := some 15, op := Op.call { callee := Callee.value (Operand.func 84), args := #[Operand.tmp 14], argTypes := #[2] }, type := 9, pos := "l16_chains.go:242", after := #[{ on := 4, ground := Ground.data }, { on := 2, ground := Ground.chain }], guard := none }) rfl (fun K hK => ?_) AllReadyH.nil
    go_simp
    go_at_call 84; refine (B1.out _).mono ?_; rintro e wk2 ⟨rfl, hb2⟩; replace HC := Lib.hid (HC.out.trans (hb2.mono HC.out.size))
    go_wp2_with fail
    refine hK.out _ _ (KS.out _ HC.out) (fun hHeld => ?_)
    clear hK K
    try simp only [Act.put, List.setIfInBounds_toArray, List.set_cons_zero, List.set_cons_succ]
    refine wpAnyH_take (i := 6) (oi := { dst := some 16, op := Op.binOp BinOp.add 9 (Operand.tmp 12) (Operand.tmp 15) 9, type := 9, pos := "l16_chains.go:242", after := #[{ on := 2, ground := Ground.data }, { on := 5, ground := Ground.data }], guard := none }) (v := ?_) rfl (by kernel_rfl) (by kernel_rfl) (by kernel_rfl) (fun _ _ _ h => h) (Or.inl ⟨by rfl, ?hy⟩) hHeld ?_
    case hy => (intro w' hSw; (try dsimp only at hSw); go_simp; try with_reducible rfl)
    simp only [Act.put, List.setIfInBounds_toArray, List.set_cons_zero, List.set_cons_succ]
    refine wpAnyH_ready (rs := [9]) (by kernel_rfl) (by simp) ?_
    refine AllReadyH.cons (o := { dst := some 19, op := Op.call { callee := Callee.value (Operand.func 86), args := #[Operand.tmp 18], argTypes := #[2] }, type := 9, pos := "l16_chains.go:242", after := #[{ on := 8, ground := Ground.data }, { on := 5, ground := Ground.chain }], guard := none }) rfl (fun K hK => ?_) AllReadyH.nil
    go_simp
    go_at_call 86; refine (PW.out _).mono ?_; rintro e wk3 ⟨rfl, hb3⟩; replace HC := Lib.hid (HC.out.trans (hb3.mono HC.out.size))
    go_wp2_with fail
    refine hK.out _ _ (KS.out _ HC.out) (fun hHeld => ?_)
    clear hK K
    try simp only [Act.put, List.setIfInBounds_toArray, List.set_cons_zero, List.set_cons_succ]
    refine wpAnyH_take (i := 10) (oi := { dst := some 20, op := Op.binOp BinOp.add 9 (Operand.tmp 16) (Operand.tmp 19) 9, type := 9, pos := "l16_chains.go:242", after := #[{ on := 6, ground := Ground.data }, { on := 9, ground := Ground.data }], guard := none }) (v := ?_) rfl (by kernel_rfl) (by kernel_rfl) (by kernel_rfl) (fun _ _ _ h => h) (Or.inl ⟨by rfl, ?hy⟩) hHeld ?_
    case hy => (intro w' hSw; (try dsimp only at hSw); go_simp; try with_reducible rfl)
    simp only [Act.put, List.setIfInBounds_toArray, List.set_cons_zero, List.set_cons_succ]
    refine wpAnyH_ready (rs := [12]) (by kernel_rfl) (by simp) ?_
    refine AllReadyH.cons (o := { dst := some 22, op := Op.call { callee := Callee.value (Operand.func 84), args := #[Operand.tmp 21], argTypes := #[2] }, type := 9, pos := "l16_chains.go:242", after := #[{ on := 11, ground := Ground.data }, { on := 9, ground := Ground.chain }], guard := none }) rfl (fun K hK => ?_) AllReadyH.nil
    go_simp
    go_at_call 84; refine (B2.out _).mono ?_; rintro e wk4 ⟨rfl, hb4⟩; replace HC := Lib.hid (HC.out.trans (hb4.mono HC.out.size))
    go_wp2_with fail
    refine hK.out _ _ (KS.out _ HC.out) (fun hHeld => ?_)
    clear hK K
    try simp only [Act.put, List.setIfInBounds_toArray, List.set_cons_zero, List.set_cons_succ]
    refine wpAnyH_take (i := 13) (oi := { dst := some 23, op := Op.binOp BinOp.add 9 (Operand.tmp 20) (Operand.tmp 22) 9, type := 9, pos := "l16_chains.go:242", after := #[{ on := 10, ground := Ground.data }, { on := 12, ground := Ground.data }], guard := none }) (v := ?_) rfl (by kernel_rfl) (by kernel_rfl) (by kernel_rfl) (fun _ _ _ h => h) (Or.inl ⟨by rfl, ?hy⟩) hHeld ?_
    case hy => (intro w' hSw; (try dsimp only at hSw); go_simp; try with_reducible rfl)
    simp only [Act.put, List.setIfInBounds_toArray, List.set_cons_zero, List.set_cons_succ]
    refine wpAnyH_take (i := 14) (oi := { dst := some 2, op := Op.assign (Operand.tmp 23), type := 9, pos := "l16_chains.go:242", after := #[{ on := 13, ground := Ground.data }, { on := 12, ground := Ground.chain }, { on := 0, ground := Ground.phase }, { on := 1, ground := Ground.phase }, { on := 2, ground := Ground.phase }, { on := 3, ground := Ground.phase }, { on := 4, ground := Ground.phase }, { on := 5, ground := Ground.phase }, { on := 6, ground := Ground.phase }, { on := 7, ground := Ground.phase }, { on := 8, ground := Ground.phase }, { on := 9, ground := Ground.phase }, { on := 10, ground := Ground.phase }, { on := 11, ground := Ground.phase }, { on := 12, ground := Ground.phase }, { on := 13, ground := Ground.phase }], guard := none }) (v := ?_) rfl (by kernel_rfl) (by kernel_rfl) (by kernel_rfl) (fun _ _ _ h => h) (Or.inl ⟨by rfl, ?hy⟩) hHeld ?_
    case hy => (intro w' hSw; (try dsimp only at hSw); go_simp; try with_reducible rfl)
    simp only [Act.put, List.setIfInBounds_toArray, List.set_cons_zero, List.set_cons_succ]
    refine wpAnyH_done (by kernel_rfl) ?_ _
    go_wp2
    go_ret
    exact ⟨rfl, F1.out.trans (HC.out.mono F1.out.size)⟩
  · dsimp only [stE2] at *
    simp only [if_true, if_false, Bool.false_eq_true, if_neg, if_pos] at B2 zs ⊢
    go_enter Tryz.func63, Tryz.ntmps63
    go_wp2
    have F1 := Lib.hid (show Below w.heap.size w _ from (Below.refl _ w).alloc (Nat.le_refl _) (.cells #[.string f0, .int .i64 (n1 : Int), .int .i64 f2, .bool true, .bool true] 45))
    have hlt : w.heap.size < (w.alloc (.cells #[.string f0, .int .i64 (n1 : Int), .int .i64 f2, .bool true, .bool true] 45)).heap.size := by simp
    generalize (w.alloc (.cells #[.string f0, .int .i64 (n1 : Int), .int .i64 f2, .bool true, .bool true] 45)) = W at KB F1 hlt ⊢
    have KS := Lib.hid (fun w' (hb : Below W.heap.size W w') => (show w'.cell? ⟨w.heap.size, 0, none⟩ = some (.string f0) ∧ w'.cell? ⟨w.heap.size, 1, none⟩ = some (.int .i64 (n1 : Int)) ∧ w'.cell? ⟨w.heap.size, 2, none⟩ = some (.int .i64 f2) from ⟨(KB.out.below hb hlt) 0 _ rfl, (KB.out.below hb hlt) 1 _ rfl, (KB.out.below hb hlt) 2 _ rfl⟩))
    have HC := Lib.hid (show Below W.heap.size W W.drew from (Below.refl _ _).drew)
    refine wp_region_held_drew (S := (fun w' => w'.cell? ⟨w.heap.size, 0, none⟩ = some (.string f0) ∧ w'.cell? ⟨w.heap.size, 1, none⟩ = some (.int .i64 (n1 : Int)) ∧ w'.cell? ⟨w.heap.size, 2, none⟩ = some (.int .i64 f2))) (by kernel_rfl) (KS.out _ HC.out) (fun hHeld => ?_)
    refine wpAnyH_take (i := 0) (oi := { dst := some 10, op := Op.fieldAddr 45 (Operand.tmp 1) 0, type := 0, pos := "l16_chains.go:242", after := #[], guard := none }) (v := ?_) rfl (by kernel_rfl) (by kernel_rfl) (by kernel_rfl) (fun _ _ _ h => h) (Or.inl ⟨by rfl, ?hy⟩) hHeld ?_
    case hy => (intro w' hSw; (try dsimp only at hSw); go_simp; try with_reducible rfl)
    simp only [Act.put, List.setIfInBounds_toArray, List.set_cons_zero, List.set_cons_succ]
    refine wpAnyH_take (i := 1) (oi := { dst := some 11, op := Op.load 9 (Operand.tmp 10), type := 9, pos := "l16_chains.go:242", after := #[{ on := 0, ground := Ground.data }], guard := none }) (v := ?_) rfl (by kernel_rfl) (by kernel_rfl) (by kernel_rfl) (fun _ _ _ h => h) (Or.inl ⟨by rfl, ?hy⟩) hHeld ?_
    case hy => (intro w' hSw; (try dsimp only at hSw); go_simp; try with_reducible rfl)
    simp only [Act.put, List.setIfInBounds_toArray, List.set_cons_zero, List.set_cons_succ]
    refine wpAnyH_take (i := 3) (oi := { dst := some 13, op := Op.fieldAddr 45 (Operand.tmp 1) 1, type := 0, pos := "l16_chains.go:242", after := #[], guard := none }) (v := ?_) rfl (by kernel_rfl) (by kernel_rfl) (by kernel_rfl) (fun _ _ _ h => h) (Or.inl ⟨by rfl, ?hy⟩) hHeld ?_
    case hy => (intro w' hSw; (try dsimp only at hSw); go_simp; try with_reducible rfl)
    simp only [Act.put, List.setIfInBounds_toArray, List.set_cons_zero, List.set_cons_succ]
    refine wpAnyH_take (i := 4) (oi := { dst := some 14, op := Op.load 2 (Operand.tmp 13), type := 2, pos := "l16_chains.go:242", after := #[{ on := 3, ground := Ground.data }], guard := none }) (v := ?_) rfl (by kernel_rfl) (by kernel_rfl) (by kernel_rfl) (fun _ _ _ h => h) (Or.inl ⟨by rfl, ?hy⟩) hHeld ?_
    case hy => (intro w' hSw; (try dsimp only at hSw); go_simp; try with_reducible rfl)
    simp only [Act.put, List.setIfInBounds_toArray, List.set_cons_zero, List.set_cons_succ]
    refine wpAnyH_take (i := 7) (oi := { dst := some 17, op := Op.fieldAddr 45 (Operand.tmp 1) 2, type := 0, pos := "l16_chains.go:242", after := #[], guard := none }) (v := ?_) rfl (by kernel_rfl) (by kernel_rfl) (by kernel_rfl) (fun _ _ _ h => h) (Or.inl ⟨by rfl, ?hy⟩) hHeld ?_
    case hy => (intro w' hSw; (try dsimp only at hSw); go_simp; try with_reducible rfl)
    simp only [Act.put, List.setIfInBounds_toArray, List.set_cons_zero, List.set_cons_succ]
    refine wpAnyH_take (i := 8) (oi := { dst := some 18, op := Op.load 2 (Operand.tmp 17), type := 2, pos := "l16_chains.go:242", after := #[{ on := 7, ground := Ground.data }], guard := none }) (v := ?_) rfl (by kernel_rfl) (by kernel_rfl) (by kernel_rfl) (fun _ _ _ h => h) (Or.inl ⟨by rfl, ?hy⟩) hHeld ?_
    case hy => (intro w' hSw; (try dsimp only at hSw); go_simp; try with_reducible rfl)
    simp only [Act.put, List.setIfInBounds_toArray, List.set_cons_zero, List.set_cons_succ]
    refine wpAnyH_take (i := 11) (oi := { dst := some 21, op := Op.move (Operand.tmp 3), type := 2, pos := "l16_chains.go:242", after := #[], guard := none }) (v := ?_) rfl (by kernel_rfl) (by kernel_rfl) (by kernel_rfl) (fun _ _ _ h => h) (Or.inl ⟨by rfl, ?hy⟩) hHeld ?_
    case hy => (intro w' hSw; (try dsimp only at hSw); go_simp; try with_reducible rfl)
    simp only [Act.put, List.setIfInBounds_toArray, List.set_cons_zero, List.set_cons_succ]
    refine wpAnyH_ready (rs := [2]) (by kernel_rfl) (by simp) ?_
    refine AllReadyH.cons (o := { dst := some 12, op := Op.call { callee := Callee.value (Operand.func 85), args := #[Operand.tmp 11, Operand.const (Value.int IntKind.i64 8), Operand.const (Value.string { data := #[0] })], argTypes := #[9, 2, 9] }, type := 9, pos := "l16_chains.go:242", after := #[{ on := 1, ground := Ground.data }], guard := none }) rfl (fun K hK => ?_) AllReadyH.nil
    go_simp
    go_at_call 85; refine (PD.out _).mono ?_; rintro e wk1 ⟨rfl, hb1⟩; replace HC := Lib.hid (HC.out.trans (hb1.mono HC.out.size))
    go_wp2_with fail
    refine hK.out _ _ (KS.out _ HC.out) (fun hHeld => ?_)
    clear hK K
    try simp only [Act.put, List.setIfInBounds_toArray, List.set_cons_zero, List.set_cons_succ]
    refine wpAnyH_ready (rs := [5]) (by kernel_rfl) (by simp) ?_
    refine AllReadyH.cons (o := { dst := some 15, op := Op.call { callee := Callee.value (Operand.func 84), args := #[Operand.tmp 14], argTypes := #[2] }, type := 9, pos := "l16_chains.go:242", after := #[{ on := 4, ground := Ground.data }, { on := 2, ground := Ground.chain }], guard := none }) rfl (fun K hK => ?_) AllReadyH.nil
    go_simp
    go_at_call 84; refine (B1.out _).mono ?_; rintro e wk2 ⟨rfl, hb2⟩; replace HC := Lib.hid (HC.out.trans (hb2.mono HC.out.size))
    go_wp2_with fail
    refine hK.out _ _ (KS.out _ HC.out) (fun hHeld => ?_)
    clear hK K
    try simp only [Act.put, List.setIfInBounds_toArray, List.set_cons_zero, List.set_cons_succ]
    refine wpAnyH_take (i := 6) (oi := { dst := some 16, op := Op.binOp BinOp.add 9 (Operand.tmp 12) (Operand.tmp 15) 9, type := 9, pos := "l16_chains.go:242", after := #[{ on := 2, ground := Ground.data }, { on := 5, ground := Ground.data }], guard := none }) (v := ?_) rfl (by kernel_rfl) (by kernel_rfl) (by kernel_rfl) (fun _ _ _ h => h) (Or.inl ⟨by rfl, ?hy⟩) hHeld ?_
    case hy => (intro w' hSw; (try dsimp only at hSw); go_simp; try with_reducible rfl)
    simp only [Act.put, List.setIfInBounds_toArray, List.set_cons_zero, List.set_cons_succ]
    refine wpAnyH_ready (rs := [9]) (by kernel_rfl) (by simp) ?_
    refine AllReadyH.cons (o := { dst := some 19, op := Op.call { callee := Callee.value (Operand.func 86), args := #[Operand.tmp 18], argTypes := #[2] }, type := 9, pos := "l16_chains.go:242", after := #[{ on := 8, ground := Ground.data }, { on := 5, ground := Ground.chain }], guard := none }) rfl (fun K hK => ?_) AllReadyH.nil
    go_simp
    go_at_call 86; refine (PW.out _).mono ?_; rintro e wk3 ⟨rfl, hb3⟩; replace HC := Lib.hid (HC.out.trans (hb3.mono HC.out.size))
    go_wp2_with fail
    refine hK.out _ _ (KS.out _ HC.out) (fun hHeld => ?_)
    clear hK K
    try simp only [Act.put, List.setIfInBounds_toArray, List.set_cons_zero, List.set_cons_succ]
    refine wpAnyH_take (i := 10) (oi := { dst := some 20, op := Op.binOp BinOp.add 9 (Operand.tmp 16) (Operand.tmp 19) 9, type := 9, pos := "l16_chains.go:242", after := #[{ on := 6, ground := Ground.data }, { on := 9, ground := Ground.data }], guard := none }) (v := ?_) rfl (by kernel_rfl) (by kernel_rfl) (by kernel_rfl) (fun _ _ _ h => h) (Or.inl ⟨by rfl, ?hy⟩) hHeld ?_
    case hy => (intro w' hSw; (try dsimp only at hSw); go_simp; try with_reducible rfl)
    simp only [Act.put, List.setIfInBounds_toArray, List.set_cons_zero, List.set_cons_succ]
    refine wpAnyH_ready (rs := [12]) (by kernel_rfl) (by simp) ?_
    refine AllReadyH.cons (o := { dst := some 22, op := Op.call { callee := Callee.value (Operand.func 84), args := #[Operand.tmp 21], argTypes := #[2] }, type := 9, pos := "l16_chains.go:242", after := #[{ on := 11, ground := Ground.data }, { on := 9, ground := Ground.chain }], guard := none }) rfl (fun K hK => ?_) AllReadyH.nil
    go_simp
    go_at_call 84; refine (B2.out _).mono ?_; rintro e wk4 ⟨rfl, hb4⟩; replace HC := Lib.hid (HC.out.trans (hb4.mono HC.out.size))
    go_wp2_with fail
    refine hK.out _ _ (KS.out _ HC.out) (fun hHeld => ?_)
    clear hK K
    try simp only [Act.put, List.setIfInBounds_toArray, List.set_cons_zero, List.set_cons_succ]
    refine wpAnyH_take (i := 13) (oi := { dst := some 23, op := Op.binOp BinOp.add 9 (Operand.tmp 20) (Operand.tmp 22) 9, type := 9, pos := "l16_chains.go:242", after := #[{ on := 10, ground := Ground.data }, { on := 12, ground := Ground.data }], guard := none }) (v := ?_) rfl (by kernel_rfl) (by kernel_rfl) (by kernel_rfl) (fun _ _ _ h => h) (Or.inl ⟨by rfl, ?hy⟩) hHeld ?_
    case hy => (intro w' hSw; (try dsimp only at hSw); go_simp; try with_reducible rfl)
    simp only [Act.put, List.setIfInBounds_toArray, List.set_cons_zero, List.set_cons_succ]
    refine wpAnyH_take (i := 14) (oi := { dst := some 2, op := Op.assign (Operand.tmp 23), type := 9, pos := "l16_chains.go:242", after := #[{ on := 13, ground := Ground.data }, { on := 12, ground := Ground.chain }, { on := 0, ground := Ground.phase }, { on := 1, ground := Ground.phase }, { on := 2, ground := Ground.phase }, { on := 3, ground := Ground.phase }, { on := 4, ground := Ground.phase }, { on := 5, ground := Ground.phase }, { on := 6, ground := Ground.phase }, { on := 7, ground := Ground.phase }, { on := 8, ground := Ground.phase }, { on := 9, ground := Ground.phase }, { on := 10, ground := Ground.phase }, { on := 11, ground := Ground.phase }, { on := 12, ground := Ground.phase }, { on := 13, ground := Ground.phase }], guard := none }) (v := ?_) rfl (by kernel_rfl) (by kernel_rfl) (by kernel_rfl) (fun _ _ _ h => h) (Or.inl ⟨by rfl, ?hy⟩) hHeld ?_
    case hy => (intro w' hSw; (try dsimp only at hSw); go_simp; try with_reducible rfl)
    simp only [Act.put, List.setIfInBounds_toArray, List.set_cons_zero, List.set_cons_succ]
    refine wpAnyH_done (by kernel_rfl) ?_ _
    go_wp2
    go_ret
    exact ⟨rfl, F1.out.trans (HC.out.mono F1.out.size)⟩
end Go.Proofs.YtpdodpnhohmjaaaGreatDoor
end
section
set_option linter.unusedVariables false
namespace Go.Proofs.YtpdodpnhohmjaaaGreatDoor
open Go.RowKit
set_option maxRecDepth 20000
/-- At most 8000 characters 0 and 1. -/
def cellStr (s : ByteArray) : Bool := cellsL s.data.toList && decide (s.size ≤ 8000)
theorem cellStr_valid {s : ByteArray} (h : ¬ s.size < 1) : validCells s = cellStr s := by
  unfold validCells cellStr inB
  have : decide ((1 : Int) ≤ (s.size : Int)) = true := by simp; omega
  rw [this, Bool.true_and]
  congr 1
  exact decide_eq_decide.mpr (by omega)
theorem bytes_empty {s : ByteArray} (h : s.size = 0) : s = ⟨#[]⟩ := by
  cases s with | mk d => simp only [ByteArray.mk.injEq]; exact Array.eq_empty_of_size_eq_zero h
theorem bytes_ne {s : ByteArray} (h : ¬ s.size = 0) : s.toList.isEmpty = false ∧ ¬ s.toList = [] := by
  have hls : s.toList.length = s.size := by rw [ByteArray.toList_eq]; simp
  constructor
  · cases h : s.toList with
    | nil => rw [h] at hls; simp at hls; omega
    | cons => rfl
  · intro h; rw [h] at hls; simp at hls; omega
theorem toList_ne {m s : ByteArray} (h : ¬ m = s) : (m.toList == s.toList) = false := by
  rw [beq_eq_false_iff_ne]
  intro h2
  rw [ByteArray.toList_eq, ByteArray.toList_eq] at h2
  apply h
  cases m; cases s
  congr 1
  exact Array.toList_inj.1 h2
theorem cellStr_size {s : ByteArray} (h : cellStr s = true) : s.size ≤ 8000 := by unfold cellStr at h; simp at h; exact h.2
theorem cellStr_cell {s : ByteArray} (h : cellStr s = true) (k : Nat) (hk : k < s.size) : s[k].toNat = 48 ∨ s[k].toNat = 49 := by
  unfold cellStr at h
  simp only [Bool.and_eq_true] at h
  have h1 := h.1
  unfold cellsL at h1
  rw [List.all_eq_true] at h1
  exact (isCell_iff _).1 (h1 s[k] (by show s.data[k] ∈ _; simp))
end Go.Proofs.YtpdodpnhohmjaaaGreatDoor
end
