/- laws.markText; what a mark of a slice of structs leaves alone. -/
import Derived.Test.YtpdodpnhohmjaaaGreatDoorPkGoneBlocksB
import Derived.Test.YtpdodpnhohmjaaaGreatDoorPkGoneBlocksE
namespace Go.Proofs.YtpdodpnhohmjaaaGreatDoor
open Go.RowKit
set_option maxRecDepth 20000
set_option linter.unusedVariables false
/-- The decimal digits of k ahead of 'out'. -/
def mtL (k : Nat) (out : ByteArray) : ByteArray := if k = 0 then out else mtL (k / 10) (⟨#[48 + UInt8.ofNat (k % 10)]⟩ ++ out)
termination_by k
decreasing_by omega
def markS (k : Nat) : ByteArray := ⟨#[109]⟩ ++ mtL k ⟨#[]⟩
theorem mtL_zero (out : ByteArray) : mtL 0 out = out := by rw [mtL]; simp
theorem mtL_pos {k : Nat} (out : ByteArray) (h : 0 < k) : mtL k out = mtL (k / 10) (⟨#[48 + UInt8.ofNat (k % 10)]⟩ ++ out) := by
  rw [mtL, if_neg (by omega)]
set_option maxHeartbeats 2000000 in
theorem markText_any (k : Nat) (w : World) (h1 : 0 < k) (h2 : k ≤ 1073741824) :
    Calls Tryz.prog 24 #[.int .i64 (k : Nat)] w fun e w' => e = .returned (.string (markS k)) ∧ Below w.heap.size w w' := by
  have h0 : ¬ (k : Int) ≤ 0 := by omega
  go_enter Tryz.func24, Tryz.ntmps24
  go_wp2
  go_loopw [0, 3] (fun i s wr => ∃ (m : Nat) (out : ByteArray), i = .int .i64 (m : Nat) ∧ s = .string out ∧ m + out.size ≤ 1073741824 ∧ Hid (mtL m out = mtL k ⟨#[]⟩) ∧ Below w.heap.size w wr) (fun i _ _ => (intOf i).toNat)
  case atStart => exact ⟨k, _, rfl, rfl, by show k + 0 ≤ _; omega, by unfold Hid; rfl, Below.refl _ _⟩
  case round =>
    obtain ⟨m, out, rfl, rfl, hs, hL, hb⟩ := hrel
    by_cases hm : 0 < m
    · have e1 : (0 : Int) < (m : Int) := by omega
      have HS := Lib.hid (mtL_pos out hm)
      obtain ⟨d, hd⟩ : ∃ d : Nat, m % 10 = d := ⟨_, rfl⟩
      obtain ⟨q, hq⟩ : ∃ q : Nat, m / 10 = q := ⟨_, rfl⟩
      have hd10 : d < 10 := by omega
      have hdi : (m : Int) % 10 = (d : Int) := by omega
      have hqi : (m : Int) / 10 = (q : Int) := by omega
      rw [hd, hq] at HS
      have hqm : q + 1 ≤ m := by omega
      have hcv := fun W => conv_new1 W (48 + (d : Int)) (by omega) (by omega)
      have HDQ := Lib.hid (And.intro hd hq); clear hd hq
      have hos : out.size ≤ 1073741824 := by omega
      go_wp2
      go_roundw
      case rel =>
        refine ⟨q, _, rfl, rfl, ?_, ?_, hb.alloc hb.size _⟩
        · rw [ByteArray.size_append]; show q + (1 + out.size) ≤ _; omega
        · unfold Hid; rw [← hL.out, HS.out]
      case measure => simp [intOf]; omega
    · obtain rfl : m = 0 := by omega
      have HZ := Lib.hid (show out = mtL k ⟨#[]⟩ by rw [← hL.out, mtL_zero])
      have hos : out.size ≤ 1073741824 := by omega
      go_wp2
      go_ret
      exact ⟨by unfold markS; rw [← HZ.out]; rfl, hb⟩
/-- Of the blocks that were there, only block g may differ. -/
structure Kp (g : Nat) (w w' : World) : Prop where
  os : w'.os = w.os
  tape : w'.tape = w.tape
  output : w'.output = w.output
  size : w.heap.size ≤ w'.heap.size
  block : ∀ b, b < w.heap.size → b ≠ g → w'.heap[b]? = w.heap[b]?
theorem Kp.refl (g : Nat) (w : World) : Kp g w w := ⟨rfl, rfl, rfl, Nat.le_refl _, fun _ _ _ => rfl⟩
theorem Kp.setCells {g : Nat} {w : World} : ∀ (vs : List Value) (p : Nat) (w' : World) (_ : Kp g w w'), Kp g w (w'.setCells g p vs)
  | [], p, w', h => h
  | v :: vs, p, w', h => Kp.setCells vs (p + 1) _ ⟨h.os, h.tape, h.output, by simp [World.setCell]; exact h.size, fun b hb hn => by rw [Below.heap_setCell _ _ _ _ (by show b ≠ g; exact hn)]; exact h.block b hb hn⟩
theorem Kp.below {g : Nat} {w w1 w2 : World} (h : Kp g w w1) (hb : Below w1.heap.size w1 w2) : Kp g w w2 :=
  ⟨hb.os.trans h.os, hb.tape.trans h.tape, hb.output.trans h.output, Nat.le_trans h.size hb.size, fun b hbb hn => by rw [hb.block b (Nat.lt_of_lt_of_le hbb h.size)]; exact h.block b hbb hn⟩
theorem Kp.drewN {g : Nat} {w w1 : World} (h : Kp g w w1) (n : Nat) : Kp g w (w1.drewN n) := ⟨h.os, h.tape, h.output, h.size, h.block⟩
theorem Kp.toBelow {g B : Nat} {w w' : World} (h : Kp g w w') (hB : B ≤ g) (hw : B ≤ w.heap.size) : Below B w w' :=
  ⟨h.os, h.tape, h.output, h.size, fun b hb => h.block b (by omega) (by omega)⟩
theorem Kp.sm {g B C : Nat} {w w' : World} (h : Kp g w w') (hB : B ≤ g) (hC : g < C) : Sm B C w w' :=
  ⟨h.size, fun b hb hbc => h.block b hb (by omega)⟩
theorem setAll_len {α : Type} : ∀ (vs : List α) (l : List α) (p : Nat), (setAll l p vs).length = l.length
  | [], l, p => rfl
  | v :: vs, l, p => by rw [setAll, setAll_len vs]; simp
theorem setAll_append {α : Type} : ∀ (vs us : List α) (l : List α) (p : Nat), setAll l p (vs ++ us) = setAll (setAll l p vs) (p + vs.length) us
  | [], us, l, p => rfl
  | v :: vs, us, l, p => by
    show setAll (l.set p v) (p + 1) (vs ++ us) = setAll (setAll (l.set p v) (p + 1) vs) (p + (vs.length + 1)) us
    rw [setAll_append vs us (l.set p v) (p + 1)]
    congr 1
    omega
section
variable {E : Type}
/-- What a mark of a slice of structs has done: k is the next number, ms the structs as they are marked. -/
def MarkedS (row : E → List Value) (T : TypeId) (B C : Nat) (a : Option Addr) (k : Nat) (ms : List E) (w : World) (e : Ending) (w' : World) : Prop :=
  e = .returned (.int .i64 (k : Nat)) ∧ SlSI row T w' B C a ms ∧ (∀ D, D ≤ B → D ≤ w.heap.size → Below D w w') ∧ Sm B C w w'
/-- The marked structs: the number of the first is k, each takes n numbers. -/
def mkS (mk : Nat → E) (k n : Nat) : Nat → List E
  | 0 => []
  | j + 1 => mkS mk k n j ++ [mk (k + n * j)]
theorem mkS_len (mk : Nat → E) (k n : Nat) : ∀ j, (mkS mk k n j).length = j
  | 0 => rfl
  | j + 1 => by simp [mkS, mkS_len mk k n j]
theorem mkS_at (mk : Nat → E) (k n : Nat) : ∀ m j, j < m → (mkS mk k n m)[j]? = some (mk (k + n * j))
  | 0, j, h => absurd h (by omega)
  | m + 1, j, h => by
    unfold mkS
    by_cases e : j < m
    · rw [List.getElem?_append_left (by rw [mkS_len]; exact e)]; exact mkS_at mk k n m j e
    · obtain rfl : j = m := by omega
      rw [List.getElem?_append_right (by rw [mkS_len]; omega), mkS_len]; simp
/-- The block's cells when j structs are marked. -/
def mkC (row : E → List Value) (mk : Nat → E) (k n : Nat) (es : List E) (rest : List Value) (j : Nat) : List Value := ((mkS mk k n j).map row).flatten ++ ((es.drop j).map row).flatten ++ rest
theorem mkC_len {row : E → List Value} {n : Nat} (hn : ∀ e, (row e).length = n) (mk : Nat → E) (k : Nat) (es : List E) (rest : List Value) {j : Nat} (hj : j ≤ es.length) : (mkC row mk k n es rest j).length = es.length * n + rest.length := by
  unfold mkC
  rw [List.length_append, List.length_append, flatten_len (rows_len hn _), flatten_len (rows_len hn _), List.length_map, List.length_map, mkS_len, List.length_drop, ← Nat.add_mul]
  congr 2
  omega
theorem mkC_succ {row : E → List Value} {n : Nat} (hn : ∀ e, (row e).length = n) (mk : Nat → E) (k : Nat) (es : List E) (rest : List Value) {j : Nat} (hj : j < es.length) : setAll (mkC row mk k n es rest j) (j * n) (row (mk (k + n * j))) = mkC row mk k n es rest (j + 1) := by
  unfold mkC
  rw [List.drop_eq_getElem_cons hj, List.map_cons, List.flatten_cons, List.append_assoc, List.append_assoc, ← List.append_assoc, setAll_mid (row (mk (k + n * j))) _ (row es[j]) _ (j * n) ?_ (by rw [hn, hn])]
  · simp [mkS]
  · rw [flatten_len (rows_len hn _), List.length_map, mkS_len]
theorem mkC_zero (row : E → List Value) (mk : Nat → E) (k n : Nat) (es : List E) (rest : List Value) : mkC row mk k n es rest 0 = (es.map row).flatten ++ rest := by simp [mkC, mkS]
theorem mkC_all (row : E → List Value) (mk : Nat → E) (k n : Nat) (es : List E) (rest : List Value) : mkC row mk k n es rest es.length = ((mkS mk k n es.length).map row).flatten ++ rest := by simp [mkC]
theorem cell_of_len {w : World} {g p : Nat} {cs : List Value} {T : TypeId} (h : w.heap[g]? = some (.cells cs.toArray T (0, 0))) (hp : p < cs.length) : ∃ v, w.cell? ⟨g, p, none⟩ = some v :=
  ⟨cs[p], by simp [World.cell?, h, hp]⟩
theorem free_of_cells {w : World} {g p : Nat} {cs : List Value} {T : TypeId} (h : w.heap[g]? = some (.cells cs.toArray T (0, 0))) : w.frozen? ⟨g, p, none⟩ = false := by simp [World.frozen?, h]
end
end Go.Proofs.YtpdodpnhohmjaaaGreatDoor
