/- impl.newTree: a tree with a root only. -/
import Derived.Test.YteifmkimhjnjcaaTreePut
import Derived.Deep.OwnRows
namespace Go.Proofs.Yteifmkimhjnjcaa
open Go.RowKit
set_option linter.unusedVariables false
set_option linter.unusedSimpArgs false
set_option maxRecDepth 20000
def zero32 : List UInt8 := List.replicate 32 0
theorem tbyte_any (n : Nat) (h : n < 256) (w : World) :
    Calls Try.prog 32 #[.int .i64 (n : Int)] w fun e w' => e = .returned (.string ⟨#[n.toUInt8]⟩) ∧ Below w.heap.size w w' := by
  have hcv := conv_new1 w (n : Int) (by omega) (by omega)
  rw [Int.toNat_natCast] at hcv
  have h2 : (n : Int) < 256 := by omega
  go_enter Try.func32, Try.ntmps32
  go_wp2
  go_ret
  exact ⟨rfl, (Below.refl _ _).alloc (Nat.le_refl _) _⟩
/-- The blocks of a tree lie behind the list of their pointers: the first one with some bytes, the others with zeros. -/
def NewT (w : World) (g n : Nat) (bs : List UInt8) : Prop :=
  g + n < w.heap.size ∧ (∀ i, i < n → w.cell? ⟨g, i, none⟩ = some (.pointer (some ⟨g + 1 + i, 0, none⟩))) ∧ (0 < n → TBk w (g + 1) bs) ∧ ∀ i, 1 ≤ i → i < n → TBk w (g + 1 + i) zero32
/-- As the loop has it: k blocks are there. -/
def NewK (w : World) (g n k : Nat) : Prop :=
  w.heap.size = g + 1 + k ∧ (∀ i, i < k → w.cell? ⟨g, i, none⟩ = some (.pointer (some ⟨g + 1 + i, 0, none⟩))) ∧ (∀ i, i < k → TBk w (g + 1 + i) zero32) ∧ ∀ i, i < n → (∃ v, w.cell? ⟨g, i, none⟩ = some v) ∧ w.frozen? ⟨g, i, none⟩ = false
def zeros32 : Array Value := (Lib.byteCells zero32).toArray
theorem NewK.next {w : World} {g n k : Nat} {T : TypeId} (h : NewK w g n k) (hk : k < n) : NewK ((w.alloc (.cells zeros32 T)).setCell ⟨g, k, none⟩ (.pointer (some ⟨w.heap.size, 0, none⟩))) g n (k + 1) := by
  obtain ⟨h1, h2, h3, h4⟩ := h
  have hb : Below w.heap.size w (w.alloc (.cells zeros32 T)) := (Below.refl _ _).alloc (Nat.le_refl _) _
  have hg : g < w.heap.size := by omega
  refine ⟨by simp [World.setCell]; omega, ?_, ?_, ?_⟩
  · intro i hi
    by_cases e : i = k
    · subst e
      obtain ⟨v, hv⟩ := (h4 i hk).1
      have := World.cell?_setCell_same (w.alloc (.cells zeros32 T)) ⟨g, i, none⟩ (.pointer (some ⟨w.heap.size, 0, none⟩)) (u := v) (by rw [hb.cell (p := ⟨g, i, none⟩) hg]; exact hv)
      rw [this, h1]
    · rw [World.cell?_setCell_other (h := fun e' => e (by cases e'; rfl)), hb.cell (p := ⟨g, i, none⟩) hg]
      exact h2 i (by omega)
  · intro i hi
    have hne : g + 1 + i ≠ g := by omega
    refine TBk.kept (w := w.alloc (.cells zeros32 T)) ?_ (heap_setCell_ne _ _ _ _ _ hne)
    by_cases e : i = k
    · subst e
      refine TBk.new (cs := zeros32) (T := T) ?_ rfl
      rw [← h1]
      exact heap_alloc_new _ _
    · exact (h3 i (by omega)).below hb (by omega)
  · intro i hi
    obtain ⟨⟨v, hv⟩, hf⟩ := h4 i hi
    refine ⟨?_, by rw [World.frozen?_setCell, hb.frozen (p := ⟨g, i, none⟩) hg]; exact hf⟩
    by_cases e : i = k
    · subst e
      exact ⟨_, World.cell?_setCell_same _ _ _ (by rw [hb.cell (p := ⟨g, i, none⟩) hg]; exact hv)⟩
    · exact ⟨v, by rw [World.cell?_setCell_other (h := fun e' => e (by cases e'; rfl)), hb.cell (p := ⟨g, i, none⟩) hg]; exact hv⟩
theorem NewT.below {w w' : World} {g n : Nat} {bs : List UInt8} (h : NewT w g n bs) (hb : Below w.heap.size w w') : NewT w' g n bs := by
  obtain ⟨h0, h1, h2, h3⟩ := h
  have hz := hb.size
  exact ⟨by omega, fun i hi => by rw [hb.cell (p := ⟨g, i, none⟩) (by show g < _; omega)]; exact h1 i hi, fun h => (h2 h).below hb (by omega), fun i hi hn => (h3 i hi hn).below hb (by omega)⟩
theorem NewT.root {w w' : World} {g n : Nat} {bs bs' : List UInt8} (h : NewT w g n bs) (ht : TBk w' (g + 1) bs') (ho : OnlyB (g + 1) w w') : NewT w' g n bs' := by
  obtain ⟨h0, h1, h2, h3⟩ := h
  refine ⟨by rw [ho.1]; exact h0, fun i hi => ?_, fun _ => ht, fun i hi hn => (h3 i hi hn).kept (ho.2.1 _ (by omega))⟩
  rw [World.cell?_of_block (w := w) (ho.2.1 g (by omega))]
  exact h1 i hi
theorem NewK.all {w : World} {g n : Nat} (h : NewK w g n n) : NewT w g n zero32 := ⟨by have := h.1; omega, h.2.1, fun h0 => h.2.2.1 0 h0, fun i _ hi => h.2.2.1 i hi⟩
theorem ptrInfo : (Try.prog.info? 44).map (fun i => (i.zero, i.size, i.bytes)) = some (some (.pointer none), 1, 8) := by kernel_rfl
theorem NewK.start (w : World) (n : Nat) (T : TypeId) : NewK (w.alloc (.cells (madeCells #[.pointer none] n) T)) w.heap.size n 0 := by
  have hn := heap_alloc_new w (.cells (madeCells #[.pointer none] n) T)
  refine ⟨by simp, fun i hi => by omega, fun i hi => by omega, fun i hi => ⟨⟨.pointer none, ?_⟩, ?_⟩⟩
  · unfold World.cell?
    dsimp only
    rw [hn]
    simp [madeCells, hi, Nat.mod_one]
  · unfold World.frozen?
    dsimp only
    rw [hn]
    simp
def r1L : List UInt8 := sealL (putL zero32 0 [1])
def r2L (n : Nat) : List UInt8 := sealL (putL r1L 2 [n.toUInt8])
def r3L (n : Nat) : List UInt8 := sealL (putL (r2L n) 12 [1])
theorem r2L_len (n : Nat) : (r2L n).length = 32 := by unfold r2L; rw [sealL_len, putL_len]; rfl
theorem r2L_12 (n : Nat) : (r2L n)[12]? = some 0 := by
  unfold r2L sealL putL putL
  rw [List.getElem?_set_ne (by omega), List.getElem?_set_ne (by omega)]
  rfl
theorem conv_new1d (W : World) :
    (convert 32 9 (.slice (some ⟨W.heap.size, 0, none⟩) 1 1)).run Try.prog (W.alloc (.cells #[.int .u8 1] 5)).drew = .ok (.string ⟨#[1]⟩) (W.alloc (.cells #[.int .u8 1] 5)).drew := by
  refine conv_of _ _ 1 [1] ?_
  intro j hj
  have e := add0 W.heap.size j
  match j, hj with
  | 0, _ => rw [e]; simp [go_sem]
  | j + 1, hj => simp at hj
theorem markOf0_any (w : World) :
    Calls Try.prog 34 #[.int .i64 0] w fun e w' => e = .returned (.tuple #[.int .i64 12, .int .u8 1]) ∧ Below w.heap.size w w' := by
  go_enter Try.func34, Try.ntmps34
  go_wp2
  go_region
  all_goals go_wp2
  all_goals go_ret2
  all_goals exact ⟨rfl, by go_grown⟩
set_option maxHeartbeats 2000000 in
theorem turnMark0_any (g n : Nat) (bs : List UInt8) (w : World) (h : NewT w g n bs) (hl : bs.length = 32) (hn : 4 ≤ n) (h12 : bs[12]? = some 0) :
    Calls Try.prog 33 #[.slice (some ⟨g, 0, none⟩) n n, .int .i64 0] w fun e w' => e = .returned (.tuple #[]) ∧ NewT w' g n (sealL (putL bs 12 [1])) ∧ Below g w w' := by
  have MO := Lib.hid (fun w => markOf0_any w)
  have PU := Lib.hid (fun W (h' : NewT W g n bs) => show Calls Try.prog 31 #[.pointer (some ⟨g + 1, 0, none⟩), .int .i64 12, .string ⟨#[1]⟩] W fun e w' => e = .returned (.tuple #[]) ∧ TBk w' (g + 1) (sealL (putL bs 12 [1])) ∧ OnlyB (g + 1) W w' from put_any (g + 1) 12 ⟨#[1]⟩ bs W (h'.2.2.1 (by omega)) hl (Or.inr (Or.inr rfl)) rfl)
  have hk0 : 0 < n := by omega
  have hk1 : (0 : Int) < (n : Int) := by omega
  have KC := Lib.hid (fun W (h' : NewT W g n bs) => (show W.cell? ⟨g, 0, none⟩ = some (.pointer (some ⟨g + 1, 0, none⟩)) ∧ W.cell? ⟨g + 1, 12, none⟩ = some (.int .u8 0) from ⟨h'.2.1 0 hk0, by
    have e := (h'.2.2.1 hk0 12 (by omega)).1
    rw [List.getElem?_eq_getElem (by omega)] at h12
    cases h12' : bs[12]'(by omega)
    rw [e]
    injection h12 with h12
    rw [h12]; rfl⟩))
  have hx : bits BinOp.xor IntKind.u8 0 1 = 1 := by decide
  have hcv := fun W : World => conv_new1d W
  have HN := Lib.hid h; clear h h12
  go_enter Try.func33, Try.ntmps33
  go_wp2_with (go_at_call 34; refine (MO.out _).mono ?_; rintro e w1 ⟨rfl, hb1⟩)
  have HN1 := Lib.hid (HN.out.below hb1)
  have HB1 := Lib.hid (hb1.mono (B' := g) (by have := HN.out.1; omega))
  obtain ⟨c0, c1⟩ := KC.out _ HN1.out
  have hg : g < w1.heap.size := by have := HN1.out.1; omega
  have hg1 : g + 1 < w1.heap.size := by have := HN1.out.1; omega
  clear hb1
  go_wp2
  go_region_law (first
    | (go_simp; go_at_call 31; (with_reducible refine (PU.out _ (NewT.below HN1.out (by go_grown))).mono ?_); rintro e w3 ⟨rfl, ht3, ho3⟩; go_wp2_with fail)
    | fail)
  all_goals
    go_wp2
    go_end0
    refine ⟨rfl, NewT.root (NewT.below HN1.out (by go_grown)) ht3 ho3, HB1.out.trans ?_⟩
    exact Below.trans (((Below.refl g w1).alloc (by omega) _).drew) (ho3.2.2.mono (by omega))
set_option maxHeartbeats 2000000 in
theorem newTree_any (n : Nat) (w : World) (h1 : 4 ≤ n) (h2 : n ≤ 128) :
    Calls Try.prog 24 #[.int .i64 (n : Int)] w fun e w' => e = .returned (.slice (some ⟨w.heap.size, 0, none⟩) n n) ∧ NewT w' w.heap.size n (r3L n) ∧ Below w.heap.size w w' := by
  have hmk := fun w => run_make_row' (P := Try.prog) 39 44 (.pointer none) 8 Try.underlying39 ptrInfo rfl .i64 .i64 n (by omega) (by omega) w
  go_enter Try.func24, Try.ntmps24
  go_wp2
  go_loopw [9] (fun i wr => ∃ k : Nat, k ≤ n ∧ i = .int .i64 (k : Int) ∧ NewK wr w.heap.size n k ∧ Below w.heap.size w wr) (fun i _ => n - (intOf i).toNat)
  case atStart => exact ⟨0, by omega, rfl, NewK.start w n _, (Below.refl _ _).alloc (Nat.le_refl _) _⟩
  case round =>
    obtain ⟨k, hk, rfl, hN, hb⟩ := hrel
    by_cases hlt : k < n
    · have hz := hb.size
      obtain ⟨⟨v, c0⟩, f0⟩ := hN.2.2.2 k hlt
      have HX := Lib.hid (hN.next (T := 34) hlt)
      have HB := Lib.hid (((hb.alloc hz (.cells zeros32 34))).setCell (p := ⟨w.heap.size, k, none⟩) (Nat.le_refl _) (.pointer (some ⟨wr.heap.size, 0, none⟩)))
      have hne : w.heap.size < wr.heap.size := by have := hN.1; omega
      clear hN hb
      rw [World.setCell_alloc_past _ _ _ _ hne] at HX HB
      go_wp2
      go_roundw
      case rel => exact ⟨k + 1, by omega, by go_num, HX.out, HB.out⟩
      case measure => simp [intOf]; omega
    · obtain rfl : k = n := by omega
      have HN := Lib.hid hN.all
      have HB := Lib.hid hb
      clear hN hb
      have TB := Lib.hid (fun w => show Calls Try.prog 32 #[.int .i64 1] w fun e w' => e = .returned (.string ⟨#[1]⟩) ∧ Below w.heap.size w w' from tbyte_any 1 (by omega) w)
      have TN := Lib.hid (fun w => tbyte_any k (by omega) w)
      have PU := Lib.hid (fun W (h' : NewT W w.heap.size k zero32) => show Calls Try.prog 31 #[.pointer (some ⟨w.heap.size + 1, 0, none⟩), .int .i64 0, .string ⟨#[1]⟩] W fun e w' => e = .returned (.tuple #[]) ∧ TBk w' (w.heap.size + 1) (sealL (putL zero32 0 [1])) ∧ OnlyB (w.heap.size + 1) W w' from put_any (w.heap.size + 1) 0 ⟨#[1]⟩ zero32 W (h'.2.2.1 (by omega)) rfl (Or.inl rfl) rfl)
      have hk0 : 0 < k := by omega
      have hk1 : (0 : Int) < (k : Int) := by omega
      have c0 : wr.cell? ⟨w.heap.size, 0, none⟩ = some (.pointer (some ⟨w.heap.size + 1, 0, none⟩)) := HN.out.2.1 0 (by omega)
      go_wp2
      go_region_law (first
        | (go_simp; go_at_call 32; (with_reducible refine (TB.out _).mono ?_); rintro e w2 ⟨rfl, hb2⟩; go_wp2_with fail; have HN2 := Lib.hid (NewT.below (by exact HN.out) hb2); have c2 := HN2.out.2.1 0 (by omega); have HB2 := Lib.hid (Below.trans (by first | exact HB.out | exact HB.out.drew) (hb2.mono HB.out.size)))
        | (go_simp; go_at_call 31; (with_reducible refine (PU.out _ HN2.out).mono ?_); rintro e w3 ⟨rfl, ht3, ho3⟩; go_wp2_with fail)
        | fail)
      all_goals
        have HN3 := Lib.hid (NewT.root HN2.out ht3 ho3)
        have HB3 := Lib.hid (HB2.out.trans (ho3.2.2.mono (by omega)))
        clear ht3 ho3 HN2 HB2 c2 c0
        have c0 := HN3.out.2.1 0 (by omega)
        have PU2 := Lib.hid (fun W (h' : NewT W w.heap.size k r1L) => show Calls Try.prog 31 #[.pointer (some ⟨w.heap.size + 1, 0, none⟩), .int .i64 2, .string ⟨#[k.toUInt8]⟩] W fun e w' => e = .returned (.tuple #[]) ∧ TBk w' (w.heap.size + 1) (r2L k) ∧ OnlyB (w.heap.size + 1) W w' from put_any (w.heap.size + 1) 2 ⟨#[k.toUInt8]⟩ r1L W (h'.2.2.1 (by omega)) rfl (Or.inr (Or.inl rfl)) rfl)
        go_wp2
        go_region_law (first
          | (go_simp; go_at_call 32; (with_reducible refine (TN.out _).mono ?_); rintro e w4 ⟨rfl, hb4⟩; go_wp2_with fail; have HN4 := Lib.hid (NewT.below (by exact HN3.out) hb4); have c4 := HN4.out.2.1 0 (by omega); have HB4 := Lib.hid (Below.trans (by first | exact HB3.out | exact HB3.out.drew) (hb4.mono HB3.out.size)))
          | (go_simp; go_at_call 31; (with_reducible refine (PU2.out _ HN4.out).mono ?_); rintro e w5 ⟨rfl, ht5, ho5⟩; go_wp2_with fail)
          | fail)
        all_goals
          have HN5 := Lib.hid (NewT.root HN4.out ht5 ho5)
          have HB5 := Lib.hid (HB4.out.trans (ho5.2.2.mono (by omega)))
          clear ht5 ho5 HN4 HB4 HN3 HB3 c4 c0 PU PU2
          have TM := Lib.hid (turnMark0_any w.heap.size k (r2L k) w5 HN5.out (r2L_len k) (by omega) (r2L_12 k))
          go_wp2_with (go_at_call 33; refine TM.out.mono ?_; rintro e w6 ⟨rfl, hn6, hb6⟩)
          go_ret
          exact ⟨rfl, hn6, HB5.out.trans hb6⟩
end Go.Proofs.Yteifmkimhjnjcaa
