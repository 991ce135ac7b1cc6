/- impl.around from the beginning on, impl.FindPattern -/
import Derived.Test.YtjifiibaodjflaaFindV
import Derived.Test.YtjifiibaodjflaaSliceCells
import Derived.Test.YtjifiibaodjflaaSlRes
import Derived.Test.YtjifiibaodjflaaShelf
namespace Go.Proofs.Ytjifiibaodjflaa
open Go.RowKit
set_option linter.unusedVariables false
/-- The library's variable MaxLen holds some number. -/
def MaxAt (w : World) : Prop := ∃ m, w.cell? ⟨0, 0, none⟩ = some (.int .i64 m)
theorem MaxAt.below {w w' : World} {B : Nat} (h : MaxAt w) (hb : Below B w w') (hB : 0 < B) : MaxAt w' := by
  obtain ⟨m, hm⟩ := h
  exact ⟨m, by rw [hb.cell (p := ⟨0, 0, none⟩) hB]; exact hm⟩
theorem MaxAt.lt {w : World} (h : MaxAt w) : 0 < w.heap.size := by
  obtain ⟨m, hm⟩ := h
  exact World.block_lt_of_cell? w ⟨0, 0, none⟩ hm
theorem strIndex_any (s p : ByteArray) (w : World) (h : MaxAt w) (hs : s.size ≤ 100000) :
    Calls Try.prog 62 #[.string s, .string p] w fun e w' => e = .returned (.int .i64 (Lib.index s.data.toList p.data.toList)) ∧ w' = w := by
  obtain ⟨m, hm⟩ := h
  exact Try.strings_Index s p m w (by omega) hm
set_option maxHeartbeats 400000 in
theorem around0_any (s : ByteArray) (m : Nat) (w : World) (hm : m ≤ s.size + s.size) (hs : s.size ≤ 8000) :
    Calls Try.prog 57 #[.string s, .int .i64 0, .int .i64 (m : Int)] w fun e w' => e = .returned (.string (arcS s 0 m)) ∧ w = w' := by
  have e3 : (m : Int) ≤ (s.size : Int) + s.size := by omega
  have e5 : (s ++ s).size = s.size + s.size := by simp
  go_enter Try.func57, Try.ntmps57
  go_wp2
  go_ret
  exact ⟨by unfold arcS; rw [Nat.zero_add]; rfl, rfl⟩
theorem trS_eq (s p : ByteArray) : arcS s 0 (s.size + p.size - 1) = trS s p := arc_eq _ _ _
theorem trS_size (s p : ByteArray) (h : p.size ≤ s.size) (h1 : 1 ≤ p.size) : (trS s p).size = s.size + p.size - 1 := by
  show (trL s p).toArray.size = _
  rw [List.size_toArray]
  exact trL_len s p h h1
theorem trS_cut (s p : ByteArray) (f : Nat) : ((trS s p).extract f (trS s p).size).data.toList = (trL s p).drop f := by
  rw [ByteArray.data_extract, Array.toList_extract]
  show List.take ((trS s p).size - f) (List.drop f (trL s p)) = _
  refine List.take_of_length_le ?_
  rw [List.length_drop]
  show _ ≤ (trL s p).toArray.size - f
  simp
theorem cut_size (x : ByteArray) (f : Nat) : (x.extract f x.size).size ≤ x.size := by simp
theorem findV_len (s p : ByteArray) : (findV s p).length ≤ 1048576 := by
  unfold findV
  split
  · next h =>
    unfold findOk at h
    simp only [Bool.and_eq_true] at h
    have h2 := (validCells_bd h.1.1).2
    have := findR_len s p s.size
    omega
  · simp
set_option maxHeartbeats 4000000 in
theorem findPattern_any (s p : ByteArray) (hs : s.size ≤ 1048576) (hp : p.size ≤ 1048576) (w : World) (hmx : MaxAt w) :
    Calls Try.prog 28 #[.string s, .string p] w (SlRes (findV s p) w) := by
  have hv1 := fun w => validCells_any s w (by unfold maxLen; omega)
  have hv2 := fun w => validCells_any p w (by unfold maxLen; omega)
  by_cases hc : findOk s p = true
  · have hV : findV s p = findR s p s.size := by unfold findV; rw [if_pos hc]
    rw [hV]
    unfold findOk at hc
    simp only [Bool.and_eq_true, decide_eq_true_eq] at hc
    obtain ⟨⟨c1, c2⟩, c3⟩ := hc
    obtain ⟨b1, b2⟩ := validCells_bd c1
    obtain ⟨b3, b4⟩ := validCells_bd c2
    rw [c1] at hv1
    rw [c2] at hv2
    have HV1 := Lib.hid hv1; have HV2 := Lib.hid hv2
    have har := fun w => around0_any s (s.size + p.size - 1) w (by omega) b2
    rw [trS_eq, show ((s.size + p.size - 1 : Nat) : Int) = (s.size : Int) + p.size - 1 by omega] at har
    have HAR := Lib.hid har
    have HST := Lib.hid (fun f hf => find_step s p f c3 (by omega) hf)
    have htz := trS_size s p c3 (by omega)
    have HCUT := Lib.hid (trS_cut s p)
    have HLEN := Lib.hid (findR_len s p)
    clear hv1 hv2 c1 c2 hV har
    have e1 : ¬ (s.size : Int) < p.size := by omega
    generalize trS s p = tr at *
    go_enter Try.func28, Try.ntmps28
    go_wp2_with (first | (go_at_call 54; first | ((with_reducible refine (HV1.out _).mono ?_); rintro e w1 ⟨rfl, hb1⟩) | ((with_reducible refine (HV2.out _).mono ?_); rintro e w2 ⟨rfl, hb2⟩)) | (go_at_call 57; refine (HAR.out _).mono ?_; rintro e w3 ⟨rfl, rfl⟩))
    have hb12 := hb1.trans (hb2.mono hb1.size)
    have hz12 := hb12.size
    have HMX := Lib.hid (hmx.below hb12 hmx.lt)
    have HLT := Lib.hid (hmx.lt)
    go_loopw [6, 7, 8] (fun v i _ wr => ∃ f : Nat, f ≤ s.size ∧ i = .int .i64 f ∧ OwnI wr w2.heap.size v (findR s p f) ∧ Below w2.heap.size w2 wr) (fun _ i _ _ => s.size - (intOf i).toNat)
    case atStart => exact ⟨0, Nat.zero_le _, rfl, OwnI.nil _ _, Below.refl _ _⟩
    case round =>
      obtain ⟨f, hf, rfl, hown, hb⟩ := hrel
      have hsz := hb.size
      have hx := strIndex_any (tr.extract f tr.size) p wr (HMX.out.below hb (Nat.lt_of_lt_of_le HLT.out hz12)) (Nat.le_trans (cut_size _ _) (by omega))
      rw [HCUT.out, htz] at hx
      have hln := HLEN.out f
      have ef : (f : Int) ≤ (tr.size : Int) := by omega
      have ef2 : f ≤ tr.size := by omega
      rcases HST.out f hf with ⟨h1, h2⟩ | ⟨d, h1, h2, h3⟩
      · rw [h1] at hx
        have HX := Lib.hid hx; clear hx h1
        rw [← h2] at hown
        have HOWN := Lib.hid hown; clear hown h2
        obtain ⟨a, c, rfl, hs⟩ := HOWN.out.slO
        have HS := Lib.hid hs; clear hs
        go_wp2_with (go_at_call 62; refine HX.out.mono ?_; rintro e w3 ⟨rfl, rfl⟩)
        go_ret
        exact ⟨_, _, rfl, HS.out.mono hz12, hb12.trans (hb.mono hz12)⟩
      · rw [h1] at hx
        have HX := Lib.hid hx; clear hx h1
        generalize findR s p f = l at *
        have hl4 : l.length < 1073741824 := by omega
        obtain ⟨F, hF⟩ : ∃ F, f + d = F := ⟨_, rfl⟩
        have eF : (f : Int) + (d : Int) = (F : Int) := by omega
        rw [hF] at h2 h3
        have H3 := Lib.hid h3; clear h3
        have HFD := Lib.hid hF; clear hF
        have hF8 : F < 8000 := by omega
        go_wp2_with (first
          | (go_at_call 62; refine HX.out.mono ?_; rintro e w3 ⟨rfl, rfl⟩)
          | (at_builtin; refine wpList_appendI 27 Try.underlying27 rfl _ _ rfl rfl (hown.alloc _) (F : Int) ⟨w3.heap.size, 0, none⟩ 1 rfl (World.news_of_block (cs := #[.int .i64 (F : Int)]) (t := 2) (fr := (0, 0)) (heap_alloc_new w3 _)) hl4 (by simp; omega) ?_; intro g cap w4 hown4 hb4 _))
        go_roundw
        case rel => exact ⟨F + 1, by omega, by go_num, by rw [H3.out]; simpa using hown4, (hb.alloc hsz _).trans hb4⟩
        case measure =>
          have := HFD.out
          simp [intOf]; omega
  · have hV : findV s p = [] := by unfold findV; rw [if_neg hc]
    rw [hV]
    unfold findOk at hc
    obtain ⟨x, hx⟩ : ∃ x, validCells s = x := ⟨_, rfl⟩
    obtain ⟨y, hy⟩ : ∃ x, validCells p = x := ⟨_, rfl⟩
    rw [hx] at hv1 hc
    rw [hy] at hv2 hc
    have HV1 := Lib.hid hv1; have HV2 := Lib.hid hv2
    clear hv1 hv2 hx hy hV
    cases x with
    | false =>
      clear hc
      go_enter Try.func28, Try.ntmps28
      go_wp2_with (go_at_call 54; refine (HV1.out _).mono ?_; rintro e w1 ⟨rfl, hb1⟩)
      go_ret
      exact ⟨_, _, rfl, .inl rfl, hb1⟩
    | true =>
      cases y with
      | false =>
        clear hc
        go_enter Try.func28, Try.ntmps28
        go_wp2_with (go_at_call 54; first | ((with_reducible refine (HV1.out _).mono ?_); rintro e w1 ⟨rfl, hb1⟩) | ((with_reducible refine (HV2.out _).mono ?_); rintro e w2 ⟨rfl, hb2⟩))
        go_ret
        exact ⟨_, _, rfl, .inl rfl, hb1.trans (hb2.mono hb1.size)⟩
      | true =>
        have e1 : (s.size : Int) < p.size := by simp at hc; omega
        clear hc
        go_enter Try.func28, Try.ntmps28
        go_wp2_with (go_at_call 54; first | ((with_reducible refine (HV1.out _).mono ?_); rintro e w1 ⟨rfl, hb1⟩) | ((with_reducible refine (HV2.out _).mono ?_); rintro e w2 ⟨rfl, hb2⟩))
        go_ret
        exact ⟨_, _, rfl, .inl rfl, hb1.trans (hb2.mono hb1.size)⟩
end Go.Proofs.Ytjifiibaodjflaa
