/- impl.ofDigits at 1 and at 4 bits a digit, by wip/tools/gen_ofdigits.py -/
import Derived.Test.YtffefhgemmjkoaaDoorIndexRune
import Derived.Test.YtffefhgemmjkoaaDoorDigVal
import Derived.Test.YtffefhgemmjkoaaDoorIsName
import Derived.Lib.BufferWrite
namespace Go.Proofs.YtffefhgemmjkoaaDoor
open Go.RowKit
set_option maxRecDepth 20000
set_option linter.unusedVariables false
theorem index1_any (c : Nat) (w : World) :
    Calls Tryd.prog 126 #[.string (({ data := #[48, 49, 50, 51, 52, 53, 54, 55, 56, 57, 97, 98, 99, 100, 101, 102] } : ByteArray).extract 0 2), .int .i32 (c : Int)] w fun e w' => e = .returned (.int .i64 (dig1 c)) ∧ (c < 128 → w = w') ∧ Below w.heap.size w w' := by
  by_cases h : c < 128
  · refine (Tryd.strings_IndexRune_ascii _ _ w (by omega) (by omega)).mono ?_
    rintro e w' ⟨rfl, rfl⟩
    refine ⟨?_, fun _ => rfl, Below.refl _ _⟩
    have := dig1_index ⟨c, h⟩
    simp only at this
    rw [← this]
    rfl
  · refine (indexRune_high _ (by decide) (by decide) _ (by omega) w).mono ?_
    rintro e w' ⟨rfl, hb⟩
    exact ⟨by rw [dig1_high c (by omega)], fun h' => absurd h' h, hb⟩
theorem or1_at : ∀ (v : Fin 256) (d : Fin 2), bits .or .u8 ((v.val : Int) * 2 % 256) (d.val : Int) = ((v.val : Int) * 2 + d.val) % 256 := by decide +kernel
theorem or1_any {v d : Int} (h0 : 0 ≤ v) (h1 : v < 256) (h2 : 0 ≤ d) (h3 : d < 2) : bits .or .u8 (v * 2 % 256) d = (v * 2 + d) % 256 := by
  have := or1_at ⟨v.toNat, by omega⟩ ⟨d.toNat, by omega⟩
  simp only at this
  rw [Int.toNat_of_nonneg h0, Int.toNat_of_nonneg h2] at this
  exact this
set_option maxHeartbeats 4000000 in
set_option maxRecDepth 1000000 in
theorem ofDigits1_yes (s : ByteArray) (h1 : s.size % 8 = 0) (h2 : s.size ≤ 32768) (w : World) :
    Calls Tryd.prog 95 #[.string s, .int .i64 1] w fun e w' => e = .returned (ofDigText (ofDig 2 8 dig1 s)) ∧ Below w.heap.size w w' := by
  have hE := Lib.hid (show ofDig 2 8 dig1 s = if digOk dig1 s s.size = true then some (accO 2 8 (digAt dig1 s) s.size) else none by unfold ofDig; rw [if_pos ⟨h1, by omega⟩])
  have h1' : ((s.size : Int).tmod 8 == 0) = true := by rw [beq_iff_eq, Int.tmod_eq_emod_of_nonneg (by omega)]; omega
  have h2' : (s.size : Int) ≤ 32768 := by omega
  go_enter Tryd.func95, Tryd.ntmps95
  go_wp2
  go_loopw [7, 8, 9, 10, 11] (fun v n _ _ _ wr => ∃ pos, pos ≤ s.size ∧ wr.heap[w.heap.size]? = some (.stringIter s pos) ∧ OwnB wr (w.heap.size + 1) v (accO 2 8 (digAt dig1 s) pos) ∧ n = .int .u8 (accV 2 (digAt dig1 s) pos) ∧ Hid (digOk dig1 s pos = true) ∧ Below w.heap.size w wr) (fun _ _ _ _ _ wr => s.size - wr.iterPos w.heap.size)
  case atStart =>
    exact ⟨0, Nat.zero_le _, World.iter_heap w s 0, ⟨rfl, .inl ⟨rfl, rfl⟩⟩, rfl, by unfold Hid; rfl, (Below.refl _ _).alloc (Nat.le_refl _) _⟩
  case round =>
    obtain ⟨pos, hk, hit, hown, rfl, hok, hbr⟩ := hrel
    have hmes := iterPos_of hit
    by_cases hp : pos < s.size
    · have hnx : ∀ ty, (Instr.next (.pointer (some ⟨w.heap.size, 0, none⟩)) true ty).run Tryd.prog wr = _ := fun ty => Lib.run_next_any_at wr w.heap.size s pos ty hit hp
      have hit2 := Lib.iterAt_heap wr w.heap.size s pos (pos + 1) hit
      have hda := digAt_eq dig1 s pos hp
      by_cases hasc : s[pos].toNat < 128
      · rw [decode_ascii s pos hp hasc] at hnx
        generalize s[pos].toNat = c at hnx hasc hda
        obtain ⟨d, hd⟩ : ∃ d, dig1 c = d := ⟨_, rfl⟩
        have hdb := dig1_bd c
        rw [hd] at hdb hda
        have hvb := accV_bd 2 (digAt dig1 s) pos
        have HI := Lib.hid (fun w' => index1_any c w')
        rw [hd] at HI
        have hsucc := Lib.hid (show accV 2 (digAt dig1 s) (pos + 1) = (accV 2 (digAt dig1 s) pos * 2 + digAt dig1 s pos) % 256 from rfl)
        rw [hda] at hsucc
        have hosucc := Lib.hid (show accO 2 8 (digAt dig1 s) (pos + 1) = if (pos + 1) % 8 = 0 then accO 2 8 (digAt dig1 s) pos ++ [(accV 2 (digAt dig1 s) (pos + 1)).toNat.toUInt8] else accO 2 8 (digAt dig1 s) pos from rfl)
        have hksucc := Lib.hid (digOk_succ dig1 s pos)
        rw [hda] at hksucc
        have hklen := accO_length 2 8 (digAt dig1 s) pos
        have HK := Lib.hid (fun (hneg : d < 0) => digOk_no dig1 s s.size pos hp (by rw [hda]; exact hneg))
        have HD := Lib.hid (And.intro hd hda); clear hd hda
        generalize accV 2 (digAt dig1 s) pos = v at *
        generalize accO 2 8 (digAt dig1 s) pos = l at *
        by_cases hneg : d < 0
        · have hno := HK.out hneg
          have hEn := hE.out
          rw [hno] at hEn
          go_wp2_with (go_at_call 126; refine (HI.out _).mono ?_; rintro e w2 ⟨rfl, hw2, _⟩; obtain rfl := hw2 hasc)
          go_ret2
          refine ⟨by rw [hEn]; rfl, Lib.below_iterAt hbr (by omega) _ _⟩
        · have hneg' : 0 ≤ d := by omega
          have hor := or1_any hvb.1 hvb.2 hneg' hdb.2
          have hnv := hsucc.out
          have hq : 0 ≤ (v * 2 + d) % 256 ∧ (v * 2 + d) % 256 < 256 := by omega
          obtain ⟨v2, hv2⟩ : ∃ v2, accV 2 (digAt dig1 s) (pos + 1) = v2 := ⟨_, rfl⟩
          rw [← hnv, hv2] at hor hq
          have HV2 := Lib.hid hv2
          clear hnv hv2
          by_cases hm : (pos + 1) % 8 = 0
          · have hm1 : (((pos : Int) + 1).tmod 8 == 0) = true := by rw [beq_iff_eq, Int.tmod_eq_emod_of_nonneg (by omega)]; omega
            have hm2 : ((pos : Int) + 1) % 8 = 0 := by omega
            have HO1 := hosucc.out.trans (if_pos hm)
            rw [HV2.out] at HO1
            have HO := Lib.hid HO1; clear HO1
            have hown2 := hown.iterAt (k := w.heap.size) (by omega) s (pos + 1)
            have hbr2 := Lib.below_iterAt hbr (k := w.heap.size) (Nat.le_refl _) s (pos + 1)
            have hsz3 : w.heap.size + 1 ≤ (wr.iterAt w.heap.size s (pos + 1)).heap.size := by
              rw [Lib.iterAt_size]; exact (Array.getElem?_eq_some_iff.1 hit).1
            obtain ⟨V, hV⟩ : ∃ V, wr.iterAt w.heap.size s (pos + 1) = V := ⟨_, rfl⟩
            rw [hV] at hnx hit2 hown2 hbr2 hsz3
            have HF := Lib.hid (And.intro hit (And.intro hown hbr))
            clear hit hown hbr hV
            go_wp2_with (first
              | (go_at_call 126; refine (HI.out _).mono ?_; rintro e w2 ⟨rfl, hw2, _⟩; obtain rfl := hw2 hasc)
              | (at_builtin; refine wpList_appendB rfl _ _ rfl rfl (hown2.alloc _) v2 hq.1 hq.2 ⟨V.heap.size, 0, none⟩ 1 rfl (World.news_of_block (cs := #[.int .u8 v2]) (t := 5) (fr := (0, 0)) (heap_alloc_new V _)) (by omega) (by simp; omega) ?_; intro g cap w3 hown3 _ hb3 _))
            have hit3 : w3.heap[w.heap.size]? = some (.stringIter s (pos + 1)) := by
              rw [hb3.block _ (by omega), Below.heap_alloc _ _ _ (by omega)]; exact hit2
            go_roundw
            case rel =>
              refine ⟨pos + 1, by omega, hit3, by rw [HO.out]; exact hown3, by rw [HV2.out], ?_, (hbr2.alloc (by omega) _).trans (hb3.mono (by omega))⟩
              unfold Hid; rw [hksucc.out, hok.out]; simpa using hneg'
            case measure => rw [iterPos_of hit3, hmes]; omega
          · have hm1 : (((pos : Int) + 1).tmod 8 == 0) = false := by rw [beq_eq_false_iff_ne, ne_eq, Int.tmod_eq_emod_of_nonneg (by omega)]; omega
            have hm2 : ¬ ((pos : Int) + 1) % 8 = 0 := by omega
            have HO := Lib.hid (hosucc.out.trans (if_neg hm))
            go_wp2_with (go_at_call 126; refine (HI.out _).mono ?_; rintro e w2 ⟨rfl, hw2, _⟩; obtain rfl := hw2 hasc)
            go_roundw
            case rel =>
              refine ⟨pos + 1, by omega, hit2, by rw [HO.out]; exact hown.iterAt (by omega) _ _, by rw [HV2.out], ?_, Lib.below_iterAt hbr (by omega) _ _⟩
              unfold Hid; rw [hksucc.out, hok.out]; simpa using hneg'
            case measure => rw [iterPos_of hit2, hmes]; omega
      · have HI := Lib.hid (fun w' => index1_any (Utf8.decode s pos).1 w')
        have hh := (decode_high s pos hp (by omega)).1
        have hno := digOk_no dig1 s s.size pos hp (by rw [hda, dig1_high _ (by omega)]; omega)
        have hEn := hE.out
        rw [hno] at hEn
        rw [dig1_high _ hh] at HI
        go_wp2_with (go_at_call 126; refine (HI.out _).mono ?_; rintro e w2 ⟨rfl, _, hw2⟩)
        go_ret2
        refine ⟨by rw [hEn]; rfl, ?_⟩
        have := Lib.below_iterAt hbr (k := w.heap.size) (Nat.le_refl _) s ((pos + (Utf8.decode s pos).2))
        exact this.trans (hw2.mono this.size)
    · have hnx : ∀ ty, (Instr.next (.pointer (some ⟨w.heap.size, 0, none⟩)) true ty).run Tryd.prog wr = _ := fun ty => Lib.run_next_end_at wr w.heap.size s pos ty hit hp
      obtain rfl : pos = s.size := by omega
      have hcv := conv_own hown
      have hEn := hE.out
      rw [hok.out] at hEn
      have HEn := Lib.hid hEn; clear hEn
      go_wp2
      go_ret2
      exact ⟨by rw [HEn.out]; rfl, hbr⟩
theorem index4_any (c : Nat) (w : World) :
    Calls Tryd.prog 126 #[.string (({ data := #[48, 49, 50, 51, 52, 53, 54, 55, 56, 57, 97, 98, 99, 100, 101, 102] } : ByteArray).extract 0 16), .int .i32 (c : Int)] w fun e w' => e = .returned (.int .i64 (dig4 c)) ∧ (c < 128 → w = w') ∧ Below w.heap.size w w' := by
  by_cases h : c < 128
  · refine (Tryd.strings_IndexRune_ascii _ _ w (by omega) (by omega)).mono ?_
    rintro e w' ⟨rfl, rfl⟩
    refine ⟨?_, fun _ => rfl, Below.refl _ _⟩
    have := dig4_index ⟨c, h⟩
    simp only at this
    rw [← this]
    rfl
  · refine (indexRune_high _ (by decide) (by decide) _ (by omega) w).mono ?_
    rintro e w' ⟨rfl, hb⟩
    exact ⟨by rw [dig4_high c (by omega)], fun h' => absurd h' h, hb⟩
theorem or4_at : ∀ (v : Fin 256) (d : Fin 16), bits .or .u8 ((v.val : Int) * 16 % 256) (d.val : Int) = ((v.val : Int) * 16 + d.val) % 256 := by decide +kernel
theorem or4_any {v d : Int} (h0 : 0 ≤ v) (h1 : v < 256) (h2 : 0 ≤ d) (h3 : d < 16) : bits .or .u8 (v * 16 % 256) d = (v * 16 + d) % 256 := by
  have := or4_at ⟨v.toNat, by omega⟩ ⟨d.toNat, by omega⟩
  simp only at this
  rw [Int.toNat_of_nonneg h0, Int.toNat_of_nonneg h2] at this
  exact this
set_option maxHeartbeats 4000000 in
set_option maxRecDepth 1000000 in
theorem ofDigits4_yes (s : ByteArray) (h1 : s.size % 2 = 0) (h2 : s.size ≤ 8192) (w : World) :
    Calls Tryd.prog 95 #[.string s, .int .i64 4] w fun e w' => e = .returned (ofDigText (ofDig 16 2 dig4 s)) ∧ Below w.heap.size w w' := by
  have hE := Lib.hid (show ofDig 16 2 dig4 s = if digOk dig4 s s.size = true then some (accO 16 2 (digAt dig4 s) s.size) else none by unfold ofDig; rw [if_pos ⟨h1, by omega⟩])
  have h1' : ((s.size : Int).tmod 2 == 0) = true := by rw [beq_iff_eq, Int.tmod_eq_emod_of_nonneg (by omega)]; omega
  have h2' : (s.size : Int) ≤ 8192 := by omega
  go_enter Tryd.func95, Tryd.ntmps95
  go_wp2
  go_loopw [7, 8, 9, 10, 11] (fun v n _ _ _ wr => ∃ pos, pos ≤ s.size ∧ wr.heap[w.heap.size]? = some (.stringIter s pos) ∧ OwnB wr (w.heap.size + 1) v (accO 16 2 (digAt dig4 s) pos) ∧ n = .int .u8 (accV 16 (digAt dig4 s) pos) ∧ Hid (digOk dig4 s pos = true) ∧ Below w.heap.size w wr) (fun _ _ _ _ _ wr => s.size - wr.iterPos w.heap.size)
  case atStart =>
    exact ⟨0, Nat.zero_le _, World.iter_heap w s 0, ⟨rfl, .inl ⟨rfl, rfl⟩⟩, rfl, by unfold Hid; rfl, (Below.refl _ _).alloc (Nat.le_refl _) _⟩
  case round =>
    obtain ⟨pos, hk, hit, hown, rfl, hok, hbr⟩ := hrel
    have hmes := iterPos_of hit
    by_cases hp : pos < s.size
    · have hnx : ∀ ty, (Instr.next (.pointer (some ⟨w.heap.size, 0, none⟩)) true ty).run Tryd.prog wr = _ := fun ty => Lib.run_next_any_at wr w.heap.size s pos ty hit hp
      have hit2 := Lib.iterAt_heap wr w.heap.size s pos (pos + 1) hit
      have hda := digAt_eq dig4 s pos hp
      by_cases hasc : s[pos].toNat < 128
      · rw [decode_ascii s pos hp hasc] at hnx
        generalize s[pos].toNat = c at hnx hasc hda
        obtain ⟨d, hd⟩ : ∃ d, dig4 c = d := ⟨_, rfl⟩
        have hdb := dig4_bd c
        rw [hd] at hdb hda
        have hvb := accV_bd 16 (digAt dig4 s) pos
        have HI := Lib.hid (fun w' => index4_any c w')
        rw [hd] at HI
        have hsucc := Lib.hid (show accV 16 (digAt dig4 s) (pos + 1) = (accV 16 (digAt dig4 s) pos * 16 + digAt dig4 s pos) % 256 from rfl)
        rw [hda] at hsucc
        have hosucc := Lib.hid (show accO 16 2 (digAt dig4 s) (pos + 1) = if (pos + 1) % 2 = 0 then accO 16 2 (digAt dig4 s) pos ++ [(accV 16 (digAt dig4 s) (pos + 1)).toNat.toUInt8] else accO 16 2 (digAt dig4 s) pos from rfl)
        have hksucc := Lib.hid (digOk_succ dig4 s pos)
        rw [hda] at hksucc
        have hklen := accO_length 16 2 (digAt dig4 s) pos
        have HK := Lib.hid (fun (hneg : d < 0) => digOk_no dig4 s s.size pos hp (by rw [hda]; exact hneg))
        have HD := Lib.hid (And.intro hd hda); clear hd hda
        generalize accV 16 (digAt dig4 s) pos = v at *
        generalize accO 16 2 (digAt dig4 s) pos = l at *
        by_cases hneg : d < 0
        · have hno := HK.out hneg
          have hEn := hE.out
          rw [hno] at hEn
          go_wp2_with (go_at_call 126; refine (HI.out _).mono ?_; rintro e w2 ⟨rfl, hw2, _⟩; obtain rfl := hw2 hasc)
          go_ret2
          refine ⟨by rw [hEn]; rfl, Lib.below_iterAt hbr (by omega) _ _⟩
        · have hneg' : 0 ≤ d := by omega
          have hor := or4_any hvb.1 hvb.2 hneg' hdb.2
          have hnv := hsucc.out
          have hq : 0 ≤ (v * 16 + d) % 256 ∧ (v * 16 + d) % 256 < 256 := by omega
          obtain ⟨v2, hv2⟩ : ∃ v2, accV 16 (digAt dig4 s) (pos + 1) = v2 := ⟨_, rfl⟩
          rw [← hnv, hv2] at hor hq
          have HV2 := Lib.hid hv2
          clear hnv hv2
          by_cases hm : (pos + 1) % 2 = 0
          · have hm1 : (((pos : Int) + 1).tmod 2 == 0) = true := by rw [beq_iff_eq, Int.tmod_eq_emod_of_nonneg (by omega)]; omega
            have hm2 : ((pos : Int) + 1) % 2 = 0 := by omega
            have HO1 := hosucc.out.trans (if_pos hm)
            rw [HV2.out] at HO1
            have HO := Lib.hid HO1; clear HO1
            have hown2 := hown.iterAt (k := w.heap.size) (by omega) s (pos + 1)
            have hbr2 := Lib.below_iterAt hbr (k := w.heap.size) (Nat.le_refl _) s (pos + 1)
            have hsz3 : w.heap.size + 1 ≤ (wr.iterAt w.heap.size s (pos + 1)).heap.size := by
              rw [Lib.iterAt_size]; exact (Array.getElem?_eq_some_iff.1 hit).1
            obtain ⟨V, hV⟩ : ∃ V, wr.iterAt w.heap.size s (pos + 1) = V := ⟨_, rfl⟩
            rw [hV] at hnx hit2 hown2 hbr2 hsz3
            have HF := Lib.hid (And.intro hit (And.intro hown hbr))
            clear hit hown hbr hV
            go_wp2_with (first
              | (go_at_call 126; refine (HI.out _).mono ?_; rintro e w2 ⟨rfl, hw2, _⟩; obtain rfl := hw2 hasc)
              | (at_builtin; refine wpList_appendB rfl _ _ rfl rfl (hown2.alloc _) v2 hq.1 hq.2 ⟨V.heap.size, 0, none⟩ 1 rfl (World.news_of_block (cs := #[.int .u8 v2]) (t := 5) (fr := (0, 0)) (heap_alloc_new V _)) (by omega) (by simp; omega) ?_; intro g cap w3 hown3 _ hb3 _))
            have hit3 : w3.heap[w.heap.size]? = some (.stringIter s (pos + 1)) := by
              rw [hb3.block _ (by omega), Below.heap_alloc _ _ _ (by omega)]; exact hit2
            go_roundw
            case rel =>
              refine ⟨pos + 1, by omega, hit3, by rw [HO.out]; exact hown3, by rw [HV2.out], ?_, (hbr2.alloc (by omega) _).trans (hb3.mono (by omega))⟩
              unfold Hid; rw [hksucc.out, hok.out]; simpa using hneg'
            case measure => rw [iterPos_of hit3, hmes]; omega
          · have hm1 : (((pos : Int) + 1).tmod 2 == 0) = false := by rw [beq_eq_false_iff_ne, ne_eq, Int.tmod_eq_emod_of_nonneg (by omega)]; omega
            have hm2 : ¬ ((pos : Int) + 1) % 2 = 0 := by omega
            have HO := Lib.hid (hosucc.out.trans (if_neg hm))
            go_wp2_with (go_at_call 126; refine (HI.out _).mono ?_; rintro e w2 ⟨rfl, hw2, _⟩; obtain rfl := hw2 hasc)
            go_roundw
            case rel =>
              refine ⟨pos + 1, by omega, hit2, by rw [HO.out]; exact hown.iterAt (by omega) _ _, by rw [HV2.out], ?_, Lib.below_iterAt hbr (by omega) _ _⟩
              unfold Hid; rw [hksucc.out, hok.out]; simpa using hneg'
            case measure => rw [iterPos_of hit2, hmes]; omega
      · have HI := Lib.hid (fun w' => index4_any (Utf8.decode s pos).1 w')
        have hh := (decode_high s pos hp (by omega)).1
        have hno := digOk_no dig4 s s.size pos hp (by rw [hda, dig4_high _ (by omega)]; omega)
        have hEn := hE.out
        rw [hno] at hEn
        rw [dig4_high _ hh] at HI
        go_wp2_with (go_at_call 126; refine (HI.out _).mono ?_; rintro e w2 ⟨rfl, _, hw2⟩)
        go_ret2
        refine ⟨by rw [hEn]; rfl, ?_⟩
        have := Lib.below_iterAt hbr (k := w.heap.size) (Nat.le_refl _) s ((pos + (Utf8.decode s pos).2))
        exact this.trans (hw2.mono this.size)
    · have hnx : ∀ ty, (Instr.next (.pointer (some ⟨w.heap.size, 0, none⟩)) true ty).run Tryd.prog wr = _ := fun ty => Lib.run_next_end_at wr w.heap.size s pos ty hit hp
      obtain rfl : pos = s.size := by omega
      have hcv := conv_own hown
      have hEn := hE.out
      rw [hok.out] at hEn
      have HEn := Lib.hid hEn; clear hEn
      go_wp2
      go_ret2
      exact ⟨by rw [HEn.out]; rfl, hbr⟩
end Go.Proofs.YtffefhgemmjkoaaDoor
