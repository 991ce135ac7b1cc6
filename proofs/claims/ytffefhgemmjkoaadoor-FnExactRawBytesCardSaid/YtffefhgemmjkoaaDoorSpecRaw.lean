/- spec.l09Raw, spec.RawBytes -/
import Derived.Test.YtffefhgemmjkoaaDoorRawVal
import Derived.Test.YtffefhgemmjkoaaDoorBoxes
import Derived.Test.YtffefhgemmjkoaaDoorCrc
import Derived.Test.YtffefhgemmjkoaaDoorSpecValidCells
import Derived.Test.YtffefhgemmjkoaaDoorMarkTab
namespace Go.Proofs.YtffefhgemmjkoaaDoor
open Go.RowKit
set_option maxRecDepth 20000
set_option linter.unusedVariables false
set_option linter.unusedSimpArgs false
set_option maxRecDepth 20000
theorem hexd_biti {n : Nat} (h : n < 2) : ((48 : Int) + n).toNat.toUInt8 = hexd n := by
  have : n = 0 ∨ n = 1 := by omega
  rcases this with rfl | rfl <;> rfl
theorem hexd_zero : (48 : Int).toNat.toUInt8 = hexd 0 := by decide
theorem wrap64_48 (x : Int) (h0 : 0 ≤ x) (h1 : x < 256) : wrap64 x = x := by unfold wrap64; omega
theorem wrap64_bit (n : Nat) (h : n < 2) : wrap64 (48 + (n : Int)) % 256 = 48 + (n : Int) := by rw [wrap64_48 _ (by omega) (by omega)]; omega
theorem bit_m (m q n : Nat) (hm : (m : Int) < 16) (h : m / q % 2 = n) : bits .and .i64 ((m : Int) / (q : Nat)) 1 = (n : Int) := by
  have h0 : (m : Int) / (q : Nat) = ((m / q : Nat) : Int) := by simp
  have h1 : m / q ≤ m := Nat.div_le_self _ _
  have h2 : ((m / q : Nat) : Int) ≤ m := by exact_mod_cast h1
  have h3 : 0 ≤ ((m / q : Nat) : Int) := Int.natCast_nonneg _
  rw [h0, i64_and1 _ h3 (by omega), ← h]
  simp
theorem text_of (R : ByteArray) : ofDigText (some R.data.toList) = .tuple #[.string R, .bool true] := by simp [ofDigText]
set_option maxHeartbeats 8000000 in
theorem l09Raw_gcr (s : ByteArray) (M : Nat) (hM : s.size = 10 * M) (h8 : s.size ≤ 8000) (w : World) :
    Calls Tryd.prog 67 #[.int .i64 3, .string s] w fun e w' => e = .returned (.tuple #[.string (rawG s (2 * M)), .bool (gdOk s (2 * M))]) ∧ Below w.heap.size w w' := by
  have BO := fun w => specBytesOf_any ⟨(bitsG s (2 * M)).toArray⟩ w
  rw [rawG_bits s M (by omega), text_of] at BO
  have HBO := Lib.hid BO; clear BO
  have HM := Lib.hid hM
  go_enter Tryd.func67, Tryd.ntmps67
  go_wp2
  go_loopw [6, 7, 8, 9, 10] (fun v ok i _ _ wr => ∃ j : Nat, j ≤ 2 * M ∧ i = .int .i64 ((5 * j : Nat) : Int) ∧ ok = .bool (gdOk s j) ∧ OwnB wr w.heap.size v (bitsG s j) ∧ Below w.heap.size w wr) (fun _ _ i _ _ _ => 10 * M - (intOf i).toNat)
  case atStart => exact ⟨0, Nat.zero_le _, rfl, rfl, OwnB.nil w _ (Nat.le_refl _), (Below.refl _ _).alloc (Nat.le_refl _) _⟩
  case round =>
    obtain ⟨j, hj, rfl, rfl, hown0, hb0⟩ := hrel
    by_cases hlt : j < 2 * M
    · have e1 : ((5 * j : Nat) : Int) + 5 ≤ s.size := by omega
      have e2 : 5 * j + 5 ≤ s.size := by omega
      have ew : IntKind.i64.wrap (((5 * j : Nat) : Int) + 5) = ((5 * j : Nat) : Int) + 5 := wrap_small _ (by omega) (by omega)
      obtain ⟨i, hi⟩ : ∃ i, 5 * j = i := ⟨_, rfl⟩
      have HV := fun w => specGcrValue_any (subS s j) (by rw [subS_size s j e2]; omega) w
      have hsub : s.extract i (i + 5) = subS s j := by unfold subS; rw [hi]
      change ∀ w, Calls Tryd.prog 47 #[.string (subS s j)] w fun e w' => e = .returned (.int .i64 (gd s j)) ∧ Below w.heap.size w w' at HV
      rw [hi] at ew e1 e2 ⊢
      have hbz := gd_bd s j
      have HS1 := Lib.hid (gdOk_succ s j)
      have hlen := bitsG_len s j
      have hll : (bitsG s j).length < 100000 := by omega
      have HB1 := Lib.hid (show bitsG s (j + 1) = bitsG s j ++ nib4 (gz s j).toNat from rfl)
      have hgz : gz s j = if gd s j < 0 then 0 else gd s j := rfl
      generalize gz s j = g at *
      generalize gd s j = z at *
      generalize bitsG s j = l at *
      generalize gdOk s j = ok at *
      generalize subS s j = sub at *
      have HVV := Lib.hid HV; clear HV
      have HL := Lib.hid hlen; clear hlen
      have HI := Lib.hid hi; clear hi
      have hsz := hb0.size
      go_wp2_with fail
      refine (HVV.out _).mono ?_
      rintro e w2 ⟨rfl, hb2⟩
      have hown1 := hown0.below hb2
      have hb1 := hb0.trans (hb2.mono hsz)
      have hsz1 := hb1.size
      clear hown0 hb0 hb2 hsz
      by_cases hz : z < 0
      · rw [if_pos hz] at hgz
        subst hgz
        have ha_z : bits .and .i64 0 1 = 0 := by decide
        have hw_z : wrap64 48 % 256 = 48 := by rw [wrap64_48 _ (by omega) (by omega)]; rfl
        go_wp2
        refine wp_loop_rounds 5 ?_
        rw [rounds_succ]
        go_wp2_with (at_builtin; refine wpList_appendB rfl _ _ rfl rfl (hown1.alloc _) 48 (by omega) (by omega) ⟨w2.heap.size, 0, none⟩ 1 rfl (World.news_of_block (cs := #[.int .u8 48]) (t := 5) (fr := (0, 0)) (heap_alloc_new w2 _)) (by first | omega | (simp; omega)) (by simp; omega) ?_; intro g0 cap0 wr1 hown' hgrow hbw hat)
        rw [hexd_zero] at hown'
        have how1 := hown'; clear hown'
        have hbb0 := (hb1.alloc hsz1 _).trans hbw; clear hbw hgrow hat
        have hszz0 := hbb0.size
        rw [rounds_succ]
        go_wp2_with (at_builtin; refine wpList_appendB rfl _ _ rfl rfl (how1.alloc _) 48 (by omega) (by omega) ⟨wr1.heap.size, 0, none⟩ 1 rfl (World.news_of_block (cs := #[.int .u8 48]) (t := 5) (fr := (0, 0)) (heap_alloc_new wr1 _)) (by first | omega | (simp; omega)) (by simp; omega) ?_; intro g1 cap1 wr2 hown' hgrow hbw hat)
        rw [hexd_zero] at hown'
        have how2 := hown'; clear hown'
        simp only [List.length_append, List.length_cons, List.length_nil, Nat.zero_add] at how2
        have hbb1 := (hbb0.alloc hszz0 _).trans hbw; clear hbw hgrow hat
        have hszz1 := hbb1.size
        rw [rounds_succ]
        go_wp2_with (at_builtin; refine wpList_appendB rfl _ _ rfl rfl (how2.alloc _) 48 (by omega) (by omega) ⟨wr2.heap.size, 0, none⟩ 1 rfl (World.news_of_block (cs := #[.int .u8 48]) (t := 5) (fr := (0, 0)) (heap_alloc_new wr2 _)) (by first | omega | (simp; omega)) (by simp; omega) ?_; intro g2 cap2 wr3 hown' hgrow hbw hat)
        rw [hexd_zero] at hown'
        have how3 := hown'; clear hown'
        simp only [List.length_append, List.length_cons, List.length_nil, Nat.zero_add] at how3
        have hbb2 := (hbb1.alloc hszz1 _).trans hbw; clear hbw hgrow hat
        have hszz2 := hbb2.size
        rw [rounds_succ]
        go_wp2_with (at_builtin; refine wpList_appendB rfl _ _ rfl rfl (how3.alloc _) 48 (by omega) (by omega) ⟨wr3.heap.size, 0, none⟩ 1 rfl (World.news_of_block (cs := #[.int .u8 48]) (t := 5) (fr := (0, 0)) (heap_alloc_new wr3 _)) (by first | omega | (simp; omega)) (by simp; omega) ?_; intro g3 cap3 wr4 hown' hgrow hbw hat)
        rw [hexd_zero] at hown'
        have how4 := hown'; clear hown'
        simp only [List.length_append, List.length_cons, List.length_nil, Nat.zero_add] at how4
        have hbb3 := (hbb2.alloc hszz2 _).trans hbw; clear hbw hgrow hat
        have hszz3 := hbb3.size
        rw [rounds_succ]
        go_wp2
        skip
        go_roundw
        case rel =>
          refine ⟨j + 1, by omega, by rw [show ((5 * (j + 1) : Nat) : Int) = (i : Int) + 5 by have := HI.out; omega], by rw [HS1.out, decide_eq_false (by omega), Bool.and_false], ?_, hbb3⟩
          rw [HB1.out, show nib4 (Int.toNat 0) = [hexd 0, hexd 0, hexd 0, hexd 0] by decide]
          simpa only [List.append_assoc, List.cons_append, List.nil_append] using how4
        case measure => simp [intOf]; omega
      · rw [if_neg hz] at hgz
        subst hgz
        obtain ⟨m, rfl⟩ : ∃ m : Nat, g = (m : Int) := ⟨g.toNat, by omega⟩
        have hm : (m : Int) < 16 := by omega
        have hm0 : ¬ (m : Int) < 0 := by omega
        obtain ⟨n8, hn8⟩ : ∃ n, m / 8 % 2 = n := ⟨_, rfl⟩
        have hb_8 : n8 < 2 := by rw [← hn8]; exact Nat.mod_lt _ (by decide)
        have ha_8 : bits .and .i64 ((m : Int) / 8) 1 = (n8 : Int) := bit_m m 8 _ hm hn8
        have HN8 := Lib.hid hn8; clear hn8
        obtain ⟨n4, hn4⟩ : ∃ n, m / 4 % 2 = n := ⟨_, rfl⟩
        have hb_4 : n4 < 2 := by rw [← hn4]; exact Nat.mod_lt _ (by decide)
        have ha_4 : bits .and .i64 ((m : Int) / 4) 1 = (n4 : Int) := bit_m m 4 _ hm hn4
        have HN4 := Lib.hid hn4; clear hn4
        obtain ⟨n2, hn2⟩ : ∃ n, m / 2 % 2 = n := ⟨_, rfl⟩
        have hb_2 : n2 < 2 := by rw [← hn2]; exact Nat.mod_lt _ (by decide)
        have ha_2 : bits .and .i64 ((m : Int) / 2) 1 = (n2 : Int) := bit_m m 2 _ hm hn2
        have HN2 := Lib.hid hn2; clear hn2
        obtain ⟨n1, hn1⟩ : ∃ n, m / 1 % 2 = n := ⟨_, rfl⟩
        have hb_1 : n1 < 2 := by rw [← hn1]; exact Nat.mod_lt _ (by decide)
        have ha_1 : bits .and .i64 ((m : Int) / 1) 1 = (n1 : Int) := bit_m m 1 _ hm hn1
        have HN1 := Lib.hid hn1; clear hn1
        have ha_0 : bits .and .i64 (m : Int) 1 = (n1 : Int) := by have h := bit_m m 1 _ hm HN1.out; simpa using h
        have HNIB := Lib.hid (show nib4 (Int.toNat (m : Int)) = [hexd n8, hexd n4, hexd n2, hexd n1] by rw [Int.toNat_natCast]; unfold nib4; rw [HN8.out, HN4.out, HN2.out, HN1.out])
        go_wp2
        refine wp_loop_rounds 5 ?_
        rw [rounds_succ]
        go_wp2_with (at_builtin; refine wpList_appendB rfl _ _ rfl rfl (hown1.alloc _) (48 + (n8 : Int)) (by clear ha_8 ha_4 ha_2 ha_1 ha_0; omega) (by clear ha_8 ha_4 ha_2 ha_1 ha_0; omega) ⟨w2.heap.size, 0, none⟩ 1 rfl (World.news_of_block (cs := #[.int .u8 (48 + (n8 : Int))]) (t := 5) (fr := (0, 0)) (heap_alloc_new w2 _)) (by clear ha_8 ha_4 ha_2 ha_1 ha_0; first | omega | (simp; omega)) (by clear ha_8 ha_4 ha_2 ha_1 ha_0; simp; omega) ?_; intro g0 cap0 wr1 hown' hgrow hbw hat)
        rw [hexd_biti hb_8] at hown'
        have how1 := hown'; clear hown'
        have hbb0 := (hb1.alloc hsz1 _).trans hbw; clear hbw hgrow hat
        have hszz0 := hbb0.size
        rw [rounds_succ]
        go_wp2_with (at_builtin; refine wpList_appendB rfl _ _ rfl rfl (how1.alloc _) (48 + (n4 : Int)) (by clear ha_8 ha_4 ha_2 ha_1 ha_0; omega) (by clear ha_8 ha_4 ha_2 ha_1 ha_0; omega) ⟨wr1.heap.size, 0, none⟩ 1 rfl (World.news_of_block (cs := #[.int .u8 (48 + (n4 : Int))]) (t := 5) (fr := (0, 0)) (heap_alloc_new wr1 _)) (by clear ha_8 ha_4 ha_2 ha_1 ha_0; first | omega | (simp; omega)) (by clear ha_8 ha_4 ha_2 ha_1 ha_0; simp; omega) ?_; intro g1 cap1 wr2 hown' hgrow hbw hat)
        rw [hexd_biti hb_4] at hown'
        have how2 := hown'; clear hown'
        simp only [List.length_append, List.length_cons, List.length_nil, Nat.zero_add] at how2
        have hbb1 := (hbb0.alloc hszz0 _).trans hbw; clear hbw hgrow hat
        have hszz1 := hbb1.size
        rw [rounds_succ]
        go_wp2_with (at_builtin; refine wpList_appendB rfl _ _ rfl rfl (how2.alloc _) (48 + (n2 : Int)) (by clear ha_8 ha_4 ha_2 ha_1 ha_0; omega) (by clear ha_8 ha_4 ha_2 ha_1 ha_0; omega) ⟨wr2.heap.size, 0, none⟩ 1 rfl (World.news_of_block (cs := #[.int .u8 (48 + (n2 : Int))]) (t := 5) (fr := (0, 0)) (heap_alloc_new wr2 _)) (by clear ha_8 ha_4 ha_2 ha_1 ha_0; first | omega | (simp; omega)) (by clear ha_8 ha_4 ha_2 ha_1 ha_0; simp; omega) ?_; intro g2 cap2 wr3 hown' hgrow hbw hat)
        rw [hexd_biti hb_2] at hown'
        have how3 := hown'; clear hown'
        simp only [List.length_append, List.length_cons, List.length_nil, Nat.zero_add] at how3
        have hbb2 := (hbb1.alloc hszz1 _).trans hbw; clear hbw hgrow hat
        have hszz2 := hbb2.size
        rw [rounds_succ]
        go_wp2_with (at_builtin; refine wpList_appendB rfl _ _ rfl rfl (how3.alloc _) (48 + (n1 : Int)) (by clear ha_8 ha_4 ha_2 ha_1 ha_0; omega) (by clear ha_8 ha_4 ha_2 ha_1 ha_0; omega) ⟨wr3.heap.size, 0, none⟩ 1 rfl (World.news_of_block (cs := #[.int .u8 (48 + (n1 : Int))]) (t := 5) (fr := (0, 0)) (heap_alloc_new wr3 _)) (by clear ha_8 ha_4 ha_2 ha_1 ha_0; first | omega | (simp; omega)) (by clear ha_8 ha_4 ha_2 ha_1 ha_0; simp; omega) ?_; intro g3 cap3 wr4 hown' hgrow hbw hat)
        rw [hexd_biti hb_1] at hown'
        have how4 := hown'; clear hown'
        simp only [List.length_append, List.length_cons, List.length_nil, Nat.zero_add] at how4
        have hbb3 := (hbb2.alloc hszz2 _).trans hbw; clear hbw hgrow hat
        have hszz3 := hbb3.size
        rw [rounds_succ]
        go_wp2
        clear ha_8 ha_4 ha_2 ha_1 ha_0
        go_roundw
        case rel =>
          refine ⟨j + 1, by omega, by rw [show ((5 * (j + 1) : Nat) : Int) = (i : Int) + 5 by have := HI.out; omega], by rw [HS1.out, decide_eq_true (by omega), Bool.and_true], ?_, hbb3⟩
          rw [HB1.out, HNIB.out]
          simpa only [List.append_assoc, List.cons_append, List.nil_append] using how4
        case measure => simp [intOf]; omega
    · have hj2 : j = 2 * M := by omega
      have e1 : ¬ (((5 * j : Nat) : Int) + 5 ≤ s.size) := by omega
      have ew : IntKind.i64.wrap (((5 * j : Nat) : Int) + 5) = ((5 * j : Nat) : Int) + 5 := wrap_small _ (by omega) (by omega)
      obtain ⟨i, hi⟩ : ∃ i, 5 * j = i := ⟨_, rfl⟩
      rw [hi] at e1 ew ⊢
      rw [← hj2] at HBO
      have HJ := Lib.hid hj2
      clear hj2 hi hj hlt hM
      have hcv := conv_own hown0
      have hsz := hb0.size
      go_wp2_with fail
      refine (HBO.out _).mono ?_
      rintro e w3 ⟨rfl, hb3⟩
      go_wp2
      go_ret2
      exact ⟨by rw [← HJ.out]; rfl, hb0.trans (hb3.mono (by omega))⟩
set_option maxHeartbeats 8000000 in
theorem l09Raw_bits (f : Int) (hf : ¬ f = 3) (s : ByteArray) (hc : cellStr s = true) (h16 : s.size % 16 = 0) (w : World) :
    Calls Tryd.prog 67 #[.int .i64 f, .string s] w fun e w' => e = .returned (.tuple #[.string (decT s), .bool true]) ∧ Below w.heap.size w w' := by
  have h8 := cellStr_size hc
  have BO := fun w => specBytesOf_any (oddS s) w
  rw [odd_dig hc h16] at BO
  have hE : ofDigText (some (accO 2 8 (dd s) (s.size / 2))) = .tuple #[.string (decT s), .bool true] := by
    unfold decT decV; rw [if_pos ⟨hc, h16⟩]; rfl
  rw [hE] at BO
  have HBO := Lib.hid BO; clear BO hE
  have hf3 : (f == 3) = false := beq_eq_false_iff_ne.2 hf
  have H2 := Lib.hid (show s.size = 2 * (s.size / 2) by omega)
  clear hf h16 hc
  go_enter Tryd.func67, Tryd.ntmps67
  go_wp2
  go_loopw [6, 11] (fun v i wr => ∃ j : Nat, 2 * j ≤ s.size ∧ i = .int .i64 ((2 * j + 1 : Nat) : Int) ∧ OwnB wr w.heap.size v (oddL s j) ∧ Below w.heap.size w wr) (fun _ i _ => s.size + 1 - (intOf i).toNat)
  case atStart => exact ⟨0, Nat.zero_le _, rfl, OwnB.nil w _ (Nat.le_refl _), (Below.refl _ _).alloc (Nat.le_refl _) _⟩
  case round =>
    obtain ⟨j, hj, rfl, hown0, hb0⟩ := hrel
    have hsz := hb0.size
    by_cases hlt : 2 * j + 1 < s.size
    · have e1 : ((2 * j + 1 : Nat) : Int) < s.size := by omega
      have ew : IntKind.i64.wrap (((2 * j + 1 : Nat) : Int) + 2) = ((2 * j + 1 : Nat) : Int) + 2 := wrap_small _ (by omega) (by omega)
      have HO := Lib.hid (oddL_succ s j hlt)
      have hlen := oddL_len s j
      have hll : (oddL s j).length < 100000 := by omega
      have hx := s[2 * j + 1].toNat_lt
      obtain ⟨i, hi⟩ : ∃ i, 2 * j + 1 = i := ⟨_, rfl⟩
      have hlt2 : i < s.size := by omega
      have HX := Lib.hid (show s[2 * j + 1] = s[i] from getElem_congr_idx hi)
      rw [HX.out] at hx
      have hxi : (s[i].toNat : Int) < 256 := by omega
      rw [hi] at ew e1 ⊢
      obtain ⟨l, hl⟩ : ∃ l, oddL s j = l := ⟨_, rfl⟩
      rw [hl] at hown0 HO hlen hll
      clear hl
      have HI := Lib.hid hi
      have HL := Lib.hid hlen; clear hlen
      go_wp2_with (at_builtin; refine wpList_appendB rfl _ _ rfl rfl (hown0.alloc _) (s[i].toNat : Int) (by omega) (by omega) ⟨wr.heap.size, 0, none⟩ 1 rfl (World.news_of_block (cs := #[.int .u8 (s[i].toNat : Int)]) (t := 5) (fr := (0, 0)) (heap_alloc_new wr _)) (by first | omega | (simp; omega)) (by simp; omega) ?_; intro g0 cap0 wr1 hown' hgrow hbw hat)
      have hbb0 := (hb0.alloc hsz _).trans hbw; clear hbw hgrow hat
      go_roundw
      case rel =>
        refine ⟨j + 1, by have := HI.out; omega, by rw [show ((2 * (j + 1) + 1 : Nat) : Int) = (i : Int) + 2 by have := HI.out; omega], ?_, hbb0⟩
        rw [HO.out, HX.out]
        simpa using hown'
      case measure => simp [intOf]; omega
    · have e1 : ¬ (((2 * j + 1 : Nat) : Int) < s.size) := by omega
      have hj2 : j = s.size / 2 := by have := H2.out; omega
      have hcv := conv_own hown0
      have hS : (⟨(oddL s j).toArray⟩ : ByteArray) = oddS s := by unfold oddS; rw [hj2]
      rw [hS] at hcv
      clear hj2 hS
      go_wp2_with fail
      refine (HBO.out _).mono ?_
      rintro e w3 ⟨rfl, hb3⟩
      go_wp2
      go_ret2
      exact ⟨rfl, hb0.trans (hb3.mono (by omega))⟩
end Go.Proofs.YtffefhgemmjkoaaDoor
