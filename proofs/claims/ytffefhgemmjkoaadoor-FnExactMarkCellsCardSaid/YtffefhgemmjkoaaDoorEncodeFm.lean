/- impl.lazyCells and its closure; impl.encodeClocked over it; impl.EncodeFm, impl.EncodeMfm -/
import Derived.Test.YtffefhgemmjkoaaDoorCellWords
import Derived.Test.YtffefhgemmjkoaaDoorBuilderStr
import Derived.Test.YtffefhgemmjkoaaDoorSpecEncode
import Derived.Test.YtffefhgemmjkoaaDoorLastBit
import Derived.Laws.EntriesVeiled
namespace Go.Proofs.YtffefhgemmjkoaaDoor
open Go.RowKit
set_option maxRecDepth 20000
set_option linter.unusedVariables false
/-- Only blocks from lo on and below hi may differ, and no block has come. -/
structure TouchIn (lo hi : Nat) (w w' : World) : Prop where
  os : w'.os = w.os
  tape : w'.tape = w.tape
  output : w'.output = w.output
  size : w'.heap.size = w.heap.size
  block : ∀ k, (k < lo ∨ hi ≤ k) → w'.heap[k]? = w.heap[k]?
theorem TouchIn.refl (lo hi : Nat) (w : World) : TouchIn lo hi w w := ⟨rfl, rfl, rfl, rfl, fun _ _ => rfl⟩
theorem TouchIn.trans {lo hi : Nat} {a b c : World} (h : TouchIn lo hi a b) (g : TouchIn lo hi b c) : TouchIn lo hi a c :=
  ⟨g.os.trans h.os, g.tape.trans h.tape, g.output.trans h.output, g.size.trans h.size, fun k hk => (g.block k hk).trans (h.block k hk)⟩
theorem TouchIn.setCell {lo hi : Nat} {w w' : World} (h : TouchIn lo hi w w') (b i : Nat) (v : Value) (h1 : lo ≤ b) (h2 : b < hi) : TouchIn lo hi w (w'.setCell ⟨b, i, none⟩ v) :=
  ⟨h.os, h.tape, h.output, by rw [← h.size]; simp [World.setCell], fun k hk => by rw [Below.heap_setCell _ _ _ _ (by simp; omega)]; exact h.block k hk⟩
theorem TouchIn.below {lo hi : Nat} {w w' : World} (h : TouchIn lo hi w w') : Below lo w w' :=
  ⟨h.os, h.tape, h.output, Nat.le_of_eq h.size.symm, fun k hk => h.block k (.inl hk)⟩
theorem zero65 : Tryd.zeroCells124 = Array.replicate 256 (.int .u16 0) := by kernel_rfl
theorem zero66 : Tryd.zeroCells125 = Array.replicate 256 (.bool false) := by kernel_rfl
/-- The closure's three variables: which cells are known, the function, the table. -/
structure LazyInv (K C T : Nat) (F : Nat) (f : Nat → Int) (w : World) : Prop where
  ne : K ≠ T
  fn : w.heap[C]? = some (.cells #[.func (.func F) #[] #[]] 84 (0, 0))
  tab : ∃ A D : Array Value, w.heap[K]? = some (.cells A 125 (0, 0)) ∧ w.heap[T]? = some (.cells D 124 (0, 0)) ∧ A.size = 256 ∧ D.size = 256 ∧
    ∀ i, i < 256 → ∃ b x, A[i]? = some (.bool b) ∧ D[i]? = some (.int .u16 x) ∧ (b = true → x = f i)
theorem LazyInv.same {K C T F : Nat} {f : Nat → Int} {w w' : World} (h : LazyInv K C T F f w) (hi : Nat) (hK : K < hi) (hC : C < hi) (hT : T < hi) (hk : ∀ k, k < hi → w'.heap[k]? = w.heap[k]?) : LazyInv K C T F f w' := by
  obtain ⟨h1, h2, A, D, h3, h4, h5⟩ := h
  exact ⟨h1, by rw [hk C hC]; exact h2, A, D, by rw [hk K hK]; exact h3, by rw [hk T hT]; exact h4, h5⟩
theorem LazyInv.new (w : World) (F : Nat) (f : Nat → Int) :
    LazyInv (w.heap.size + 2) w.heap.size (w.heap.size + 1) F f (((w.alloc (.cells #[.func (.func F) #[] #[]] 84)).alloc (.cells Tryd.zeroCells124 124)).alloc (.cells Tryd.zeroCells125 125)) := by
  refine ⟨by omega, ?_, Tryd.zeroCells125, Tryd.zeroCells124, ?_, ?_, by rw [zero66]; simp, by rw [zero65]; simp, ?_⟩
  · rw [Below.heap_alloc _ _ _ (by simp; omega), Below.heap_alloc _ _ _ (by simp)]; exact heap_alloc_new w _
  · have e := heap_alloc_new ((w.alloc (.cells #[.func (.func F) #[] #[]] 84)).alloc (.cells Tryd.zeroCells124 124)) (.cells Tryd.zeroCells125 125)
    simp only [World.size_alloc] at e
    exact e
  · rw [Below.heap_alloc _ _ _ (by simp)]
    have e := heap_alloc_new (w.alloc (.cells #[.func (.func F) #[] #[]] 84)) (.cells Tryd.zeroCells124 124)
    simp only [World.size_alloc] at e
    exact e
  · intro i hi
    refine ⟨false, 0, ?_, ?_, fun h => by cases h⟩
    · rw [zero66]; simp [hi]
    · rw [zero65]; simp [hi]
set_option maxHeartbeats 2000000 in
theorem lazy_mfmCells (K C T lo hi : Nat) (c : Nat) (hc : c < 256) (hK : lo ≤ K ∧ K < hi) (hT : lo ≤ T ∧ T < hi) (w : World) (h : LazyInv K C T 83 mfmN w) :
    Calls Tryd.prog 122 #[.int .u8 (c : Int), .pointer (some ⟨K, 0, none⟩), .pointer (some ⟨C, 0, none⟩), .pointer (some ⟨T, 0, none⟩)] w fun e w' => e = .returned (.int .u16 (mfmN c)) ∧ LazyInv K C T 83 mfmN w' ∧ TouchIn lo hi w w' := by
  obtain ⟨hne, hfn, A, D, hA, hD, hAs, hDs, hall⟩ := h
  obtain ⟨b, x, hb, hx, hbx⟩ := hall c hc
  have c0 : w.cell? ⟨K, c, none⟩ = some (.bool b) := by simp [World.cell?, hA, hb]
  have c1 : w.cell? ⟨C, 0, none⟩ = some (.func (.func 83) #[] #[]) := by simp [World.cell?, hfn]
  have c2 : w.cell? ⟨T, c, none⟩ = some (.int .u16 x) := by simp [World.cell?, hD, hx]
  have f0 : w.frozen? ⟨K, c, none⟩ = false := by simp [World.frozen?, hA]
  have f1 : w.frozen? ⟨T, c, none⟩ = false := by simp [World.frozen?, hD]
  have hci : (c : Int) < 256 := by omega
  have hne2 : ¬ T = K := fun e => hne e.symm
  have HH := Lib.hid (And.intro hfn (And.intro hA (And.intro hD (And.intro hAs (And.intro hDs hall))))); clear hfn hA hD hAs hDs hall
  cases b with
  | true =>
    obtain rfl := hbx rfl
    have HF := Lib.hid (show LazyInv K C T 83 mfmN w from ⟨hne, HH.out.1, A, D, HH.out.2.1, HH.out.2.2.1, HH.out.2.2.2.1, HH.out.2.2.2.2.1, HH.out.2.2.2.2.2⟩)
    clear hb hx hbx
    go_enter Tryd.func122, Tryd.ntmps122
    go_wp2
    go_ret
    exact ⟨rfl, HF.out, TouchIn.refl _ _ _⟩
  | false =>
    have HB := Lib.hid (And.intro hb hx); clear hb hx hbx
    have hd := fun w => mfmCells_any c hc w
    have HD := Lib.hid hd; clear hd
    go_enter Tryd.func122, Tryd.ntmps122
    go_wp2_with (go_at_call 83; refine (HD.out _).mono ?_; rintro e w1 ⟨rfl, rfl⟩)
    go_ret
    refine ⟨rfl, ?_, ((TouchIn.refl lo hi w).setCell T c _ hT.1 hT.2).setCell K c _ hK.1 hK.2⟩
    obtain ⟨hfn, hA, hD, hAs, hDs, hall⟩ := HH.out
    have hCK : C ≠ K := by intro e; subst e; rw [hfn] at hA; simp at hA
    have hCT : C ≠ T := by intro e; subst e; rw [hfn] at hD; simp at hD
    refine ⟨hne, ?_, A.setIfInBounds c (.bool true), D.setIfInBounds c (.int .u16 (mfmN c)), ?_, ?_, by simpa using hAs, by simpa using hDs, ?_⟩
    · rw [Below.heap_setCell _ _ _ _ (by simpa using hCK), Below.heap_setCell _ _ _ _ (by simpa using hCT)]; exact hfn
    · refine heap_set_marked _ _ _ _ _ _ _ ?_
      rw [Below.heap_setCell _ _ _ _ (by simpa using hne)]; exact hA
    · rw [Below.heap_setCell _ _ _ _ (by simpa using hne2)]
      exact heap_set_marked _ _ _ _ _ _ _ hD
    · intro i hi
      by_cases e : c = i
      · subst e
        exact ⟨true, _, by simp [hAs, hi], by simp [hDs, hi], fun _ => rfl⟩
      · obtain ⟨b, x, h1, h2, h3⟩ := hall i hi
        exact ⟨b, x, by rw [Array.getElem?_setIfInBounds, if_neg e]; exact h1, by rw [Array.getElem?_setIfInBounds, if_neg e]; exact h2, h3⟩
set_option maxHeartbeats 1000000 in
theorem lazyCells_mfmCells (w : World) :
    Calls Tryd.prog 82 #[.func (.func 83) #[] #[]] w fun e w' => e = .returned (.func (.func 122) #[] #[.pointer (some ⟨w.heap.size + 2, 0, none⟩), .pointer (some ⟨w.heap.size, 0, none⟩), .pointer (some ⟨w.heap.size + 1, 0, none⟩)]) ∧
      LazyInv (w.heap.size + 2) w.heap.size (w.heap.size + 1) 83 mfmN w' ∧ w'.heap.size = w.heap.size + 3 ∧ Below w.heap.size w w' := by
  have HN := Lib.hid (LazyInv.new w 83 mfmN)
  go_enter Tryd.func82, Tryd.ntmps82
  go_wp2
  go_ret
  exact ⟨rfl, HN.out, by simp, by go_grown⟩
/-- The texts of n words. -/
def flatC (cN : Nat → Int) : Nat → List UInt8
  | 0 => []
  | n + 1 => flatC cN n ++ cellsT (cN n)
theorem flatC_len (cN : Nat → Int) (n : Nat) : (flatC cN n).length = 16 * n := by
  induction n with
  | zero => rfl
  | succ n ih => unfold flatC; rw [List.length_append, ih, cellsT_len]; omega
theorem encodeClocked_big (s : ByteArray) (v : Value) (h : 500 < s.size) (w : World) :
    Calls Tryd.prog 84 #[.string s, v] w fun e w' => e = .returned (.string ⟨#[]⟩) ∧ w = w' := by
  have h1 : (500 : Int) < s.size := by omega
  clear h
  go_enter Tryd.func84, Tryd.ntmps84
  go_wp2
  go_ret
  exact ⟨rfl, rfl⟩
set_option maxHeartbeats 4000000 in
theorem encodeClocked_lazyCells (s : ByteArray) (h : s.size ≤ 500) (K C T lo hi : Nat) (cN : Nat → Int) (Inv : Nat → World → Prop) (w : World) (hI : Inv 0 w) (hlo : lo ≤ hi) (hhi : hi ≤ w.heap.size)
    (hcall : ∀ i (hi0 : i < s.size) W, Inv i W → Calls Tryd.prog 122 #[.int .u8 (s[i].toNat : Int), .pointer (some ⟨K, 0, none⟩), .pointer (some ⟨C, 0, none⟩), .pointer (some ⟨T, 0, none⟩)] W fun e W' => e = .returned (.int .u16 (cN i)) ∧ Inv (i + 1) W' ∧ TouchIn lo hi W W')
    (hcn : ∀ i, i < s.size → 0 ≤ cN i ∧ cN i ≤ 65535)
    (hkeep : ∀ i W W', Inv i W → (∀ k, k < hi → W'.heap[k]? = W.heap[k]?) → Inv i W') :
    Calls Tryd.prog 84 #[.string s, .func (.func 122) #[] #[.pointer (some ⟨K, 0, none⟩), .pointer (some ⟨C, 0, none⟩), .pointer (some ⟨T, 0, none⟩)]] w fun e w' => e = .returned (.string ⟨(flatC cN s.size).toArray⟩) ∧ Below lo w w' := by
  have h4 : ¬ 500 < s.size := by omega
  have HCALL := Lib.hid hcall; have HCN := Lib.hid hcn; have HKEEP := Lib.hid hkeep; have HI0 := Lib.hid hI; clear hcall hcn hkeep hI
  go_enter Tryd.func84, Tryd.ntmps84
  go_wp2
  go_loopw [6, 12] (fun _ i wr => ∃ k : Nat, k ≤ s.size ∧ i = .int .i64 k ∧ (∃ l : List UInt8, Hid (l = flatC cN k) ∧ l.length = 16 * k ∧ Bld w.heap.size w.heap.size l wr) ∧ Hid (Inv k wr) ∧ w.heap.size ≤ wr.heap.size ∧ Below lo w wr) (fun _ i _ => s.size - (intOf i).toNat)
  case atStart => exact ⟨0, Nat.zero_le _, rfl, ⟨[], by unfold Hid; rfl, rfl, Bld.fresh w⟩, HKEEP.out 0 _ _ HI0.out (fun k hk => Below.heap_alloc _ _ _ (by omega)), by simp, (Below.refl _ _).alloc (by omega) _⟩
  case round =>
    obtain ⟨k, hk, rfl, ⟨l, hL, hl, hB⟩, hIk, hsz, hbr⟩ := hrel
    have hl5 : l.length < 100000 := by omega
    have HL := Lib.hid hl; clear hl
    by_cases hlt : k < s.size
    · have e1 : (k : Int) < s.size := by omega
      have HC := Lib.hid (HCALL.out k hlt)
      have hcn := HCN.out k hlt
      have HT := Lib.hid (fun W => cellText_any (cN k) hcn.1 hcn.2 W); clear hcn
      have HFL := Lib.hid (show flatC cN (k + 1) = flatC cN k ++ cellsT (cN k) from rfl)
      have hctl := cellsT_len (cN k)
      generalize cN k = n at *
      generalize cellsT n = ct at *
      have hcts : (⟨ct.toArray⟩ : ByteArray).size = 16 := by show ct.toArray.size = 16; rw [List.size_toArray]; exact hctl
      have hctd : l.length + (⟨ct.toArray⟩ : ByteArray).size < 2147483648 := by omega
      have HCT := Lib.hid (And.intro hcts hctl); clear hcts hctl
      go_wp2_with (first
        | (go_at_call 122; refine (HC.out wr hIk.out).mono ?_; rintro e w1 ⟨rfl, hI1, ht1⟩; have hB1 := hB.same (fun k hk _ => ht1.block k (.inr (by omega))); have hs1 := ht1.size)
        | (go_at_call 76; refine (HT.out w1).mono ?_; rintro e w2 ⟨rfl, hb2⟩; have hB2 := hB1.same (fun k _ hk => hb2.block k hk); have hs2 := hb2.size)
        | (go_at_call 54; refine (writeString_any w.heap.size w.heap.size l ⟨ct.toArray⟩ w2 hB2 hctd (by omega)).mono ?_; rintro e w3 ⟨rfl, hB3, hb3⟩))
      have hs3 := hb3.size
      go_roundw
      case rel =>
        refine ⟨k + 1, by omega, by go_num, ⟨l ++ ct, by unfold Hid; rw [HFL.out, hL.out], by rw [List.length_append, HL.out, HCT.out.2]; omega, hB3⟩, ?_, by omega, ?_⟩
        · exact HKEEP.out _ _ _ hI1 (fun k hk => by rw [hb3.block k (by omega), hb2.block k (by omega)])
        · exact ((hbr.trans ht1.below).trans (hb2.mono (by omega))).trans (hb3.mono (by omega))
      case measure => simp [intOf]; omega
    · obtain rfl : k = s.size := by omega
      go_wp2_with (go_at_call 56; refine (Tryd.Builder_String_any w.heap.size w.heap.size l _ hB hsz).mono ?_; rintro e w1 ⟨rfl, hb1⟩)
      go_ret
      exact ⟨by rw [hL.out]; rfl, hbr.trans (hb1.mono (by omega))⟩
set_option maxHeartbeats 4000000 in
theorem encodeClocked_EncodeMfm (s : ByteArray) (h : s.size ≤ 500) (K C lo hi : Nat) (cN : Nat → Int) (Inv : Nat → World → Prop) (w : World) (hI : Inv 0 w) (hlo : lo ≤ hi) (hhi : hi ≤ w.heap.size)
    (hcall : ∀ i (hi0 : i < s.size) W, Inv i W → Calls Tryd.prog 85 #[.int .u8 (s[i].toNat : Int), .pointer (some ⟨K, 0, none⟩), .pointer (some ⟨C, 0, none⟩)] W fun e W' => e = .returned (.int .u16 (cN i)) ∧ Inv (i + 1) W' ∧ TouchIn lo hi W W')
    (hcn : ∀ i, i < s.size → 0 ≤ cN i ∧ cN i ≤ 65535)
    (hkeep : ∀ i W W', Inv i W → (∀ k, k < hi → W'.heap[k]? = W.heap[k]?) → Inv i W') :
    Calls Tryd.prog 84 #[.string s, .func (.func 85) #[] #[.pointer (some ⟨K, 0, none⟩), .pointer (some ⟨C, 0, none⟩)]] w fun e w' => e = .returned (.string ⟨(flatC cN s.size).toArray⟩) ∧ Below lo w w' := by
  have h4 : ¬ 500 < s.size := by omega
  have HCALL := Lib.hid hcall; have HCN := Lib.hid hcn; have HKEEP := Lib.hid hkeep; have HI0 := Lib.hid hI; clear hcall hcn hkeep hI
  go_enter Tryd.func84, Tryd.ntmps84
  go_wp2
  go_loopw [6, 12] (fun _ i wr => ∃ k : Nat, k ≤ s.size ∧ i = .int .i64 k ∧ (∃ l : List UInt8, Hid (l = flatC cN k) ∧ l.length = 16 * k ∧ Bld w.heap.size w.heap.size l wr) ∧ Hid (Inv k wr) ∧ w.heap.size ≤ wr.heap.size ∧ Below lo w wr) (fun _ i _ => s.size - (intOf i).toNat)
  case atStart => exact ⟨0, Nat.zero_le _, rfl, ⟨[], by unfold Hid; rfl, rfl, Bld.fresh w⟩, HKEEP.out 0 _ _ HI0.out (fun k hk => Below.heap_alloc _ _ _ (by omega)), by simp, (Below.refl _ _).alloc (by omega) _⟩
  case round =>
    obtain ⟨k, hk, rfl, ⟨l, hL, hl, hB⟩, hIk, hsz, hbr⟩ := hrel
    have hl5 : l.length < 100000 := by omega
    have HL := Lib.hid hl; clear hl
    by_cases hlt : k < s.size
    · have e1 : (k : Int) < s.size := by omega
      have HC := Lib.hid (HCALL.out k hlt)
      have hcn := HCN.out k hlt
      have HT := Lib.hid (fun W => cellText_any (cN k) hcn.1 hcn.2 W); clear hcn
      have HFL := Lib.hid (show flatC cN (k + 1) = flatC cN k ++ cellsT (cN k) from rfl)
      have hctl := cellsT_len (cN k)
      generalize cN k = n at *
      generalize cellsT n = ct at *
      have hcts : (⟨ct.toArray⟩ : ByteArray).size = 16 := by show ct.toArray.size = 16; rw [List.size_toArray]; exact hctl
      have hctd : l.length + (⟨ct.toArray⟩ : ByteArray).size < 2147483648 := by omega
      have HCT := Lib.hid (And.intro hcts hctl); clear hcts hctl
      go_wp2_with (first
        | (go_at_call 85; refine (HC.out wr hIk.out).mono ?_; rintro e w1 ⟨rfl, hI1, ht1⟩; have hB1 := hB.same (fun k hk _ => ht1.block k (.inr (by omega))); have hs1 := ht1.size)
        | (go_at_call 76; refine (HT.out w1).mono ?_; rintro e w2 ⟨rfl, hb2⟩; have hB2 := hB1.same (fun k _ hk => hb2.block k hk); have hs2 := hb2.size)
        | (go_at_call 54; refine (writeString_any w.heap.size w.heap.size l ⟨ct.toArray⟩ w2 hB2 hctd (by omega)).mono ?_; rintro e w3 ⟨rfl, hB3, hb3⟩))
      have hs3 := hb3.size
      go_roundw
      case rel =>
        refine ⟨k + 1, by omega, by go_num, ⟨l ++ ct, by unfold Hid; rw [HFL.out, hL.out], by rw [List.length_append, HL.out, HCT.out.2]; omega, hB3⟩, ?_, by omega, ?_⟩
        · exact HKEEP.out _ _ _ hI1 (fun k hk => by rw [hb3.block k (by omega), hb2.block k (by omega)])
        · exact ((hbr.trans ht1.below).trans (hb2.mono (by omega))).trans (hb3.mono (by omega))
      case measure => simp [intOf]; omega
    · obtain rfl : k = s.size := by omega
      go_wp2_with (go_at_call 56; refine (Tryd.Builder_String_any w.heap.size w.heap.size l _ hB hsz).mono ?_; rintro e w1 ⟨rfl, hb1⟩)
      go_ret
      exact ⟨by rw [hL.out]; rfl, hbr.trans (hb1.mono (by omega))⟩
/-- FM. -/
theorem fm_bits : ∀ c, c < 256 → ∀ last, encBits false last (bitsL c) = cellsT (fmN c) := by decide +kernel
theorem mfm_bits : ∀ c, c < 256 → encBits true false (bitsL c) = cellsT (mfmN c) ∧ encBits true true (bitsL c) = cellsT (mfmN1 c) := by decide +kernel
def fmAt (s : ByteArray) (i : Nat) : Int := fmN (s[i]?.getD 0).toNat
def mfmAt (s : ByteArray) (last : Bool) (i : Nat) : Int := if lastS s last (8 * i) then mfmN1 (s[i]?.getD 0).toNat else mfmN (s[i]?.getD 0).toNat
theorem byteAt (s : ByteArray) (i : Nat) (h : i < s.size) : (s[i]?.getD 0) = s[i] := by rw [getElem?_pos s i h]; rfl
theorem fm_flat (s : ByteArray) (last : Bool) (n : Nat) (h : n ≤ s.size) : flatC (fmAt s) n = encS s last false (8 * n) := by
  induction n with
  | zero => rfl
  | succ n ih =>
    rw [(encS_byte s last false n (by omega)).1, ← ih (by omega)]
    show flatC (fmAt s) n ++ cellsT (fmAt s n) = _
    unfold fmAt
    rw [byteAt s n (by omega), fm_bits _ s[n].toNat_lt]
theorem mfm_flat (s : ByteArray) (last : Bool) (n : Nat) (h : n ≤ s.size) : flatC (mfmAt s last) n = encS s last true (8 * n) := by
  induction n with
  | zero => rfl
  | succ n ih =>
    rw [(encS_byte s last true n (by omega)).1, ← ih (by omega)]
    show flatC (mfmAt s last) n ++ cellsT (mfmAt s last n) = _
    have e : mfmAt s last n = if lastS s last (8 * n) then mfmN1 s[n].toNat else mfmN s[n].toNat := by unfold mfmAt; rw [byteAt s n (by omega)]
    rw [e]
    have := mfm_bits _ s[n].toNat_lt
    cases lastS s last (8 * n)
    · rw [this.1]; rfl
    · rw [this.2]; rfl
/-- The closure's variables: the lazy table, the function, the last bit. -/
def MInv (s : ByteArray) (last : Bool) (z : Nat) (i : Nat) (w : World) : Prop :=
  LazyInv (z + 3) (z + 1) (z + 2) 83 mfmN w ∧
  w.heap[z + 4]? = some (.cells #[.func (.func 122) #[] #[.pointer (some ⟨z + 3, 0, none⟩), .pointer (some ⟨z + 1, 0, none⟩), .pointer (some ⟨z + 2, 0, none⟩)]] 84 (0, 0)) ∧
  w.heap[z]? = some (.cells #[.bool (lastS s last (8 * i))] 4 (0, 0))
theorem MInv.same {s : ByteArray} {last : Bool} {z i : Nat} {w w' : World} (h : MInv s last z i w) (hk : ∀ k, k < z + 5 → w'.heap[k]? = w.heap[k]?) : MInv s last z i w' :=
  ⟨h.1.same (z + 5) (by omega) (by omega) (by omega) hk, by rw [hk _ (by omega)]; exact h.2.1, by rw [hk _ (by omega)]; exact h.2.2⟩
set_option maxHeartbeats 2000000 in
theorem mfm_closure (s : ByteArray) (last : Bool) (z i : Nat) (hi : i < s.size) (w : World) (h : MInv s last z i w) :
    Calls Tryd.prog 85 #[.int .u8 (s[i].toNat : Int), .pointer (some ⟨z + 4, 0, none⟩), .pointer (some ⟨z, 0, none⟩)] w fun e w' => e = .returned (.int .u16 (mfmAt s last i)) ∧ MInv s last z (i + 1) w' ∧ TouchIn z (z + 5) w w' := by
  have e : mfmAt s last i = if lastS s last (8 * i) then mfmN1 s[i].toNat else mfmN s[i].toNat := by unfold mfmAt; rw [byteAt s i hi]
  have hls := (encS_byte s last true i hi).2
  have hb0 := bit0 s[i].toNat s[i].toNat_lt
  obtain ⟨h1, h2, h3⟩ := h
  rw [e]
  have c0 : w.cell? ⟨z + 4, 0, none⟩ = some (.func (.func 122) #[] #[.pointer (some ⟨z + 3, 0, none⟩), .pointer (some ⟨z + 1, 0, none⟩), .pointer (some ⟨z + 2, 0, none⟩)]) := by simp [World.cell?, h2]
  obtain ⟨c, hc⟩ : ∃ c, s[i].toNat = c := ⟨_, rfl⟩
  have h256 : c < 256 := by rw [← hc]; exact s[i].toNat_lt
  rw [hc] at hls hb0 ⊢
  obtain ⟨la, hla⟩ : ∃ la, lastS s last (8 * i) = la := ⟨_, rfl⟩
  rw [hla] at h3 ⊢
  have HL := Lib.hid (lazy_mfmCells (z + 3) (z + 1) (z + 2) (z + 1) (z + 4) c h256 (by omega) (by omega) w h1)
  have HH := Lib.hid (And.intro hls (And.intro hb0 (And.intro h2 h3))); clear hls hb0 h1 h2 h3 hc hla e
  have HM1 := Lib.hid (show mfmN1 c = bits .andNot .u16 (mfmN c) 32768 from rfl)
  have HWALK : ∀ w1, LazyInv (z + 3) (z + 1) (z + 2) 83 mfmN w1 → TouchIn (z + 1) (z + 4) w w1 → w1.heap[z]? = some (.cells #[.bool la] 4 (0, 0)) → MInv s last z (i + 1) (w1.setCell ⟨z, 0, none⟩ (.bool (bits .and .u8 (c : Int) 1 == 1))) ∧ TouchIn z (z + 5) w (w1.setCell ⟨z, 0, none⟩ (.bool (bits .and .u8 (c : Int) 1 == 1))) := by
    intro w1 hL hT hz
    have hT5 : TouchIn z (z + 5) w w1 := ⟨hT.os, hT.tape, hT.output, hT.size, fun k hk => hT.block k (by omega)⟩
    refine ⟨⟨?_, ?_, ?_⟩, hT5.setCell z 0 _ (Nat.le_refl _) (by omega)⟩
    · obtain ⟨g1, g2, A, D, g3, g4, g5⟩ := hL
      exact ⟨g1, by rw [Below.heap_setCell _ _ _ _ (by simp)]; exact g2, A, D, by rw [Below.heap_setCell _ _ _ _ (by simp)]; exact g3, by rw [Below.heap_setCell _ _ _ _ (by simp)]; exact g4, g5⟩
    · rw [Below.heap_setCell _ _ _ _ (by simp), hT.block (z + 4) (by omega)]; exact HH.out.2.2.1
    · rw [heap_set_marked _ _ _ _ _ _ _ hz, HH.out.1, HH.out.2.1]; rfl
  have HW := Lib.hid HWALK; clear HWALK
  cases la
  all_goals
    go_enter Tryd.func85, Tryd.ntmps85
    go_wp2_with (go_at_call 122; refine HL.out.mono ?_; rintro e w1 ⟨rfl, hL1, hT1⟩; have hz1 := (hT1.block z (.inl (by omega))).trans HH.out.2.2.2; have c1 : w1.cell? ⟨z, 0, none⟩ = some _ := by { simp only [World.cell?, hz1]; rfl }; have f1 : w1.frozen? ⟨z, 0, none⟩ = false := by { simp [World.frozen?, hz1] }; have HZ := Lib.hid (And.intro hz1 (And.intro hL1 hT1)); clear hz1 hL1 hT1)
    go_ret
    have := HW.out w1 HZ.out.2.1 HZ.out.2.2 HZ.out.1
    exact ⟨rfl, this.1, this.2⟩
set_option maxHeartbeats 2000000 in
theorem encodeMfm_any (s : ByteArray) (last : Bool) (h : s.size ≤ 1048576) (w : World) :
    Calls Tryd.prog 37 #[.string s, .bool last] w fun e w' => e = .returned (.string (encV s last true)) ∧ Below w.heap.size w w' := by
  have hl := lazyCells_mfmCells (w.alloc (.cells #[.bool last] 4))
  simp only [World.size_alloc] at hl
  have HL := Lib.hid hl; clear hl
  have HZ := Lib.hid (heap_alloc_new w (.cells #[.bool last] 4))
  by_cases h5 : s.size ≤ 500
  · have hE : encV s last true = ⟨(flatC (mfmAt s last) s.size).toArray⟩ := by unfold encV; rw [if_pos h5, mfm_flat s last _ (Nat.le_refl _)]
    rw [hE]
    have HC := Lib.hid (fun w1 A (hA : A = w.heap.size + 4) (hI : MInv s last w.heap.size 0 w1) (hs : w1.heap.size = w.heap.size + 5) =>
      (show Calls Tryd.prog 84 #[.string s, .func (.func 85) #[] #[.pointer (some ⟨A, 0, none⟩), .pointer (some ⟨w.heap.size, 0, none⟩)]] w1 (fun e w' => e = .returned (.string ⟨(flatC (mfmAt s last) s.size).toArray⟩) ∧ Below w.heap.size w1 w') from by
      subst hA
      exact encodeClocked_EncodeMfm s h5 (w.heap.size + 4) w.heap.size w.heap.size (w.heap.size + 5) (mfmAt s last) (MInv s last w.heap.size) w1 hI (by omega) (by omega)
        (fun i hi W hW => mfm_closure s last w.heap.size i hi W hW)
        (fun i hi => by
          unfold mfmAt
          split
          · exact mfmN1_bd _ (UInt8.toNat_lt _)
          · exact mfmN_bd _ (UInt8.toNat_lt _))
        (fun i W W' hW hk => hW.same hk)))
    clear hE
    go_enter Tryd.func37, Tryd.ntmps37
    go_wp2_with (go_at_call 82; refine HL.out.mono ?_; rintro e w1 ⟨rfl, hI, hs, hb1⟩; have HI := Lib.hid (And.intro hI (And.intro hs hb1)); clear hI hs hb1)
    have hsz := HI.out.2.1
    have hM : MInv s last w.heap.size 0 (w1.alloc (.cells #[.func (.func 122) #[] #[.pointer (some ⟨w.heap.size + 1 + 2, 0, none⟩), .pointer (some ⟨w.heap.size + 1, 0, none⟩), .pointer (some ⟨w.heap.size + 1 + 1, 0, none⟩)]] 84)) := by
      refine ⟨HI.out.1.same (w.heap.size + 4) (by omega) (by omega) (by omega) (fun k hk => Below.heap_alloc _ _ _ (by omega)), ?_, ?_⟩
      · have := heap_alloc_new w1 (.cells #[.func (.func 122) #[] #[.pointer (some ⟨w.heap.size + 1 + 2, 0, none⟩), .pointer (some ⟨w.heap.size + 1, 0, none⟩), .pointer (some ⟨w.heap.size + 1 + 1, 0, none⟩)]] 84)
        rw [hsz] at this
        exact this
      · rw [Below.heap_alloc _ _ _ (by omega), HI.out.2.2.block _ (by omega)]; exact HZ.out
    refine (HC.out _ w1.heap.size (by omega) hM (by simp; omega)).mono ?_
    rintro e w2 ⟨rfl, hb2⟩
    have hb0 : Below w.heap.size w w1 := Below.trans (show Below w.heap.size w _ from (Below.refl _ _).alloc (Nat.le_refl _) _) (HI.out.2.2.mono (by omega))
    have hbb := (hb0.alloc (by omega) (.cells #[.func (.func 122) #[] #[.pointer (some ⟨w.heap.size + 1 + 2, 0, none⟩), .pointer (some ⟨w.heap.size + 1, 0, none⟩), .pointer (some ⟨w.heap.size + 1 + 1, 0, none⟩)]] 84)).trans hb2
    clear hsz hM hb0 hb2
    go_wp2
    go_ret
    exact ⟨rfl, hbb⟩
  · have hE : encV s last true = ⟨#[]⟩ := by unfold encV; rw [if_neg h5]
    rw [hE]
    have HB := Lib.hid (fun v w => encodeClocked_big s v (by omega) w)
    clear hE h5
    go_enter Tryd.func37, Tryd.ntmps37
    go_wp2_with (first
      | (go_at_call 82; refine HL.out.mono ?_; rintro e w1 ⟨rfl, hI, hs, hb1⟩; have HI := Lib.hid (And.intro hs (And.intro hI hb1)); clear hI hs hb1)
      | (go_at_call 84; refine (HB.out _ _).mono ?_; rintro e w2 ⟨rfl, rfl⟩))
    go_ret
    have h1 := HI.out.1
    have hb1 := HI.out.2.2
    have hb2 : Below w.heap.size w w1 := Below.trans (show Below w.heap.size w _ from (Below.refl _ _).alloc (Nat.le_refl _) _) (hb1.mono (by omega))
    exact ⟨rfl, hb2.alloc (by omega) _⟩
end Go.Proofs.YtffefhgemmjkoaaDoor
