/- Disks: slices.Index, slices.Contains (int64), impl.isBlockSize, impl.isDisk, impl.padded, impl.blocksFor -/
import Derived.Test.YthcbekfgkbhpeaaDoorPkFormatChainsC
import Derived.Test.YthcbekfgkbhpeaaDoorPkFormatChainsD
import Derived.Test.YthcbekfgkbhpeaaDoorShelf
import Derived.BigRegion
import Derived.Test.YthcbekfgkbhpeaaDoorPkFormatChainsB
import Derived.IntWalk
import Derived.Lib.AppendStr
section
set_option linter.unusedVariables false
namespace Go.Proofs.YthcbekfgkbhpeaaDoor
open Go.RowKit
set_option maxRecDepth 20000
set_option linter.unusedVariables false
set_option linter.unusedSimpArgs false
set_option maxRecDepth 20000
set_option maxHeartbeats 400000 in
theorem indexI_any (a : Option Addr) (zs : List Int) (d : Nat) (t : Int) (w : World) (hl : zs.length ≤ 1048576) (h : SlA w a zs) :
    Calls Tryd.prog 84 #[.slice a zs.length d, .int .i64 t] w fun e w' => (∃ r : Int, e = .returned (.int .i64 r) ∧ decide (0 ≤ r) = hasB zs t) ∧ w = w' := by
  have H := Lib.hid h; clear h
  go_enter Tryd.func84, Tryd.ntmps84
  go_wp2
  go_loop [8] (fun i => ∃ k : Nat, k ≤ zs.length ∧ i = .int .i64 k ∧ Hid ((zs.take k).contains t = false)) (fun i => zs.length - (intOf i).toNat)
  case atStart => exact ⟨0, Nat.zero_le _, rfl, Lib.hid (by simp)⟩
  case round =>
    obtain ⟨k, hk, rfl, hn⟩ := hrel
    by_cases hlt : k < zs.length
    · obtain ⟨x, hx⟩ := getOf hlt
      obtain ⟨b, off, rfl, hcx⟩ := H.out.cell hx
      have HX := Lib.hid hx; clear hx
      by_cases hxt : x = t
      · subst hxt
        have HE := Lib.hid (hasB_yes HX.out)
        go_wp2
        go_ret
        exact ⟨⟨(k : Int), rfl, by rw [HE.out]; simp⟩, rfl⟩
      · have he : (x == t) = false := by simpa using hxt
        have he2 : (t == x) = false := by simpa using fun h => hxt h.symm
        clear hxt
        go_wp2
        go_round
        case rel => exact ⟨k + 1, by omega, by go_num, Lib.hid (by rw [List.take_add_one, HX.out]; have := hn.out; simp at this he ⊢; exact ⟨this, fun h => he h.symm⟩)⟩
        case measure => simp [intOf]; omega
    · obtain rfl : k = zs.length := by omega
      clear H
      go_wp2
      go_ret
      exact ⟨⟨-1, rfl, by rw [hasB_no hn.out]; rfl⟩, rfl⟩
set_option maxHeartbeats 400000 in
theorem containsI_any (a : Option Addr) (zs : List Int) (d : Nat) (t : Int) (w : World) (hl : zs.length ≤ 1048576) (h : SlA w a zs) :
    Calls Tryd.prog 66 #[.slice a zs.length d, .int .i64 t] w fun e w' => e = .returned (.bool (hasB zs t)) ∧ w = w' := by
  have IX := Lib.hid (indexI_any a zs d t w hl h); clear h
  go_enter Tryd.func66, Tryd.ntmps66
  go_wp2_with fail
  refine IX.out.mono ?_
  rintro e w1 ⟨⟨r, rfl, hr⟩, rfl⟩
  have HR := Lib.hid hr; clear hr
  go_wp2
  go_ret
  exact ⟨ret_bool HR.out, rfl⟩
set_option maxHeartbeats 1000000 in
theorem isBlockSize_any (n : Int) (w : World) :
    Calls Tryd.prog 38 #[.int .i64 n] w fun e w' => e = .returned (.bool (sizeI n)) ∧ Below w.heap.size w w' := by
  have CT := Lib.hid (fun (W : World) (h : W = w.alloc (.cells #[.int .i64 8, .int .i64 16, .int .i64 32] 2)) => containsI_any (some ⟨w.heap.size, 0, none⟩) [8, 16, 32] 3 n W (by decide) (.inr ⟨_, 0, rfl, by subst h; simp, by
    intro i x hx
    subst h
    match i, hx with
    | 0, hx => simp at hx; subst hx; simp [go_sem]
    | 1, hx => simp at hx; subst hx; simp [go_sem]
    | 2, hx => simp at hx; subst hx; simp [go_sem]⟩))
  have HS := Lib.hid (show hasB [8, 16, 32] n = sizeI n by unfold hasB sizeI; simp)
  go_enter Tryd.func38, Tryd.ntmps38
  go_wp2_with fail
  refine (CT.out _ rfl).mono ?_
  rintro e w1 ⟨rfl, rfl⟩
  go_wp2
  go_ret
  exact ⟨ret_bool HS.out, (Below.refl _ _).alloc (Nat.le_refl _) _⟩
set_option maxHeartbeats 2000000 in
theorem isDisk_any (a : Option Addr) (es : List StringV) (c : Nat) (w : World) (hm : es.length ≤ 1048576) (hs : ∀ e ∈ es, e.f0.size ≤ maxLen) (h : SlS rowString w a es) :
    Calls Tryd.prog 31 #[.slice a es.length c, .int .i64 8] w fun x w' => x = .returned (.bool (diskB es)) ∧ Below w.heap.size w w' := by
  have EO := Lib.hid (fun w' (hb : Below w.heap.size w w') => isOneLength_any a es c w' hm hs (h.below hb (Nat.le_refl _)))
  have WI := Lib.hid (fun w T b hb => within_r 8 128 (es.length : Int) w T b hb)
  have BS := Lib.hid (fun n w => isBlockSize_any n w)
  by_cases h1 : inB 8 128 (es.length : Int) = true
  case neg =>
    have h1 : inB 8 128 (es.length : Int) = false := by simpa using h1
    rw [h1] at WI
    have HR := Lib.hid (show diskB es = false by unfold diskB; rw [h1]; rfl)
    clear h1 h hs
    go_enter Tryd.func31, Tryd.ntmps31
    go_wp2_with fail
    refine (WI.out _ _ _ (by simp)).mono ?_
    rintro e w1 ⟨rfl, hb1⟩
    go_wp2
    go_ret
    exact ⟨ret_bool HR.out.symm, hb1⟩
  rw [h1] at WI
  have hn := inB_iff.1 h1
  by_cases h2 : allLen (len0 es) es = true
  case neg =>
    have h2 : allLen (len0 es) es = false := by simpa using h2
    rw [h2] at EO
    have HR := Lib.hid (show diskB es = false by unfold diskB; rw [h2]; simp)
    clear h1 h2 h hs hn
    go_enter Tryd.func31, Tryd.ntmps31
    go_wp2_with fail
    refine (WI.out _ _ _ (by simp)).mono ?_
    rintro e w1 ⟨rfl, hb1⟩
    go_wp2_with fail
    refine (EO.out _ hb1).mono ?_
    rintro e w2 ⟨rfl, hb2⟩
    go_wp2
    go_ret
    exact ⟨ret_bool HR.out.symm, hb1.trans (hb2.mono hb1.size)⟩
  rw [h2] at EO
  obtain ⟨e0, hx0⟩ : ∃ e, es[0]? = some e := ⟨es[0], by simp⟩
  have hl0 : len0 es = e0.f0.size := by unfold len0; rw [hx0]; rfl
  have HR := Lib.hid (show sizeI (e0.f0.size : Int) = diskB es by unfold diskB; rw [h1, h2, hl0, sizeI_nat]; rfl)
  obtain ⟨b, off, rfl, hbl, hc⟩ := h.at rowString_len hx0
  have C0 := Lib.hid (fun w' (hb : Below w.heap.size w w') => show w'.cell? ⟨b, off, none⟩ = some (.string e0.f0) by rw [hb.cell (p := ⟨b, off, none⟩) hbl]; simpa using hc 0 _ rfl)
  have hs0 := hs e0 (List.mem_of_getElem? hx0)
  unfold maxLen at hs0
  have hpos : 0 < es.length := by omega
  clear h1 h2 h hs hn hl0 hx0 hc
  go_enter Tryd.func31, Tryd.ntmps31
  go_wp2_with fail
  refine (WI.out _ _ _ (by simp)).mono ?_
  rintro e w1 ⟨rfl, hb1⟩
  go_wp2_with fail
  refine (EO.out _ hb1).mono ?_
  rintro e w2 ⟨rfl, hb2⟩
  have hb := hb1.trans (hb2.mono hb1.size)
  have c0 := C0.out _ hb
  clear hb1 hb2
  go_wp2_with fail
  refine (BS.out _ _).mono ?_
  rintro e w3 ⟨rfl, hb3⟩
  clear c0
  go_wp2
  go_ret
  exact ⟨ret_bool HR.out, hb.trans (hb3.mono hb.size)⟩
theorem repeatL_one (c : UInt8) : ∀ n, Lib.repeatL [c] n = List.replicate n c
  | 0 => rfl
  | n + 1 => by rw [Lib.repeatL, repeatL_one c n, List.replicate_succ]; rfl
theorem repeatC_any (c : UInt8) (n : Nat) (hn : n ≤ 1000000) (w : World) : Calls Tryd.prog 69 #[.string ⟨#[c]⟩, .int .i64 (n : Int)] w fun e w' => e = .returned (.string ⟨(List.replicate n c).toArray⟩) ∧ Below w.heap.size w w' := by
  have h := Tryd.strings_Repeat ⟨#[c]⟩ n w (by omega) (by show 1 * n ≤ _; omega)
  rw [show (⟨#[c]⟩ : ByteArray).data.toList = [c] from rfl, repeatL_one] at h
  exact h
set_option maxHeartbeats 1000000 in
theorem padded_any (s : ByteArray) (n : Nat) (c : UInt8) (w : World) (h1 : s.size ≤ n) (h2 : n ≤ 1000000) :
    Calls Tryd.prog 42 #[.string s, .int .i64 (n : Int), .string ⟨#[c]⟩] w fun e w' => e = .returned (.string (padB s n c)) ∧ Below w.heap.size w w' := by
  have RP := Lib.hid (fun w => repeatC_any c (n - s.size) (by omega) w)
  have e1 : (n : Int) - (s.size : Int) = ((n - s.size : Nat) : Int) := by omega
  have e2 : (⟨(List.replicate (n - s.size) c).toArray⟩ : ByteArray).size = n - s.size := by show (List.replicate (n - s.size) c).toArray.size = _; simp
  have hlen : (9223372036854775807 < s.size + (⟨(List.replicate (n - s.size) c).toArray⟩ : ByteArray).size) = False := by rw [e2]; simp; omega
  unfold padB
  generalize n - s.size = k at *
  generalize (⟨(List.replicate k c).toArray⟩ : ByteArray) = z at *
  clear e2
  have hk : (k : Int) ≤ 1000000 := by omega
  go_enter Tryd.func42, Tryd.ntmps42
  go_wp2_with fail
  refine (RP.out _).mono ?_
  rintro e w1 ⟨rfl, hb1⟩
  go_wp2
  go_ret
  exact ⟨rfl, hb1⟩
end Go.Proofs.YthcbekfgkbhpeaaDoor
end
section
set_option linter.unusedVariables false
namespace Go.Proofs.YthcbekfgkbhpeaaDoor
open Go.RowKit
set_option maxRecDepth 20000
def RowB (C : Array Value) (l : List UInt8) (cap : Nat) : Prop := C.size = cap ∧ l.length ≤ cap ∧ ∀ j (h : j < l.length), C[j]? = some (.int .u8 (l[j].toNat : Int))
theorem RowB.ofBytes (s : ByteArray) (cap : Nat) (h : s.size ≤ cap) : RowB (bytesRow s cap) s.data.toList cap := by
  have hl : s.data.toList.length = s.size := by simp
  refine ⟨?_, by omega, ?_⟩
  · have : s.data.size = s.size := rfl
    simp [bytesRow]; omega
  · intro j hj
    have := bytesRow_at s cap j (by omega)
    rw [this]
    simp
theorem RowB.set {C : Array Value} {l : List UInt8} {cap : Nat} (h : RowB C l cap) (k : Nat) (x : UInt8) (hk : k < l.length) : RowB (C.setIfInBounds k (.int .u8 (x.toNat : Int))) (l.set k x) cap := by
  obtain ⟨h1, h2, h3⟩ := h
  refine ⟨by simpa using h1, by simpa using h2, ?_⟩
  intro j hj
  rw [List.length_set] at hj
  rw [Array.getElem?_setIfInBounds, List.getElem_set]
  by_cases e : k = j
  · subst e
    rw [if_pos rfl, if_pos (by omega), if_pos rfl]
  · rw [if_neg e, if_neg e]
    exact h3 j hj
theorem RowB.cell {C : Array Value} {l : List UInt8} {cap : Nat} (h : RowB C l cap) {w : World} {b : Nat} {fr : Nat × Nat} {T : TypeId} (hC : w.heap[b]? = some (.cells C T fr)) (k : Nat) (hk : k < l.length) : w.cell? ⟨b, k, none⟩ = some (.int .u8 (l[k].toNat : Int)) := by
  simp [World.cell?, hC, h.2.2 k hk]
theorem RowB.conv {C : Array Value} {l : List UInt8} {cap : Nat} (h : RowB C l cap) {w : World} {b : Nat} {fr : Nat × Nat} {T : TypeId} (hC : w.heap[b]? = some (.cells C T fr)) (n c : Nat) (hn : l.length = n) :
    (convert 49 9 (.slice (some ⟨b, 0, none⟩) n c)).run Tryd.prog w = .ok (.string ⟨l.toArray⟩) w := by
  subst hn
  refine conv_of _ _ _ _ ?_
  intro j hj
  rw [add0]
  exact h.cell hC j hj
theorem conv_new1 (W : World) (x : Int) (h1 : 0 ≤ x) (h2 : x < 256) :
    (convert 49 9 (.slice (some ⟨W.heap.size, 0, none⟩) 1 1)).run Tryd.prog (W.alloc (.cells #[.int .u8 x] 5)) = .ok (.string ⟨#[x.toNat.toUInt8]⟩) (W.alloc (.cells #[.int .u8 x] 5)) := by
  refine conv_of _ _ 1 [x.toNat.toUInt8] ?_
  intro j hj
  have e := add0 W.heap.size j
  have hx : x.toNat % 256 = x.toNat := Nat.mod_eq_of_lt (by omega)
  match j, hj with
  | 0, _ => rw [e]; simp [go_sem, hx]; omega
  | j + 1, hj => simp at hj
end Go.Proofs.YthcbekfgkbhpeaaDoor
end
section
set_option linter.unusedVariables false
namespace Go.Proofs.YthcbekfgkbhpeaaDoor
open Go.RowKit
set_option maxRecDepth 20000
/-- The cells from p on hold these values, and none of them is frozen. -/
def BoxF (w : World) (p : Nat) (vs : Array Value) : Prop := ∀ i v, vs[i]? = some v → w.cell? ⟨p, i, none⟩ = some v ∧ w.frozen? ⟨p, i, none⟩ = false
theorem BoxF.below {w w' : World} {B p : Nat} {vs : Array Value} (h : BoxF w p vs) (hb : Below B w w') (hp : p < B) : BoxF w' p vs := by
  intro i v hv
  rw [hb.cell (p := ⟨p, i, none⟩) hp, hb.frozen (p := ⟨p, i, none⟩) hp]; exact h i v hv
theorem BoxF.box {w : World} {p : Nat} {vs : Array Value} (h : BoxF w p vs) : BoxAt w p vs := fun i v hv => (h i v hv).1
theorem BoxF.new (w : World) (vs : Array Value) (T : TypeId) (p : Nat) (hp : w.heap.size = p) : BoxF (w.alloc (.cells vs T)) p vs := by
  subst hp
  intro i v hv
  have e := heap_alloc_new w (.cells vs T)
  refine ⟨?_, ?_⟩
  · simp only [World.cell?, e, hv]; rfl
  · simp only [World.frozen?, e]; simp
theorem BoxF.drew {w : World} {p : Nat} {vs : Array Value} (h : BoxF w p vs) : BoxF w.drew p vs := h
theorem BoxF.drewN {w : World} {p : Nat} {vs : Array Value} (h : BoxF w p vs) (n : Nat) : BoxF (w.drewN n) p vs := h
theorem boxF1 {w : World} {p : Nat} {a : Value} (h0 : w.cell? ⟨p, 0, none⟩ = some a ∧ w.frozen? ⟨p, 0, none⟩ = false) : BoxF w p #[a] := by
  intro i v hv
  match i, hv with
  | 0, hv => simp at hv; subst hv; exact h0
  | n + 1, hv => simp at hv
theorem boxF2 {w : World} {p : Nat} {a b : Value} (h0 : w.cell? ⟨p, 0, none⟩ = some a ∧ w.frozen? ⟨p, 0, none⟩ = false) (h1 : w.cell? ⟨p, 1, none⟩ = some b ∧ w.frozen? ⟨p, 1, none⟩ = false) : BoxF w p #[a, b] := by
  intro i v hv
  match i, hv with
  | 0, hv => simp at hv; subst hv; exact h0
  | 1, hv => simp at hv; subst hv; exact h1
  | n + 2, hv => simp at hv
theorem boxF3 {w : World} {p : Nat} {a b c : Value} (h0 : w.cell? ⟨p, 0, none⟩ = some a ∧ w.frozen? ⟨p, 0, none⟩ = false) (h1 : w.cell? ⟨p, 1, none⟩ = some b ∧ w.frozen? ⟨p, 1, none⟩ = false) (h2 : w.cell? ⟨p, 2, none⟩ = some c ∧ w.frozen? ⟨p, 2, none⟩ = false) : BoxF w p #[a, b, c] := by
  intro i v hv
  match i, hv with
  | 0, hv => simp at hv; subst hv; exact h0
  | 1, hv => simp at hv; subst hv; exact h1
  | 2, hv => simp at hv; subst hv; exact h2
  | n + 3, hv => simp at hv
theorem boxF4 {w : World} {p : Nat} {a b c d : Value} (h0 : w.cell? ⟨p, 0, none⟩ = some a ∧ w.frozen? ⟨p, 0, none⟩ = false) (h1 : w.cell? ⟨p, 1, none⟩ = some b ∧ w.frozen? ⟨p, 1, none⟩ = false) (h2 : w.cell? ⟨p, 2, none⟩ = some c ∧ w.frozen? ⟨p, 2, none⟩ = false) (h3 : w.cell? ⟨p, 3, none⟩ = some d ∧ w.frozen? ⟨p, 3, none⟩ = false) : BoxF w p #[a, b, c, d] := by
  intro i v hv
  match i, hv with
  | 0, hv => simp at hv; subst hv; exact h0
  | 1, hv => simp at hv; subst hv; exact h1
  | 2, hv => simp at hv; subst hv; exact h2
  | 3, hv => simp at hv; subst hv; exact h3
  | n + 4, hv => simp at hv
theorem boxF5 {w : World} {p : Nat} {a b c d e : Value} (h0 : w.cell? ⟨p, 0, none⟩ = some a ∧ w.frozen? ⟨p, 0, none⟩ = false) (h1 : w.cell? ⟨p, 1, none⟩ = some b ∧ w.frozen? ⟨p, 1, none⟩ = false) (h2 : w.cell? ⟨p, 2, none⟩ = some c ∧ w.frozen? ⟨p, 2, none⟩ = false) (h3 : w.cell? ⟨p, 3, none⟩ = some d ∧ w.frozen? ⟨p, 3, none⟩ = false) (h4 : w.cell? ⟨p, 4, none⟩ = some e ∧ w.frozen? ⟨p, 4, none⟩ = false) : BoxF w p #[a, b, c, d, e] := by
  intro i v hv
  match i, hv with
  | 0, hv => simp at hv; subst hv; exact h0
  | 1, hv => simp at hv; subst hv; exact h1
  | 2, hv => simp at hv; subst hv; exact h2
  | 3, hv => simp at hv; subst hv; exact h3
  | 4, hv => simp at hv; subst hv; exact h4
  | n + 5, hv => simp at hv
end Go.Proofs.YthcbekfgkbhpeaaDoor
end
section
set_option linter.unusedVariables false
namespace Go.Proofs.YthcbekfgkbhpeaaDoor
open Go.RowKit
set_option maxRecDepth 20000
set_option linter.unusedVariables false
set_option linter.unusedSimpArgs false
set_option maxRecDepth 20000
theorem blocksFor_any (n z : Nat) (w : World) (hz : 0 < z) (hz2 : z ≤ 1000000) (hn : n ≤ 1000000) :
    Calls Tryd.prog 62 #[.int .i64 (n : Int), .int .i64 (z : Int)] w fun e w' => e = .returned (.int .i64 (((n + z - 1) / z : Nat) : Int)) ∧ w = w' := by
  have e1 : (n : Int) + (z : Int) - 1 = ((n + z - 1 : Nat) : Int) := by omega
  have e2 : ¬ (z : Int) = 0 := by omega
  have e3 : ((z : Int) == 0) = false := by simp; omega
  have e4 : Int.tdiv ((n + z - 1 : Nat) : Int) (z : Int) = (((n + z - 1) / z : Nat) : Int) := by rw [Int.tdiv_eq_ediv_of_nonneg (by omega)]; exact (Int.natCast_ediv _ _).symm
  have e5 : (n + z - 1) / z ≤ n + z - 1 := Nat.div_le_self _ _
  generalize (n + z - 1) / z = q at *
  have e6 : wrap64 (q : Int) = (q : Int) := by unfold wrap64; omega
  have e7 : IntKind.i64.wrap (q : Int) = (q : Int) := IntWalk.i64_in _ (by omega)
  go_enter Tryd.func62, Tryd.ntmps62
  go_wp2
  go_ret
  exact ⟨rfl, rfl⟩
theorem byteT_any (n : Nat) (h : n < 256) (w : World) :
    Calls Tryd.prog 43 #[.int .i64 (n : Int)] w fun e w' => e = .returned (.string ⟨#[n.toUInt8]⟩) ∧ Below w.heap.size w w' := by
  have hcv := conv_new1 w (n : Int) (by omega) (by omega)
  rw [Int.toNat_natCast] at hcv
  have h2 : (n : Int) < 256 := by omega
  go_enter Tryd.func43, Tryd.ntmps43
  go_wp2
  go_ret
  exact ⟨rfl, (Below.refl _ _).alloc (Nat.le_refl _) _⟩
theorem head_lit (a b c : UInt8) : (⟨#[69, 88]⟩ : ByteArray) ++ ⟨#[a]⟩ ++ ⟨#[b]⟩ ++ ⟨#[c]⟩ = ⟨#[69, 88, a, b, c]⟩ := by
  apply ByteArray.ext
  simp
/-- The answer of ExtentsOn. -/
def ExRes (l : ExtentLayoutV) (c : Int) (w : World) (e : Ending) (w' : World) : Prop :=
  e = .returned (.tuple #[.agg #[.int .i64 l.f0, .int .i64 l.f1, .int .i64 l.f2, .int .i64 l.f3], .int .i64 c]) ∧ Below w.heap.size w w'
end Go.Proofs.YthcbekfgkbhpeaaDoor
end
section
set_option linter.unusedVariables false
namespace Go.Proofs.YthcbekfgkbhpeaaDoor
open Go.RowKit
set_option maxRecDepth 20000
theorem addr_neB {a b o o' : Nat} (h : a ≠ b) : (⟨a, o, none⟩ : Addr) ≠ ⟨b, o', none⟩ := fun e => h (congrArg Addr.block e)
theorem BoxF.kept {w w' : World} {p : Nat} {vs : Array Value} (h : BoxF w p vs) (hk : w'.heap[p]? = w.heap[p]?) : BoxF w' p vs := by
  intro i v hv
  obtain ⟨h1, h2⟩ := h i v hv
  refine ⟨by rw [World.cell?_of_block hk]; exact h1, ?_⟩
  simp only [World.frozen?] at h2 ⊢
  rw [hk]
  exact h2
theorem BoxF.put {w : World} {p : Nat} {vs : Array Value} (h : BoxF w p vs) (i : Nat) (v : Value) (hi : i < vs.size) : BoxF (w.setCell ⟨p, i, none⟩ v) p (vs.setIfInBounds i v) := by
  intro j u hu
  by_cases e : j = i
  · subst e
    rw [Array.getElem?_setIfInBounds_self_of_lt hi] at hu
    cases hu
    exact ⟨World.cell?_setCell_same _ _ v (h j vs[j] (Array.getElem?_eq_getElem hi)).1, by rw [World.frozen?_setCell]; exact (h j vs[j] (Array.getElem?_eq_getElem hi)).2⟩
  · rw [Array.getElem?_setIfInBounds_ne (Ne.symm e)] at hu
    obtain ⟨h1, h2⟩ := h j u hu
    exact ⟨by rw [World.cell?_setCell_other (h := fun e' => e (by cases e'; rfl))]; exact h1, by rw [World.frozen?_setCell]; exact h2⟩
theorem heap_setCell_ne (w : World) (p q i : Nat) (v : Value) (h : q ≠ p) : (w.setCell ⟨p, i, none⟩ v).heap[q]? = w.heap[q]? := by
  simp only [World.setCell, Array.getElem?_modify]
  rw [if_neg (fun e => h e.symm)]
end Go.Proofs.YthcbekfgkbhpeaaDoor
end
section
set_option linter.unusedVariables false
namespace Go.Proofs.YthcbekfgkbhpeaaDoor
open Go.RowKit
set_option maxRecDepth 20000
set_option linter.unusedVariables false
set_option linter.unusedSimpArgs false
set_option maxRecDepth 20000
set_option maxHeartbeats 2000000 in
theorem chainLayout_any (n z : Nat) (w : World) (hz : 0 < z) (hz2 : z ≤ 1000) (hn : n ≤ 128) :
    Calls Tryd.prog 32 #[.int .i64 (n : Int), .int .i64 (z : Int)] w fun e w' => e = .returned (.agg #[.int .i64 (n : Int), .int .i64 (z : Int), .int .i64 ((n / 8 : Nat) : Int), .int .i64 (chDir n z : Int), .int .i64 (chData n z : Int)]) ∧ Below w.heap.size w w' := by
  have BF := Lib.hid (fun w => blocksFor_any n z w hz (by omega) (by omega))
  have BF2 := Lib.hid (fun w => blocksFor_any (n / 8 * 12) z w hz (by omega) (by omega))
  have hq : (n + z - 1) / z ≤ n + z - 1 := Nat.div_le_self _ _
  have hq2 : (n / 8 * 12 + z - 1) / z ≤ n / 8 * 12 + z - 1 := Nat.div_le_self _ _
  have e0 : Int.tdiv (n : Int) 8 = ((n / 8 : Nat) : Int) := by rw [Int.tdiv_eq_ediv_of_nonneg (by omega)]; rfl
  have e4 : (1 : Int) + (((n + z - 1) / z : Nat) : Int) = (chDir n z : Int) := by unfold chDir; omega
  have e5 : (chDir n z : Int) + (((n / 8 * 12 + z - 1) / z : Nat) : Int) = (chData n z : Int) := by unfold chData; omega
  have hd : chDir n z ≤ 2001 := by unfold chDir; omega
  have hd2 : chData n z ≤ 10001 := by unfold chData; omega
  have hq8 : n / 8 ≤ 16 := by omega
  have e3 : ((n / 8 : Nat) : Int) * 12 = ((n / 8 * 12 : Nat) : Int) := by omega
  generalize (n + z - 1) / z = q1 at *
  generalize (n / 8 * 12 + z - 1) / z = q2 at *
  generalize n / 8 * 12 = r at *
  generalize n / 8 = e at *
  generalize chDir n z = d at *
  generalize chData n z = dd at *
  have hm1 : min (16 : Int) (e : Int) = (e : Int) := by omega
  go_enter Tryd.func32, Tryd.ntmps32
  go_wp2_with fail
  refine (BF.out _).mono ?_
  rintro e w1 ⟨rfl, rfl⟩
  go_upto_region 3 with (fail)
  have R1 := Lib.hid ((BoxF.new w #[.int .i64 0, .int .i64 0, .int .i64 0, .int .i64 0, .int .i64 0] 25 _ rfl).below ((Below.refl (w.alloc (.cells #[.int .i64 0, .int .i64 0, .int .i64 0, .int .i64 0, .int .i64 0] 25)).heap.size (w.alloc (.cells #[.int .i64 0, .int .i64 0, .int .i64 0, .int .i64 0, .int .i64 0] 25))).alloc (Nat.le_refl _) (.cells #[.int .i64 (n : Int), .int .i64 (z : Int), .int .i64 (e : Int), .int .i64 (d : Int), .int .i64 0] 25)) (by simp))
  have R2 := Lib.hid (BoxF.new (w.alloc (.cells #[.int .i64 0, .int .i64 0, .int .i64 0, .int .i64 0, .int .i64 0] 25)) #[.int .i64 (n : Int), .int .i64 (z : Int), .int .i64 (e : Int), .int .i64 (d : Int), .int .i64 0] 25 (w.heap.size + 1) (by simp))
  have FB := Lib.hid (((Below.refl w.heap.size w).alloc (Nat.le_refl _) (.cells #[.int .i64 0, .int .i64 0, .int .i64 0, .int .i64 0, .int .i64 0] 25)).alloc (by simp) (.cells #[.int .i64 (n : Int), .int .i64 (z : Int), .int .i64 (e : Int), .int .i64 (d : Int), .int .i64 0] 25))
  have hlt : w.heap.size + 1 < ((w.alloc (.cells #[.int .i64 0, .int .i64 0, .int .i64 0, .int .i64 0, .int .i64 0] 25)).alloc (.cells #[.int .i64 (n : Int), .int .i64 (z : Int), .int .i64 (e : Int), .int .i64 (d : Int), .int .i64 0] 25)).heap.size := by simp
  generalize (w.alloc (.cells #[.int .i64 0, .int .i64 0, .int .i64 0, .int .i64 0, .int .i64 0] 25)).alloc (.cells #[.int .i64 (n : Int), .int .i64 (z : Int), .int .i64 (e : Int), .int .i64 (d : Int), .int .i64 0] 25) = W at *
  have hwr : IntKind.i64.wrap (r : Int) = (r : Int) := IntWalk.i64_in _ (by omega)
  have hwd : IntKind.i64.wrap (dd : Int) = (dd : Int) := IntWalk.i64_in _ (by omega)
  have HBX := Lib.hid (fun w' (hb : Below W.heap.size W w') => R2.out.below hb hlt)
  have HC := Lib.hid (show Below W.heap.size W W.drew from (Below.refl _ _).drew)
  refine wp_region_held_drew (S := (fun w' => w'.cell? ⟨w.heap.size + 1, 2, none⟩ = some (.int .i64 (e : Int)) ∧ w'.cell? ⟨w.heap.size + 1, 3, none⟩ = some (.int .i64 (d : Int)))) (by kernel_rfl) ⟨(HBX.out _ HC.out 2 _ rfl).1, (HBX.out _ HC.out 3 _ rfl).1⟩ (fun hHeld => ?_)
  refine wpAnyH_take (i := 0) (oi := { dst := some 17, op := Op.fieldAddr 25 (Operand.tmp 5) 3, type := 0, pos := "l16_chains.go:214", after := #[], guard := none }) (v := ?_) rfl (by kernel_rfl) (by kernel_rfl) (by kernel_rfl) (fun _ _ _ h => h) (Or.inl ⟨by rfl, ?hy⟩) hHeld ?_
  case hy => (intro w' hSw; (try dsimp only at hSw); go_simp; try with_reducible rfl)
  simp only [Act.put, List.setIfInBounds_toArray, List.set_cons_zero, List.set_cons_succ]
  refine wpAnyH_take (i := 1) (oi := { dst := some 18, op := Op.load 2 (Operand.tmp 17), type := 2, pos := "l16_chains.go:214", after := #[{ on := 0, ground := Ground.data }], guard := none }) (v := ?_) rfl (by kernel_rfl) (by kernel_rfl) (by kernel_rfl) (fun _ _ _ h => h) (Or.inl ⟨by rfl, ?hy⟩) hHeld ?_
  case hy => (intro w' hSw; (try dsimp only at hSw); go_simp; try with_reducible rfl)
  simp only [Act.put, List.setIfInBounds_toArray, List.set_cons_zero, List.set_cons_succ]
  refine wpAnyH_take (i := 2) (oi := { dst := some 19, op := Op.fieldAddr 25 (Operand.tmp 5) 2, type := 0, pos := "l16_chains.go:214", after := #[], guard := none }) (v := ?_) rfl (by kernel_rfl) (by kernel_rfl) (by kernel_rfl) (fun _ _ _ h => h) (Or.inl ⟨by rfl, ?hy⟩) hHeld ?_
  case hy => (intro w' hSw; (try dsimp only at hSw); go_simp; try with_reducible rfl)
  simp only [Act.put, List.setIfInBounds_toArray, List.set_cons_zero, List.set_cons_succ]
  refine wpAnyH_take (i := 3) (oi := { dst := some 20, op := Op.load 2 (Operand.tmp 19), type := 2, pos := "l16_chains.go:214", after := #[{ on := 2, ground := Ground.data }], guard := none }) (v := ?_) rfl (by kernel_rfl) (by kernel_rfl) (by kernel_rfl) (fun _ _ _ h => h) (Or.inl ⟨by rfl, ?hy⟩) hHeld ?_
  case hy => (intro w' hSw; (try dsimp only at hSw); go_simp; try with_reducible rfl)
  simp only [Act.put, List.setIfInBounds_toArray, List.set_cons_zero, List.set_cons_succ]
  refine wpAnyH_take (i := 4) (oi := { dst := some 21, op := Op.binOp BinOp.mul 2 (Operand.tmp 20) (Operand.const (Value.int IntKind.i64 12)) 2, type := 2, pos := "l16_chains.go:214", after := #[{ on := 3, ground := Ground.data }], guard := none }) (v := ?_) rfl (by kernel_rfl) (by kernel_rfl) (by kernel_rfl) (fun _ _ _ h => h) (Or.inl ⟨by rfl, ?hy⟩) hHeld ?_
  case hy => (intro w' hSw; (try dsimp only at hSw); go_simp; try with_reducible rfl)
  simp only [Act.put, List.setIfInBounds_toArray, List.set_cons_zero, List.set_cons_succ]
  refine wpAnyH_take (i := 5) (oi := { dst := some 22, op := Op.move (Operand.tmp 1), type := 2, pos := "l16_chains.go:214", after := #[], guard := none }) (v := ?_) rfl (by kernel_rfl) (by kernel_rfl) (by kernel_rfl) (fun _ _ _ h => h) (Or.inl ⟨by rfl, ?hy⟩) hHeld ?_
  case hy => (intro w' hSw; (try dsimp only at hSw); go_simp; try with_reducible rfl)
  simp only [Act.put, List.setIfInBounds_toArray, List.set_cons_zero, List.set_cons_succ]
  refine wpAnyH_ready (rs := [6]) (by kernel_rfl) (by simp) ?_
  refine AllReadyH.cons (o := { dst := some 23, op := Op.call { callee := Callee.value (Operand.func 62), args := #[Operand.tmp 21, Operand.tmp 22], argTypes := #[2, 2] }, type := 2, pos := "l16_chains.go:214", after := #[{ on := 4, ground := Ground.data }, { on := 5, ground := Ground.data }], guard := none }) rfl (fun K hK => ?_) AllReadyH.nil
  go_simp
  go_at_call 62; refine (BF2.out _).mono ?_; rintro e wk1 ⟨rfl, rfl⟩
  go_wp2_with fail
  refine hK.out _ _ ⟨(HBX.out _ HC.out 2 _ rfl).1, (HBX.out _ HC.out 3 _ rfl).1⟩ (fun hHeld => ?_)
  clear hK K
  try simp only [Act.put, List.setIfInBounds_toArray, List.set_cons_zero, List.set_cons_succ]
  refine wpAnyH_take (i := 7) (oi := { dst := some 24, op := Op.binOp BinOp.add 2 (Operand.tmp 18) (Operand.tmp 23) 2, type := 2, pos := "l16_chains.go:214", after := #[{ on := 1, ground := Ground.data }, { on := 6, ground := Ground.data }], guard := none }) (v := ?_) rfl (by kernel_rfl) (by kernel_rfl) (by kernel_rfl) (fun _ _ _ h => h) (Or.inl ⟨by rfl, ?hy⟩) hHeld ?_
  case hy => (intro w' hSw; (try dsimp only at hSw); go_simp; try with_reducible rfl)
  simp only [Act.put, List.setIfInBounds_toArray, List.set_cons_zero, List.set_cons_succ]
  refine wpAnyH_take (i := 8) (oi := { dst := some 25, op := Op.fieldAddr 25 (Operand.tmp 5) 4, type := 0, pos := "l16_chains.go:214", after := #[{ on := 0, ground := Ground.phase }, { on := 1, ground := Ground.phase }, { on := 2, ground := Ground.phase }, { on := 3, ground := Ground.phase }, { on := 4, ground := Ground.phase }, { on := 5, ground := Ground.phase }, { on := 6, ground := Ground.phase }, { on := 7, ground := Ground.phase }], guard := none }) (v := ?_) rfl (by kernel_rfl) (by kernel_rfl) (by kernel_rfl) (fun _ _ _ h => h) (Or.inl ⟨by rfl, ?hy⟩) hHeld ?_
  case hy => (intro w' hSw; (try dsimp only at hSw); go_simp; try with_reducible rfl)
  simp only [Act.put, List.setIfInBounds_toArray, List.set_cons_zero, List.set_cons_succ]
  refine wpAnyH_ready (rs := [9]) (by kernel_rfl) (by simp) ?_
  refine AllReadyH.cons (o := { dst := none, op := Op.store 2 (Operand.tmp 25) (Operand.tmp 24), type := 0, pos := "l16_chains.go:214", after := #[{ on := 8, ground := Ground.data }, { on := 7, ground := Ground.data }, { on := 6, ground := Ground.chain }, { on := 0, ground := Ground.phase }, { on := 1, ground := Ground.phase }, { on := 2, ground := Ground.phase }, { on := 3, ground := Ground.phase }, { on := 4, ground := Ground.phase }, { on := 5, ground := Ground.phase }, { on := 6, ground := Ground.phase }, { on := 7, ground := Ground.phase }], guard := none }) rfl (fun K hK => ?_) AllReadyH.nil
  obtain ⟨a4, z4⟩ := HBX.out _ HC.out 4 _ rfl
  go_simp
  refine hK.out _ _ ⟨((HBX.out _ HC.out).put 4 (.int .i64 (dd : Int)) (by simp) 2 _ rfl).1, ((HBX.out _ HC.out).put 4 (.int .i64 (dd : Int)) (by simp) 3 _ rfl).1⟩ (fun hHeld => ?_)
  clear hK K
  try simp only [Act.put, List.setIfInBounds_toArray, List.set_cons_zero, List.set_cons_succ]
  refine wpAnyH_done (by kernel_rfl) ?_ _
  have R3 : BoxF (W.setCell ⟨w.heap.size + 1, 4, none⟩ (.int .i64 (dd : Int))).drew (w.heap.size + 1) #[.int .i64 (n : Int), .int .i64 (z : Int), .int .i64 (e : Int), .int .i64 (d : Int), .int .i64 (dd : Int)] := (HBX.out _ HC.out).put 4 (.int .i64 (dd : Int)) (by simp)
  have R4 : BoxF (W.setCell ⟨w.heap.size + 1, 4, none⟩ (.int .i64 (dd : Int))).drew w.heap.size #[.int .i64 0, .int .i64 0, .int .i64 0, .int .i64 0, .int .i64 0] := R1.out.kept (heap_setCell_ne _ _ _ _ _ (by omega))
  replace FB := Lib.hid (show Below w.heap.size w (W.setCell ⟨w.heap.size + 1, 4, none⟩ (.int .i64 (dd : Int))).drew from (FB.out.setCell (p := ⟨w.heap.size + 1, 4, none⟩) (show w.heap.size ≤ w.heap.size + 1 by omega) _).drew)
  clear HBX HC R1 R2 hHeld
  try clear a4 z4
  try clear LD a2 z2 a3 z3
  generalize (W.setCell ⟨w.heap.size + 1, 4, none⟩ (.int .i64 (dd : Int))).drew = W2 at *
  obtain ⟨x0, _⟩ := R3 0 _ rfl; obtain ⟨x1, _⟩ := R3 1 _ rfl; obtain ⟨x2, _⟩ := R3 2 _ rfl; obtain ⟨x3, _⟩ := R3 3 _ rfl; obtain ⟨x4, _⟩ := R3 4 _ rfl
  obtain ⟨a0, z0⟩ := R4 0 _ rfl; obtain ⟨a1, z1⟩ := R4 1 _ rfl; obtain ⟨a2, z2⟩ := R4 2 _ rfl; obtain ⟨a3, z3⟩ := R4 3 _ rfl; obtain ⟨a4, z4⟩ := R4 4 _ rfl
  go_wp2
  refine bodyPost_ret (v := .agg #[.int .i64 (n : Int), .int .i64 (z : Int), .int .i64 (e : Int), .int .i64 (d : Int), .int .i64 (dd : Int)]) (by simp [results, Tryd.results32, go_sem, a0, a1, a2, a3, a4]) rfl ⟨rfl, ?_⟩
  exact ((((FB.out.setCell (by simp) _).setCell (by simp) _).setCell (by simp) _).setCell (by simp) _).setCell (by simp) _
theorem chStart_lit (a b : UInt8) : (⟨#[67, 72]⟩ : ByteArray) ++ ⟨#[a]⟩ ++ ⟨#[b]⟩ = ⟨#[67, 72, a, b]⟩ := by
  apply ByteArray.ext
  simp
set_option maxHeartbeats 2000000 in
theorem chHeader_any (n z : Nat) (d d2 : Int) (w : World) (hz : z = 8 ∨ z = 16 ∨ z = 32) (hn : n ≤ 128) :
    Calls Tryd.prog 33 #[.agg #[.int .i64 (n : Int), .int .i64 (z : Int), .int .i64 ((n / 8 : Nat) : Int), .int .i64 d, .int .i64 d2]] w fun e w' => e = .returned (.string (chHead n z)) ∧ Below w.heap.size w w' := by
  have B1 := Lib.hid (fun w => byteT_any n (by omega) w)
  have B3 := Lib.hid (fun w => byteT_any (n / 8) (by omega) w)
  have hcb := chCrc_bd (chStart n)
  have CR := Lib.hid (fun w => crc16_any (chStart n) 65535 (by show 4 ≤ 4096; omega) w)
  have PW := Lib.hid (fun w => putWord_yes (crcV (chStart n) 65535) w hcb.1 hcb.2)
  have PD := Lib.hid (fun w => padded_any (chTop n) z 0 w (by rw [chTop_size]; omega) (by omega))
  have HL := Lib.hid (show (⟨#[67, 72]⟩ : ByteArray) ++ ⟨#[n.toUInt8]⟩ ++ ⟨#[(n / 8).toUInt8]⟩ = chStart n from chStart_lit _ _)
  have HT := Lib.hid (show chStart n ++ wordBytes (crcV (chStart n) 65535) = chTop n from rfl)
  have s4 : (chStart n).size = 4 := rfl
  have sw : (wordBytes (crcV (chStart n) 65535)).size = 2 := rfl
  unfold chHead
  generalize chTop n = top at *
  generalize chStart n = st at *
  generalize crcV st 65535 = cv at *
  generalize wordBytes cv = wb at *
  generalize n.toUInt8 = u1 at *
  generalize n / 8 = q8 at *
  generalize q8.toUInt8 = u3 at *
  have s1 : (⟨#[67, 72]⟩ : ByteArray).size = 2 := rfl
  have s2 : ((⟨#[67, 72]⟩ : ByteArray) ++ ⟨#[u1]⟩).size = 3 := by rw [ByteArray.size_append]; rfl
  have f1 : (9223372036854775807 < (⟨#[67, 72]⟩ : ByteArray).size + (⟨#[u1]⟩ : ByteArray).size) = False := by rw [s1]; simp [show (⟨#[u1]⟩ : ByteArray).size = 1 from rfl]
  have f2 : (9223372036854775807 < ((⟨#[67, 72]⟩ : ByteArray) ++ ⟨#[u1]⟩).size + (⟨#[u3]⟩ : ByteArray).size) = False := by rw [s2]; simp [show (⟨#[u3]⟩ : ByteArray).size = 1 from rfl]
  have f3 : (9223372036854775807 < st.size + wb.size) = False := by rw [s4, sw]; simp
  clear s1 s2 s4 sw hcb
  go_enter Tryd.func33, Tryd.ntmps33
  go_wp2
  have BX := BoxAt.new w #[.int .i64 (n : Int), .int .i64 (z : Int), .int .i64 (q8 : Int), .int .i64 d, .int .i64 d2] 25 _ rfl
  generalize hW : w.alloc (.cells #[.int .i64 (n : Int), .int .i64 (z : Int), .int .i64 (q8 : Int), .int .i64 d, .int .i64 d2] 25) = W at *
  have FB := Lib.hid (show Below w.heap.size w W by rw [← hW]; exact (Below.refl _ _).alloc (Nat.le_refl _) _)
  have hlt : w.heap.size < W.heap.size := by rw [← hW]; simp
  clear hW
  have KS := Lib.hid (fun w' (hb : Below W.heap.size W w') => (show w'.cell? ⟨w.heap.size, 0, none⟩ = some (.int .i64 (n : Int)) ∧ w'.cell? ⟨w.heap.size, 1, none⟩ = some (.int .i64 (z : Int)) ∧ w'.cell? ⟨w.heap.size, 2, none⟩ = some (.int .i64 (q8 : Int)) ∧ w'.cell? ⟨w.heap.size, 3, none⟩ = some (.int .i64 d) ∧ w'.cell? ⟨w.heap.size, 4, none⟩ = some (.int .i64 d2) from ⟨(BX.below hb hlt) 0 _ rfl, (BX.below hb hlt) 1 _ rfl, (BX.below hb hlt) 2 _ rfl, (BX.below hb hlt) 3 _ rfl, (BX.below hb hlt) 4 _ rfl⟩))
  have HC := Lib.hid (show Below W.heap.size W W.drew from (Below.refl _ _).drew)
  refine wp_region_held_drew (S := (fun w' => w'.cell? ⟨w.heap.size, 0, none⟩ = some (.int .i64 (n : Int)) ∧ w'.cell? ⟨w.heap.size, 1, none⟩ = some (.int .i64 (z : Int)) ∧ w'.cell? ⟨w.heap.size, 2, none⟩ = some (.int .i64 (q8 : Int)) ∧ w'.cell? ⟨w.heap.size, 3, none⟩ = some (.int .i64 d) ∧ w'.cell? ⟨w.heap.size, 4, none⟩ = some (.int .i64 d2))) (by kernel_rfl) (KS.out _ HC.out) (fun hHeld => ?_)
  refine wpAnyH_take (i := 0) (oi := { dst := some 4, op := Op.fieldAddr 25 (Operand.tmp 1) 0, type := 0, pos := "l16_chains.go:219", after := #[], guard := none }) (v := ?_) rfl (by kernel_rfl) (by kernel_rfl) (by kernel_rfl) (fun _ _ _ h => h) (Or.inl ⟨by rfl, ?hy⟩) hHeld ?_
  case hy => (intro w' hSw; (try dsimp only at hSw); go_simp; try with_reducible rfl)
  simp only [Act.put, List.setIfInBounds_toArray, List.set_cons_zero, List.set_cons_succ]
  refine wpAnyH_take (i := 1) (oi := { dst := some 5, op := Op.load 2 (Operand.tmp 4), type := 2, pos := "l16_chains.go:219", after := #[{ on := 0, ground := Ground.data }], guard := none }) (v := ?_) rfl (by kernel_rfl) (by kernel_rfl) (by kernel_rfl) (fun _ _ _ h => h) (Or.inl ⟨by rfl, ?hy⟩) hHeld ?_
  case hy => (intro w' hSw; (try dsimp only at hSw); go_simp; try with_reducible rfl)
  simp only [Act.put, List.setIfInBounds_toArray, List.set_cons_zero, List.set_cons_succ]
  refine wpAnyH_take (i := 4) (oi := { dst := some 8, op := Op.fieldAddr 25 (Operand.tmp 1) 2, type := 0, pos := "l16_chains.go:219", after := #[], guard := none }) (v := ?_) rfl (by kernel_rfl) (by kernel_rfl) (by kernel_rfl) (fun _ _ _ h => h) (Or.inl ⟨by rfl, ?hy⟩) hHeld ?_
  case hy => (intro w' hSw; (try dsimp only at hSw); go_simp; try with_reducible rfl)
  simp only [Act.put, List.setIfInBounds_toArray, List.set_cons_zero, List.set_cons_succ]
  refine wpAnyH_take (i := 5) (oi := { dst := some 9, op := Op.load 2 (Operand.tmp 8), type := 2, pos := "l16_chains.go:219", after := #[{ on := 4, ground := Ground.data }], guard := none }) (v := ?_) rfl (by kernel_rfl) (by kernel_rfl) (by kernel_rfl) (fun _ _ _ h => h) (Or.inl ⟨by rfl, ?hy⟩) hHeld ?_
  case hy => (intro w' hSw; (try dsimp only at hSw); go_simp; try with_reducible rfl)
  simp only [Act.put, List.setIfInBounds_toArray, List.set_cons_zero, List.set_cons_succ]
  refine wpAnyH_ready (rs := [2]) (by kernel_rfl) (by simp) ?_
  refine AllReadyH.cons (o := { dst := some 6, op := Op.call { callee := Callee.value (Operand.func 43), args := #[Operand.tmp 5], argTypes := #[2] }, type := 9, pos := "l16_chains.go:219", after := #[{ on := 1, ground := Ground.data }], guard := none }) rfl (fun K hK => ?_) AllReadyH.nil
  go_simp
  go_at_call 43; refine (B1.out _).mono ?_; rintro e wk1 ⟨rfl, hb1⟩; replace HC := Lib.hid (HC.out.trans (hb1.mono HC.out.size))
  go_wp2_with fail
  refine hK.out _ _ (KS.out _ HC.out) (fun hHeld => ?_)
  clear hK K
  try simp only [Act.put, List.setIfInBounds_toArray, List.set_cons_zero, List.set_cons_succ]
  refine wpAnyH_take (i := 3) (oi := { dst := some 7, op := Op.binOp BinOp.add 9 (Operand.const (Value.string { data := #[67, 72] })) (Operand.tmp 6) 9, type := 9, pos := "l16_chains.go:219", after := #[{ on := 2, ground := Ground.data }], guard := none }) (v := ?_) rfl (by kernel_rfl) (by kernel_rfl) (by kernel_rfl) (fun _ _ _ h => h) (Or.inl ⟨by rfl, ?hy⟩) hHeld ?_
  case hy => (intro w' hSw; (try dsimp only at hSw); go_simp; try with_reducible rfl)
  simp only [Act.put, List.setIfInBounds_toArray, List.set_cons_zero, List.set_cons_succ]
  refine wpAnyH_ready (rs := [6]) (by kernel_rfl) (by simp) ?_
  refine AllReadyH.cons (o := { dst := some 10, op := Op.call { callee := Callee.value (Operand.func 43), args := #[Operand.tmp 9], argTypes := #[2] }, type := 9, pos := "l16_chains.go:219", after := #[{ on := 5, ground := Ground.data }, { on := 2, ground := Ground.chain }], guard := none }) rfl (fun K hK => ?_) AllReadyH.nil
  go_simp
  go_at_call 43; refine (B3.out _).mono ?_; rintro e wk2 ⟨rfl, hb2⟩; replace HC := Lib.hid (HC.out.trans (hb2.mono HC.out.size))
  go_wp2_with fail
  refine hK.out _ _ (KS.out _ HC.out) (fun hHeld => ?_)
  clear hK K
  try simp only [Act.put, List.setIfInBounds_toArray, List.set_cons_zero, List.set_cons_succ]
  refine wpAnyH_take (i := 7) (oi := { dst := some 11, op := Op.binOp BinOp.add 9 (Operand.tmp 7) (Operand.tmp 10) 9, type := 9, pos := "l16_chains.go:219", after := #[{ on := 3, ground := Ground.data }, { on := 6, ground := Ground.data }], guard := none }) (v := ?_) rfl (by kernel_rfl) (by kernel_rfl) (by kernel_rfl) (fun _ _ _ h => h) (Or.inl ⟨by rfl, ?hy⟩) hHeld ?_
  case hy => (intro w' hSw; (try dsimp only at hSw); go_simp; try with_reducible rfl)
  simp only [Act.put, List.setIfInBounds_toArray, List.set_cons_zero, List.set_cons_succ]
  refine wpAnyH_take (i := 8) (oi := { dst := some 3, op := Op.assign (Operand.tmp 11), type := 9, pos := "l16_chains.go:219", after := #[{ on := 7, ground := Ground.data }, { on := 6, ground := Ground.chain }, { on := 0, ground := Ground.phase }, { on := 1, ground := Ground.phase }, { on := 2, ground := Ground.phase }, { on := 3, ground := Ground.phase }, { on := 4, ground := Ground.phase }, { on := 5, ground := Ground.phase }, { on := 6, ground := Ground.phase }, { on := 7, ground := Ground.phase }], guard := none }) (v := ?_) rfl (by kernel_rfl) (by kernel_rfl) (by kernel_rfl) (fun _ _ _ h => h) (Or.inl ⟨by rfl, ?hy⟩) hHeld ?_
  case hy => (intro w' hSw; (try dsimp only at hSw); go_simp; try with_reducible rfl)
  simp only [Act.put, List.setIfInBounds_toArray, List.set_cons_zero, List.set_cons_succ]
  refine wpAnyH_done (by kernel_rfl) ?_ _
  have hzz := HC.out.size
  replace BX := BX.below HC.out hlt
  replace FB := Lib.hid (FB.out.trans (HC.out.mono FB.out.size))
  have hlt2 : w.heap.size < wk2.heap.size := by omega
  clear HC KS hHeld hzz
  rw [HL.out]
  clear f1 f2
  go_upto_region 2 with (fail)
  have KS := Lib.hid (fun w' (hb : Below wk2.heap.size wk2 w') => (show w'.cell? ⟨w.heap.size, 0, none⟩ = some (.int .i64 (n : Int)) ∧ w'.cell? ⟨w.heap.size, 1, none⟩ = some (.int .i64 (z : Int)) ∧ w'.cell? ⟨w.heap.size, 2, none⟩ = some (.int .i64 (q8 : Int)) ∧ w'.cell? ⟨w.heap.size, 3, none⟩ = some (.int .i64 d) ∧ w'.cell? ⟨w.heap.size, 4, none⟩ = some (.int .i64 d2) from ⟨(BX.below hb hlt2) 0 _ rfl, (BX.below hb hlt2) 1 _ rfl, (BX.below hb hlt2) 2 _ rfl, (BX.below hb hlt2) 3 _ rfl, (BX.below hb hlt2) 4 _ rfl⟩))
  have HC := Lib.hid (show Below wk2.heap.size wk2 wk2.drew from (Below.refl _ _).drew)
  refine wp_region_held_drew (S := (fun w' => w'.cell? ⟨w.heap.size, 0, none⟩ = some (.int .i64 (n : Int)) ∧ w'.cell? ⟨w.heap.size, 1, none⟩ = some (.int .i64 (z : Int)) ∧ w'.cell? ⟨w.heap.size, 2, none⟩ = some (.int .i64 (q8 : Int)) ∧ w'.cell? ⟨w.heap.size, 3, none⟩ = some (.int .i64 d) ∧ w'.cell? ⟨w.heap.size, 4, none⟩ = some (.int .i64 d2))) (by kernel_rfl) (KS.out _ HC.out) (fun hHeld => ?_)
  refine wpAnyH_take (i := 0) (oi := { dst := some 12, op := Op.move (Operand.tmp 3), type := 9, pos := "l16_chains.go:220", after := #[], guard := none }) (v := ?_) rfl (by kernel_rfl) (by kernel_rfl) (by kernel_rfl) (fun _ _ _ h => h) (Or.inl ⟨by rfl, ?hy⟩) hHeld ?_
  case hy => (intro w' hSw; (try dsimp only at hSw); go_simp; try with_reducible rfl)
  simp only [Act.put, List.setIfInBounds_toArray, List.set_cons_zero, List.set_cons_succ]
  refine wpAnyH_take (i := 1) (oi := { dst := some 13, op := Op.move (Operand.tmp 3), type := 9, pos := "l16_chains.go:220", after := #[], guard := none }) (v := ?_) rfl (by kernel_rfl) (by kernel_rfl) (by kernel_rfl) (fun _ _ _ h => h) (Or.inl ⟨by rfl, ?hy⟩) hHeld ?_
  case hy => (intro w' hSw; (try dsimp only at hSw); go_simp; try with_reducible rfl)
  simp only [Act.put, List.setIfInBounds_toArray, List.set_cons_zero, List.set_cons_succ]
  refine wpAnyH_take (i := 5) (oi := { dst := some 17, op := Op.fieldAddr 25 (Operand.tmp 1) 1, type := 0, pos := "l16_chains.go:220", after := #[], guard := none }) (v := ?_) rfl (by kernel_rfl) (by kernel_rfl) (by kernel_rfl) (fun _ _ _ h => h) (Or.inl ⟨by rfl, ?hy⟩) hHeld ?_
  case hy => (intro w' hSw; (try dsimp only at hSw); go_simp; try with_reducible rfl)
  simp only [Act.put, List.setIfInBounds_toArray, List.set_cons_zero, List.set_cons_succ]
  refine wpAnyH_take (i := 6) (oi := { dst := some 18, op := Op.load 2 (Operand.tmp 17), type := 2, pos := "l16_chains.go:220", after := #[{ on := 5, ground := Ground.data }], guard := none }) (v := ?_) rfl (by kernel_rfl) (by kernel_rfl) (by kernel_rfl) (fun _ _ _ h => h) (Or.inl ⟨by rfl, ?hy⟩) hHeld ?_
  case hy => (intro w' hSw; (try dsimp only at hSw); go_simp; try with_reducible rfl)
  simp only [Act.put, List.setIfInBounds_toArray, List.set_cons_zero, List.set_cons_succ]
  refine wpAnyH_ready (rs := [2]) (by kernel_rfl) (by simp) ?_
  refine AllReadyH.cons (o := { dst := some 14, op := Op.call { callee := Callee.value (Operand.func 64), args := #[Operand.tmp 13, Operand.const (Value.int IntKind.i64 65535)], argTypes := #[9, 2] }, type := 2, pos := "l16_chains.go:220", after := #[{ on := 1, ground := Ground.data }], guard := none }) rfl (fun K hK => ?_) AllReadyH.nil
  go_simp
  go_at_call 64; refine (CR.out _).mono ?_; rintro e wk1 ⟨rfl, hb1⟩; replace HC := Lib.hid (HC.out.trans (hb1.mono HC.out.size))
  go_wp2_with fail
  refine hK.out _ _ (KS.out _ HC.out) (fun hHeld => ?_)
  clear hK K
  try simp only [Act.put, List.setIfInBounds_toArray, List.set_cons_zero, List.set_cons_succ]
  refine wpAnyH_ready (rs := [3]) (by kernel_rfl) (by simp) ?_
  refine AllReadyH.cons (o := { dst := some 15, op := Op.call { callee := Callee.value (Operand.func 63), args := #[Operand.tmp 14], argTypes := #[2] }, type := 9, pos := "l16_chains.go:220", after := #[{ on := 2, ground := Ground.data }, { on := 2, ground := Ground.chain }], guard := none }) rfl (fun K hK => ?_) AllReadyH.nil
  go_simp
  go_at_call 63; refine (PW.out _).mono ?_; rintro e wk2 ⟨rfl, hb2⟩; replace HC := Lib.hid (HC.out.trans (hb2.mono HC.out.size))
  go_wp2_with fail
  refine hK.out _ _ (KS.out _ HC.out) (fun hHeld => ?_)
  clear hK K
  try simp only [Act.put, List.setIfInBounds_toArray, List.set_cons_zero, List.set_cons_succ]
  refine wpAnyH_take (i := 4) (oi := { dst := some 16, op := Op.binOp BinOp.add 9 (Operand.tmp 12) (Operand.tmp 15) 9, type := 9, pos := "l16_chains.go:220", after := #[{ on := 0, ground := Ground.data }, { on := 3, ground := Ground.data }], guard := none }) (v := ?_) rfl (by kernel_rfl) (by kernel_rfl) (by kernel_rfl) (fun _ _ _ h => h) (Or.inl ⟨by rfl, ?hy⟩) hHeld ?_
  case hy => (intro w' hSw; (try dsimp only at hSw); go_simp; try with_reducible rfl)
  simp only [Act.put, List.setIfInBounds_toArray, List.set_cons_zero, List.set_cons_succ]
  refine wpAnyH_ready (rs := [7]) (by kernel_rfl) (by simp) ?_
  refine AllReadyH.cons (o := { dst := some 19, op := Op.call { callee := Callee.value (Operand.func 42), args := #[Operand.tmp 16, Operand.tmp 18, Operand.const (Value.string { data := #[0] })], argTypes := #[9, 2, 9] }, type := 9, pos := "l16_chains.go:220", after := #[{ on := 4, ground := Ground.data }, { on := 6, ground := Ground.data }, { on := 3, ground := Ground.chain }], guard := none }) rfl (fun K hK => ?_) AllReadyH.nil
  rw [HT.out]
  go_simp
  go_at_call 42; refine (PD.out _).mono ?_; rintro e wk3 ⟨rfl, hb3⟩; replace HC := Lib.hid (HC.out.trans (hb3.mono HC.out.size))
  go_wp2_with fail
  refine hK.out _ _ (KS.out _ HC.out) (fun hHeld => ?_)
  clear hK K
  try simp only [Act.put, List.setIfInBounds_toArray, List.set_cons_zero, List.set_cons_succ]
  refine wpAnyH_take (i := 8) (oi := { dst := some 2, op := Op.assign (Operand.tmp 19), type := 9, pos := "l16_chains.go:220", after := #[{ on := 7, ground := Ground.data }, { on := 7, ground := Ground.chain }, { on := 0, ground := Ground.phase }, { on := 1, ground := Ground.phase }, { on := 2, ground := Ground.phase }, { on := 3, ground := Ground.phase }, { on := 4, ground := Ground.phase }, { on := 5, ground := Ground.phase }, { on := 6, ground := Ground.phase }, { on := 7, ground := Ground.phase }], guard := none }) (v := ?_) rfl (by kernel_rfl) (by kernel_rfl) (by kernel_rfl) (fun _ _ _ h => h) (Or.inl ⟨by rfl, ?hy⟩) hHeld ?_
  case hy => (intro w' hSw; (try dsimp only at hSw); go_simp; try with_reducible rfl)
  simp only [Act.put, List.setIfInBounds_toArray, List.set_cons_zero, List.set_cons_succ]
  refine wpAnyH_done (by kernel_rfl) ?_ _
  go_wp2
  go_ret
  exact ⟨rfl, FB.out.trans (HC.out.mono FB.out.size)⟩
end Go.Proofs.YthcbekfgkbhpeaaDoor
end
section
set_option linter.unusedVariables false
namespace Go.Proofs.YthcbekfgkbhpeaaDoor
open Go.RowKit
set_option maxRecDepth 20000
set_option maxHeartbeats 400000 in
theorem l01Word_any (n : Int) (w : World) (h0 : 0 ≤ n) (h1 : n ≤ 65535) :
    Calls Tryd.prog 92 #[.int .i64 n] w fun e w' => e = .returned (.string (wordBytes n)) ∧ Below w.heap.size w w' := by
  have hcv := conv_new2 w (n / 256) (n % 256) (by omega) (by omega) (by omega) (by omega)
  go_enter Tryd.func92, Tryd.ntmps92
  go_wp2
  go_ret
  exact ⟨rfl, (Below.refl _ _).alloc (Nat.le_refl _) _⟩
set_option maxHeartbeats 400000 in
theorem specPutWord_yes (n : Int) (w : World) (h0 : 0 ≤ n) (h1 : n ≤ 65535) :
    Calls Tryd.prog 75 #[.int .i64 n] w fun e w' => e = .returned (.string (wordBytes n)) ∧ Below w.heap.size w w' := by
  have hin : inB 0 65535 n = true := by rw [inB_iff]; omega
  go_enter Tryd.func75, Tryd.ntmps75
  go_wp2_with (first | (go_at_call 45; refine (l00In_any _ _ _ _).mono ?_; rintro e w' ⟨rfl, rfl⟩) | (go_at_call 92; refine (l01Word_any _ _ h0 h1).mono ?_; rintro e w1 ⟨rfl, hb⟩))
  go_ret
  exact ⟨rfl, hb⟩
set_option maxHeartbeats 400000 in
theorem specPutWord_no (n : Int) (w : World) (h : inB 0 65535 n = false) :
    Calls Tryd.prog 75 #[.int .i64 n] w fun e w' => e = .returned (.string ⟨#[]⟩) ∧ Below w.heap.size w w' := by
  go_enter Tryd.func75, Tryd.ntmps75
  go_wp2_with (go_at_call 45; refine (l00In_any _ _ _ _).mono ?_; rintro e w' ⟨rfl, rfl⟩)
  go_ret
  exact ⟨rfl, Below.refl _ _⟩
end Go.Proofs.YthcbekfgkbhpeaaDoor
end
section
set_option linter.unusedVariables false
namespace Go.Proofs.YthcbekfgkbhpeaaDoor
open Go.RowKit
set_option maxRecDepth 20000
set_option linter.unusedVariables false
set_option linter.unusedSimpArgs false
set_option maxRecDepth 20000
theorem wrap_nat {q : Nat} (h : q ≤ 1000000) : IntKind.i64.wrap (q : Int) = (q : Int) ∧ wrap64 (q : Int) = (q : Int) := ⟨IntWalk.i64_in _ (by omega), by unfold wrap64; omega⟩
theorem wrap_add {a b : Nat} (h : a + b ≤ 1000000) : IntKind.i64.wrap ((a : Int) + (b : Int)) = (a : Int) + (b : Int) := IntWalk.i64_in _ (by omega)
theorem l00Min_any (a b : Int) (h : b ≤ a) (w : World) :
    Calls Tryd.prog 74 #[.int .i64 a, .int .i64 b] w fun e w' => e = .returned (.int .i64 b) ∧ w = w' := by
  by_cases hab : a < b
  · omega
  · go_enter Tryd.func74, Tryd.ntmps74
    go_wp2
    go_ret
    exact ⟨rfl, rfl⟩
set_option maxHeartbeats 4000000 in
theorem l16Sizes_any (n z : Nat) (w : World) (hz : 0 < z) (hz2 : z ≤ 1000) (hn : n ≤ 128) :
    Calls Tryd.prog 59 #[.int .i64 (n : Int), .int .i64 (z : Int)] w fun e w' => e = .returned (.agg #[.int .i64 (n : Int), .int .i64 (z : Int), .int .i64 ((n / 8 : Nat) : Int), .int .i64 (chDir n z : Int), .int .i64 (chData n z : Int)]) ∧ Below w.heap.size w w' := by
  have MN := Lib.hid (fun w => l00Min_any 16 ((n / 8 : Nat) : Int) (by omega) w)
  have e0 : Int.tdiv (n : Int) 8 = ((n / 8 : Nat) : Int) := by rw [Int.tdiv_eq_ediv_of_nonneg (by omega)]; rfl
  have e2 : ¬ (z : Int) = 0 := by omega
  have e2b : ((z : Int) == 0) = false := by simp; omega
  have a1 : (n : Int) + (z : Int) - 1 = ((n + z - 1 : Nat) : Int) := by omega
  have a2 : Int.tdiv ((n + z - 1 : Nat) : Int) (z : Int) = (((n + z - 1) / z : Nat) : Int) := by rw [Int.tdiv_eq_ediv_of_nonneg (by omega)]; exact (Int.natCast_ediv _ _).symm
  have b0 : ((n / 8 : Nat) : Int) * 12 = ((n / 8 * 12 : Nat) : Int) := by omega
  have b1 : ((n / 8 * 12 : Nat) : Int) + (z : Int) - 1 = ((n / 8 * 12 + z - 1 : Nat) : Int) := by omega
  have b2 : Int.tdiv ((n / 8 * 12 + z - 1 : Nat) : Int) (z : Int) = (((n / 8 * 12 + z - 1) / z : Nat) : Int) := by rw [Int.tdiv_eq_ediv_of_nonneg (by omega)]; exact (Int.natCast_ediv _ _).symm
  have hq : (n + z - 1) / z ≤ 1000000 := Nat.le_trans (Nat.div_le_self _ _) (by omega)
  have hq2 : (n / 8 * 12 + z - 1) / z ≤ 1000000 := Nat.le_trans (Nat.div_le_self _ _) (by omega)
  have hr0 : n / 8 * 12 ≤ 1000000 := by omega
  have hr1 : n / 8 * 12 + z - 1 ≤ 1000000 := by omega
  have hr2 : n / 8 * 12 + z ≤ 1000000 := by omega
  have he : n / 8 ≤ 1000000 := by omega
  have e4 : (1 : Int) + (((n + z - 1) / z : Nat) : Int) = (chDir n z : Int) := by unfold chDir; omega
  have e5 : (chDir n z : Int) + (((n / 8 * 12 + z - 1) / z : Nat) : Int) = (chData n z : Int) := by unfold chData; omega
  have hd2 : chData n z ≤ 1000000 := by
    unfold chData chDir
    have h1 : (n + z - 1) / z ≤ 2000 := Nat.le_trans (Nat.div_le_self _ _) (by omega)
    have h2 : (n / 8 * 12 + z - 1) / z ≤ 2000 := Nat.le_trans (Nat.div_le_self _ _) (by omega)
    omega
  have c1 := (wrap_nat hq).1
  have c1b := (wrap_nat hq).2
  have c2 := (wrap_nat hq2).1
  have c2b := (wrap_nat hq2).2
  have c3 := (wrap_nat hr0).1
  have c4 := (wrap_nat hd2).1
  have c5 := wrap_add hr2
  have c6 := (wrap_nat hr1).1
  have c7 := (wrap_nat he).2
  have c8 := (wrap_nat (show chDir n z ≤ 1000000 from Nat.le_trans (Nat.le_add_right _ _) hd2)).2
  clear hq hq2 hr0 hr1 hr2 he hd2
  generalize (n + z - 1) / z = q1 at *
  generalize (n / 8 * 12 + z - 1) / z = q2 at *
  obtain ⟨r2, hr2e⟩ : ∃ r, n / 8 * 12 + z - 1 = r := ⟨_, rfl⟩
  rw [hr2e] at b1 b2 c6
  clear hr2e
  obtain ⟨r1, hr1e⟩ : ∃ r, n + z - 1 = r := ⟨_, rfl⟩
  rw [hr1e] at a1 a2
  clear hr1e
  obtain ⟨r, hre⟩ : ∃ r, n / 8 * 12 = r := ⟨_, rfl⟩
  rw [hre] at b0 b1 c3 c5
  clear hre
  generalize n / 8 = e at *
  generalize chDir n z = d at *
  generalize chData n z = dd at *
  have HBF := Lib.hid (And.intro b0 (And.intro b1 (And.intro b2 (And.intro e5 (And.intro c2 (And.intro c2b (And.intro c3 (And.intro c4 (And.intro c5 c6)))))))))
  clear b0 b1 b2 e5 c2 c2b c3 c4 c5 c6
  go_enter Tryd.func59, Tryd.ntmps59
  go_wp2_with fail
  refine (MN.out _).mono ?_
  rintro e w1 ⟨rfl, rfl⟩
  go_upto_region 4 with (fail)
  have R1 := Lib.hid ((BoxF.new w #[.int .i64 0, .int .i64 0, .int .i64 0, .int .i64 0, .int .i64 0] 25 _ rfl).below ((Below.refl (w.alloc (.cells #[.int .i64 0, .int .i64 0, .int .i64 0, .int .i64 0, .int .i64 0] 25)).heap.size (w.alloc (.cells #[.int .i64 0, .int .i64 0, .int .i64 0, .int .i64 0, .int .i64 0] 25))).alloc (Nat.le_refl _) (.cells #[.int .i64 (n : Int), .int .i64 (z : Int), .int .i64 (e : Int), .int .i64 (d : Int), .int .i64 0] 25)) (by simp))
  have R2 := Lib.hid (BoxF.new (w.alloc (.cells #[.int .i64 0, .int .i64 0, .int .i64 0, .int .i64 0, .int .i64 0] 25)) #[.int .i64 (n : Int), .int .i64 (z : Int), .int .i64 (e : Int), .int .i64 (d : Int), .int .i64 0] 25 (w.heap.size + 1) (by simp))
  have FB := Lib.hid (((Below.refl w.heap.size w).alloc (Nat.le_refl _) (.cells #[.int .i64 0, .int .i64 0, .int .i64 0, .int .i64 0, .int .i64 0] 25)).alloc (by simp) (.cells #[.int .i64 (n : Int), .int .i64 (z : Int), .int .i64 (e : Int), .int .i64 (d : Int), .int .i64 0] 25))
  have hlt : w.heap.size + 1 < ((w.alloc (.cells #[.int .i64 0, .int .i64 0, .int .i64 0, .int .i64 0, .int .i64 0] 25)).alloc (.cells #[.int .i64 (n : Int), .int .i64 (z : Int), .int .i64 (e : Int), .int .i64 (d : Int), .int .i64 0] 25)).heap.size := by simp
  generalize (w.alloc (.cells #[.int .i64 0, .int .i64 0, .int .i64 0, .int .i64 0, .int .i64 0] 25)).alloc (.cells #[.int .i64 (n : Int), .int .i64 (z : Int), .int .i64 (e : Int), .int .i64 (d : Int), .int .i64 0] 25) = W at *
  have HBX := Lib.hid (fun w' (hb : Below W.heap.size W w') => R2.out.below hb hlt)
  have HC := Lib.hid (show Below W.heap.size W W.drew from (Below.refl _ _).drew)
  obtain ⟨b0, b1, b2, e5, c2, c2b, c3, c4, c5, c6⟩ := HBF.out
  have hz0 : ¬ z = 0 := by omega
  clear a1 a2 c1 c1b e4 e0
  refine wp_region_held_drew (S := (fun w' => w'.cell? ⟨w.heap.size + 1, 2, none⟩ = some (.int .i64 (e : Int)) ∧ w'.cell? ⟨w.heap.size + 1, 3, none⟩ = some (.int .i64 (d : Int)))) (by kernel_rfl) ⟨(HBX.out _ HC.out 2 _ rfl).1, (HBX.out _ HC.out 3 _ rfl).1⟩ (fun hHeld => ?_)
  refine wpAnyH_take (i := 0) (oi := { dst := some 21, op := Op.fieldAddr 25 (Operand.tmp 5) 3, type := 0, pos := "l16_chains.go:16", after := #[], guard := none }) (v := ?_) rfl (by kernel_rfl) (by kernel_rfl) (by kernel_rfl) (fun _ _ _ h => h) (Or.inl ⟨by rfl, ?hy⟩) hHeld ?_
  case hy => (intro w' hSw; (try dsimp only at hSw); go_simp; try with_reducible rfl)
  simp only [Act.put, List.setIfInBounds_toArray, List.set_cons_zero, List.set_cons_succ]
  refine wpAnyH_take (i := 1) (oi := { dst := some 22, op := Op.load 2 (Operand.tmp 21), type := 2, pos := "l16_chains.go:16", after := #[{ on := 0, ground := Ground.data }], guard := none }) (v := ?_) rfl (by kernel_rfl) (by kernel_rfl) (by kernel_rfl) (fun _ _ _ h => h) (Or.inl ⟨by rfl, ?hy⟩) hHeld ?_
  case hy => (intro w' hSw; (try dsimp only at hSw); go_simp; try with_reducible rfl)
  simp only [Act.put, List.setIfInBounds_toArray, List.set_cons_zero, List.set_cons_succ]
  refine wpAnyH_take (i := 2) (oi := { dst := some 23, op := Op.fieldAddr 25 (Operand.tmp 5) 2, type := 0, pos := "l16_chains.go:16", after := #[], guard := none }) (v := ?_) rfl (by kernel_rfl) (by kernel_rfl) (by kernel_rfl) (fun _ _ _ h => h) (Or.inl ⟨by rfl, ?hy⟩) hHeld ?_
  case hy => (intro w' hSw; (try dsimp only at hSw); go_simp; try with_reducible rfl)
  simp only [Act.put, List.setIfInBounds_toArray, List.set_cons_zero, List.set_cons_succ]
  refine wpAnyH_take (i := 3) (oi := { dst := some 24, op := Op.load 2 (Operand.tmp 23), type := 2, pos := "l16_chains.go:16", after := #[{ on := 2, ground := Ground.data }], guard := none }) (v := ?_) rfl (by kernel_rfl) (by kernel_rfl) (by kernel_rfl) (fun _ _ _ h => h) (Or.inl ⟨by rfl, ?hy⟩) hHeld ?_
  case hy => (intro w' hSw; (try dsimp only at hSw); go_simp; try with_reducible rfl)
  simp only [Act.put, List.setIfInBounds_toArray, List.set_cons_zero, List.set_cons_succ]
  refine wpAnyH_take (i := 4) (oi := { dst := some 25, op := Op.binOp BinOp.mul 2 (Operand.tmp 24) (Operand.const (Value.int IntKind.i64 12)) 2, type := 2, pos := "l16_chains.go:16", after := #[{ on := 3, ground := Ground.data }], guard := none }) (v := ?_) rfl (by kernel_rfl) (by kernel_rfl) (by kernel_rfl) (fun _ _ _ h => h) (Or.inl ⟨by rfl, ?hy⟩) hHeld ?_
  case hy => (intro w' hSw; (try dsimp only at hSw); go_simp; try with_reducible rfl)
  simp only [Act.put, List.setIfInBounds_toArray, List.set_cons_zero, List.set_cons_succ]
  refine wpAnyH_take (i := 5) (oi := { dst := some 26, op := Op.move (Operand.tmp 1), type := 2, pos := "l16_chains.go:16", after := #[], guard := none }) (v := ?_) rfl (by kernel_rfl) (by kernel_rfl) (by kernel_rfl) (fun _ _ _ h => h) (Or.inl ⟨by rfl, ?hy⟩) hHeld ?_
  case hy => (intro w' hSw; (try dsimp only at hSw); go_simp; try with_reducible rfl)
  simp only [Act.put, List.setIfInBounds_toArray, List.set_cons_zero, List.set_cons_succ]
  refine wpAnyH_take (i := 6) (oi := { dst := some 27, op := Op.binOp BinOp.add 2 (Operand.tmp 25) (Operand.tmp 26) 2, type := 2, pos := "l16_chains.go:16", after := #[{ on := 4, ground := Ground.data }, { on := 5, ground := Ground.data }], guard := none }) (v := ?_) rfl (by kernel_rfl) (by kernel_rfl) (by kernel_rfl) (fun _ _ _ h => h) (Or.inl ⟨by rfl, ?hy⟩) hHeld ?_
  case hy => (intro w' hSw; (try dsimp only at hSw); go_simp; try with_reducible rfl)
  simp only [Act.put, List.setIfInBounds_toArray, List.set_cons_zero, List.set_cons_succ]
  refine wpAnyH_take (i := 7) (oi := { dst := some 28, op := Op.binOp BinOp.sub 2 (Operand.tmp 27) (Operand.const (Value.int IntKind.i64 1)) 2, type := 2, pos := "l16_chains.go:16", after := #[{ on := 6, ground := Ground.data }], guard := none }) (v := ?_) rfl (by kernel_rfl) (by kernel_rfl) (by kernel_rfl) (fun _ _ _ h => h) (Or.inl ⟨by rfl, ?hy⟩) hHeld ?_
  case hy => (intro w' hSw; (try dsimp only at hSw); go_simp; try with_reducible rfl)
  simp only [Act.put, List.setIfInBounds_toArray, List.set_cons_zero, List.set_cons_succ]
  refine wpAnyH_take (i := 8) (oi := { dst := some 29, op := Op.move (Operand.tmp 1), type := 2, pos := "l16_chains.go:16", after := #[], guard := none }) (v := ?_) rfl (by kernel_rfl) (by kernel_rfl) (by kernel_rfl) (fun _ _ _ h => h) (Or.inl ⟨by rfl, ?hy⟩) hHeld ?_
  case hy => (intro w' hSw; (try dsimp only at hSw); go_simp; try with_reducible rfl)
  simp only [Act.put, List.setIfInBounds_toArray, List.set_cons_zero, List.set_cons_succ]
  refine wpAnyH_take (i := 9) (oi := { dst := some 30, op := Op.binOp BinOp.quo 2 (Operand.tmp 28) (Operand.tmp 29) 2, type := 2, pos := "l16_chains.go:16", after := #[{ on := 7, ground := Ground.data }, { on := 8, ground := Ground.data }], guard := none }) (v := ?_) rfl (by kernel_rfl) (by kernel_rfl) (by kernel_rfl) (fun _ _ _ h => h) (Or.inl ⟨by rfl, ?hy⟩) hHeld ?_
  case hy => (intro w' hSw; (try dsimp only at hSw); go_simp; try with_reducible rfl)
  simp only [Act.put, List.setIfInBounds_toArray, List.set_cons_zero, List.set_cons_succ]
  refine wpAnyH_take (i := 10) (oi := { dst := some 31, op := Op.binOp BinOp.add 2 (Operand.tmp 22) (Operand.tmp 30) 2, type := 2, pos := "l16_chains.go:16", after := #[{ on := 1, ground := Ground.data }, { on := 9, ground := Ground.data }], guard := none }) (v := ?_) rfl (by kernel_rfl) (by kernel_rfl) (by kernel_rfl) (fun _ _ _ h => h) (Or.inl ⟨by rfl, ?hy⟩) hHeld ?_
  case hy => (intro w' hSw; (try dsimp only at hSw); go_simp; try with_reducible rfl)
  simp only [Act.put, List.setIfInBounds_toArray, List.set_cons_zero, List.set_cons_succ]
  refine wpAnyH_take (i := 11) (oi := { dst := some 32, op := Op.fieldAddr 25 (Operand.tmp 5) 4, type := 0, pos := "l16_chains.go:16", after := #[{ on := 0, ground := Ground.phase }, { on := 1, ground := Ground.phase }, { on := 2, ground := Ground.phase }, { on := 3, ground := Ground.phase }, { on := 4, ground := Ground.phase }, { on := 5, ground := Ground.phase }, { on := 6, ground := Ground.phase }, { on := 7, ground := Ground.phase }, { on := 8, ground := Ground.phase }, { on := 9, ground := Ground.phase }, { on := 10, ground := Ground.phase }], guard := none }) (v := ?_) rfl (by kernel_rfl) (by kernel_rfl) (by kernel_rfl) (fun _ _ _ h => h) (Or.inl ⟨by rfl, ?hy⟩) hHeld ?_
  case hy => (intro w' hSw; (try dsimp only at hSw); go_simp; try with_reducible rfl)
  simp only [Act.put, List.setIfInBounds_toArray, List.set_cons_zero, List.set_cons_succ]
  refine wpAnyH_ready (rs := [12]) (by kernel_rfl) (by simp) ?_
  refine AllReadyH.cons (o := { dst := none, op := Op.store 2 (Operand.tmp 32) (Operand.tmp 31), type := 0, pos := "l16_chains.go:16", after := #[{ on := 11, ground := Ground.data }, { on := 10, ground := Ground.data }, { on := 0, ground := Ground.phase }, { on := 1, ground := Ground.phase }, { on := 2, ground := Ground.phase }, { on := 3, ground := Ground.phase }, { on := 4, ground := Ground.phase }, { on := 5, ground := Ground.phase }, { on := 6, ground := Ground.phase }, { on := 7, ground := Ground.phase }, { on := 8, ground := Ground.phase }, { on := 9, ground := Ground.phase }, { on := 10, ground := Ground.phase }], guard := none }) rfl (fun K hK => ?_) AllReadyH.nil
  obtain ⟨a4, z4⟩ := HBX.out _ HC.out 4 _ rfl
  go_simp
  refine hK.out _ _ ⟨((HBX.out _ HC.out).put 4 (.int .i64 (dd : Int)) (by simp) 2 _ rfl).1, ((HBX.out _ HC.out).put 4 (.int .i64 (dd : Int)) (by simp) 3 _ rfl).1⟩ (fun hHeld => ?_)
  clear hK K
  try simp only [Act.put, List.setIfInBounds_toArray, List.set_cons_zero, List.set_cons_succ]
  refine wpAnyH_done (by kernel_rfl) ?_ _
  have R3 : BoxF (W.setCell ⟨w.heap.size + 1, 4, none⟩ (.int .i64 (dd : Int))).drew (w.heap.size + 1) #[.int .i64 (n : Int), .int .i64 (z : Int), .int .i64 (e : Int), .int .i64 (d : Int), .int .i64 (dd : Int)] := (HBX.out _ HC.out).put 4 (.int .i64 (dd : Int)) (by simp)
  have R4 : BoxF (W.setCell ⟨w.heap.size + 1, 4, none⟩ (.int .i64 (dd : Int))).drew w.heap.size #[.int .i64 0, .int .i64 0, .int .i64 0, .int .i64 0, .int .i64 0] := R1.out.kept (heap_setCell_ne _ _ _ _ _ (by omega))
  replace FB := Lib.hid (show Below w.heap.size w (W.setCell ⟨w.heap.size + 1, 4, none⟩ (.int .i64 (dd : Int))).drew from (FB.out.setCell (p := ⟨w.heap.size + 1, 4, none⟩) (show w.heap.size ≤ w.heap.size + 1 by omega) _).drew)
  clear HBX HC R1 R2 hHeld
  try clear a4 z4
  generalize (W.setCell ⟨w.heap.size + 1, 4, none⟩ (.int .i64 (dd : Int))).drew = W2 at *
  obtain ⟨x0, _⟩ := R3 0 _ rfl; obtain ⟨x1, _⟩ := R3 1 _ rfl; obtain ⟨x2, _⟩ := R3 2 _ rfl; obtain ⟨x3, _⟩ := R3 3 _ rfl; obtain ⟨x4, _⟩ := R3 4 _ rfl
  obtain ⟨a0, z0⟩ := R4 0 _ rfl; obtain ⟨a1, z1⟩ := R4 1 _ rfl; obtain ⟨a2, z2⟩ := R4 2 _ rfl; obtain ⟨a3, z3⟩ := R4 3 _ rfl; obtain ⟨a4, z4⟩ := R4 4 _ rfl
  go_wp2
  refine bodyPost_ret (v := .agg #[.int .i64 (n : Int), .int .i64 (z : Int), .int .i64 (e : Int), .int .i64 (d : Int), .int .i64 (dd : Int)]) (by simp [results, Tryd.results59, go_sem, a0, a1, a2, a3, a4]) rfl ⟨rfl, ?_⟩
  exact ((((FB.out.setCell (by simp) _).setCell (by simp) _).setCell (by simp) _).setCell (by simp) _).setCell (by simp) _
theorem chStart_app (a b : UInt8) : (⟨#[67, 72]⟩ : ByteArray) ++ ⟨#[a, b]⟩ = ⟨#[67, 72, a, b]⟩ := by
  apply ByteArray.ext
  simp
set_option maxHeartbeats 2000000 in
theorem l16Head_any (n z : Nat) (d d2 : Int) (w : World) (hn : n ≤ 128) :
    Calls Tryd.prog 60 #[.agg #[.int .i64 (n : Int), .int .i64 (z : Int), .int .i64 ((n / 8 : Nat) : Int), .int .i64 d, .int .i64 d2]] w fun e w' => e = .returned (.string (chTop n)) ∧ Below w.heap.size w w' := by
  have hcb := chCrc_bd (chStart n)
  have CR := Lib.hid (fun w => specCrc16_any (chStart n) 65535 (by show 4 ≤ 1048576; omega) w)
  have PW := Lib.hid (fun w => specPutWord_yes (crcV (chStart n) 65535) w hcb.1 hcb.2)
  have hcv := fun W => conv_new2 W (n : Int) ((n / 8 : Nat) : Int) (by omega) (by omega) (by omega) (by omega)
  simp only [Int.toNat_natCast] at hcv
  have HL := Lib.hid (show (⟨#[67, 72]⟩ : ByteArray) ++ ⟨#[n.toUInt8, (n / 8).toUInt8]⟩ = chStart n from chStart_app _ _)
  have HT := Lib.hid (show chStart n ++ wordBytes (crcV (chStart n) 65535) = chTop n from rfl)
  have s4 : (chStart n).size = 4 := rfl
  have sw : (wordBytes (crcV (chStart n) 65535)).size = 2 := rfl
  generalize chTop n = top at *
  generalize chStart n = st at *
  generalize crcV st 65535 = cv at *
  generalize wordBytes cv = wb at *
  have h2 : (n : Int) < 256 := by omega
  have h3 : n / 8 < 256 := by omega
  generalize n / 8 = q8 at *
  have h4 : (q8 : Int) < 256 := by omega
  have s1 : (⟨#[67, 72]⟩ : ByteArray).size = 2 := rfl
  have f1 : (9223372036854775807 < (⟨#[67, 72]⟩ : ByteArray).size + (⟨#[n.toUInt8, q8.toUInt8]⟩ : ByteArray).size) = False := by rw [s1]; simp [show (⟨#[n.toUInt8, q8.toUInt8]⟩ : ByteArray).size = 2 from rfl]
  have f3 : (9223372036854775807 < st.size + wb.size) = False := by rw [s4, sw]; simp
  clear s1 s4 sw hcb
  generalize n.toUInt8 = u1 at *
  generalize q8.toUInt8 = u2 at *
  have hcw := hcv (w.alloc (.cells #[.int .i64 (n : Int), .int .i64 (z : Int), .int .i64 (q8 : Int), .int .i64 d, .int .i64 d2] 25))
  simp only [World.size_alloc] at hcw
  clear hcv
  go_enter Tryd.func60, Tryd.ntmps60
  go_wp2_with fail
  rw [HL.out]
  refine (CR.out _).mono ?_
  rintro e w1 ⟨rfl, rfl⟩
  go_wp2_with fail
  refine (PW.out _).mono ?_
  rintro e w2 ⟨rfl, hb2⟩
  have FB := Lib.hid (show Below w.heap.size w w2 from Below.trans (((Below.refl w.heap.size w).alloc (Nat.le_refl _) _).alloc (by simp) _) (hb2.mono (by simp; omega)))
  clear hb2
  go_wp2
  go_ret
  exact ⟨by rw [← HT.out]; rfl, FB.out⟩
set_option maxHeartbeats 1000000 in
theorem l16Shape_any (n z : Int) (w : World) :
    Calls Tryd.prog 34 #[.int .i64 n, .int .i64 z] w fun e w' => e = .returned (.bool (inB 8 128 n && sizeI z)) ∧ Below w.heap.size w w' := by
  have IN := Lib.hid (fun w => l00In_any n 8 128 w)
  have CT := Lib.hid (fun (W : World) (h : W = w.alloc (.cells #[.int .i64 8, .int .i64 16, .int .i64 32] 2)) => l00Has_any (some ⟨w.heap.size, 0, none⟩) [8, 16, 32] 3 z W (by decide) (.inr ⟨_, 0, rfl, by subst h; simp, by
    intro i x hx
    subst h
    match i, hx with
    | 0, hx => simp at hx; subst hx; simp [go_sem]
    | 1, hx => simp at hx; subst hx; simp [go_sem]
    | 2, hx => simp at hx; subst hx; simp [go_sem]⟩))
  have HS := Lib.hid (show hasB [8, 16, 32] z = sizeI z by unfold hasB sizeI; simp)
  rw [HS.out] at CT
  generalize inB 8 128 n = q at *
  cases q
  · go_enter Tryd.func34, Tryd.ntmps34
    go_wp2_with fail
    refine (IN.out _).mono ?_
    rintro e w1 ⟨rfl, rfl⟩
    go_wp2
    go_ret
    exact ⟨rfl, Below.refl _ _⟩
  · go_enter Tryd.func34, Tryd.ntmps34
    go_wp2_with fail
    refine (IN.out _).mono ?_
    rintro e w1 ⟨rfl, rfl⟩
    go_wp2_with fail
    refine (CT.out _ rfl).mono ?_
    rintro e w1 ⟨rfl, rfl⟩
    go_wp2
    go_ret
    exact ⟨rfl, (Below.refl _ _).alloc (Nat.le_refl _) _⟩
end Go.Proofs.YthcbekfgkbhpeaaDoor
end
