/- Slices of strings: laws.szStringS, laws.toStringS, laws.eqStringS, and slices of strings among the arguments, opened. -/
import Derived.Test.YthcbekfgkbhpeaaDoorPkChainFromB
import Derived.Test.YthcbekfgkbhpeaaDoorPkChainFromA
import Derived.Laws.RangeAny
import Derived.Laws.RangeString
section
set_option linter.unusedVariables false
namespace Go.Proofs.YthcbekfgkbhpeaaDoor
open Go.RowKit Go.ChangeShapes Go.WideShapes Go.ChangeAt Go.Joins Go.Deep
set_option linter.unusedVariables false
set_option linter.unusedSimpArgs false
structure StringV where
  f0 : ByteArray
def rowString (e : StringV) : List Value := [.string e.f0]
def zeroString : List Value := [.string ByteArray.empty]
theorem rowString_len (e : StringV) : (rowString e).length = 1 := rfl
theorem infoString : (Tryd.prog.info? 9).map (fun i => (i.zero, i.size, i.bytes)) = some (some (.string ByteArray.empty), 1, 16) := by kernel_rfl
section
variable {H : Type} {enc : TypeId × Value → H} {P : Program} {w : World} {base : Nat} {held : Bool}
theorem open_ones {E : Type} {row : E → List Value} {ok : E → Prop} (hn : ∀ e, (row e).length = 1) {t el : TypeId} (ht : P.underlying t = some (.slice el)) (hC : P.cellsOf el = 1)
    (hread : ∀ (c : Value) (m : Nat) (y : DataW H × List MemPlace), DataW.trod enc P w base (fun _ => true) held m el [c] = some y → ∃ e, [c] = row e ∧ ok e)
    {a : Option Addr} {len cap fuel : Nat} {x : DataW H × List MemPlace} (h : DataW.trod enc P w base (fun _ => true) held fuel t [.slice a len cap] = some x) :
    ∃ es : List E, len = es.length ∧ es.length ≤ maxLen ∧ SlS row w a es ∧ ∀ e ∈ es, ok e := by
  rcases open_slice ht h with ⟨hcs, _⟩ | ⟨a', len', cap', m, k, D, Pl, hcs, _, hl, hm, hmm, _, hi⟩
  · simp at hcs
    obtain ⟨rfl, rfl, rfl⟩ := hcs
    exact ⟨[], rfl, by simp, .inl rfl, by simp⟩
  · simp at hcs
    obtain ⟨rfl, rfl, rfl⟩ := hcs
    simp at hmm
    subst hmm
    have each : ∀ i, i < len → ∃ e, ok e ∧ ∀ j v, (row e)[j]? = some v → w.cell? (a'.add (i * 1 + j)) = some v := by
      intro i hil
      obtain ⟨cs, h1, h2⟩ := hi i (by omega)
      rw [hC] at h1
      obtain ⟨_, hlen, hat⟩ := World.cells?_some h1
      match cs, hlen with
      | [c], _ =>
        obtain ⟨e, he, hok⟩ := hread c _ _ h2
        refine ⟨e, hok, fun j v hv => ?_⟩
        have hj : j < 1 := by rw [← hn e]; exact (List.getElem?_eq_some_iff.1 hv).1
        have := hat j (by simpa using hj)
        rw [add_add] at this
        rw [this, he]; exact hv
    obtain ⟨es, hlen, hp⟩ := list_of len each
    refine ⟨es, hlen.symm, by omega, ?_, fun e hx => ?_⟩
    · cases hes : es with
      | nil => exact .inl rfl
      | cons e0 r =>
        right
        obtain ⟨b, off, spot⟩ := a'
        have hfst := (hp 0 e0 (by simp [hes])).2 0 _ (List.getElem?_eq_getElem (by rw [hn]; omega))
        have hspot : spot = none := by simpa [Addr.add] using World.cell?_spot hfst
        subst hspot
        refine ⟨b, off, rfl, World.block_lt_of_cell? w _ (by rw [add_plain] at hfst; exact hfst), ?_⟩
        rw [← hes]
        intro i v hv
        have hlt := (List.getElem?_eq_some_iff.1 hv).1
        rw [flatten_len (rows_len hn es), List.length_map] at hlt
        have hk : es[i]? = some (es[i]'(by omega)) := List.getElem?_eq_getElem _
        have h3 := flatten_at (rows_len hn es) (k := i) (r := row (es[i]'(by omega))) (by simp [hk]) (j := 0) (by omega)
        have ei : i * 1 + 0 = i := by omega
        rw [ei] at h3
        have h4 := (hp _ _ hk).2 0 v (by rw [← h3]; exact hv)
        rw [ei, add_plain] at h4
        exact h4
    · obtain ⟨i, hi⟩ := List.getElem?_of_mem hx
      exact (hp i e hi).1
end
theorem cellsString : Tryd.prog.cellsOf 9 = 1 := by kernel_rfl
set_option maxRecDepth 100000 in
theorem readStringS {H : Type} {enc : TypeId × Value → H} {W : World} {fuel : Nat} {y : DataW H × List MemPlace} {a0 : Option Addr} {len0 cap0 : Nat}
    (hf1 : DataW.trod enc Tryd.prog W 0 (fun _ => true) true fuel 22 [.slice a0 len0 cap0] = some y) :
    ∃ es : List StringV, len0 = es.length ∧ es.length ≤ maxLen ∧ SlS rowString W a0 es ∧ ∀ e ∈ es, e.f0.size ≤ maxLen := by
  obtain ⟨es, rfl, hm, hs, hx⟩ := open_ones (enc := enc) (P := Tryd.prog) (w := W) (base := 0) (held := true) (a := a0) (len := len0) (cap := cap0) (row := rowString) (ok := fun e : StringV => e.f0.size ≤ maxLen) rowString_len Tryd.underlying22 cellsString (by
    intro c m y hc
    obtain ⟨x0, rfl, s0⟩ := string_cell Tryd.underlying9 hc
    exact ⟨⟨x0⟩, rfl, s0⟩) hf1
  exact ⟨es, rfl, hm, hs, hx⟩
set_option maxRecDepth 100000 in
theorem open_StringS {H : Type} {enc : TypeId × Value → H} {W : World} {base : Nat} {v : Value} {d : DataW H} {p : List MemPlace}
    (hv : Value.okWide Tryd.prog W .any base 22 v) (h : DataW.Trod enc Tryd.prog W 0 (fun _ => true) true 22 v d p) :
    ∃ (a : Option Addr) (es : List StringV) (cap : Nat), v = .slice a es.length cap ∧ RecArg rowString W a es ∧ ∀ e ∈ es, e.f0.size ≤ maxLen := by
  obtain ⟨a0, len0, cap0, rfl⟩ := okWide_slice Tryd.underlying22 hv
  obtain ⟨fuel, hf⟩ := h
  obtain ⟨es, rfl, hm, hs, hx⟩ := readStringS (by simpa [Value.cells] using hf)
  exact ⟨a0, es, cap0, rfl, ⟨hm, hs⟩, hx⟩
def wtString (es : List StringV) : Nat := es.length + (es.map fun e => e.f0.size).sum
theorem wtString_len (es : List StringV) : es.length ≤ wtString es := Nat.le_add_right _ _
theorem wtString_at {es : List StringV} {m : Nat} (h : wtString es ≤ m) : ∀ e ∈ es, e.f0.size ≤ m := by
  intro e he
  unfold wtString at h
  have : e.f0.size ≤ (es.map fun e => e.f0.size).sum := le_sum_of_mem (List.mem_map.2 ⟨e, he, rfl⟩)
  omega
set_option maxHeartbeats 2000000 in
theorem szStringS_any (a : Option Addr) (es : List StringV) (c left : Nat) (w : World) (hl : left ≤ 1048576) (hm : es.length ≤ maxLen) (hs : ∀ e ∈ es, e.f0.size ≤ maxLen) (h : SlS rowString w a es) :
    Calls Tryd.prog 9 #[.slice a es.length c, .int .i64 (left : Nat)] w fun x w' => x = .returned (.int .i64 (szV left (wtString es))) ∧ Below w.heap.size w w' := by
  unfold maxLen at hm
  by_cases h9 : es.length ≤ left
  · have h0 : ¬ ((left : Int) - (es.length : Int) < 0) := by omega
    have HW := Lib.hid (show ∀ k, wtString es = es.length + ((es.take k).map fun e => e.f0.size).sum + ((es.drop k).map fun e => e.f0.size).sum from fun k => by
      unfold wtString
      rw [Nat.add_assoc, ← List.sum_append_nat, ← List.map_append, List.take_append_drop])
    go_enter Tryd.func9, Tryd.ntmps9
    go_wp2
    go_loopw [1, 5] (fun l i wr => ∃ k m : Nat, k ≤ es.length ∧ i = .int .i64 k ∧ l = .int .i64 m ∧ m ≤ 1048576 ∧ Hid (m + (es.length + ((es.take k).map fun e => e.f0.size).sum) = left) ∧ Below w.heap.size w wr) (fun _ i _ => es.length - (intOf i).toNat)
    case atStart => exact ⟨0, left - es.length, Nat.zero_le _, rfl, by rw [show ((left - es.length : Nat) : Int) = (left : Int) - es.length by omega], by omega, by unfold Hid; simp; omega, Below.refl _ _⟩
    case round =>
      obtain ⟨k, m, hk, rfl, rfl, hm2, hS, hb⟩ := hrel
      by_cases hlt : k < es.length
      · obtain ⟨e, hx⟩ : ∃ e, es[k]? = some e := ⟨es[k], by simp [hlt]⟩
        obtain ⟨b, off, rfl, hbl, hc⟩ := (h.below hb (Nat.le_refl _)).at rowString_len hx
        have c0 : wr.cell? ⟨b, off + k * 1, none⟩ = some (.string e.f0) := hc 0 _ rfl
        rw [Nat.mul_one] at c0
        have hse := hs e (List.mem_of_getElem? hx)
        unfold maxLen at hse
        have HS := Lib.hid hs
        have H := Lib.hid (And.intro h (And.intro hc hx)); clear h hc hx hs
        by_cases hq : e.f0.size ≤ m
        · have hq0 : ¬ ((m : Int) - (e.f0.size : Int) < 0) := by omega
          obtain ⟨q, hqq⟩ : ∃ q : Nat, m = e.f0.size + q := ⟨m - e.f0.size, by omega⟩
          have hqi : (m : Int) - (e.f0.size : Int) = (q : Int) := by omega
          have HQ := Lib.hid hq; have HQQ := Lib.hid hqq; have hq1 : q ≤ 1048576 := by omega
          clear hq hqq
          go_wp2
          go_roundw
          case rel =>
            refine ⟨k + 1, q, by omega, by go_num, rfl, hq1, ?_, hb⟩
            unfold Hid
            rw [List.take_add_one, H.out.2.2]
            have h1 := hS.out; have h2 := HQ.out; have h3 := HQQ.out
            simp only [Option.toList_some, List.map_append, List.map_cons, List.map_nil, List.sum_append_nat, List.sum_cons, List.sum_nil]
            omega
          case measure => simp [intOf]; omega
        · have hq0 : (m : Int) - (e.f0.size : Int) < 0 := by omega
          have HQ := Lib.hid hq; clear hq
          go_wp2
          go_ret
          refine ⟨ret_int ?_, hb⟩
          unfold szV
          rw [if_neg ?_]
          rw [HW.out (k + 1), List.take_add_one, H.out.2.2]
          have h1 := hS.out; have h2 := HQ.out
          simp only [Option.toList_some, List.map_append, List.map_cons, List.map_nil, List.sum_append_nat, List.sum_cons, List.sum_nil]
          omega
      · obtain rfl : k = es.length := by omega
        go_wp2
        go_ret
        refine ⟨ret_int ?_, hb⟩
        have h1 := hS.out; have h2 := HW.out es.length
        simp only [List.take_length, List.drop_length, List.map_nil, List.sum_nil] at h1 h2
        unfold szV
        rw [if_pos (by omega)]
        omega
  · have h0 : (left : Int) - (es.length : Int) < 0 := by omega
    have HE := Lib.hid (show szV left (wtString es) = -1 by unfold szV; rw [if_neg (by have := wtString_len es; omega)])
    go_enter Tryd.func9, Tryd.ntmps9
    go_wp2
    go_ret
    exact ⟨ret_int HE.out.symm, Below.refl _ _⟩
theorem run_make_strings (n : Nat) (hbytes : 16 * n ≤ 281474976710656) (w : World) :
    (Instr.makeSlice 22 (.int .i64 (n : Int)) (.int .i64 (n : Int))).run Tryd.prog w = .ok (.slice (some ⟨w.heap.size, 0, none⟩) n n) (w.alloc (.cells (List.replicate n zeroString).flatten.toArray 9)) := by
  obtain ⟨i, hi, hzz⟩ := Option.map_eq_some_iff.1 infoString
  simp only [Prod.mk.injEq] at hzz
  obtain ⟨hz1, hs, hb⟩ := hzz
  have hb2 : ((i.bytes : Int) * n) ≤ 281474976710656 := by rw [hb]; omega
  have hr := run_make (P := Tryd.prog) w 22 9 i _ Tryd.underlying22 hi hz1 .i64 .i64 n n (by omega) (by omega) hb2 (by omega)
  rw [hr]
  have e1 : (Value.string ByteArray.empty).cells = zeroString.toArray := rfl
  rw [e1, hs, Int.toNat_natCast]
  have e2 : n * 1 = n * zeroString.length := rfl
  rw [e2, made_flatten zeroString n (by simp [zeroString])]
set_option maxHeartbeats 4000000 in
theorem toStringS_any (a : Option Addr) (es : List StringV) (c : Nat) (w : World) (hl : es.length ≤ 1048576) (h : SlS rowString w a es) :
    Calls Tryd.prog 11 #[.slice a es.length c] w (ToRecs rowString 9 es w) := by
  have hmk := fun w => run_make_strings es.length (by omega) w
  go_enter Tryd.func11, Tryd.ntmps11
  go_wp2
  clear hmk
  go_loopw [4] (fun i wr => ∃ k : Nat, k ≤ es.length ∧ i = .int .i64 k ∧ Hid (wr.heap[w.heap.size]? = some (.cells (cpS rowString zeroString es k).toArray 9 (0, 0))) ∧ Below w.heap.size w wr ∧ w.heap.size < wr.heap.size) (fun i _ => es.length - (intOf i).toNat)
  case atStart => exact ⟨0, Nat.zero_le _, rfl, by unfold Hid; rw [← cpS_zero]; exact heap_alloc_new w _, (Below.refl _ _).alloc (Nat.le_refl _) _, by simp⟩
  case round =>
    obtain ⟨k, hk, rfl, hB, hb, hgt⟩ := hrel
    by_cases hlt : k < es.length
    · obtain ⟨e, hx⟩ : ∃ e, es[k]? = some e := ⟨es[k], by simp [hlt]⟩
      obtain ⟨b, off, rfl, hbl, hc⟩ := (h.below hb (Nat.le_refl _)).at rowString_len hx
      have c0 : wr.cell? ⟨b, off + k * 1, none⟩ = some (.string e.f0) := hc 0 _ rfl
      rw [Nat.mul_one] at c0
      have H := Lib.hid (And.intro h (And.intro hc hx)); clear h hc hx
      have hB1 := hB.out
      have hlen := cpS_size (zero := zeroString) rowString_len rfl hk
      have hcell : ∃ v, wr.cell? ⟨w.heap.size, k, none⟩ = some v := by
        have : (cpS rowString zeroString es k)[k]?.isSome = true := by simp [hlen]; omega
        obtain ⟨v, hv⟩ := Option.isSome_iff_exists.1 this
        exact ⟨v, by simp [World.cell?, hB1, hv]⟩
      obtain ⟨o0, d0⟩ := hcell
      have z0 : wr.frozen? ⟨w.heap.size, k, none⟩ = false := by simp [World.frozen?, hB1]
      have HB := Lib.hid (And.intro hB1 (And.intro hb hlen)); clear hB hB1 hb hlen hbl
      go_wp2
      go_roundw
      case rel =>
        obtain ⟨hB1, hb, hlen⟩ := HB.out
        obtain ⟨h, hc, hx⟩ := H.out
        refine ⟨k + 1, by omega, by go_num, ?_, ?_, ?_⟩
        · unfold Hid
          rw [← cpS_succ (zero := zeroString) rowString_len rfl hx, Nat.mul_one]
          exact heap_setCells _ _ (rowString e) k wr _ hB1
        · exact below_setCells _ (Nat.le_refl _) (rowString e) k w wr hb
        · exact Nat.lt_of_lt_of_le hgt (below_setCells (B := 0) w.heap.size (Nat.zero_le _) (rowString e) k wr wr (Below.refl _ _)).size
      case measure => simp [intOf]; omega
    · obtain rfl : k = es.length := by omega
      go_wp2
      go_ret
      exact ⟨_, rfl, by have := hB.out; rw [cpS_all] at this; exact this, Nat.le_refl _, hb⟩
set_option maxHeartbeats 4000000 in
theorem eqStringS_any (r : Bool) (a b : Option Addr) (xs ys : List StringV) (c d : Nat) (w : World) (hr : r = true ↔ xs = ys) (hx : xs.length ≤ 4194304) (hy : ys.length ≤ 4194304) (h1 : SlS rowString w a xs) (h2 : SlS rowString w b ys) :
    Calls Tryd.prog 14 #[.slice a xs.length c, .slice b ys.length d] w fun e w' => e = .returned (.bool r) ∧ Below w.heap.size w w' := by
  have HR := Lib.hid hr; clear hr
  by_cases hl : xs.length = ys.length
  · have hne : ((xs.length : Int) != ys.length) = false := by simp; omega
    have HL := Lib.hid hl; clear hl
    go_enter Tryd.func14, Tryd.ntmps14
    go_wp2
    go_loopw [5] (fun i wr => ∃ k : Nat, k ≤ xs.length ∧ i = .int .i64 k ∧ Hid (xs.take k = ys.take k) ∧ Below w.heap.size w wr) (fun i _ => xs.length - (intOf i).toNat)
    case atStart => exact ⟨0, Nat.zero_le _, rfl, by unfold Hid; rfl, Below.refl _ _⟩
    case round =>
      obtain ⟨k, hk, rfl, hT, hb⟩ := hrel
      have h1' := h1.below hb (Nat.le_refl _)
      have h2' := h2.below hb (Nat.le_refl _)
      by_cases hlt : k < xs.length
      · have hly : k < ys.length := by have := HL.out; omega
        obtain ⟨⟨x⟩, hxk⟩ : ∃ e, xs[k]? = some e := ⟨xs[k], by simp [hlt]⟩
        obtain ⟨⟨y⟩, hyk⟩ : ∃ e, ys[k]? = some e := ⟨ys[k], by simp [hly]⟩
        obtain ⟨bx, ox, rfl, hlx, hcx⟩ := h1'.at rowString_len hxk
        obtain ⟨b2, o2, rfl, hly2, hcy⟩ := h2'.at rowString_len hyk
        have c0 : wr.cell? ⟨bx, ox + k * 1, none⟩ = some (.string x) := hcx 0 _ rfl
        have d0 : wr.cell? ⟨b2, o2 + k * 1, none⟩ = some (.string y) := hcy 0 _ rfl
        rw [Nat.mul_one] at c0 d0
        have HX := Lib.hid hxk; have HY := Lib.hid hyk; clear hxk hyk
        have e1 : (k : Int) < xs.length := by omega
        have e2 : (k : Int) < ys.length := by omega
        have H1 := Lib.hid (And.intro h1 (And.intro h1' hcx)); have H2 := Lib.hid (And.intro h2 (And.intro h2' hcy)); clear h1 h1' h2 h2' hcx hcy hlx hly2
        by_cases hq : x = y
        · subst hq
          have hne2 : (x.toList == x.toList) = true := by simp
          go_wp2
          go_quiet (fail)
          go_wp2
          go_roundw
          case rel => exact ⟨k + 1, by omega, by go_num, by unfold Hid; rw [List.take_add_one, List.take_add_one, HX.out, HY.out, hT.out], below_drewN' hb _⟩
          case measure => simp [intOf]; omega
        · have hne2 := toList_ne2 hq
          have HQ := Lib.hid hq; clear hq
          go_wp2
          go_quiet (fail)
          go_wp2
          go_ret
          refine ⟨ret_bool ?_, below_drewN' hb _⟩
          cases r with
          | false => rfl
          | true =>
          exfalso
          have e := HR.out.1 rfl
          have h3 := HX.out
          rw [e, HY.out] at h3
          have h4 := (Option.some.inj h3).symm
          exact HQ.out (by injection h4)
      · go_wp2
        go_ret
        refine ⟨ret_bool ?_, hb⟩
        obtain rfl : k = xs.length := by omega
        exact (HR.out.2 (take_eq HL.out hT.out)).symm
  · have hne : ((xs.length : Int) != ys.length) = true := by simp; omega
    have HQ := Lib.hid (show r = false by
      cases r with
      | false => rfl
      | true => exact absurd (by rw [HR.out.1 rfl]) hl)
    go_enter Tryd.func14, Tryd.ntmps14
    go_wp2
    go_ret
    exact ⟨ret_bool HQ.out.symm, Below.refl _ _⟩
end Go.Proofs.YthcbekfgkbhpeaaDoor
end
section
set_option linter.unusedVariables false
namespace Go.Proofs.YthcbekfgkbhpeaaDoor
open Go.RowKit
set_option maxRecDepth 20000
def isCell (c : UInt8) : Bool := c == 48 || c == 49
def cellsL (l : List UInt8) : Bool := l.all isCell
/-- 1 to 8000 characters 0 and 1. -/
def validCells (s : ByteArray) : Bool := cellsL s.data.toList && inB 1 8000 s.size
theorem cellsL_snoc (s : ByteArray) (k : Nat) (h : k < s.size) : cellsL (s.data.toList.take (k + 1)) = (cellsL (s.data.toList.take k) && isCell s[k]) := by
  have e : s.data.toList.take (k + 1) = s.data.toList.take k ++ [s[k]] := by rw [List.take_succ_eq_append_getElem (by simpa using h)]; rfl
  rw [e]; simp [cellsL]
theorem cellsL_no (s : ByteArray) (k : Nat) (h : k < s.size) (hc : isCell s[k] = false) : cellsL s.data.toList = false := by
  unfold cellsL
  rw [List.all_eq_false]
  exact ⟨s[k], by show s.data[k] ∈ _; simp, by simp [hc]⟩
theorem take_ge' (s : ByteArray) (k : Nat) (h : s.size ≤ k) : s.data.toList.take k = s.data.toList := by
  refine List.take_of_length_le ?_
  have : s.data.toList.length = s.size := by simp
  omega
theorem isCell_iff (c : UInt8) : isCell c = true ↔ c.toNat = 48 ∨ c.toNat = 49 := by
  unfold isCell
  simp only [Bool.or_eq_true, beq_iff_eq, ← UInt8.toNat_inj]
  rfl
/-- The rune at a byte that is no cell is no cell. -/
theorem rune_no (s : ByteArray) (pos : Nat) (h : pos < s.size) (hc : isCell s[pos] = false) : (Utf8.decode s pos).1 ≠ 48 ∧ (Utf8.decode s pos).1 ≠ 49 := by
  have h1 : ¬ (s[pos].toNat = 48 ∨ s[pos].toNat = 49) := by rw [← isCell_iff]; simp [hc]
  by_cases ha : s[pos].toNat < 128
  · rw [decode_ascii s pos h ha]
    exact ⟨fun e => h1 (.inl e), fun e => h1 (.inr e)⟩
  · have := (decode_high s pos h (by omega)).1
    omega
end Go.Proofs.YthcbekfgkbhpeaaDoor
end
section
set_option linter.unusedVariables false
namespace Go.Proofs.YthcbekfgkbhpeaaDoor
open Go.RowKit
end Go.Proofs.YthcbekfgkbhpeaaDoor
end
section
set_option linter.unusedVariables false
namespace Go.Proofs.YthcbekfgkbhpeaaDoor
open Go.RowKit
set_option linter.unusedVariables false
def len0 (xs : List StringV) : Nat := ((xs[0]?).map (fun e => e.f0.size)).getD 0
def allCells (xs : List StringV) : Bool := xs.all (fun e => validCells e.f0)
def allLen (n : Nat) (xs : List StringV) : Bool := xs.all (fun e => decide (e.f0.size = n))
def revOk (xs : List StringV) : Bool := inB 1 5 xs.length && (allCells xs && allLen (len0 xs) xs)
theorem all_take_snocE {E : Type} {p : E → Bool} {zs : List E} {k : Nat} {x : E} (h : zs[k]? = some x) : (zs.take (k+1)).all p = ((zs.take k).all p && p x) := by
  rw [List.take_add_one, h]; simp
theorem all_false_ofE {E : Type} {p : E → Bool} {zs : List E} {k : Nat} {x : E} (h : zs[k]? = some x) (hp : p x = false) : zs.all p = false := by
  rw [List.all_eq_false]
  exact ⟨x, List.mem_of_getElem? h, by simp [hp]⟩
set_option maxHeartbeats 1000000 in
theorem isOne1_any (s : ByteArray) (p b off n c : Nat) (e0 : ByteArray) (w : World) (hs : s.size ≤ maxLen) (he : e0.size ≤ maxLen) (hn : 0 < n) (hp : w.cell? ⟨p, 0, none⟩ = some (.slice (some ⟨b, off, none⟩) n c)) (h0 : w.cell? ⟨b, off, none⟩ = some (.string e0)) :
    Calls Tryd.prog 78 #[.string s, .pointer (some ⟨p, 0, none⟩)] w fun x w' => x = .returned (.bool (decide (s.size = e0.size))) ∧ w = w' := by
  unfold maxLen at hs he
  by_cases hq : s.size = e0.size
  · have hd : ((s.size : Int) == (e0.size : Int)) = true := by simp; omega
    have HD := Lib.hid (show decide (s.size = e0.size) = true by simp [hq]); clear hq
    go_enter Tryd.func78, Tryd.ntmps78
    go_wp2
    go_ret
    exact ⟨ret_bool HD.out.symm, rfl⟩
  · have hd : ((s.size : Int) == (e0.size : Int)) = false := by rw [beq_eq_false_iff_ne]; omega
    have HD := Lib.hid (show decide (s.size = e0.size) = false by simp [hq]); clear hq
    go_enter Tryd.func78, Tryd.ntmps78
    go_wp2
    go_ret
    exact ⟨ret_bool HD.out.symm, rfl⟩
set_option maxHeartbeats 1000000 in
theorem everyOne_any (a : Option Addr) (es : List StringV) (c p : Nat) (w : World) (hm : es.length ≤ 1048576) (hs : ∀ e ∈ es, e.f0.size ≤ maxLen) (hp : w.cell? ⟨p, 0, none⟩ = some (.slice a es.length c)) (h : SlS rowString w a es) :
    Calls Tryd.prog 77 #[.slice a es.length c, .func (.func 78) #[] #[.pointer (some ⟨p, 0, none⟩)]] w fun x w' => x = .returned (.bool (allLen (len0 es) es)) ∧ Below w.heap.size w w' := by
  have hplt := World.block_lt_of_cell? w _ hp
  have HP := Lib.hid hp; clear hp
  go_enter Tryd.func77, Tryd.ntmps77
  go_wp2
  go_loopw [9] (fun i wr => ∃ (k : Nat), k ≤ es.length ∧ i = .int .i64 k ∧ Hid (allLen (len0 es) (es.take k) = true) ∧ Below w.heap.size w wr) (fun i _ => es.length - (intOf i).toNat)
  case atStart => exact ⟨0, Nat.zero_le _, rfl, by unfold Hid; rfl, Below.refl _ _⟩
  case round =>
    obtain ⟨k, hk, rfl, hR, hb⟩ := hrel
    by_cases hlt2 : k < es.length
    · obtain ⟨e, hx⟩ : ∃ e, es[k]? = some e := ⟨es[k], by simp [hlt2]⟩
      obtain ⟨e0, hx0⟩ : ∃ e, es[0]? = some e := ⟨es[0], by simp⟩
      have hl0 : len0 es = e0.f0.size := by unfold len0; rw [hx0]; rfl
      have hsl := h.below hb (Nat.le_refl _)
      obtain ⟨b, off, rfl, hbl, hc⟩ := hsl.at rowString_len hx
      have c0 : wr.cell? ⟨b, off + k * 1, none⟩ = some (.string e.f0) := hc 0 _ rfl
      rw [Nat.mul_one] at c0
      obtain ⟨b', off', eq', _, hc'⟩ := hsl.at rowString_len hx0
      cases eq'
      have d0 : wr.cell? ⟨b, off, none⟩ = some (.string e0.f0) := by have := hc' 0 _ rfl; simpa using this
      have CL := Lib.hid (isOne1_any e.f0 p b off es.length c e0.f0 wr (hs e (List.mem_of_getElem? hx)) (hs e0 (List.mem_of_getElem? hx0)) (by omega) (by rw [hb.cell (p := ⟨p, 0, none⟩) hplt]; exact HP.out) d0)
      have H := Lib.hid (And.intro h (And.intro hc (And.intro hx hs))); clear h hc hx hs hsl d0 hc' hx0
      rw [← hl0] at CL
      have HL0 := Lib.hid hl0; clear hl0
      obtain ⟨q, hq⟩ : ∃ q, decide (e.f0.size = len0 es) = q := ⟨_, rfl⟩
      rw [hq] at CL
      have HQ := Lib.hid hq; clear hq
      cases q with
      | false =>
        have HR := Lib.hid (show allLen (len0 es) es = false from all_false_ofE H.out.2.2.1 HQ.out)
        go_wp2_with fail
        refine CL.out.mono ?_
        rintro e_ w1 ⟨rfl, rfl⟩
        go_wp2
        go_ret
        exact ⟨ret_bool HR.out.symm, hb⟩
      | true =>
        go_wp2_with fail
        refine CL.out.mono ?_
        rintro e_ w1 ⟨rfl, rfl⟩
        clear c0
        go_wp2
        go_roundw
        case rel => exact ⟨k + 1, by omega, by go_num, by unfold Hid allLen; rw [all_take_snocE H.out.2.2.1, HQ.out]; have := hR.out; unfold allLen at this; rw [this]; rfl, hb⟩
        case measure => simp [intOf]; omega
    · obtain rfl : k = es.length := by omega
      have HR := Lib.hid (show allLen (len0 es) es = true by have := hR.out; rwa [List.take_length] at this)
      go_wp2
      go_ret
      exact ⟨ret_bool HR.out.symm, hb⟩
set_option maxHeartbeats 1000000 in
theorem isOneLength_any (a : Option Addr) (es : List StringV) (c : Nat) (w : World) (hm : es.length ≤ 1048576) (hs : ∀ e ∈ es, e.f0.size ≤ maxLen) (h : SlS rowString w a es) :
    Calls Tryd.prog 61 #[.slice a es.length c] w fun x w' => x = .returned (.bool (allLen (len0 es) es)) ∧ Below w.heap.size w w' := by
  have EV := Lib.hid (fun w' (hb : Below w.heap.size w w') hp => everyOne_any a es c w.heap.size w' hm hs hp (h.below hb (Nat.le_refl _)))
  clear h hs
  go_enter Tryd.func61, Tryd.ntmps61
  go_wp2_with (go_at_call 77; refine (EV.out _ ((Below.refl _ _).alloc (Nat.le_refl _) _) (cell_new w _ _)).mono ?_; rintro e w1 ⟨rfl, hb1⟩)
  go_ret
  exact ⟨rfl, Below.trans (by go_grown) (hb1.mono (by simp))⟩
theorem within_r (lo hi n : Int) (w : World) (T : TypeId) (b : Nat) (hb : w.heap.size = b) :
    Calls Tryd.prog 37 #[.int .i64 lo, .int .i64 hi, .slice (some ⟨b, 0, none⟩) 1 1] (w.alloc (.cells #[.int .i64 n] T)) fun e w' => e = .returned (.bool (inB lo hi n)) ∧ Below w.heap.size w w' :=
  (within_at lo hi n w T b hb).mono fun e w' ⟨he, hw⟩ => ⟨he, by rw [← hw]; exact (Below.refl _ _).alloc (Nat.le_refl _) _⟩
end Go.Proofs.YthcbekfgkbhpeaaDoor
end
section
set_option linter.unusedVariables false
namespace Go.Proofs.YthcbekfgkbhpeaaDoor
open Go.RowKit Go.ChangeShapes Go.WideShapes Go.ChangeAt Go.Joins Go.Deep
set_option linter.unusedVariables false
set_option linter.unusedSimpArgs false
structure ExtentLayoutV where
  f0 : Int
  f1 : Int
  f2 : Int
  f3 : Int
def rowExtentLayout (e : ExtentLayoutV) : List Value := [.int .i64 e.f0, .int .i64 e.f1, .int .i64 e.f2, .int .i64 e.f3]
def zeroExtentLayout : List Value := [.int .i64 0, .int .i64 0, .int .i64 0, .int .i64 0]
theorem rowExtentLayout_len (e : ExtentLayoutV) : (rowExtentLayout e).length = 4 := rfl
def wtExtentLayout (es : List ExtentLayoutV) : Nat := es.length
theorem wtExtentLayout_len (es : List ExtentLayoutV) : es.length ≤ wtExtentLayout es := Nat.le_refl _
def sameExtentLayout (x y : ExtentLayoutV) : Bool := (x.f0 == y.f0) && (x.f1 == y.f1) && (x.f2 == y.f2) && (x.f3 == y.f3)
theorem sameExtentLayout_iff {x y : ExtentLayoutV} : sameExtentLayout x y = true ↔ x = y := by
  cases x; cases y
  simp [sameExtentLayout, and_assoc]
end Go.Proofs.YthcbekfgkbhpeaaDoor
end
section
set_option linter.unusedVariables false
namespace Go.Proofs.YthcbekfgkbhpeaaDoor
open Go.RowKit
set_option linter.unusedVariables false
/-- s, and the same byte behind it up to n bytes. -/
def padB (s : ByteArray) (n : Nat) (c : UInt8) : ByteArray := s ++ ⟨(List.replicate (n - s.size) c).toArray⟩
theorem padB_size {s : ByteArray} {n : Nat} {c : UInt8} (h : s.size ≤ n) : (padB s n c).size = n := by
  unfold padB
  rw [ByteArray.size_append]
  show s.size + (List.replicate (n - s.size) c).toArray.size = n
  simp
  omega
def sizeB (n : Nat) : Bool := decide (n = 8) || (decide (n = 16) || decide (n = 32))
theorem sizeB_iff {n : Nat} : sizeB n = true ↔ n = 8 ∨ n = 16 ∨ n = 32 := by unfold sizeB; simp
def sizeI (n : Int) : Bool := decide (n = 8) || (decide (n = 16) || decide (n = 32))
theorem sizeI_iff {n : Int} : sizeI n = true ↔ n = 8 ∨ n = 16 ∨ n = 32 := by unfold sizeI; simp
theorem sizeI_nat (n : Nat) : sizeI (n : Int) = sizeB n := by
  apply Bool.eq_iff_iff.2
  rw [sizeI_iff, sizeB_iff]
  omega
/-- A list of 8 to 128 blocks of the same size, 8, 16 or 32 bytes. -/
def diskB (es : List StringV) : Bool := inB 8 128 es.length && (allLen (len0 es) es && sizeB (len0 es))
theorem diskB_facts {es : List StringV} (h : diskB es = true) : (8 ≤ es.length ∧ es.length ≤ 128) ∧ (∀ e ∈ es, e.f0.size = len0 es) ∧ (len0 es = 8 ∨ len0 es = 16 ∨ len0 es = 32) := by
  unfold diskB allLen at h
  simp only [Bool.and_eq_true, inB_iff, List.all_eq_true, decide_eq_true_eq, sizeB_iff] at h
  obtain ⟨h1, h2, h3⟩ := h
  exact ⟨by omega, h2, h3⟩
def blkAt (es : List StringV) (k : Nat) : ByteArray := ((es[k]?).map (fun e => e.f0)).getD ByteArray.empty
theorem blkAt_of {es : List StringV} {k : Nat} {e : StringV} (h : es[k]? = some e) : blkAt es k = e.f0 := by unfold blkAt; rw [h]; rfl
/-- The first block of a disk with extents of n blocks of z bytes. -/
def exHead (n z : Nat) : ByteArray := padB ⟨#[69, 88, n.toUInt8, z.toUInt8, (n / 4).toUInt8]⟩ z 0
def exData (n z : Nat) : Nat := 1 + (n / 4 * 16 + z - 1) / z
def exOn (es : List StringV) : Bool := diskB es && decide (blkAt es 0 = exHead es.length (len0 es))
theorem exOn_facts {es : List StringV} (h : exOn es = true) : diskB es = true ∧ blkAt es 0 = exHead es.length (len0 es) := by
  unfold exOn at h
  simpa using h
def exC (es : List StringV) : Int := if exOn es = true then 0 else 7
def exL (es : List StringV) : ExtentLayoutV := if exOn es = true then ⟨(es.length : Int), (len0 es : Int), ((es.length / 4 : Nat) : Int), (exData es.length (len0 es) : Int)⟩ else ⟨0, 0, 0, 0⟩
theorem exHead_size {n z : Nat} (h : z = 8 ∨ z = 16 ∨ z = 32) : (exHead n z).size = z := by
  unfold exHead
  apply padB_size
  show 5 ≤ z
  omega
theorem padB_empty (n : Nat) : padB ⟨#[]⟩ n 0 = ⟨(List.replicate n (0 : UInt8)).toArray⟩ := by
  unfold padB
  apply ByteArray.ext
  rw [show (⟨#[]⟩ : ByteArray).size = 0 from rfl]
  simp
/-- n blocks of z zero bytes, but for the first one. -/
def blankL (n z : Nat) (h : ByteArray) : List StringV := (⟨h⟩ : StringV) :: List.replicate (n - 1) ⟨⟨(List.replicate z (0 : UInt8)).toArray⟩⟩
theorem blankL_len {n z : Nat} {h : ByteArray} (hn : 1 ≤ n) : (blankL n z h).length = n := by unfold blankL; simp; omega
theorem blankL_set {n z : Nat} {h : ByteArray} (hn : 1 ≤ n) : (List.replicate n (⟨⟨(List.replicate z (0 : UInt8)).toArray⟩⟩ : StringV)).set 0 ⟨h⟩ = blankL n z h := by
  obtain ⟨k, rfl⟩ : ∃ k, n = k + 1 := ⟨n - 1, by omega⟩
  unfold blankL
  simp [List.replicate_succ]
theorem blankL_snoc {z k : Nat} {h : ByteArray} (hk : 1 ≤ k) : blankL (k + 1) z h = blankL k z h ++ [⟨⟨(List.replicate z (0 : UInt8)).toArray⟩⟩] := by
  obtain ⟨j, rfl⟩ : ∃ j, k = j + 1 := ⟨k - 1, by omega⟩
  unfold blankL
  rw [show j + 1 + 1 - 1 = j + 1 from rfl, show j + 1 - 1 = j from rfl, List.replicate_succ']
  rfl
/-- The answer of FormatExtents. -/
def fxC (n z : Int) : Int := if inB 8 128 n = true then (if sizeI z = true then 0 else 1) else 2
def fxL (n z : Int) : List StringV := if fxC n z = 0 then blankL n.toNat z.toNat (exHead n.toNat z.toNat) else []
theorem fxL_len (n z : Int) : (fxL n z).length ≤ 1048576 := by
  unfold fxL
  split
  case isTrue h =>
    unfold fxC at h
    split at h
    case isFalse => omega
    rename_i hn
    have := inB_iff.1 hn
    rw [blankL_len (by omega)]
    omega
  case isFalse => simp
end Go.Proofs.YthcbekfgkbhpeaaDoor
end
section
set_option linter.unusedVariables false
namespace Go.Proofs.YthcbekfgkbhpeaaDoor
open Go.RowKit Go.ChangeShapes Go.WideShapes Go.ChangeAt Go.Joins Go.Deep
set_option linter.unusedVariables false
set_option linter.unusedSimpArgs false
set_option maxRecDepth 20000
structure ChainLayoutV where
  f0 : Int
  f1 : Int
  f2 : Int
  f3 : Int
  f4 : Int
def rowChainLayout (e : ChainLayoutV) : List Value := [.int .i64 e.f0, .int .i64 e.f1, .int .i64 e.f2, .int .i64 e.f3, .int .i64 e.f4]
def zeroChainLayout : List Value := [.int .i64 0, .int .i64 0, .int .i64 0, .int .i64 0, .int .i64 0]
theorem rowChainLayout_len (e : ChainLayoutV) : (rowChainLayout e).length = 5 := rfl
theorem infoChainLayout : (Tryd.prog.info? 25).map (fun i => (i.zero, i.size, i.bytes)) = some (some (.agg zeroChainLayout.toArray), 5, 40) := by kernel_rfl
def wtChainLayout (es : List ChainLayoutV) : Nat := es.length
theorem wtChainLayout_len (es : List ChainLayoutV) : es.length ≤ wtChainLayout es := Nat.le_refl _
def sameChainLayout (x y : ChainLayoutV) : Bool := (x.f0 == y.f0) && (x.f1 == y.f1) && (x.f2 == y.f2) && (x.f3 == y.f3) && (x.f4 == y.f4)
theorem sameChainLayout_iff {x y : ChainLayoutV} : sameChainLayout x y = true ↔ x = y := by
  cases x; cases y
  simp [sameChainLayout, and_assoc]
set_option maxHeartbeats 4000000 in
theorem eqChainLayout_any (x y : ChainLayoutV) (w : World) :
    Calls Tryd.prog 13 #[.agg #[.int .i64 x.f0, .int .i64 x.f1, .int .i64 x.f2, .int .i64 x.f3, .int .i64 x.f4], .agg #[.int .i64 y.f0, .int .i64 y.f1, .int .i64 y.f2, .int .i64 y.f3, .int .i64 y.f4]] w fun e w' => e = .returned (.bool (sameChainLayout x y)) ∧ Below w.heap.size w w' := by
  obtain ⟨x0, x1, x2, x3, x4⟩ := x
  obtain ⟨y0, y1, y2, y3, y4⟩ := y
  dsimp only
  by_cases h0 : x0 = y0
  case neg =>
    have hb0 : (x0 != y0) = true := by simp [h0]
    have HE := Lib.hid (show sameChainLayout ⟨x0, x1, x2, x3, x4⟩ ⟨y0, y1, y2, y3, y4⟩ = false by simp [sameChainLayout, h0])
    clear h0
    go_enter Tryd.func13, Tryd.ntmps13
    go_wp2
    go_ret
    exact ⟨ret_bool HE.out.symm, by go_grown⟩
  subst h0
  by_cases h1 : x1 = y1
  case neg =>
    have hb1 : (x1 != y1) = true := by simp [h1]
    have HE := Lib.hid (show sameChainLayout ⟨x0, x1, x2, x3, x4⟩ ⟨x0, y1, y2, y3, y4⟩ = false by simp [sameChainLayout, h1])
    clear h1
    go_enter Tryd.func13, Tryd.ntmps13
    go_wp2
    go_ret
    exact ⟨ret_bool HE.out.symm, by go_grown⟩
  subst h1
  by_cases h2 : x2 = y2
  case neg =>
    have hb2 : (x2 != y2) = true := by simp [h2]
    have HE := Lib.hid (show sameChainLayout ⟨x0, x1, x2, x3, x4⟩ ⟨x0, x1, y2, y3, y4⟩ = false by simp [sameChainLayout, h2])
    clear h2
    go_enter Tryd.func13, Tryd.ntmps13
    go_wp2
    go_ret
    exact ⟨ret_bool HE.out.symm, by go_grown⟩
  subst h2
  by_cases h3 : x3 = y3
  case neg =>
    have hb3 : (x3 != y3) = true := by simp [h3]
    have HE := Lib.hid (show sameChainLayout ⟨x0, x1, x2, x3, x4⟩ ⟨x0, x1, x2, y3, y4⟩ = false by simp [sameChainLayout, h3])
    clear h3
    go_enter Tryd.func13, Tryd.ntmps13
    go_wp2
    go_ret
    exact ⟨ret_bool HE.out.symm, by go_grown⟩
  subst h3
  by_cases h4 : x4 = y4
  case neg =>
    have hb4 : (x4 != y4) = true := by simp [h4]
    have HE := Lib.hid (show sameChainLayout ⟨x0, x1, x2, x3, x4⟩ ⟨x0, x1, x2, x3, y4⟩ = false by simp [sameChainLayout, h4])
    clear h4
    go_enter Tryd.func13, Tryd.ntmps13
    go_wp2
    go_ret
    exact ⟨ret_bool HE.out.symm, by go_grown⟩
  subst h4
  have HE := Lib.hid (show sameChainLayout ⟨x0, x1, x2, x3, x4⟩ ⟨x0, x1, x2, x3, x4⟩ = true by simp [sameChainLayout])
  go_enter Tryd.func13, Tryd.ntmps13
  go_wp2
  go_ret
  exact ⟨ret_bool HE.out.symm, by go_grown⟩
end Go.Proofs.YthcbekfgkbhpeaaDoor
end
section
set_option linter.unusedVariables false
namespace Go.Proofs.YthcbekfgkbhpeaaDoor
open Go.RowKit
theorem rot_bd (a : Int) (n : Nat) (h : 0 < n) : -(n : Int) < a.tmod n ∧ a.tmod n < n := by
  have h1 := Int.lt_tmod_of_pos a (b := (n : Int)) (by omega)
  have h2 := Int.tmod_lt_of_pos a (b := (n : Int)) (by omega)
  omega
def rotS (s : ByteArray) (k : Nat) : ByteArray := s.extract k s.size ++ s.extract 0 k
def rotK (a : Int) (n : Nat) : Nat := (a % (n : Int)).toNat
theorem rotK_lt (a : Int) (n : Nat) (h : 0 < n) : rotK a n < n := by
  have h1 := Int.emod_nonneg a (b := (n : Int)) (by omega)
  have h2 := Int.emod_lt_of_pos a (b := (n : Int)) (by omega)
  unfold rotK; omega
theorem rotK_eq (a : Int) (n : Nat) (h : 0 < n) : (a.tmod n + n) % n = (rotK a n : Int) := by
  have h1 := Int.emod_nonneg a (b := (n : Int)) (by omega)
  have h3 : (a.tmod n + n) % n = a % n := by
    have h4 := Int.mul_tdiv_add_tmod a n
    have h5 : a.tmod n + n = a + n * (1 - a.tdiv n) := by
      rw [Int.mul_sub, Int.mul_one]; omega
    rw [h5, Int.add_mul_emod_self_left]
  rw [h3]; unfold rotK; omega
end Go.Proofs.YthcbekfgkbhpeaaDoor
end
