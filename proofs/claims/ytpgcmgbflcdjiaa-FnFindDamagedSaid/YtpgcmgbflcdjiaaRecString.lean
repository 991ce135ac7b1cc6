/- Slices of strings: laws.szStringS, laws.toStringS, laws.eqStringS, and slices of strings among the arguments, opened. -/
import Derived.Test.YtpgcmgbflcdjiaaRecs
import Derived.Test.YtpgcmgbflcdjiaaRecKit
namespace Go.Proofs.Ytpgcmgbflcdjiaa
open Go.RowKit Go.ChangeShapes Go.WideShapes Go.ChangeAt Go.Joins Go.Deep
set_option linter.unusedVariables false
set_option linter.unusedSimpArgs false
structure StringV where
  f0 : ByteArray
def rowString (e : StringV) : List Value := [.string e.f0]
def zeroString : List Value := [.string ByteArray.empty]
theorem rowString_len (e : StringV) : (rowString e).length = 1 := rfl
theorem infoString : (Try.prog.info? 9).map (fun i => (i.zero, i.size, i.bytes)) = some (some (.string ByteArray.empty), 1, 16) := by kernel_rfl
section
variable {H : Type} {enc : TypeId × Value → H} {P : Program} {w : World} {base : Nat} {held : Bool}
theorem open_ones {E : Type} {row : E → List Value} {ok : E → Prop} (hn : ∀ e, (row e).length = 1) {t el : TypeId} (ht : P.underlying t = some (.slice el)) (hC : P.cellsOf el = 1)
    (hread : ∀ (c : Value) (m : Nat) (y : DataW H × List MemPlace), DataW.trod enc P w base (fun _ => true) held m el [c] = some y → ∃ e, [c] = row e ∧ ok e)
    {a : Option Addr} {len cap fuel : Nat} {x : DataW H × List MemPlace} (h : DataW.trod enc P w base (fun _ => true) held fuel t [.slice a len cap] = some x) :
    ∃ es : List E, len = es.length ∧ es.length ≤ maxLen ∧ SlS row w a es ∧ ∀ e ∈ es, ok e := by
  rcases open_slice ht h with ⟨hcs, _⟩ | ⟨a', len', cap', m, k, D, Pl, hcs, _, hl, hm, hmm, _, hi⟩
  · simp at hcs
    obtain ⟨rfl, rfl, rfl⟩ := hcs
    exact ⟨[], rfl, by simp, .inl rfl, by simp⟩
  · simp at hcs
    obtain ⟨rfl, rfl, rfl⟩ := hcs
    simp at hmm
    subst hmm
    have each : ∀ i, i < len → ∃ e, ok e ∧ ∀ j v, (row e)[j]? = some v → w.cell? (a'.add (i * 1 + j)) = some v := by
      intro i hil
      obtain ⟨cs, h1, h2⟩ := hi i (by omega)
      rw [hC] at h1
      obtain ⟨_, hlen, hat⟩ := World.cells?_some h1
      match cs, hlen with
      | [c], _ =>
        obtain ⟨e, he, hok⟩ := hread c _ _ h2
        refine ⟨e, hok, fun j v hv => ?_⟩
        have hj : j < 1 := by rw [← hn e]; exact (List.getElem?_eq_some_iff.1 hv).1
        have := hat j (by simpa using hj)
        rw [add_add] at this
        rw [this, he]; exact hv
    obtain ⟨es, hlen, hp⟩ := list_of len each
    refine ⟨es, hlen.symm, by omega, ?_, fun e hx => ?_⟩
    · cases hes : es with
      | nil => exact .inl rfl
      | cons e0 r =>
        right
        obtain ⟨b, off, spot⟩ := a'
        have hfst := (hp 0 e0 (by simp [hes])).2 0 _ (List.getElem?_eq_getElem (by rw [hn]; omega))
        have hspot : spot = none := by simpa [Addr.add] using World.cell?_spot hfst
        subst hspot
        refine ⟨b, off, rfl, World.block_lt_of_cell? w _ (by rw [add_plain] at hfst; exact hfst), ?_⟩
        rw [← hes]
        intro i v hv
        have hlt := (List.getElem?_eq_some_iff.1 hv).1
        rw [flatten_len (rows_len hn es), List.length_map] at hlt
        have hk : es[i]? = some (es[i]'(by omega)) := List.getElem?_eq_getElem _
        have h3 := flatten_at (rows_len hn es) (k := i) (r := row (es[i]'(by omega))) (by simp [hk]) (j := 0) (by omega)
        have ei : i * 1 + 0 = i := by omega
        rw [ei] at h3
        have h4 := (hp _ _ hk).2 0 v (by rw [← h3]; exact hv)
        rw [ei, add_plain] at h4
        exact h4
    · obtain ⟨i, hi⟩ := List.getElem?_of_mem hx
      exact (hp i e hi).1
end
theorem cellsString : Try.prog.cellsOf 9 = 1 := by kernel_rfl
set_option maxRecDepth 100000 in
theorem readStringS {H : Type} {enc : TypeId × Value → H} {W : World} {fuel : Nat} {y : DataW H × List MemPlace} {a0 : Option Addr} {len0 cap0 : Nat}
    (hf1 : DataW.trod enc Try.prog W 0 (fun _ => true) true fuel 33 [.slice a0 len0 cap0] = some y) :
    ∃ es : List StringV, len0 = es.length ∧ es.length ≤ maxLen ∧ SlS rowString W a0 es ∧ ∀ e ∈ es, e.f0.size ≤ maxLen := by
  obtain ⟨es, rfl, hm, hs, hx⟩ := open_ones (enc := enc) (P := Try.prog) (w := W) (base := 0) (held := true) (a := a0) (len := len0) (cap := cap0) (row := rowString) (ok := fun e : StringV => e.f0.size ≤ maxLen) rowString_len Try.underlying33 cellsString (by
    intro c m y hc
    obtain ⟨x0, rfl, s0⟩ := string_cell Try.underlying9 hc
    exact ⟨⟨x0⟩, rfl, s0⟩) hf1
  exact ⟨es, rfl, hm, hs, hx⟩
set_option maxRecDepth 100000 in
theorem open_StringS {H : Type} {enc : TypeId × Value → H} {W : World} {base : Nat} {v : Value} {d : DataW H} {p : List MemPlace}
    (hv : Value.okWide Try.prog W .any base 33 v) (h : DataW.Trod enc Try.prog W 0 (fun _ => true) true 33 v d p) :
    ∃ (a : Option Addr) (es : List StringV) (cap : Nat), v = .slice a es.length cap ∧ RecArg rowString W a es ∧ ∀ e ∈ es, e.f0.size ≤ maxLen := by
  obtain ⟨a0, len0, cap0, rfl⟩ := okWide_slice Try.underlying33 hv
  obtain ⟨fuel, hf⟩ := h
  obtain ⟨es, rfl, hm, hs, hx⟩ := readStringS (by simpa [Value.cells] using hf)
  exact ⟨a0, es, cap0, rfl, ⟨hm, hs⟩, hx⟩
def wtString (es : List StringV) : Nat := es.length + (es.map fun e => e.f0.size).sum
theorem wtString_len (es : List StringV) : es.length ≤ wtString es := Nat.le_add_right _ _
theorem wtString_at {es : List StringV} {m : Nat} (h : wtString es ≤ m) : ∀ e ∈ es, e.f0.size ≤ m := by
  intro e he
  unfold wtString at h
  have : e.f0.size ≤ (es.map fun e => e.f0.size).sum := le_sum_of_mem (List.mem_map.2 ⟨e, he, rfl⟩)
  omega
set_option maxHeartbeats 2000000 in
theorem szStringS_any (a : Option Addr) (es : List StringV) (c left : Nat) (w : World) (hl : left ≤ 1048576) (hm : es.length ≤ maxLen) (hs : ∀ e ∈ es, e.f0.size ≤ maxLen) (h : SlS rowString w a es) :
    Calls Try.prog 23 #[.slice a es.length c, .int .i64 (left : Nat)] w fun x w' => x = .returned (.int .i64 (szV left (wtString es))) ∧ Below w.heap.size w w' := by
  unfold maxLen at hm
  by_cases h9 : es.length ≤ left
  · have h0 : ¬ ((left : Int) - (es.length : Int) < 0) := by omega
    have HW := Lib.hid (show ∀ k, wtString es = es.length + ((es.take k).map fun e => e.f0.size).sum + ((es.drop k).map fun e => e.f0.size).sum from fun k => by
      unfold wtString
      rw [Nat.add_assoc, ← List.sum_append_nat, ← List.map_append, List.take_append_drop])
    go_enter Try.func23, Try.ntmps23
    go_wp2
    go_loopw [1, 5] (fun l i wr => ∃ k m : Nat, k ≤ es.length ∧ i = .int .i64 k ∧ l = .int .i64 m ∧ m ≤ 1048576 ∧ Hid (m + (es.length + ((es.take k).map fun e => e.f0.size).sum) = left) ∧ Below w.heap.size w wr) (fun _ i _ => es.length - (intOf i).toNat)
    case atStart => exact ⟨0, left - es.length, Nat.zero_le _, rfl, by rw [show ((left - es.length : Nat) : Int) = (left : Int) - es.length by omega], by omega, by unfold Hid; simp; omega, Below.refl _ _⟩
    case round =>
      obtain ⟨k, m, hk, rfl, rfl, hm2, hS, hb⟩ := hrel
      by_cases hlt : k < es.length
      · obtain ⟨e, hx⟩ : ∃ e, es[k]? = some e := ⟨es[k], by simp [hlt]⟩
        obtain ⟨b, off, rfl, hbl, hc⟩ := (h.below hb (Nat.le_refl _)).at rowString_len hx
        have c0 : wr.cell? ⟨b, off + k * 1, none⟩ = some (.string e.f0) := hc 0 _ rfl
        rw [Nat.mul_one] at c0
        have hse := hs e (List.mem_of_getElem? hx)
        unfold maxLen at hse
        have HS := Lib.hid hs
        have H := Lib.hid (And.intro h (And.intro hc hx)); clear h hc hx hs
        by_cases hq : e.f0.size ≤ m
        · have hq0 : ¬ ((m : Int) - (e.f0.size : Int) < 0) := by omega
          obtain ⟨q, hqq⟩ : ∃ q : Nat, m = e.f0.size + q := ⟨m - e.f0.size, by omega⟩
          have hqi : (m : Int) - (e.f0.size : Int) = (q : Int) := by omega
          have HQ := Lib.hid hq; have HQQ := Lib.hid hqq; have hq1 : q ≤ 1048576 := by omega
          clear hq hqq
          go_wp2
          go_roundw
          case rel =>
            refine ⟨k + 1, q, by omega, by go_num, rfl, hq1, ?_, hb⟩
            unfold Hid
            rw [List.take_add_one, H.out.2.2]
            have h1 := hS.out; have h2 := HQ.out; have h3 := HQQ.out
            simp only [Option.toList_some, List.map_append, List.map_cons, List.map_nil, List.sum_append_nat, List.sum_cons, List.sum_nil]
            omega
          case measure => simp [intOf]; omega
        · have hq0 : (m : Int) - (e.f0.size : Int) < 0 := by omega
          have HQ := Lib.hid hq; clear hq
          go_wp2
          go_ret
          refine ⟨ret_int ?_, hb⟩
          unfold szV
          rw [if_neg ?_]
          rw [HW.out (k + 1), List.take_add_one, H.out.2.2]
          have h1 := hS.out; have h2 := HQ.out
          simp only [Option.toList_some, List.map_append, List.map_cons, List.map_nil, List.sum_append_nat, List.sum_cons, List.sum_nil]
          omega
      · obtain rfl : k = es.length := by omega
        go_wp2
        go_ret
        refine ⟨ret_int ?_, hb⟩
        have h1 := hS.out; have h2 := HW.out es.length
        simp only [List.take_length, List.drop_length, List.map_nil, List.sum_nil] at h1 h2
        unfold szV
        rw [if_pos (by omega)]
        omega
  · have h0 : (left : Int) - (es.length : Int) < 0 := by omega
    have HE := Lib.hid (show szV left (wtString es) = -1 by unfold szV; rw [if_neg (by have := wtString_len es; omega)])
    go_enter Try.func23, Try.ntmps23
    go_wp2
    go_ret
    exact ⟨ret_int HE.out.symm, Below.refl _ _⟩
theorem run_make_strings (n : Nat) (hbytes : 16 * n ≤ 281474976710656) (w : World) :
    (Instr.makeSlice 33 (.int .i64 (n : Int)) (.int .i64 (n : Int))).run Try.prog w = .ok (.slice (some ⟨w.heap.size, 0, none⟩) n n) (w.alloc (.cells (List.replicate n zeroString).flatten.toArray 9)) := by
  obtain ⟨i, hi, hzz⟩ := Option.map_eq_some_iff.1 infoString
  simp only [Prod.mk.injEq] at hzz
  obtain ⟨hz1, hs, hb⟩ := hzz
  have hb2 : ((i.bytes : Int) * n) ≤ 281474976710656 := by rw [hb]; omega
  have hr := run_make (P := Try.prog) w 33 9 i _ Try.underlying33 hi hz1 .i64 .i64 n n (by omega) (by omega) hb2 (by omega)
  rw [hr]
  have e1 : (Value.string ByteArray.empty).cells = zeroString.toArray := rfl
  rw [e1, hs, Int.toNat_natCast]
  have e2 : n * 1 = n * zeroString.length := rfl
  rw [e2, made_flatten zeroString n (by simp [zeroString])]
set_option maxHeartbeats 4000000 in
theorem toStringS_any (a : Option Addr) (es : List StringV) (c : Nat) (w : World) (hl : es.length ≤ 1048576) (h : SlS rowString w a es) :
    Calls Try.prog 25 #[.slice a es.length c] w (ToRecs rowString 9 es w) := by
  have hmk := fun w => run_make_strings es.length (by omega) w
  go_enter Try.func25, Try.ntmps25
  go_wp2
  clear hmk
  go_loopw [4] (fun i wr => ∃ k : Nat, k ≤ es.length ∧ i = .int .i64 k ∧ Hid (wr.heap[w.heap.size]? = some (.cells (cpS rowString zeroString es k).toArray 9 (0, 0))) ∧ Below w.heap.size w wr ∧ w.heap.size < wr.heap.size) (fun i _ => es.length - (intOf i).toNat)
  case atStart => exact ⟨0, Nat.zero_le _, rfl, by unfold Hid; rw [← cpS_zero]; exact heap_alloc_new w _, (Below.refl _ _).alloc (Nat.le_refl _) _, by simp⟩
  case round =>
    obtain ⟨k, hk, rfl, hB, hb, hgt⟩ := hrel
    by_cases hlt : k < es.length
    · obtain ⟨e, hx⟩ : ∃ e, es[k]? = some e := ⟨es[k], by simp [hlt]⟩
      obtain ⟨b, off, rfl, hbl, hc⟩ := (h.below hb (Nat.le_refl _)).at rowString_len hx
      have c0 : wr.cell? ⟨b, off + k * 1, none⟩ = some (.string e.f0) := hc 0 _ rfl
      rw [Nat.mul_one] at c0
      have H := Lib.hid (And.intro h (And.intro hc hx)); clear h hc hx
      have hB1 := hB.out
      have hlen := cpS_size (zero := zeroString) rowString_len rfl hk
      have hcell : ∃ v, wr.cell? ⟨w.heap.size, k, none⟩ = some v := by
        have : (cpS rowString zeroString es k)[k]?.isSome = true := by simp [hlen]; omega
        obtain ⟨v, hv⟩ := Option.isSome_iff_exists.1 this
        exact ⟨v, by simp [World.cell?, hB1, hv]⟩
      obtain ⟨o0, d0⟩ := hcell
      have z0 : wr.frozen? ⟨w.heap.size, k, none⟩ = false := by simp [World.frozen?, hB1]
      have HB := Lib.hid (And.intro hB1 (And.intro hb hlen)); clear hB hB1 hb hlen hbl
      go_wp2
      go_roundw
      case rel =>
        obtain ⟨hB1, hb, hlen⟩ := HB.out
        obtain ⟨h, hc, hx⟩ := H.out
        refine ⟨k + 1, by omega, by go_num, ?_, ?_, ?_⟩
        · unfold Hid
          rw [← cpS_succ (zero := zeroString) rowString_len rfl hx, Nat.mul_one]
          exact heap_setCells _ _ (rowString e) k wr _ hB1
        · exact below_setCells _ (Nat.le_refl _) (rowString e) k w wr hb
        · exact Nat.lt_of_lt_of_le hgt (below_setCells (B := 0) w.heap.size (Nat.zero_le _) (rowString e) k wr wr (Below.refl _ _)).size
      case measure => simp [intOf]; omega
    · obtain rfl : k = es.length := by omega
      go_wp2
      go_ret
      exact ⟨_, rfl, by have := hB.out; rw [cpS_all] at this; exact this, Nat.le_refl _, hb⟩
set_option maxHeartbeats 4000000 in
theorem eqStringS_any (r : Bool) (a b : Option Addr) (xs ys : List StringV) (c d : Nat) (w : World) (hr : r = true ↔ xs = ys) (hx : xs.length ≤ 4194304) (hy : ys.length ≤ 4194304) (h1 : SlS rowString w a xs) (h2 : SlS rowString w b ys) :
    Calls Try.prog 27 #[.slice a xs.length c, .slice b ys.length d] w fun e w' => e = .returned (.bool r) ∧ Below w.heap.size w w' := by
  have HR := Lib.hid hr; clear hr
  by_cases hl : xs.length = ys.length
  · have hne : ((xs.length : Int) != ys.length) = false := by simp; omega
    have HL := Lib.hid hl; clear hl
    go_enter Try.func27, Try.ntmps27
    go_wp2
    go_loopw [5] (fun i wr => ∃ k : Nat, k ≤ xs.length ∧ i = .int .i64 k ∧ Hid (xs.take k = ys.take k) ∧ Below w.heap.size w wr) (fun i _ => xs.length - (intOf i).toNat)
    case atStart => exact ⟨0, Nat.zero_le _, rfl, by unfold Hid; rfl, Below.refl _ _⟩
    case round =>
      obtain ⟨k, hk, rfl, hT, hb⟩ := hrel
      have h1' := h1.below hb (Nat.le_refl _)
      have h2' := h2.below hb (Nat.le_refl _)
      by_cases hlt : k < xs.length
      · have hly : k < ys.length := by have := HL.out; omega
        obtain ⟨⟨x⟩, hxk⟩ : ∃ e, xs[k]? = some e := ⟨xs[k], by simp [hlt]⟩
        obtain ⟨⟨y⟩, hyk⟩ : ∃ e, ys[k]? = some e := ⟨ys[k], by simp [hly]⟩
        obtain ⟨bx, ox, rfl, hlx, hcx⟩ := h1'.at rowString_len hxk
        obtain ⟨b2, o2, rfl, hly2, hcy⟩ := h2'.at rowString_len hyk
        have c0 : wr.cell? ⟨bx, ox + k * 1, none⟩ = some (.string x) := hcx 0 _ rfl
        have d0 : wr.cell? ⟨b2, o2 + k * 1, none⟩ = some (.string y) := hcy 0 _ rfl
        rw [Nat.mul_one] at c0 d0
        have HX := Lib.hid hxk; have HY := Lib.hid hyk; clear hxk hyk
        have e1 : (k : Int) < xs.length := by omega
        have e2 : (k : Int) < ys.length := by omega
        have H1 := Lib.hid (And.intro h1 (And.intro h1' hcx)); have H2 := Lib.hid (And.intro h2 (And.intro h2' hcy)); clear h1 h1' h2 h2' hcx hcy hlx hly2
        by_cases hq : x = y
        · subst hq
          have hne2 : (x.toList == x.toList) = true := by simp
          go_wp2
          go_quiet (fail)
          go_wp2
          go_roundw
          case rel => exact ⟨k + 1, by omega, by go_num, by unfold Hid; rw [List.take_add_one, List.take_add_one, HX.out, HY.out, hT.out], below_drewN' hb _⟩
          case measure => simp [intOf]; omega
        · have hne2 := toList_ne2 hq
          have HQ := Lib.hid hq; clear hq
          go_wp2
          go_quiet (fail)
          go_wp2
          go_ret
          refine ⟨ret_bool ?_, below_drewN' hb _⟩
          cases r with
          | false => rfl
          | true =>
          exfalso
          have e := HR.out.1 rfl
          have h3 := HX.out
          rw [e, HY.out] at h3
          have h4 := (Option.some.inj h3).symm
          exact HQ.out (by injection h4)
      · go_wp2
        go_ret
        refine ⟨ret_bool ?_, hb⟩
        obtain rfl : k = xs.length := by omega
        exact (HR.out.2 (take_eq HL.out hT.out)).symm
  · have hne : ((xs.length : Int) != ys.length) = true := by simp; omega
    have HQ := Lib.hid (show r = false by
      cases r with
      | false => rfl
      | true => exact absurd (by rw [HR.out.1 rfl]) hl)
    go_enter Try.func27, Try.ntmps27
    go_wp2
    go_ret
    exact ⟨ret_bool HQ.out.symm, Below.refl _ _⟩
end Go.Proofs.Ytpgcmgbflcdjiaa
