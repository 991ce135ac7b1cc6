/- The struct Found and slices of it: laws.szFoundS, laws.toFound, laws.toFoundS, laws.eqFound, laws.eqFoundS -/
import Derived.Test.YtlffbaelcjfibaaDoorRecs
import Derived.Test.YtlffbaelcjfibaaDoorRecKit
namespace Go.Proofs.YtlffbaelcjfibaaDoor
open Go.RowKit Go.ChangeShapes Go.WideShapes Go.ChangeAt Go.Joins Go.Deep
set_option linter.unusedVariables false
set_option linter.unusedSimpArgs false
set_option maxRecDepth 20000
structure FoundV where
  f0 : Int
  f1 : Int
  f2 : Int
  f3 : Int
  f4 : ByteArray
  f5 : Int
  f6 : Bool
  f7 : Int
def rowFound (e : FoundV) : List Value := [.int .i64 e.f0, .int .i64 e.f1, .int .i64 e.f2, .int .i64 e.f3, .string e.f4, .int .i64 e.f5, .bool e.f6, .int .i64 e.f7]
def zeroFound : List Value := [.int .i64 0, .int .i64 0, .int .i64 0, .int .i64 0, .string ByteArray.empty, .int .i64 0, .bool false, .int .i64 0]
theorem rowFound_len (e : FoundV) : (rowFound e).length = 8 := rfl
theorem infoFound : (Tryd.prog.info? 35).map (fun i => (i.zero, i.size, i.bytes)) = some (some (.agg zeroFound.toArray), 8, 72) := by kernel_rfl
theorem cellsFoundL : Tryd.prog.cellsOf 32 = 8 := by kernel_rfl
set_option maxRecDepth 100000 in
theorem readFoundS {H : Type} {enc : TypeId × Value → H} {W : World} {fuel : Nat} {y : DataW H × List MemPlace} {a0 : Option Addr} {len0 cap0 : Nat}
    (hf1 : DataW.trod enc Tryd.prog W 0 (fun _ => true) true fuel 22 [.slice a0 len0 cap0] = some y) :
    ∃ es : List FoundV, len0 = es.length ∧ es.length ≤ maxLen ∧ SlS rowFound W a0 es ∧ ∀ e ∈ es, e.f4.size ≤ maxLen := by
  obtain ⟨es, rfl, hm, hs, hx⟩ := open_recs (enc := enc) (P := Tryd.prog) (w := W) (base := 0) (held := true) (a := a0) (len := len0) (cap := cap0) (row := rowFound) (ok := fun e : FoundV => e.f4.size ≤ maxLen) rowFound_len Tryd.underlying22 Tryd.underlying32 (by kernel_rfl) cellsFoundL (by rfl) (by omega) (by
    intro cs hcs hat
    match cs, hcs with
    | [c0, c1, c2, c3, c4, c5, c6, c7], _ =>
      obtain ⟨c, m0, y0, e, t0⟩ := hat 0 _ rfl
      cases e
      obtain ⟨x0, rfl⟩ := int_cell Tryd.underlying2 t0
      obtain ⟨c, m1, y1, e, t1⟩ := hat 1 _ rfl
      cases e
      obtain ⟨x1, rfl⟩ := int_cell Tryd.underlying2 t1
      obtain ⟨c, m2, y2, e, t2⟩ := hat 2 _ rfl
      cases e
      obtain ⟨x2, rfl⟩ := int_cell Tryd.underlying2 t2
      obtain ⟨c, m3, y3, e, t3⟩ := hat 3 _ rfl
      cases e
      obtain ⟨x3, rfl⟩ := int_cell Tryd.underlying2 t3
      obtain ⟨c, m4, y4, e, t4⟩ := hat 4 _ rfl
      cases e
      obtain ⟨x4, rfl, s4⟩ := string_cell Tryd.underlying9 t4
      obtain ⟨c, m5, y5, e, t5⟩ := hat 5 _ rfl
      cases e
      obtain ⟨x5, rfl⟩ := int_cell Tryd.underlying2 t5
      obtain ⟨c, m6, y6, e, t6⟩ := hat 6 _ rfl
      cases e
      obtain ⟨x6, rfl⟩ := bool_cell Tryd.underlying4 t6
      obtain ⟨c, m7, y7, e, t7⟩ := hat 7 _ rfl
      cases e
      obtain ⟨x7, rfl⟩ := int_cell Tryd.underlying2 t7
      exact ⟨⟨x0, x1, x2, x3, x4, x5, x6, x7⟩, rfl, s4⟩) hf1
  exact ⟨es, rfl, hm, hs, hx⟩
set_option maxRecDepth 100000 in
theorem open_FoundS {H : Type} {enc : TypeId × Value → H} {W : World} {base : Nat} {v : Value} {d : DataW H} {p : List MemPlace}
    (hv : Value.okWide Tryd.prog W .any base 22 v) (h : DataW.Trod enc Tryd.prog W 0 (fun _ => true) true 22 v d p) :
    ∃ (a : Option Addr) (es : List FoundV) (cap : Nat), v = .slice a es.length cap ∧ RecArg rowFound W a es ∧ ∀ e ∈ es, e.f4.size ≤ maxLen := by
  obtain ⟨a0, len0, cap0, rfl⟩ := okWide_slice Tryd.underlying22 hv
  obtain ⟨fuel, hf⟩ := h
  obtain ⟨es, rfl, hm, hs, hx⟩ := readFoundS (by simpa [Value.cells] using hf)
  exact ⟨a0, es, cap0, rfl, ⟨hm, hs⟩, hx⟩
def wtFound (es : List FoundV) : Nat := es.length + (es.map fun e => e.f4.size).sum
theorem wtFound_len (es : List FoundV) : es.length ≤ wtFound es := Nat.le_add_right _ _
theorem wtFound_at {es : List FoundV} {m : Nat} (h : wtFound es ≤ m) : ∀ e ∈ es, e.f4.size ≤ m := by
  intro e he
  unfold wtFound at h
  have : e.f4.size ≤ (es.map fun e => e.f4.size).sum := le_sum_of_mem (List.mem_map.2 ⟨e, he, rfl⟩)
  omega
set_option maxHeartbeats 1000000 in
theorem szFound_any (e : FoundV) (left : Nat) (w : World) (hl : left ≤ 1048576) (hs : e.f4.size ≤ maxLen) :
    Calls Tryd.prog 9 #[.agg #[.int .i64 e.f0, .int .i64 e.f1, .int .i64 e.f2, .int .i64 e.f3, .string e.f4, .int .i64 e.f5, .bool e.f6, .int .i64 e.f7], .int .i64 (left : Nat)] w fun x w' => x = .returned (.int .i64 (szV left e.f4.size)) ∧ Below w.heap.size w w' := by
  unfold maxLen at hs
  unfold szV
  by_cases h : e.f4.size ≤ left
  · rw [if_pos h]
    have h0 : ¬ ((left : Int) - (e.f4.size : Int) < 0) := by omega
    go_enter Tryd.func9, Tryd.ntmps9
    go_wp2
    go_ret
    exact ⟨ret_int (by omega), by go_grown⟩
  · rw [if_neg h]
    have h0 : (left : Int) - (e.f4.size : Int) < 0 := by omega
    go_enter Tryd.func9, Tryd.ntmps9
    go_wp2
    go_ret
    exact ⟨rfl, by go_grown⟩
set_option maxHeartbeats 2000000 in
theorem szFoundS_any (a : Option Addr) (es : List FoundV) (c left : Nat) (w : World) (hl : left ≤ 1048576) (hm : es.length ≤ maxLen) (hs : ∀ e ∈ es, e.f4.size ≤ maxLen) (h : SlS rowFound w a es) :
    Calls Tryd.prog 4 #[.slice a es.length c, .int .i64 (left : Nat)] w fun x w' => x = .returned (.int .i64 (szV left (wtFound es))) ∧ Below w.heap.size w w' := by
  unfold maxLen at hm
  by_cases h9 : es.length ≤ left
  · have h0 : ¬ ((left : Int) - (es.length : Int) < 0) := by omega
    have HW := Lib.hid (show ∀ k, wtFound es = es.length + ((es.take k).map fun e => e.f4.size).sum + ((es.drop k).map fun e => e.f4.size).sum from fun k => by
      unfold wtFound
      rw [Nat.add_assoc, ← List.sum_append_nat, ← List.map_append, List.take_append_drop])
    go_enter Tryd.func4, Tryd.ntmps4
    go_wp2
    go_loopw [1, 5] (fun l i wr => ∃ k m : Nat, k ≤ es.length ∧ i = .int .i64 k ∧ l = .int .i64 m ∧ m ≤ 1048576 ∧ Hid (m + (es.length + ((es.take k).map fun e => e.f4.size).sum) = left) ∧ Below w.heap.size w wr) (fun _ i _ => es.length - (intOf i).toNat)
    case atStart => exact ⟨0, left - es.length, Nat.zero_le _, rfl, by rw [show ((left - es.length : Nat) : Int) = (left : Int) - es.length by omega], by omega, by unfold Hid; simp; omega, Below.refl _ _⟩
    case round =>
      obtain ⟨k, m, hk, rfl, rfl, hm2, hS, hb⟩ := hrel
      by_cases hlt : k < es.length
      · obtain ⟨e, hx⟩ : ∃ e, es[k]? = some e := ⟨es[k], by simp [hlt]⟩
        obtain ⟨b, off, rfl, hbl, hc⟩ := (h.below hb (Nat.le_refl _)).at rowFound_len hx
        have c0 : wr.cell? ⟨b, off + k * 8, none⟩ = some (.int .i64 e.f0) := hc 0 _ rfl
        have c1 : wr.cell? ⟨b, off + k * 8 + 1, none⟩ = some (.int .i64 e.f1) := hc 1 _ rfl
        have c2 : wr.cell? ⟨b, off + k * 8 + 2, none⟩ = some (.int .i64 e.f2) := hc 2 _ rfl
        have c3 : wr.cell? ⟨b, off + k * 8 + 3, none⟩ = some (.int .i64 e.f3) := hc 3 _ rfl
        have c4 : wr.cell? ⟨b, off + k * 8 + 4, none⟩ = some (.string e.f4) := hc 4 _ rfl
        have c5 : wr.cell? ⟨b, off + k * 8 + 5, none⟩ = some (.int .i64 e.f5) := hc 5 _ rfl
        have c6 : wr.cell? ⟨b, off + k * 8 + 6, none⟩ = some (.bool e.f6) := hc 6 _ rfl
        have c7 : wr.cell? ⟨b, off + k * 8 + 7, none⟩ = some (.int .i64 e.f7) := hc 7 _ rfl
        have hse := hs e (List.mem_of_getElem? hx)
        have SZ := Lib.hid (fun w => szFound_any e m w hm2 hse)
        have HS := Lib.hid hs
        have H := Lib.hid (And.intro h (And.intro hc hx)); clear h hc hx hs
        by_cases hq : e.f4.size ≤ m
        · have he : szV m e.f4.size = ((m - e.f4.size : Nat) : Int) := by unfold szV; rw [if_pos hq]
          rw [he] at SZ
          have HQ := Lib.hid hq; clear he hq hse
          obtain ⟨q, hqq⟩ : ∃ q, m - e.f4.size = q := ⟨_, rfl⟩
          rw [hqq] at SZ
          have hq1 : q ≤ 1048576 := by omega
          have hq0 : ¬ ((q : Int) < 0) := by omega
          have HQQ := Lib.hid hqq; clear hqq
          go_wp2_with fail
          refine (SZ.out _).mono ?_
          rintro e_ w1 ⟨rfl, hb1⟩
          clear c0 c1 c2 c3 c4 c5 c6 c7
          go_wp2
          go_roundw
          case rel =>
            refine ⟨k + 1, q, by omega, by go_num, rfl, hq1, ?_, hb.trans (hb1.mono hb.size)⟩
            unfold Hid
            rw [List.take_add_one, H.out.2.2]
            have h1 := hS.out; have h2 := HQ.out; have h3 := HQQ.out
            simp only [Option.toList_some, List.map_append, List.map_cons, List.map_nil, List.sum_append_nat, List.sum_cons, List.sum_nil]
            omega
          case measure => simp [intOf]; omega
        · have he : szV m e.f4.size = -1 := by unfold szV; rw [if_neg hq]
          rw [he] at SZ
          have HQ := Lib.hid hq; clear he hq hse
          go_wp2_with fail
          refine (SZ.out _).mono ?_
          rintro e_ w1 ⟨rfl, hb1⟩
          clear c0 c1 c2 c3 c4 c5 c6 c7
          go_wp2
          go_ret
          refine ⟨ret_int ?_, hb.trans (hb1.mono hb.size)⟩
          unfold szV
          rw [if_neg ?_]
          rw [HW.out (k + 1), List.take_add_one, H.out.2.2]
          have h1 := hS.out; have h2 := HQ.out
          simp only [Option.toList_some, List.map_append, List.map_cons, List.map_nil, List.sum_append_nat, List.sum_cons, List.sum_nil]
          omega
      · obtain rfl : k = es.length := by omega
        go_wp2
        go_ret
        refine ⟨ret_int ?_, hb⟩
        have h1 := hS.out; have h2 := HW.out es.length
        simp only [List.take_length, List.drop_length, List.map_nil, List.sum_nil] at h1 h2
        unfold szV
        rw [if_pos (by omega)]
        omega
  · have h0 : (left : Int) - (es.length : Int) < 0 := by omega
    have HE := Lib.hid (show szV left (wtFound es) = -1 by unfold szV; rw [if_neg (by have := wtFound_len es; omega)])
    go_enter Tryd.func4, Tryd.ntmps4
    go_wp2
    go_ret
    exact ⟨ret_int HE.out.symm, Below.refl _ _⟩
set_option maxHeartbeats 2000000 in
theorem toFound_any (e : FoundV) (w : World) :
    Calls Tryd.prog 11 #[.agg #[.int .i64 e.f0, .int .i64 e.f1, .int .i64 e.f2, .int .i64 e.f3, .string e.f4, .int .i64 e.f5, .bool e.f6, .int .i64 e.f7]] w fun x w' => x = .returned (.agg #[.int .i64 e.f0, .int .i64 e.f1, .int .i64 e.f2, .int .i64 e.f3, .string e.f4, .int .i64 e.f5, .bool e.f6, .int .i64 e.f7]) ∧ Below w.heap.size w w' := by
  go_enter Tryd.func11, Tryd.ntmps11
  go_wp2
  refine bodyPost_ret (v := .agg #[.int .i64 e.f0, .int .i64 e.f1, .int .i64 e.f2, .int .i64 e.f3, .string e.f4, .int .i64 e.f5, .bool e.f6, .int .i64 e.f7]) (by simp [results, Tryd.results11, go_sem]) rfl ⟨rfl, ?_⟩
  go_grown
set_option maxHeartbeats 4000000 in
theorem toFoundS_any (a : Option Addr) (es : List FoundV) (c : Nat) (w : World) (hl : es.length ≤ 1048576) (h : SlS rowFound w a es) :
    Calls Tryd.prog 6 #[.slice a es.length c] w (ToRecs rowFound 35 es w) := by
  have hmk := fun w => run_make_recs (P := Tryd.prog) 26 35 zeroFound 8 72 Tryd.underlying26 infoFound rfl (by omega) .i64 .i64 es.length (by omega) (by omega) w
  go_enter Tryd.func6, Tryd.ntmps6
  go_wp2
  clear hmk
  go_loopw [4] (fun i wr => ∃ k : Nat, k ≤ es.length ∧ i = .int .i64 k ∧ Hid (wr.heap[w.heap.size]? = some (.cells (cpS rowFound zeroFound es k).toArray 35 (0, 0))) ∧ Below w.heap.size w wr ∧ w.heap.size < wr.heap.size) (fun i _ => es.length - (intOf i).toNat)
  case atStart => exact ⟨0, Nat.zero_le _, rfl, by unfold Hid; rw [← cpS_zero]; exact heap_alloc_new w _, (Below.refl _ _).alloc (Nat.le_refl _) _, by simp⟩
  case round =>
    obtain ⟨k, hk, rfl, hB, hb, hgt⟩ := hrel
    by_cases hlt : k < es.length
    · obtain ⟨e, hx⟩ : ∃ e, es[k]? = some e := ⟨es[k], by simp [hlt]⟩
      obtain ⟨b, off, rfl, hbl, hc⟩ := (h.below hb (Nat.le_refl _)).at rowFound_len hx
      have c0 : wr.cell? ⟨b, off + k * 8, none⟩ = some (.int .i64 e.f0) := hc 0 _ rfl
      have c1 : wr.cell? ⟨b, off + k * 8 + 1, none⟩ = some (.int .i64 e.f1) := hc 1 _ rfl
      have c2 : wr.cell? ⟨b, off + k * 8 + 2, none⟩ = some (.int .i64 e.f2) := hc 2 _ rfl
      have c3 : wr.cell? ⟨b, off + k * 8 + 3, none⟩ = some (.int .i64 e.f3) := hc 3 _ rfl
      have c4 : wr.cell? ⟨b, off + k * 8 + 4, none⟩ = some (.string e.f4) := hc 4 _ rfl
      have c5 : wr.cell? ⟨b, off + k * 8 + 5, none⟩ = some (.int .i64 e.f5) := hc 5 _ rfl
      have c6 : wr.cell? ⟨b, off + k * 8 + 6, none⟩ = some (.bool e.f6) := hc 6 _ rfl
      have c7 : wr.cell? ⟨b, off + k * 8 + 7, none⟩ = some (.int .i64 e.f7) := hc 7 _ rfl
      have TO := Lib.hid (fun w => toFound_any e w)
      have H := Lib.hid (And.intro h (And.intro hc hx)); clear h hc hx
      go_wp2_with fail
      refine (TO.out _).mono ?_
      rintro e_ w1 ⟨rfl, hb1⟩
      clear c0 c1 c2 c3 c4 c5 c6 c7
      have hB1 : w1.heap[w.heap.size]? = some (.cells (cpS rowFound zeroFound es k).toArray 35 (0, 0)) := by rw [hb1.block _ hgt]; exact hB.out
      have hb2 : Below w.heap.size w w1 := hb.trans (hb1.mono (by omega))
      have hgt1 : w.heap.size < w1.heap.size := Nat.lt_of_lt_of_le hgt hb1.size
      have hlen := cpS_size (zero := zeroFound) rowFound_len rfl hk
      have hcell : ∀ j, j < 8 → ∃ v, w1.cell? ⟨w.heap.size, k * 8 + j, none⟩ = some v := fun j hj => by
        have : (cpS rowFound zeroFound es k)[k * 8 + j]?.isSome = true := by simp [hlen]; omega
        obtain ⟨v, hv⟩ := Option.isSome_iff_exists.1 this
        exact ⟨v, by simp [World.cell?, hB1, hv]⟩
      obtain ⟨o0, d0⟩ := hcell 0 (by omega)
      obtain ⟨o1, d1⟩ := hcell 1 (by omega)
      obtain ⟨o2, d2⟩ := hcell 2 (by omega)
      obtain ⟨o3, d3⟩ := hcell 3 (by omega)
      obtain ⟨o4, d4⟩ := hcell 4 (by omega)
      obtain ⟨o5, d5⟩ := hcell 5 (by omega)
      obtain ⟨o6, d6⟩ := hcell 6 (by omega)
      obtain ⟨o7, d7⟩ := hcell 7 (by omega)
      have d0 : w1.cell? ⟨w.heap.size, k * 8, none⟩ = some o0 := d0
      have z0 : w1.frozen? ⟨w.heap.size, k * 8, none⟩ = false := by simp [World.frozen?, hB1]
      have z1 : w1.frozen? ⟨w.heap.size, k * 8 + 1, none⟩ = false := by simp [World.frozen?, hB1]
      have z2 : w1.frozen? ⟨w.heap.size, k * 8 + 2, none⟩ = false := by simp [World.frozen?, hB1]
      have z3 : w1.frozen? ⟨w.heap.size, k * 8 + 3, none⟩ = false := by simp [World.frozen?, hB1]
      have z4 : w1.frozen? ⟨w.heap.size, k * 8 + 4, none⟩ = false := by simp [World.frozen?, hB1]
      have z5 : w1.frozen? ⟨w.heap.size, k * 8 + 5, none⟩ = false := by simp [World.frozen?, hB1]
      have z6 : w1.frozen? ⟨w.heap.size, k * 8 + 6, none⟩ = false := by simp [World.frozen?, hB1]
      have z7 : w1.frozen? ⟨w.heap.size, k * 8 + 7, none⟩ = false := by simp [World.frozen?, hB1]
      have HB := Lib.hid (And.intro hB1 (And.intro hb2 (And.intro hb1 hlen))); clear hB hB1 hb2 hb1 hb hcell hlen hgt hbl
      go_wp2
      go_roundw
      case rel =>
        obtain ⟨hB1, hb2, hb1, hlen⟩ := HB.out
        obtain ⟨h, hc, hx⟩ := H.out
        refine ⟨k + 1, by omega, by go_num, ?_, ?_, ?_⟩
        · unfold Hid
          rw [← cpS_succ (zero := zeroFound) rowFound_len rfl hx]
          exact heap_setCells _ _ (rowFound e) (k * 8) w1 _ hB1
        · exact below_setCells _ (Nat.le_refl _) (rowFound e) (k * 8) w w1 hb2
        · exact Nat.lt_of_lt_of_le hgt1 (below_setCells (B := 0) w.heap.size (Nat.zero_le _) (rowFound e) (k * 8) w1 w1 (Below.refl _ _)).size
      case measure => simp [intOf]; omega
    · obtain rfl : k = es.length := by omega
      go_wp2
      go_ret
      exact ⟨_, rfl, by have := hB.out; rw [cpS_all] at this; exact this, Nat.le_refl _, hb⟩
def sameFound (x y : FoundV) : Bool := (x.f0 == y.f0) && (x.f1 == y.f1) && (x.f2 == y.f2) && (x.f3 == y.f3) && decide (x.f4 = y.f4) && (x.f5 == y.f5) && (x.f6 == y.f6) && (x.f7 == y.f7)
theorem sameFound_iff {x y : FoundV} : sameFound x y = true ↔ x = y := by
  cases x; cases y
  simp [sameFound, and_assoc]
set_option maxHeartbeats 4000000 in
theorem eqFound_any (x y : FoundV) (w : World) :
    Calls Tryd.prog 16 #[.agg #[.int .i64 x.f0, .int .i64 x.f1, .int .i64 x.f2, .int .i64 x.f3, .string x.f4, .int .i64 x.f5, .bool x.f6, .int .i64 x.f7], .agg #[.int .i64 y.f0, .int .i64 y.f1, .int .i64 y.f2, .int .i64 y.f3, .string y.f4, .int .i64 y.f5, .bool y.f6, .int .i64 y.f7]] w fun e w' => e = .returned (.bool (sameFound x y)) ∧ Below w.heap.size w w' := by
  obtain ⟨x0, x1, x2, x3, x4, x5, x6, x7⟩ := x
  obtain ⟨y0, y1, y2, y3, y4, y5, y6, y7⟩ := y
  dsimp only
  by_cases h0 : x0 = y0
  case neg =>
    have hb0 : (x0 != y0) = true := by simp [h0]
    have HE := Lib.hid (show sameFound ⟨x0, x1, x2, x3, x4, x5, x6, x7⟩ ⟨y0, y1, y2, y3, y4, y5, y6, y7⟩ = false by simp [sameFound, h0])
    clear h0
    go_enter Tryd.func16, Tryd.ntmps16
    go_wp2
    go_ret
    exact ⟨ret_bool HE.out.symm, by go_grown⟩
  subst h0
  by_cases h1 : x1 = y1
  case neg =>
    have hb1 : (x1 != y1) = true := by simp [h1]
    have HE := Lib.hid (show sameFound ⟨x0, x1, x2, x3, x4, x5, x6, x7⟩ ⟨x0, y1, y2, y3, y4, y5, y6, y7⟩ = false by simp [sameFound, h1])
    clear h1
    go_enter Tryd.func16, Tryd.ntmps16
    go_wp2
    go_ret
    exact ⟨ret_bool HE.out.symm, by go_grown⟩
  subst h1
  by_cases h2 : x2 = y2
  case neg =>
    have hb2 : (x2 != y2) = true := by simp [h2]
    have HE := Lib.hid (show sameFound ⟨x0, x1, x2, x3, x4, x5, x6, x7⟩ ⟨x0, x1, y2, y3, y4, y5, y6, y7⟩ = false by simp [sameFound, h2])
    clear h2
    go_enter Tryd.func16, Tryd.ntmps16
    go_wp2
    go_ret
    exact ⟨ret_bool HE.out.symm, by go_grown⟩
  subst h2
  by_cases h3 : x3 = y3
  case neg =>
    have hb3 : (x3 != y3) = true := by simp [h3]
    have HE := Lib.hid (show sameFound ⟨x0, x1, x2, x3, x4, x5, x6, x7⟩ ⟨x0, x1, x2, y3, y4, y5, y6, y7⟩ = false by simp [sameFound, h3])
    clear h3
    go_enter Tryd.func16, Tryd.ntmps16
    go_wp2
    go_ret
    exact ⟨ret_bool HE.out.symm, by go_grown⟩
  subst h3
  by_cases h4 : x4 = y4
  case neg =>
    have hb4 := toList_ne2 h4
    have HE := Lib.hid (show sameFound ⟨x0, x1, x2, x3, x4, x5, x6, x7⟩ ⟨x0, x1, x2, x3, y4, y5, y6, y7⟩ = false by simp [sameFound, h4])
    clear h4
    go_enter Tryd.func16, Tryd.ntmps16
    go_wp2
    go_ret
    exact ⟨ret_bool HE.out.symm, by go_grown⟩
  subst h4
  by_cases h5 : x5 = y5
  case neg =>
    have hb5 : (x5 != y5) = true := by simp [h5]
    have HE := Lib.hid (show sameFound ⟨x0, x1, x2, x3, x4, x5, x6, x7⟩ ⟨x0, x1, x2, x3, x4, y5, y6, y7⟩ = false by simp [sameFound, h5])
    clear h5
    go_enter Tryd.func16, Tryd.ntmps16
    go_wp2
    go_ret
    exact ⟨ret_bool HE.out.symm, by go_grown⟩
  subst h5
  by_cases h6 : x6 = y6
  case neg =>
    have HE := Lib.hid (show sameFound ⟨x0, x1, x2, x3, x4, x5, x6, x7⟩ ⟨x0, x1, x2, x3, x4, x5, y6, y7⟩ = false by simp [sameFound, h6])
    cases x6 <;> cases y6
    all_goals first
      | exact absurd rfl h6
      | (go_enter Tryd.func16, Tryd.ntmps16
         go_wp2
         go_ret
         exact ⟨ret_bool HE.out.symm, by go_grown⟩)
  subst h6
  by_cases h7 : x7 = y7
  case neg =>
    have hb7 : (x7 != y7) = true := by simp [h7]
    have HE := Lib.hid (show sameFound ⟨x0, x1, x2, x3, x4, x5, x6, x7⟩ ⟨x0, x1, x2, x3, x4, x5, x6, y7⟩ = false by simp [sameFound, h7])
    clear h7
    go_enter Tryd.func16, Tryd.ntmps16
    go_wp2
    go_ret
    exact ⟨ret_bool HE.out.symm, by go_grown⟩
  subst h7
  have HE := Lib.hid (show sameFound ⟨x0, x1, x2, x3, x4, x5, x6, x7⟩ ⟨x0, x1, x2, x3, x4, x5, x6, x7⟩ = true by simp [sameFound])
  go_enter Tryd.func16, Tryd.ntmps16
  go_wp2
  go_ret
  exact ⟨ret_bool HE.out.symm, by go_grown⟩
set_option maxHeartbeats 4000000 in
theorem eqFoundS_any (r : Bool) (a b : Option Addr) (xs ys : List FoundV) (c d : Nat) (w : World) (hr : r = true ↔ xs = ys) (hx : xs.length ≤ 4194304) (hy : ys.length ≤ 4194304) (h1 : SlS rowFound w a xs) (h2 : SlS rowFound w b ys) :
    Calls Tryd.prog 8 #[.slice a xs.length c, .slice b ys.length d] w fun e w' => e = .returned (.bool r) ∧ Below w.heap.size w w' := by
  have HR := Lib.hid hr; clear hr
  by_cases hl : xs.length = ys.length
  · have hne : ((xs.length : Int) != ys.length) = false := by simp; omega
    have HL := Lib.hid hl; clear hl
    go_enter Tryd.func8, Tryd.ntmps8
    go_wp2
    go_loopw [5] (fun i wr => ∃ k : Nat, k ≤ xs.length ∧ i = .int .i64 k ∧ Hid (xs.take k = ys.take k) ∧ Below w.heap.size w wr) (fun i _ => xs.length - (intOf i).toNat)
    case atStart => exact ⟨0, Nat.zero_le _, rfl, by unfold Hid; rfl, Below.refl _ _⟩
    case round =>
      obtain ⟨k, hk, rfl, hT, hb⟩ := hrel
      have h1' := h1.below hb (Nat.le_refl _)
      have h2' := h2.below hb (Nat.le_refl _)
      by_cases hlt : k < xs.length
      · have hly : k < ys.length := by have := HL.out; omega
        obtain ⟨x, hxk⟩ : ∃ e, xs[k]? = some e := ⟨xs[k], by simp [hlt]⟩
        obtain ⟨y, hyk⟩ : ∃ e, ys[k]? = some e := ⟨ys[k], by simp [hly]⟩
        obtain ⟨bx, ox, rfl, hlx, hcx⟩ := h1'.at rowFound_len hxk
        obtain ⟨b2, o2, rfl, hly2, hcy⟩ := h2'.at rowFound_len hyk
        have c0 : wr.cell? ⟨bx, ox + k * 8, none⟩ = some (.int .i64 x.f0) := hcx 0 _ rfl
        have d0 : wr.cell? ⟨b2, o2 + k * 8, none⟩ = some (.int .i64 y.f0) := hcy 0 _ rfl
        have c1 : wr.cell? ⟨bx, ox + k * 8 + 1, none⟩ = some (.int .i64 x.f1) := hcx 1 _ rfl
        have d1 : wr.cell? ⟨b2, o2 + k * 8 + 1, none⟩ = some (.int .i64 y.f1) := hcy 1 _ rfl
        have c2 : wr.cell? ⟨bx, ox + k * 8 + 2, none⟩ = some (.int .i64 x.f2) := hcx 2 _ rfl
        have d2 : wr.cell? ⟨b2, o2 + k * 8 + 2, none⟩ = some (.int .i64 y.f2) := hcy 2 _ rfl
        have c3 : wr.cell? ⟨bx, ox + k * 8 + 3, none⟩ = some (.int .i64 x.f3) := hcx 3 _ rfl
        have d3 : wr.cell? ⟨b2, o2 + k * 8 + 3, none⟩ = some (.int .i64 y.f3) := hcy 3 _ rfl
        have c4 : wr.cell? ⟨bx, ox + k * 8 + 4, none⟩ = some (.string x.f4) := hcx 4 _ rfl
        have d4 : wr.cell? ⟨b2, o2 + k * 8 + 4, none⟩ = some (.string y.f4) := hcy 4 _ rfl
        have c5 : wr.cell? ⟨bx, ox + k * 8 + 5, none⟩ = some (.int .i64 x.f5) := hcx 5 _ rfl
        have d5 : wr.cell? ⟨b2, o2 + k * 8 + 5, none⟩ = some (.int .i64 y.f5) := hcy 5 _ rfl
        have c6 : wr.cell? ⟨bx, ox + k * 8 + 6, none⟩ = some (.bool x.f6) := hcx 6 _ rfl
        have d6 : wr.cell? ⟨b2, o2 + k * 8 + 6, none⟩ = some (.bool y.f6) := hcy 6 _ rfl
        have c7 : wr.cell? ⟨bx, ox + k * 8 + 7, none⟩ = some (.int .i64 x.f7) := hcx 7 _ rfl
        have d7 : wr.cell? ⟨b2, o2 + k * 8 + 7, none⟩ = some (.int .i64 y.f7) := hcy 7 _ rfl
        have HX := Lib.hid hxk; have HY := Lib.hid hyk; clear hxk hyk
        have e1 : (k : Int) < xs.length := by omega
        have e2 : (k : Int) < ys.length := by omega
        have H1 := Lib.hid (And.intro h1 (And.intro h1' hcx)); have H2 := Lib.hid (And.intro h2 (And.intro h2' hcy)); clear h1 h1' h2 h2'
        have EQ := Lib.hid (fun w => eqFound_any x y w)
        obtain ⟨q, hq⟩ : ∃ q, sameFound x y = q := ⟨_, rfl⟩
        rw [hq] at EQ
        have HQ := Lib.hid hq; clear hq
        have KS := Lib.hid (fun w' (hbw : Below wr.heap.size wr w') => (show w'.cell? ⟨bx, ox + k * 8, none⟩ = some (.int .i64 x.f0) ∧ w'.cell? ⟨bx, ox + k * 8 + 1, none⟩ = some (.int .i64 x.f1) ∧ w'.cell? ⟨bx, ox + k * 8 + 2, none⟩ = some (.int .i64 x.f2) ∧ w'.cell? ⟨bx, ox + k * 8 + 3, none⟩ = some (.int .i64 x.f3) ∧ w'.cell? ⟨bx, ox + k * 8 + 4, none⟩ = some (.string x.f4) ∧ w'.cell? ⟨bx, ox + k * 8 + 5, none⟩ = some (.int .i64 x.f5) ∧ w'.cell? ⟨bx, ox + k * 8 + 6, none⟩ = some (.bool x.f6) ∧ w'.cell? ⟨bx, ox + k * 8 + 7, none⟩ = some (.int .i64 x.f7) ∧ w'.cell? ⟨b2, o2 + k * 8, none⟩ = some (.int .i64 y.f0) ∧ w'.cell? ⟨b2, o2 + k * 8 + 1, none⟩ = some (.int .i64 y.f1) ∧ w'.cell? ⟨b2, o2 + k * 8 + 2, none⟩ = some (.int .i64 y.f2) ∧ w'.cell? ⟨b2, o2 + k * 8 + 3, none⟩ = some (.int .i64 y.f3) ∧ w'.cell? ⟨b2, o2 + k * 8 + 4, none⟩ = some (.string y.f4) ∧ w'.cell? ⟨b2, o2 + k * 8 + 5, none⟩ = some (.int .i64 y.f5) ∧ w'.cell? ⟨b2, o2 + k * 8 + 6, none⟩ = some (.bool y.f6) ∧ w'.cell? ⟨b2, o2 + k * 8 + 7, none⟩ = some (.int .i64 y.f7) from ⟨(hcx.below hbw hlx) 0 _ rfl, (hcx.below hbw hlx) 1 _ rfl, (hcx.below hbw hlx) 2 _ rfl, (hcx.below hbw hlx) 3 _ rfl, (hcx.below hbw hlx) 4 _ rfl, (hcx.below hbw hlx) 5 _ rfl, (hcx.below hbw hlx) 6 _ rfl, (hcx.below hbw hlx) 7 _ rfl, (hcy.below hbw hly2) 0 _ rfl, (hcy.below hbw hly2) 1 _ rfl, (hcy.below hbw hly2) 2 _ rfl, (hcy.below hbw hly2) 3 _ rfl, (hcy.below hbw hly2) 4 _ rfl, (hcy.below hbw hly2) 5 _ rfl, (hcy.below hbw hly2) 6 _ rfl, (hcy.below hbw hly2) 7 _ rfl⟩))
        have hks : wr.cell? ⟨bx, ox + k * 8, none⟩ = some (.int .i64 x.f0) ∧ wr.cell? ⟨bx, ox + k * 8 + 1, none⟩ = some (.int .i64 x.f1) ∧ wr.cell? ⟨bx, ox + k * 8 + 2, none⟩ = some (.int .i64 x.f2) ∧ wr.cell? ⟨bx, ox + k * 8 + 3, none⟩ = some (.int .i64 x.f3) ∧ wr.cell? ⟨bx, ox + k * 8 + 4, none⟩ = some (.string x.f4) ∧ wr.cell? ⟨bx, ox + k * 8 + 5, none⟩ = some (.int .i64 x.f5) ∧ wr.cell? ⟨bx, ox + k * 8 + 6, none⟩ = some (.bool x.f6) ∧ wr.cell? ⟨bx, ox + k * 8 + 7, none⟩ = some (.int .i64 x.f7) ∧ wr.cell? ⟨b2, o2 + k * 8, none⟩ = some (.int .i64 y.f0) ∧ wr.cell? ⟨b2, o2 + k * 8 + 1, none⟩ = some (.int .i64 y.f1) ∧ wr.cell? ⟨b2, o2 + k * 8 + 2, none⟩ = some (.int .i64 y.f2) ∧ wr.cell? ⟨b2, o2 + k * 8 + 3, none⟩ = some (.int .i64 y.f3) ∧ wr.cell? ⟨b2, o2 + k * 8 + 4, none⟩ = some (.string y.f4) ∧ wr.cell? ⟨b2, o2 + k * 8 + 5, none⟩ = some (.int .i64 y.f5) ∧ wr.cell? ⟨b2, o2 + k * 8 + 6, none⟩ = some (.bool y.f6) ∧ wr.cell? ⟨b2, o2 + k * 8 + 7, none⟩ = some (.int .i64 y.f7) := KS.out _ (Below.refl _ _)
        have HC := Lib.hid (show Below wr.heap.size wr wr.drew from (Below.refl _ _).drew)
        have HB := Lib.hid hb; clear hb c0 d0 c1 d1 c2 d2 c3 d3 c4 d4 c5 d5 c6 d6 c7 d7 hlx hly2 hcx hcy
        cases q
        all_goals
          go_wp2
          go_region_held3 (fun w' => w'.cell? ⟨bx, ox + k * 8, none⟩ = some (.int .i64 x.f0) ∧ w'.cell? ⟨bx, ox + k * 8 + 1, none⟩ = some (.int .i64 x.f1) ∧ w'.cell? ⟨bx, ox + k * 8 + 2, none⟩ = some (.int .i64 x.f2) ∧ w'.cell? ⟨bx, ox + k * 8 + 3, none⟩ = some (.int .i64 x.f3) ∧ w'.cell? ⟨bx, ox + k * 8 + 4, none⟩ = some (.string x.f4) ∧ w'.cell? ⟨bx, ox + k * 8 + 5, none⟩ = some (.int .i64 x.f5) ∧ w'.cell? ⟨bx, ox + k * 8 + 6, none⟩ = some (.bool x.f6) ∧ w'.cell? ⟨bx, ox + k * 8 + 7, none⟩ = some (.int .i64 x.f7) ∧ w'.cell? ⟨b2, o2 + k * 8, none⟩ = some (.int .i64 y.f0) ∧ w'.cell? ⟨b2, o2 + k * 8 + 1, none⟩ = some (.int .i64 y.f1) ∧ w'.cell? ⟨b2, o2 + k * 8 + 2, none⟩ = some (.int .i64 y.f2) ∧ w'.cell? ⟨b2, o2 + k * 8 + 3, none⟩ = some (.int .i64 y.f3) ∧ w'.cell? ⟨b2, o2 + k * 8 + 4, none⟩ = some (.string y.f4) ∧ w'.cell? ⟨b2, o2 + k * 8 + 5, none⟩ = some (.int .i64 y.f5) ∧ w'.cell? ⟨b2, o2 + k * 8 + 6, none⟩ = some (.bool y.f6) ∧ w'.cell? ⟨b2, o2 + k * 8 + 7, none⟩ = some (.int .i64 y.f7))
            (first | (with_reducible exact KS.out _ HC.out) | go_keep)
            ((go_at_call 16; refine (EQ.out _).mono ?_; rintro e w1 ⟨rfl, hb1⟩; replace HC := Lib.hid (HC.out.trans (hb1.mono HC.out.size))))
        · have hb' := HB.out.trans (HC.out.mono HB.out.size)
          clear hks
          go_wp2
          go_ret
          refine ⟨ret_bool ?_, hb'⟩
          cases r with
          | false => rfl
          | true =>
          exfalso
          have e := HR.out.1 rfl
          have h3 := HX.out
          rw [e, HY.out] at h3
          have h4 := sameFound_iff.2 (Option.some.inj h3).symm
          rw [HQ.out] at h4
          cases h4
        · have hb' := HB.out.trans (HC.out.mono HB.out.size)
          clear hks
          go_wp2
          go_roundw
          case rel => exact ⟨k + 1, by omega, by go_num, by unfold Hid; rw [List.take_add_one, List.take_add_one, HX.out, HY.out, hT.out, sameFound_iff.1 HQ.out], hb'⟩
          case measure => simp [intOf]; omega
      · go_wp2
        go_ret
        refine ⟨ret_bool ?_, hb⟩
        obtain rfl : k = xs.length := by omega
        exact (HR.out.2 (take_eq HL.out hT.out)).symm
  · have hne : ((xs.length : Int) != ys.length) = true := by simp; omega
    have HQ := Lib.hid (show r = false by
      cases r with
      | false => rfl
      | true => exact absurd (by rw [HR.out.1 rfl]) hl)
    go_enter Tryd.func8, Tryd.ntmps8
    go_wp2
    go_ret
    exact ⟨ret_bool HQ.out.symm, Below.refl _ _⟩
end Go.Proofs.YtlffbaelcjfibaaDoor
