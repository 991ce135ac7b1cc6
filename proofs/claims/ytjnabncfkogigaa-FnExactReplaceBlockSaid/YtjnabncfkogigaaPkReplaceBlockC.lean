/- A struct within a struct among the arguments, opened: open_nest gives each field's own cells, inner_fields those of a struct of one-cell fields among them. -/
import Derived.Test.YtjnabncfkogigaaPkReplaceBlockB
import Derived.Test.YtjnabncfkogigaaPkReplaceBlockA
import Derived.Laws.RangeAny
import Derived.Laws.RangeString
section
set_option linter.unusedVariables false
namespace Go.Proofs.Ytjnabncfkogigaa
open Go.RowKit Go.ChangeShapes Go.WideShapes Go.ChangeAt Go.Joins Go.Deep
section
variable {H : Type} {enc : TypeId × Value → H} {P : Program} {w : World} {base : Nat} {spare : Nat → Bool} {held : Bool}
/-- A struct, whatever its fields: its cells, and what each field's cells are read as. -/
theorem open_nest {r : Reach} {b0 : Nat} {t : TypeId} {fs : Array Field} {v : Value} {d : DataW H} {p : List MemPlace} (hs : P.underlying t = some (.struct fs))
    (hv : Value.okWide P w r b0 t v) (h : DataW.Trod enc P w base spare held t v d p) :
    ∃ cs : Array Value, v = .agg cs ∧ cs.size = P.cellsOf t ∧ ∀ (j : Nat) (f : Field), fs[j]? = some f → ∃ (n : Nat) (y : DataW H × List MemPlace), DataW.trod enc P w base spare held n f.type ((cs.toList.drop f.offset).take (P.cellsOf f.type)) = some y := by
  obtain ⟨cs, rfl, hsz⟩ := okWide_struct hs hv
  refine ⟨cs, rfl, hsz, ?_⟩
  intro j f hj
  obtain ⟨fuel, hf⟩ := h
  obtain ⟨ys, n, _, _, _, hlen, hat⟩ := DataW.trod_struct hs hf
  have hlt : j < fs.size := (Array.getElem?_eq_some_iff.1 hj).1
  have h1 := hat j f hj
  have e1 : (Value.cells (.agg cs)).toList = cs.toList := rfl
  rw [e1] at h1
  exact ⟨n, ys[j]'(by omega), by rw [h1]; exact List.getElem?_eq_getElem (by omega)⟩
/-- A struct of one-cell fields read off a list of cells: what each is read as. -/
theorem inner_fields {t : TypeId} {fs : Array Field} {n : Nat} {l : List Value} {y : DataW H × List MemPlace} (hs : P.underlying t = some (.struct fs)) (hone : oneCellFields P fs = true) (hC : P.cellsOf t = fs.size)
    (h : DataW.trod enc P w base spare held n t l = some y) :
    l.length = fs.size ∧ ∀ (j : Nat) (f : Field), fs[j]? = some f → ∃ (c : Value) (n' : Nat) (y' : DataW H × List MemPlace), l[j]? = some c ∧ DataW.trod enc P w base spare held n' f.type [c] = some y' := by
  obtain ⟨ys, m, _, _, hl, hlen, hat⟩ := DataW.trod_struct hs h
  rw [hC] at hl
  refine ⟨hl, ?_⟩
  intro j f hj
  have hlt : j < fs.size := (Array.getElem?_eq_some_iff.1 hj).1
  obtain ⟨ho, hk⟩ := hone_of hone j f hj
  have h1 := hat j f hj
  rw [ho, hk] at h1
  have hd : (l.drop j).take 1 = [l[j]'(by omega)] := by
    rw [List.drop_eq_getElem_cons (by omega)]
    rfl
  rw [hd] at h1
  refine ⟨l[j]'(by omega), m, ys[j]'(by omega), List.getElem?_eq_getElem (by omega), ?_⟩
  rw [h1]
  exact List.getElem?_eq_getElem (by omega)
end
end Go.Proofs.Ytjnabncfkogigaa
end
section
set_option linter.unusedVariables false
namespace Go.Proofs.Ytjnabncfkogigaa
open Go.RowKit Go.ChangeShapes Go.WideShapes Go.ChangeAt Go.Joins Go.Deep
theorem szIntV_any (a : Option Addr) (n c left : Nat) (w : World) (hl : left ≤ 1048576) (hm : n ≤ maxLen) :
    Calls Try.prog 41 #[.slice a n c, .int .i64 (left : Nat)] w fun e w' => e = .returned (.int .i64 (szV left n)) ∧ Below w.heap.size w w' := by
  unfold szV
  by_cases h : n ≤ left
  · rw [if_pos h]
    exact (szInt_yes a n c left w hl h).mono fun e w' ⟨h1, h2⟩ => ⟨h1, h2 ▸ Below.refl _ _⟩
  · rw [if_neg h]
    exact (szInt_no a n c left w hl hm (by omega)).mono fun e w' ⟨h1, h2⟩ => ⟨h1, h2 ▸ Below.refl _ _⟩
theorem eqIntR_any (r : Bool) (a b : Option Addr) (xs ys : List Int) (c d : Nat) (w : World) (hr : r = true ↔ xs = ys) (hx : xs.length ≤ 4194304) (hy : ys.length ≤ 4194304) (h1 : SlA w a xs) (h2 : SlA w b ys) :
    Calls Try.prog 36 #[.slice a xs.length c, .slice b ys.length d] w fun e w' => e = .returned (.bool r) ∧ Below w.heap.size w w' := by
  have e1 : r = (xs == ys) := by
    rw [Bool.eq_iff_iff, hr]; simp
  rw [e1]
  exact eqInt64S_any a b xs ys c d w hx hy h1 h2
/-- A block of known content stays through stores to other blocks. -/
theorem heap_setCell_at {w : World} {g p i : Nat} {v : Value} {o : Obj} (h : w.heap[g]? = some o) (hne : g ≠ p) : (w.setCell ⟨p, i, none⟩ v).heap[g]? = some o := by
  rw [← h]
  simp only [World.setCell, Array.getElem?_modify]
  rw [if_neg (by omega)]
set_option maxRecDepth 100000 in
theorem readIntsS {H : Type} {enc : TypeId × Value → H} {W : World} {fuel : Nat} {y : DataW H × List MemPlace} {a0 : Option Addr} {len0 cap0 : Nat}
    (hf1 : DataW.trod enc Try.prog W 0 (fun _ => true) true fuel 25 [.slice a0 len0 cap0] = some y) : ∃ xs : List Int, len0 = xs.length ∧ xs.length ≤ maxLen ∧ SlA W a0 xs := by
  rcases open_ints Try.underlying25 Try.underlying2 (by kernel_rfl) hf1 with ⟨hcs, _⟩ | ⟨x, len, cap, zs, hcs, _, hl, hm, hz, _, hcell, _⟩
  · simp at hcs
    obtain ⟨rfl, rfl, rfl⟩ := hcs
    exact ⟨[], rfl, by simp, .inl rfl⟩
  · simp at hcs
    obtain ⟨rfl, rfl, rfl⟩ := hcs
    have hz' : zs.length = cap0 := by simpa using hz
    have hlen : (zs.take len0).length = len0 := by simp; omega
    refine ⟨zs.take len0, by rw [hlen], by rw [hlen]; omega, ?_⟩
    by_cases h0 : len0 = 0
    · exact .inl (by subst h0; rfl)
    · obtain ⟨b, off, spot⟩ := x
      have hc := hcell 0 (by omega)
      have hspot : spot = none := by simpa [Addr.add] using World.cell?_spot hc
      subst hspot
      have hc0 : W.cell? ⟨b, off + 0, none⟩ = some (.int .i64 (zs.getD 0 0)) := by simpa [Addr.add] using hc
      refine .inr ⟨b, off, rfl, World.block_lt_of_cell? W _ hc0, ?_⟩
      intro i y hy
      have hi : i < len0 := by
        have := (List.getElem?_eq_some_iff.1 hy).1
        omega
      have hc2 := hcell i (by omega)
      rw [List.getElem?_take_of_lt hi] at hy
      have e : zs.getD i 0 = y := by simp [hy]
      rw [e] at hc2
      have ea : (⟨b, off, none⟩ : Addr).add i = ⟨b, off + i, none⟩ := by
        by_cases h0 : i = 0
        · subst h0; simp [Addr.add]
        · simp [Addr.add, h0]
      rw [ea] at hc2
      exact hc2
end Go.Proofs.Ytjnabncfkogigaa
end
section
set_option linter.unusedVariables false
namespace Go.Proofs.Ytjnabncfkogigaa
open Go.RowKit Go.ChangeShapes Go.WideShapes Go.ChangeAt Go.Joins Go.Deep
set_option linter.unusedVariables false
set_option linter.unusedSimpArgs false
structure SectorV where
  f0 : ByteArray
  f1 : Int
def rowSector (e : SectorV) : List Value := [.string e.f0, .int .i64 e.f1]
def zeroSector : List Value := [.string ByteArray.empty, .int .i64 0]
theorem rowSector_len (e : SectorV) : (rowSector e).length = 2 := rfl
theorem infoSector : (Try.prog.info? 84).map (fun i => (i.zero, i.size, i.bytes)) = some (some (.agg zeroSector.toArray), 2, 24) := by kernel_rfl
theorem cellsSectorL : Try.prog.cellsOf 124 = 2 := by kernel_rfl
set_option maxRecDepth 100000 in
theorem readSectorS {H : Type} {enc : TypeId × Value → H} {W : World} {fuel : Nat} {y : DataW H × List MemPlace} {a0 : Option Addr} {len0 cap0 : Nat}
    (hf1 : DataW.trod enc Try.prog W 0 (fun _ => true) true fuel 22 [.slice a0 len0 cap0] = some y) :
    ∃ es : List SectorV, len0 = es.length ∧ es.length ≤ maxLen ∧ SlS rowSector W a0 es ∧ ∀ e ∈ es, e.f0.size ≤ maxLen := by
  obtain ⟨es, rfl, hm, hs, hx⟩ := open_recs (enc := enc) (P := Try.prog) (w := W) (base := 0) (held := true) (a := a0) (len := len0) (cap := cap0) (row := rowSector) (ok := fun e : SectorV => e.f0.size ≤ maxLen) rowSector_len Try.underlying22 Try.underlying124 (by kernel_rfl) cellsSectorL (by rfl) (by omega) (by
    intro cs hcs hat
    match cs, hcs with
    | [c0, c1], _ =>
      obtain ⟨c, m0, y0, e, t0⟩ := hat 0 _ rfl
      cases e
      obtain ⟨x0, rfl, s0⟩ := string_cell Try.underlying9 t0
      obtain ⟨c, m1, y1, e, t1⟩ := hat 1 _ rfl
      cases e
      obtain ⟨x1, rfl⟩ := int_cell Try.underlying2 t1
      exact ⟨⟨x0, x1⟩, rfl, s0⟩) hf1
  exact ⟨es, rfl, hm, hs, hx⟩
set_option maxRecDepth 100000 in
theorem open_SectorS {H : Type} {enc : TypeId × Value → H} {W : World} {base : Nat} {v : Value} {d : DataW H} {p : List MemPlace}
    (hv : Value.okWide Try.prog W .any base 22 v) (h : DataW.Trod enc Try.prog W 0 (fun _ => true) true 22 v d p) :
    ∃ (a : Option Addr) (es : List SectorV) (cap : Nat), v = .slice a es.length cap ∧ RecArg rowSector W a es ∧ ∀ e ∈ es, e.f0.size ≤ maxLen := by
  obtain ⟨a0, len0, cap0, rfl⟩ := okWide_slice Try.underlying22 hv
  obtain ⟨fuel, hf⟩ := h
  obtain ⟨es, rfl, hm, hs, hx⟩ := readSectorS (by simpa [Value.cells] using hf)
  exact ⟨a0, es, cap0, rfl, ⟨hm, hs⟩, hx⟩
def wtSector (es : List SectorV) : Nat := es.length + (es.map fun e => e.f0.size).sum
theorem wtSector_len (es : List SectorV) : es.length ≤ wtSector es := Nat.le_add_right _ _
theorem wtSector_at {es : List SectorV} {m : Nat} (h : wtSector es ≤ m) : ∀ e ∈ es, e.f0.size ≤ m := by
  intro e he
  unfold wtSector at h
  have : e.f0.size ≤ (es.map fun e => e.f0.size).sum := le_sum_of_mem (List.mem_map.2 ⟨e, he, rfl⟩)
  omega
set_option maxHeartbeats 1000000 in
theorem szSector_any (e : SectorV) (left : Nat) (w : World) (hl : left ≤ 1048576) (hs : e.f0.size ≤ maxLen) :
    Calls Try.prog 89 #[.agg #[.string e.f0, .int .i64 e.f1], .int .i64 (left : Nat)] w fun x w' => x = .returned (.int .i64 (szV left e.f0.size)) ∧ Below w.heap.size w w' := by
  unfold maxLen at hs
  unfold szV
  by_cases h : e.f0.size ≤ left
  · rw [if_pos h]
    have h0 : ¬ ((left : Int) - (e.f0.size : Int) < 0) := by omega
    go_enter Try.func89, Try.ntmps89
    go_wp2
    go_ret
    exact ⟨ret_int (by omega), by go_grown⟩
  · rw [if_neg h]
    have h0 : (left : Int) - (e.f0.size : Int) < 0 := by omega
    go_enter Try.func89, Try.ntmps89
    go_wp2
    go_ret
    exact ⟨rfl, by go_grown⟩
set_option maxHeartbeats 2000000 in
theorem szSectorS_any (a : Option Addr) (es : List SectorV) (c left : Nat) (w : World) (hl : left ≤ 1048576) (hm : es.length ≤ maxLen) (hs : ∀ e ∈ es, e.f0.size ≤ maxLen) (h : SlS rowSector w a es) :
    Calls Try.prog 70 #[.slice a es.length c, .int .i64 (left : Nat)] w fun x w' => x = .returned (.int .i64 (szV left (wtSector es))) ∧ Below w.heap.size w w' := by
  unfold maxLen at hm
  by_cases h9 : es.length ≤ left
  · have h0 : ¬ ((left : Int) - (es.length : Int) < 0) := by omega
    have HW := Lib.hid (show ∀ k, wtSector es = es.length + ((es.take k).map fun e => e.f0.size).sum + ((es.drop k).map fun e => e.f0.size).sum from fun k => by
      unfold wtSector
      rw [Nat.add_assoc, ← List.sum_append_nat, ← List.map_append, List.take_append_drop])
    go_enter Try.func70, Try.ntmps70
    go_wp2
    go_loopw [1, 5] (fun l i wr => ∃ k m : Nat, k ≤ es.length ∧ i = .int .i64 k ∧ l = .int .i64 m ∧ m ≤ 1048576 ∧ Hid (m + (es.length + ((es.take k).map fun e => e.f0.size).sum) = left) ∧ Below w.heap.size w wr) (fun _ i _ => es.length - (intOf i).toNat)
    case atStart => exact ⟨0, left - es.length, Nat.zero_le _, rfl, by rw [show ((left - es.length : Nat) : Int) = (left : Int) - es.length by omega], by omega, by unfold Hid; simp; omega, Below.refl _ _⟩
    case round =>
      obtain ⟨k, m, hk, rfl, rfl, hm2, hS, hb⟩ := hrel
      by_cases hlt : k < es.length
      · obtain ⟨e, hx⟩ : ∃ e, es[k]? = some e := ⟨es[k], by simp [hlt]⟩
        obtain ⟨b, off, rfl, hbl, hc⟩ := (h.below hb (Nat.le_refl _)).at rowSector_len hx
        have c0 : wr.cell? ⟨b, off + k * 2, none⟩ = some (.string e.f0) := hc 0 _ rfl
        have c1 : wr.cell? ⟨b, off + k * 2 + 1, none⟩ = some (.int .i64 e.f1) := hc 1 _ rfl
        have hse := hs e (List.mem_of_getElem? hx)
        have SZ := Lib.hid (fun w => szSector_any e m w hm2 hse)
        have HS := Lib.hid hs
        have H := Lib.hid (And.intro h (And.intro hc hx)); clear h hc hx hs
        by_cases hq : e.f0.size ≤ m
        · have he : szV m e.f0.size = ((m - e.f0.size : Nat) : Int) := by unfold szV; rw [if_pos hq]
          rw [he] at SZ
          have HQ := Lib.hid hq; clear he hq hse
          obtain ⟨q, hqq⟩ : ∃ q, m - e.f0.size = q := ⟨_, rfl⟩
          rw [hqq] at SZ
          have hq1 : q ≤ 1048576 := by omega
          have hq0 : ¬ ((q : Int) < 0) := by omega
          have HQQ := Lib.hid hqq; clear hqq
          go_wp2_with fail
          refine (SZ.out _).mono ?_
          rintro e_ w1 ⟨rfl, hb1⟩
          clear c0 c1
          go_wp2
          go_roundw
          case rel =>
            refine ⟨k + 1, q, by omega, by go_num, rfl, hq1, ?_, hb.trans (hb1.mono hb.size)⟩
            unfold Hid
            rw [List.take_add_one, H.out.2.2]
            have h1 := hS.out; have h2 := HQ.out; have h3 := HQQ.out
            simp only [Option.toList_some, List.map_append, List.map_cons, List.map_nil, List.sum_append_nat, List.sum_cons, List.sum_nil]
            omega
          case measure => simp [intOf]; omega
        · have he : szV m e.f0.size = -1 := by unfold szV; rw [if_neg hq]
          rw [he] at SZ
          have HQ := Lib.hid hq; clear he hq hse
          go_wp2_with fail
          refine (SZ.out _).mono ?_
          rintro e_ w1 ⟨rfl, hb1⟩
          clear c0 c1
          go_wp2
          go_ret
          refine ⟨ret_int ?_, hb.trans (hb1.mono hb.size)⟩
          unfold szV
          rw [if_neg ?_]
          rw [HW.out (k + 1), List.take_add_one, H.out.2.2]
          have h1 := hS.out; have h2 := HQ.out
          simp only [Option.toList_some, List.map_append, List.map_cons, List.map_nil, List.sum_append_nat, List.sum_cons, List.sum_nil]
          omega
      · obtain rfl : k = es.length := by omega
        go_wp2
        go_ret
        refine ⟨ret_int ?_, hb⟩
        have h1 := hS.out; have h2 := HW.out es.length
        simp only [List.take_length, List.drop_length, List.map_nil, List.sum_nil] at h1 h2
        unfold szV
        rw [if_pos (by omega)]
        omega
  · have h0 : (left : Int) - (es.length : Int) < 0 := by omega
    have HE := Lib.hid (show szV left (wtSector es) = -1 by unfold szV; rw [if_neg (by have := wtSector_len es; omega)])
    go_enter Try.func70, Try.ntmps70
    go_wp2
    go_ret
    exact ⟨ret_int HE.out.symm, Below.refl _ _⟩
set_option maxHeartbeats 2000000 in
theorem toSector_any (e : SectorV) (w : World) :
    Calls Try.prog 92 #[.agg #[.string e.f0, .int .i64 e.f1]] w fun x w' => x = .returned (.agg #[.string e.f0, .int .i64 e.f1]) ∧ Below w.heap.size w w' := by
  go_enter Try.func92, Try.ntmps92
  go_wp2
  refine bodyPost_ret (v := .agg #[.string e.f0, .int .i64 e.f1]) (by simp [results, Try.results92, go_sem]) rfl ⟨rfl, ?_⟩
  go_grown
set_option maxHeartbeats 4000000 in
theorem toSectorS_any (a : Option Addr) (es : List SectorV) (c : Nat) (w : World) (hl : es.length ≤ 1048576) (h : SlS rowSector w a es) :
    Calls Try.prog 73 #[.slice a es.length c] w (ToRecs rowSector 84 es w) := by
  have hmk := fun w => run_make_recs (P := Try.prog) 30 84 zeroSector 2 24 Try.underlying30 infoSector rfl (by omega) .i64 .i64 es.length (by omega) (by omega) w
  go_enter Try.func73, Try.ntmps73
  go_wp2
  clear hmk
  go_loopw [4] (fun i wr => ∃ k : Nat, k ≤ es.length ∧ i = .int .i64 k ∧ Hid (wr.heap[w.heap.size]? = some (.cells (cpS rowSector zeroSector es k).toArray 84 (0, 0))) ∧ Below w.heap.size w wr ∧ w.heap.size < wr.heap.size) (fun i _ => es.length - (intOf i).toNat)
  case atStart => exact ⟨0, Nat.zero_le _, rfl, by unfold Hid; rw [← cpS_zero]; exact heap_alloc_new w _, (Below.refl _ _).alloc (Nat.le_refl _) _, by simp⟩
  case round =>
    obtain ⟨k, hk, rfl, hB, hb, hgt⟩ := hrel
    by_cases hlt : k < es.length
    · obtain ⟨e, hx⟩ : ∃ e, es[k]? = some e := ⟨es[k], by simp [hlt]⟩
      obtain ⟨b, off, rfl, hbl, hc⟩ := (h.below hb (Nat.le_refl _)).at rowSector_len hx
      have c0 : wr.cell? ⟨b, off + k * 2, none⟩ = some (.string e.f0) := hc 0 _ rfl
      have c1 : wr.cell? ⟨b, off + k * 2 + 1, none⟩ = some (.int .i64 e.f1) := hc 1 _ rfl
      have TO := Lib.hid (fun w => toSector_any e w)
      have H := Lib.hid (And.intro h (And.intro hc hx)); clear h hc hx
      go_wp2_with fail
      refine (TO.out _).mono ?_
      rintro e_ w1 ⟨rfl, hb1⟩
      clear c0 c1
      have hB1 : w1.heap[w.heap.size]? = some (.cells (cpS rowSector zeroSector es k).toArray 84 (0, 0)) := by rw [hb1.block _ hgt]; exact hB.out
      have hb2 : Below w.heap.size w w1 := hb.trans (hb1.mono (by omega))
      have hgt1 : w.heap.size < w1.heap.size := Nat.lt_of_lt_of_le hgt hb1.size
      have hlen := cpS_size (zero := zeroSector) rowSector_len rfl hk
      have hcell : ∀ j, j < 2 → ∃ v, w1.cell? ⟨w.heap.size, k * 2 + j, none⟩ = some v := fun j hj => by
        have : (cpS rowSector zeroSector es k)[k * 2 + j]?.isSome = true := by simp [hlen]; omega
        obtain ⟨v, hv⟩ := Option.isSome_iff_exists.1 this
        exact ⟨v, by simp [World.cell?, hB1, hv]⟩
      obtain ⟨o0, d0⟩ := hcell 0 (by omega)
      obtain ⟨o1, d1⟩ := hcell 1 (by omega)
      have d0 : w1.cell? ⟨w.heap.size, k * 2, none⟩ = some o0 := d0
      have z0 : w1.frozen? ⟨w.heap.size, k * 2, none⟩ = false := by simp [World.frozen?, hB1]
      have z1 : w1.frozen? ⟨w.heap.size, k * 2 + 1, none⟩ = false := by simp [World.frozen?, hB1]
      have HB := Lib.hid (And.intro hB1 (And.intro hb2 (And.intro hb1 hlen))); clear hB hB1 hb2 hb1 hb hcell hlen hgt hbl
      go_wp2
      go_roundw
      case rel =>
        obtain ⟨hB1, hb2, hb1, hlen⟩ := HB.out
        obtain ⟨h, hc, hx⟩ := H.out
        refine ⟨k + 1, by omega, by go_num, ?_, ?_, ?_⟩
        · unfold Hid
          rw [← cpS_succ (zero := zeroSector) rowSector_len rfl hx]
          exact heap_setCells _ _ (rowSector e) (k * 2) w1 _ hB1
        · exact below_setCells _ (Nat.le_refl _) (rowSector e) (k * 2) w w1 hb2
        · exact Nat.lt_of_lt_of_le hgt1 (below_setCells (B := 0) w.heap.size (Nat.zero_le _) (rowSector e) (k * 2) w1 w1 (Below.refl _ _)).size
      case measure => simp [intOf]; omega
    · obtain rfl : k = es.length := by omega
      go_wp2
      go_ret
      exact ⟨_, rfl, by have := hB.out; rw [cpS_all] at this; exact this, Nat.le_refl _, hb⟩
def sameSector (x y : SectorV) : Bool := decide (x.f0 = y.f0) && (x.f1 == y.f1)
theorem sameSector_iff {x y : SectorV} : sameSector x y = true ↔ x = y := by
  cases x; cases y
  simp [sameSector, and_assoc]
set_option maxHeartbeats 4000000 in
theorem eqSector_any (x y : SectorV) (w : World) :
    Calls Try.prog 95 #[.agg #[.string x.f0, .int .i64 x.f1], .agg #[.string y.f0, .int .i64 y.f1]] w fun e w' => e = .returned (.bool (sameSector x y)) ∧ Below w.heap.size w w' := by
  obtain ⟨x0, x1⟩ := x
  obtain ⟨y0, y1⟩ := y
  dsimp only
  by_cases h0 : x0 = y0
  case neg =>
    have hb0 := toList_ne2 h0
    have HE := Lib.hid (show sameSector ⟨x0, x1⟩ ⟨y0, y1⟩ = false by simp [sameSector, h0])
    clear h0
    go_enter Try.func95, Try.ntmps95
    go_wp2
    go_ret
    exact ⟨ret_bool HE.out.symm, by go_grown⟩
  subst h0
  by_cases h1 : x1 = y1
  case neg =>
    have hb1 : (x1 != y1) = true := by simp [h1]
    have HE := Lib.hid (show sameSector ⟨x0, x1⟩ ⟨x0, y1⟩ = false by simp [sameSector, h1])
    clear h1
    go_enter Try.func95, Try.ntmps95
    go_wp2
    go_ret
    exact ⟨ret_bool HE.out.symm, by go_grown⟩
  subst h1
  have HE := Lib.hid (show sameSector ⟨x0, x1⟩ ⟨x0, x1⟩ = true by simp [sameSector])
  go_enter Try.func95, Try.ntmps95
  go_wp2
  go_ret
  exact ⟨ret_bool HE.out.symm, by go_grown⟩
set_option maxHeartbeats 4000000 in
theorem eqSectorS_any (r : Bool) (a b : Option Addr) (xs ys : List SectorV) (c d : Nat) (w : World) (hr : r = true ↔ xs = ys) (hx : xs.length ≤ 4194304) (hy : ys.length ≤ 4194304) (h1 : SlS rowSector w a xs) (h2 : SlS rowSector w b ys) :
    Calls Try.prog 79 #[.slice a xs.length c, .slice b ys.length d] w fun e w' => e = .returned (.bool r) ∧ Below w.heap.size w w' := by
  have HR := Lib.hid hr; clear hr
  by_cases hl : xs.length = ys.length
  · have hne : ((xs.length : Int) != ys.length) = false := by simp; omega
    have HL := Lib.hid hl; clear hl
    go_enter Try.func79, Try.ntmps79
    go_wp2
    go_loopw [5] (fun i wr => ∃ k : Nat, k ≤ xs.length ∧ i = .int .i64 k ∧ Hid (xs.take k = ys.take k) ∧ Below w.heap.size w wr) (fun i _ => xs.length - (intOf i).toNat)
    case atStart => exact ⟨0, Nat.zero_le _, rfl, by unfold Hid; rfl, Below.refl _ _⟩
    case round =>
      obtain ⟨k, hk, rfl, hT, hb⟩ := hrel
      have h1' := h1.below hb (Nat.le_refl _)
      have h2' := h2.below hb (Nat.le_refl _)
      by_cases hlt : k < xs.length
      · have hly : k < ys.length := by have := HL.out; omega
        obtain ⟨x, hxk⟩ : ∃ e, xs[k]? = some e := ⟨xs[k], by simp [hlt]⟩
        obtain ⟨y, hyk⟩ : ∃ e, ys[k]? = some e := ⟨ys[k], by simp [hly]⟩
        obtain ⟨bx, ox, rfl, hlx, hcx⟩ := h1'.at rowSector_len hxk
        obtain ⟨b2, o2, rfl, hly2, hcy⟩ := h2'.at rowSector_len hyk
        have c0 : wr.cell? ⟨bx, ox + k * 2, none⟩ = some (.string x.f0) := hcx 0 _ rfl
        have d0 : wr.cell? ⟨b2, o2 + k * 2, none⟩ = some (.string y.f0) := hcy 0 _ rfl
        have c1 : wr.cell? ⟨bx, ox + k * 2 + 1, none⟩ = some (.int .i64 x.f1) := hcx 1 _ rfl
        have d1 : wr.cell? ⟨b2, o2 + k * 2 + 1, none⟩ = some (.int .i64 y.f1) := hcy 1 _ rfl
        have HX := Lib.hid hxk; have HY := Lib.hid hyk; clear hxk hyk
        have e1 : (k : Int) < xs.length := by omega
        have e2 : (k : Int) < ys.length := by omega
        have H1 := Lib.hid (And.intro h1 (And.intro h1' hcx)); have H2 := Lib.hid (And.intro h2 (And.intro h2' hcy)); clear h1 h1' h2 h2'
        have EQ := Lib.hid (fun w => eqSector_any x y w)
        obtain ⟨q, hq⟩ : ∃ q, sameSector x y = q := ⟨_, rfl⟩
        rw [hq] at EQ
        have HQ := Lib.hid hq; clear hq
        have KS := Lib.hid (fun w' (hbw : Below wr.heap.size wr w') => (show w'.cell? ⟨bx, ox + k * 2, none⟩ = some (.string x.f0) ∧ w'.cell? ⟨bx, ox + k * 2 + 1, none⟩ = some (.int .i64 x.f1) ∧ w'.cell? ⟨b2, o2 + k * 2, none⟩ = some (.string y.f0) ∧ w'.cell? ⟨b2, o2 + k * 2 + 1, none⟩ = some (.int .i64 y.f1) from ⟨(hcx.below hbw hlx) 0 _ rfl, (hcx.below hbw hlx) 1 _ rfl, (hcy.below hbw hly2) 0 _ rfl, (hcy.below hbw hly2) 1 _ rfl⟩))
        have hks : wr.cell? ⟨bx, ox + k * 2, none⟩ = some (.string x.f0) ∧ wr.cell? ⟨bx, ox + k * 2 + 1, none⟩ = some (.int .i64 x.f1) ∧ wr.cell? ⟨b2, o2 + k * 2, none⟩ = some (.string y.f0) ∧ wr.cell? ⟨b2, o2 + k * 2 + 1, none⟩ = some (.int .i64 y.f1) := KS.out _ (Below.refl _ _)
        have HC := Lib.hid (show Below wr.heap.size wr wr.drew from (Below.refl _ _).drew)
        have HB := Lib.hid hb; clear hb c0 d0 c1 d1 hlx hly2 hcx hcy
        cases q
        all_goals
          go_wp2
          go_region_held3 (fun w' => w'.cell? ⟨bx, ox + k * 2, none⟩ = some (.string x.f0) ∧ w'.cell? ⟨bx, ox + k * 2 + 1, none⟩ = some (.int .i64 x.f1) ∧ w'.cell? ⟨b2, o2 + k * 2, none⟩ = some (.string y.f0) ∧ w'.cell? ⟨b2, o2 + k * 2 + 1, none⟩ = some (.int .i64 y.f1))
            (first | (with_reducible exact KS.out _ HC.out) | go_keep)
            ((go_at_call 95; refine (EQ.out _).mono ?_; rintro e w1 ⟨rfl, hb1⟩; replace HC := Lib.hid (HC.out.trans (hb1.mono HC.out.size))))
        · have hb' := HB.out.trans (HC.out.mono HB.out.size)
          clear hks
          go_wp2
          go_ret
          refine ⟨ret_bool ?_, hb'⟩
          cases r with
          | false => rfl
          | true =>
          exfalso
          have e := HR.out.1 rfl
          have h3 := HX.out
          rw [e, HY.out] at h3
          have h4 := sameSector_iff.2 (Option.some.inj h3).symm
          rw [HQ.out] at h4
          cases h4
        · have hb' := HB.out.trans (HC.out.mono HB.out.size)
          clear hks
          go_wp2
          go_roundw
          case rel => exact ⟨k + 1, by omega, by go_num, by unfold Hid; rw [List.take_add_one, List.take_add_one, HX.out, HY.out, hT.out, sameSector_iff.1 HQ.out], hb'⟩
          case measure => simp [intOf]; omega
      · go_wp2
        go_ret
        refine ⟨ret_bool ?_, hb⟩
        obtain rfl : k = xs.length := by omega
        exact (HR.out.2 (take_eq HL.out hT.out)).symm
  · have hne : ((xs.length : Int) != ys.length) = true := by simp; omega
    have HQ := Lib.hid (show r = false by
      cases r with
      | false => rfl
      | true => exact absurd (by rw [HR.out.1 rfl]) hl)
    go_enter Try.func79, Try.ntmps79
    go_wp2
    go_ret
    exact ⟨ret_bool HQ.out.symm, Below.refl _ _⟩
end Go.Proofs.Ytjnabncfkogigaa
end
section
set_option linter.unusedVariables false
namespace Go.Proofs.Ytjnabncfkogigaa
open Go.RowKit Go.ChangeShapes Go.WideShapes Go.ChangeAt Go.Joins Go.Deep
set_option linter.unusedVariables false
set_option linter.unusedSimpArgs false
set_option maxRecDepth 20000
structure DiscV where
  f0 : Int
  f1 : Int
  f2 : Int
  f3 : Int
  f4 : List SectorV
theorem cellsDiscL : Try.prog.cellsOf 24 = 5 := by kernel_rfl
def wtDisc (x : DiscV) : Nat := wtSector x.f4
theorem wtDisc_len (x : DiscV) : x.f4.length ≤ wtDisc x := wtSector_len _
/-- What the walk is told of a Disc that came in. -/
def ArgDisc (W : World) (a : Option Addr) (x : DiscV) : Prop := x.f4.length ≤ maxLen ∧ SlS rowSector W a x.f4 ∧ ∀ e ∈ x.f4, e.f0.size ≤ maxLen
set_option maxRecDepth 100000 in
theorem open_Disc {H : Type} {enc : TypeId × Value → H} {W : World} {base : Nat} {v : Value} {d : DataW H} {p : List MemPlace}
    (hv : Value.okWide Try.prog W .any base 24 v) (h : DataW.Trod enc Try.prog W 0 (fun _ => true) true 24 v d p) :
    ∃ (x : DiscV) (a : Option Addr) (cap : Nat), v = .agg #[.int .i64 x.f0, .int .i64 x.f1, .int .i64 x.f2, .int .i64 x.f3, .slice a x.f4.length cap] ∧ ArgDisc W a x := by
  obtain ⟨cs, rfl, hsz, hf⟩ := open_fields Try.underlying24 (by kernel_rfl) cellsDiscL (by rfl) hv h
  obtain ⟨l⟩ := cs
  match l, hsz, hf with
  | [c0, c1, c2, c3, c4], _, hf =>
    obtain ⟨c0', n0, y0, e0, t0⟩ := hf 0 _ rfl
    obtain ⟨c1', n1, y1, e1, t1⟩ := hf 1 _ rfl
    obtain ⟨c2', n2, y2, e2, t2⟩ := hf 2 _ rfl
    obtain ⟨c3', n3, y3, e3, t3⟩ := hf 3 _ rfl
    obtain ⟨c4', n4, y4, e4, t4⟩ := hf 4 _ rfl
    cases e0; cases e1; cases e2; cases e3; cases e4
    obtain ⟨x0, rfl⟩ := int_cell Try.underlying2 t0
    obtain ⟨x1, rfl⟩ := int_cell Try.underlying2 t1
    obtain ⟨x2, rfl⟩ := int_cell Try.underlying2 t2
    obtain ⟨x3, rfl⟩ := int_cell Try.underlying2 t3
    obtain ⟨a0, len0, cap0, rfl⟩ : ∃ a0 len0 cap0, c4 = .slice a0 len0 cap0 := by
      rcases open_slice Try.underlying22 t4 with ⟨hcs, _⟩ | ⟨a', len', cap', m, k, D, Pl, hcs, _⟩
      · simp at hcs; exact ⟨_, _, _, hcs⟩
      · simp at hcs; exact ⟨_, _, _, hcs⟩
    obtain ⟨es, rfl, hm, hs, hx⟩ := readSectorS t4
    exact ⟨⟨x0, x1, x2, x3, es⟩, a0, cap0, rfl, ⟨hm, hs, hx⟩⟩
set_option maxHeartbeats 1000000 in
theorem szDisc_any (x : DiscV) (a : Option Addr) (c left : Nat) (w : World) (hl : left ≤ 1048576) (hm : x.f4.length ≤ maxLen) (hs : ∀ e ∈ x.f4, e.f0.size ≤ maxLen) (h : SlS rowSector w a x.f4) :
    Calls Try.prog 40 #[.agg #[.int .i64 x.f0, .int .i64 x.f1, .int .i64 x.f2, .int .i64 x.f3, .slice a x.f4.length c], .int .i64 (left : Nat)] w fun y w' => y = .returned (.int .i64 (szV left (wtDisc x))) ∧ Below w.heap.size w w' := by
  have hc := fun w' (hb : Below w.heap.size w w') => szSectorS_any a x.f4 c left w' hl hm hs (h.below hb (Nat.le_refl _))
  unfold wtDisc
  clear h hs
  by_cases hk : wtSector x.f4 ≤ left
  · have he : szV left (wtSector x.f4) = ((left - wtSector x.f4 : Nat) : Int) := by unfold szV; rw [if_pos hk]
    rw [he] at hc ⊢
    obtain ⟨r, hr⟩ : ∃ r, left - wtSector x.f4 = r := ⟨_, rfl⟩
    rw [hr] at hc ⊢
    have h0 : ¬ ((r : Int) < 0) := by omega
    have h1 : r ≤ 1048576 := by omega
    have HC := Lib.hid hc; clear hc hr he hk
    go_enter Try.func40, Try.ntmps40
    go_wp2_with fail
    refine (HC.out _ (by go_grown)).mono ?_
    rintro e w1 ⟨rfl, hb1⟩
    go_wp2
    go_ret
    exact ⟨rfl, Below.trans (by go_grown) (hb1.mono (by simp))⟩
  · have he : szV left (wtSector x.f4) = -1 := by unfold szV; rw [if_neg hk]
    rw [he] at hc ⊢
    have HC := Lib.hid hc; clear hc he hk
    go_enter Try.func40, Try.ntmps40
    go_wp2_with fail
    refine (HC.out _ (by go_grown)).mono ?_
    rintro e w1 ⟨rfl, hb1⟩
    go_wp2
    go_ret
    exact ⟨rfl, Below.trans (by go_grown) (hb1.mono (by simp))⟩
def ToDiscPost (x : DiscV) (w : World) (e : Ending) (w' : World) : Prop :=
  ∃ g, e = .returned (.agg #[.int .i64 x.f0, .int .i64 x.f1, .int .i64 x.f2, .int .i64 x.f3, .slice (some ⟨g, 0, none⟩) x.f4.length x.f4.length]) ∧ BlkS rowSector 84 w' g x.f4 ∧ w.heap.size ≤ g ∧ Below w.heap.size w w'
set_option maxHeartbeats 2000000 in
theorem toDisc_any (x : DiscV) (a : Option Addr) (c : Nat) (w : World) (hl : x.f4.length ≤ 1048576) (h : SlS rowSector w a x.f4) :
    Calls Try.prog 43 #[.agg #[.int .i64 x.f0, .int .i64 x.f1, .int .i64 x.f2, .int .i64 x.f3, .slice a x.f4.length c]] w (ToDiscPost x w) := by
  have hc := fun w' (hb : Below w.heap.size w w') => toSectorS_any a x.f4 c w' hl (h.below hb (Nat.le_refl _))
  have HC := Lib.hid hc; clear hc h
  go_enter Try.func43, Try.ntmps43
  go_wp2_with fail
  refine (HC.out _ (by go_grown)).mono ?_
  rintro e w1 ⟨g, rfl, hrow, hg, hb1⟩
  have q0 : w1.cell? ⟨w.heap.size + 1 + 1, 0, none⟩ = some (.int .i64 x.f0) := by rw [hb1.cell (p := ⟨w.heap.size + 1 + 1, 0, none⟩) (by simp)]; simp [go_sem]
  have r0 : w1.cell? ⟨w.heap.size + 1, 0, none⟩ = some (.int .i64 0) := by rw [hb1.cell (p := ⟨w.heap.size + 1, 0, none⟩) (by simp)]; simp [go_sem]
  have y0 : w1.frozen? ⟨w.heap.size + 1, 0, none⟩ = false := by rw [hb1.frozen (p := ⟨w.heap.size + 1, 0, none⟩) (by simp)]; simp [go_sem]
  have q1 : w1.cell? ⟨w.heap.size + 1 + 1, 1, none⟩ = some (.int .i64 x.f1) := by rw [hb1.cell (p := ⟨w.heap.size + 1 + 1, 1, none⟩) (by simp)]; simp [go_sem]
  have r1 : w1.cell? ⟨w.heap.size + 1, 1, none⟩ = some (.int .i64 0) := by rw [hb1.cell (p := ⟨w.heap.size + 1, 1, none⟩) (by simp)]; simp [go_sem]
  have y1 : w1.frozen? ⟨w.heap.size + 1, 1, none⟩ = false := by rw [hb1.frozen (p := ⟨w.heap.size + 1, 1, none⟩) (by simp)]; simp [go_sem]
  have q2 : w1.cell? ⟨w.heap.size + 1 + 1, 2, none⟩ = some (.int .i64 x.f2) := by rw [hb1.cell (p := ⟨w.heap.size + 1 + 1, 2, none⟩) (by simp)]; simp [go_sem]
  have r2 : w1.cell? ⟨w.heap.size + 1, 2, none⟩ = some (.int .i64 0) := by rw [hb1.cell (p := ⟨w.heap.size + 1, 2, none⟩) (by simp)]; simp [go_sem]
  have y2 : w1.frozen? ⟨w.heap.size + 1, 2, none⟩ = false := by rw [hb1.frozen (p := ⟨w.heap.size + 1, 2, none⟩) (by simp)]; simp [go_sem]
  have q3 : w1.cell? ⟨w.heap.size + 1 + 1, 3, none⟩ = some (.int .i64 x.f3) := by rw [hb1.cell (p := ⟨w.heap.size + 1 + 1, 3, none⟩) (by simp)]; simp [go_sem]
  have r3 : w1.cell? ⟨w.heap.size + 1, 3, none⟩ = some (.int .i64 0) := by rw [hb1.cell (p := ⟨w.heap.size + 1, 3, none⟩) (by simp)]; simp [go_sem]
  have y3 : w1.frozen? ⟨w.heap.size + 1, 3, none⟩ = false := by rw [hb1.frozen (p := ⟨w.heap.size + 1, 3, none⟩) (by simp)]; simp [go_sem]
  have q4 : w1.cell? ⟨w.heap.size + 1 + 1, 4, none⟩ = some (.slice none 0 0) := by rw [hb1.cell (p := ⟨w.heap.size + 1 + 1, 4, none⟩) (by simp)]; simp [go_sem]
  have r4 : w1.cell? ⟨w.heap.size + 1, 4, none⟩ = some (.slice none 0 0) := by rw [hb1.cell (p := ⟨w.heap.size + 1, 4, none⟩) (by simp)]; simp [go_sem]
  have y4 : w1.frozen? ⟨w.heap.size + 1, 4, none⟩ = false := by rw [hb1.frozen (p := ⟨w.heap.size + 1, 4, none⟩) (by simp)]; simp [go_sem]
  have z4 : w1.frozen? ⟨w.heap.size + 1 + 1, 4, none⟩ = false := by rw [hb1.frozen (p := ⟨w.heap.size + 1 + 1, 4, none⟩) (by simp)]; simp [go_sem]
  have FB := Lib.hid (show Below w.heap.size w w1 from Below.trans (by go_grown) (hb1.mono (by simp; omega)))
  have hg2 : w.heap.size + 2 < g := by have := hg; simp at this; omega
  have HR := Lib.hid hrow
  clear hb1 hrow hg
  go_wp2
  refine bodyPost_ret (v := .agg #[.int .i64 x.f0, .int .i64 x.f1, .int .i64 x.f2, .int .i64 x.f3, .slice (some ⟨g, 0, none⟩) x.f4.length x.f4.length]) (by simp [results, Try.results43, go_sem, r0, y0, r1, y1, r2, y2, r3, y3, r4, y4]) rfl ⟨g, rfl, ?_, by omega, ?_⟩
  · have := HR.out
    unfold BlkS at this ⊢
    rw [← this]
    refine Eq.symm ?_
    simp only [World.setCell, Array.getElem?_modify]
    rw [if_neg (by omega), if_neg (by omega), if_neg (by omega), if_neg (by omega), if_neg (by omega), if_neg (by omega)]
  · exact ((((((FB.out).setCell (by simp <;> omega) _).setCell (by simp <;> omega) _).setCell (by simp <;> omega) _).setCell (by simp <;> omega) _).setCell (by simp <;> omega) _).setCell (by simp <;> omega) _
theorem DiscV.ext' {x y : DiscV} (h : x.f0 = y.f0 ∧ x.f1 = y.f1 ∧ x.f2 = y.f2 ∧ x.f3 = y.f3 ∧ x.f4 = y.f4) : x = y := by
  obtain ⟨x0, x1, x2, x3, x4⟩ := x; obtain ⟨y0, y1, y2, y3, y4⟩ := y
  simpa using h
set_option maxHeartbeats 4000000 in
theorem eqDisc_any (r : Bool) (x : DiscV) (a : Option Addr) (c : Nat) (y : DiscV) (b : Option Addr) (d : Nat) (w : World) (hr : r = true ↔ x = y) (hx : x.f4.length ≤ 4194304) (hy : y.f4.length ≤ 4194304) (h1 : SlS rowSector w a x.f4) (h2 : SlS rowSector w b y.f4) :
    Calls Try.prog 52 #[.agg #[.int .i64 x.f0, .int .i64 x.f1, .int .i64 x.f2, .int .i64 x.f3, .slice a x.f4.length c], .agg #[.int .i64 y.f0, .int .i64 y.f1, .int .i64 y.f2, .int .i64 y.f3, .slice b y.f4.length d]] w fun e w' => e = .returned (.bool r) ∧ Below w.heap.size w w' := by
  have hq : ∃ q : Bool, q = true ↔ x.f4 = y.f4 := ⟨@decide (x.f4 = y.f4) (Classical.propDecidable _), by simp⟩
  obtain ⟨q, hq⟩ := hq
  have hc := fun w' (hb : Below w.heap.size w w') => eqSectorS_any q a b x.f4 y.f4 c d w' hq hx hy (h1.below hb (Nat.le_refl _)) (h2.below hb (Nat.le_refl _))
  have HC := Lib.hid hc; clear hc h1 h2
  have HQ := Lib.hid hq; have HR := Lib.hid hr; clear hq hr
  by_cases h0 : x.f0 = y.f0
  case neg =>
    have HE := Lib.hid (show r = false by
      cases r with
      | false => rfl
      | true => exact absurd (by rw [HR.out.1 rfl]) h0)
    have hb0 : (x.f0 != y.f0) = true := by simp [h0]
    clear h0
    go_enter Try.func52, Try.ntmps52
    go_wp2
    go_ret
    exact ⟨ret_bool HE.out.symm, by go_grown⟩
  have hb0 : (x.f0 != y.f0) = false := by simp [h0]
  have H0 := Lib.hid h0; clear h0
  by_cases h1 : x.f1 = y.f1
  case neg =>
    have HE := Lib.hid (show r = false by
      cases r with
      | false => rfl
      | true => exact absurd (by rw [HR.out.1 rfl]) h1)
    have hb1 : (x.f1 != y.f1) = true := by simp [h1]
    clear h1
    go_enter Try.func52, Try.ntmps52
    go_wp2
    go_ret
    exact ⟨ret_bool HE.out.symm, by go_grown⟩
  have hb1 : (x.f1 != y.f1) = false := by simp [h1]
  have H1 := Lib.hid h1; clear h1
  by_cases h2 : x.f2 = y.f2
  case neg =>
    have HE := Lib.hid (show r = false by
      cases r with
      | false => rfl
      | true => exact absurd (by rw [HR.out.1 rfl]) h2)
    have hb2 : (x.f2 != y.f2) = true := by simp [h2]
    clear h2
    go_enter Try.func52, Try.ntmps52
    go_wp2
    go_ret
    exact ⟨ret_bool HE.out.symm, by go_grown⟩
  have hb2 : (x.f2 != y.f2) = false := by simp [h2]
  have H2 := Lib.hid h2; clear h2
  by_cases h3 : x.f3 = y.f3
  case neg =>
    have HE := Lib.hid (show r = false by
      cases r with
      | false => rfl
      | true => exact absurd (by rw [HR.out.1 rfl]) h3)
    have hb3 : (x.f3 != y.f3) = true := by simp [h3]
    clear h3
    go_enter Try.func52, Try.ntmps52
    go_wp2
    go_ret
    exact ⟨ret_bool HE.out.symm, by go_grown⟩
  have hb3 : (x.f3 != y.f3) = false := by simp [h3]
  have H3 := Lib.hid h3; clear h3
  cases q with
  | false =>
    have HE := Lib.hid (show r = false by
      cases r with
      | false => rfl
      | true => exact absurd (HQ.out.2 (by rw [HR.out.1 rfl])) (by simp))
    go_enter Try.func52, Try.ntmps52
    go_wp2_with fail
    refine (HC.out _ (by go_grown)).mono ?_
    rintro e w1 ⟨rfl, hb1⟩
    go_wp2
    go_ret
    exact ⟨ret_bool HE.out.symm, Below.trans (by go_grown) (hb1.mono (by simp; omega))⟩
  | true =>
    have HE := Lib.hid (show r = true from HR.out.2 (DiscV.ext' ⟨H0.out, H1.out, H2.out, H3.out, HQ.out.1 rfl⟩))
    go_enter Try.func52, Try.ntmps52
    go_wp2_with fail
    refine (HC.out _ (by go_grown)).mono ?_
    rintro e w1 ⟨rfl, hb1⟩
    go_wp2
    go_ret
    exact ⟨ret_bool HE.out.symm, Below.trans (by go_grown) (hb1.mono (by simp; omega))⟩
end Go.Proofs.Ytjnabncfkogigaa
end
section
set_option linter.unusedVariables false
namespace Go.Proofs.Ytjnabncfkogigaa
open Go.RowKit Go.ChangeShapes Go.WideShapes Go.ChangeAt Go.Joins Go.Deep
set_option linter.unusedVariables false
set_option linter.unusedSimpArgs false
set_option maxRecDepth 20000
structure DeviceV where
  f0 : DiscV
  f1 : Int
  f2 : Int
  f3 : List Int
theorem DeviceV.ext' {x y : DeviceV} (h : x.f0 = y.f0 ∧ x.f1 = y.f1 ∧ x.f2 = y.f2 ∧ x.f3 = y.f3) : x = y := by
  obtain ⟨x0, x1, x2, x3⟩ := x; obtain ⟨y0, y1, y2, y3⟩ := y
  simpa using h
theorem cellsDeviceN : Try.prog.cellsOf 27 = 8 := by kernel_rfl
theorem cellsDevice_1 : Try.prog.cellsOf 2 = 1 := by kernel_rfl
theorem cellsDevice_2 : Try.prog.cellsOf 2 = 1 := by kernel_rfl
theorem cellsDevice_3 : Try.prog.cellsOf 25 = 1 := by kernel_rfl
/-- No slice of it has more than m elements. -/
def LenDevice (m : Nat) (x : DeviceV) : Prop := x.f0.f4.length ≤ m ∧ x.f3.length ≤ m
def StrDevice (m : Nat) (x : DeviceV) : Prop := (∀ e ∈ x.f0.f4, e.f0.size ≤ m)
def SlDevice (w : World) (s0 s1 : Option Addr) (x : DeviceV) : Prop := SlS rowSector w s0 x.f0.f4 ∧ SlA w s1 x.f3
def SlIDevice (w : World) (B C : Nat) (s0 s1 : Option Addr) (x : DeviceV) : Prop := SlSI rowSector 84 w B C s0 x.f0.f4 ∧ SlI w B C s1 x.f3
def ArgDevice (W : World) (s0 s1 : Option Addr) (x : DeviceV) : Prop := LenDevice maxLen x ∧ SlDevice W s0 s1 x ∧ StrDevice maxLen x
theorem SlDevice.below {w w' : World} {B : Nat} {s0 s1 : Option Addr} {x : DeviceV} (h : SlDevice w s0 s1 x) (hb : Below B w w') (hB : w.heap.size ≤ B) : SlDevice w' s0 s1 x := ⟨(h.1).below hb hB, (h.2).below hb hB⟩
theorem SlIDevice.sl {w : World} {B C : Nat} {s0 s1 : Option Addr} {x : DeviceV} (h : SlIDevice w B C s0 s1 x) : SlDevice w s0 s1 x := ⟨(h.1).sl, (h.2).sl⟩
theorem SlIDevice.sm {lo hi : Nat} {w w' : World} {B C : Nat} {s0 s1 : Option Addr} {x : DeviceV} (h : SlIDevice w B C s0 s1 x) (hs : Sm lo hi w w') (hp : C ≤ lo ∨ hi ≤ B) : SlIDevice w' B C s0 s1 x := ⟨(h.1).sm hs hp, (h.2).sm hs hp⟩
theorem SlIDevice.mono {w : World} {B C B' C' : Nat} {s0 s1 : Option Addr} {x : DeviceV} (h : SlIDevice w B C s0 s1 x) (hB : B' ≤ B) (hC : C ≤ C') : SlIDevice w B' C' s0 s1 x := ⟨(h.1).mono hB hC, (h.2).mono hB hC⟩
theorem SlIDevice.drew {w : World} {B C : Nat} {s0 s1 : Option Addr} {x : DeviceV} (h : SlIDevice w B C s0 s1 x) : SlIDevice w.drew B C s0 s1 x := h
theorem SlIDevice.within {w : World} {B C : Nat} {s0 s1 : Option Addr} {x : DeviceV} (h : SlIDevice w B C s0 s1 x) : SlIDevice w B C s0 s1 x := h
set_option maxRecDepth 100000 in
theorem open_Device {H : Type} {enc : TypeId × Value → H} {W : World} {base : Nat} {v : Value} {d : DataW H} {p : List MemPlace}
    (hv : Value.okWide Try.prog W .any base 27 v) (h : DataW.Trod enc Try.prog W 0 (fun _ => true) true 27 v d p) :
    ∃ (x : DeviceV) (s0 s1 : Option Addr) (c0 c1 : Nat), v = .agg #[.int .i64 x.f0.f0, .int .i64 x.f0.f1, .int .i64 x.f0.f2, .int .i64 x.f0.f3, .slice s0 x.f0.f4.length c0, .int .i64 x.f1, .int .i64 x.f2, .slice s1 x.f3.length c1] ∧ ArgDevice W s0 s1 x := by
  obtain ⟨cs, rfl, hsz, hf⟩ := open_nest Try.underlying27 hv h
  rw [cellsDeviceN] at hsz
  obtain ⟨l⟩ := cs
  match l, hsz, hf with
  | [k0, k1, k2, k3, k4, k5, k6, k7], _, hf =>
    obtain ⟨n0, y0, t0⟩ := hf 0 _ rfl
    change DataW.trod enc Try.prog W 0 (fun _ => true) true n0 24 ((List.drop 0 [k0, k1, k2, k3, k4, k5, k6, k7]).take (Try.prog.cellsOf 24)) = some y0 at t0
    rw [cellsDiscL] at t0
    simp only [List.drop_zero, List.take_succ_cons, List.take_zero, List.drop_succ_cons] at t0
    obtain ⟨n1, y1, t1⟩ := hf 1 _ rfl
    change DataW.trod enc Try.prog W 0 (fun _ => true) true n1 2 ((List.drop 5 [k0, k1, k2, k3, k4, k5, k6, k7]).take (Try.prog.cellsOf 2)) = some y1 at t1
    rw [cellsDevice_1] at t1
    simp only [List.drop_zero, List.take_succ_cons, List.take_zero, List.drop_succ_cons] at t1
    obtain ⟨n2, y2, t2⟩ := hf 2 _ rfl
    change DataW.trod enc Try.prog W 0 (fun _ => true) true n2 2 ((List.drop 6 [k0, k1, k2, k3, k4, k5, k6, k7]).take (Try.prog.cellsOf 2)) = some y2 at t2
    rw [cellsDevice_2] at t2
    simp only [List.drop_zero, List.take_succ_cons, List.take_zero, List.drop_succ_cons] at t2
    obtain ⟨n3, y3, t3⟩ := hf 3 _ rfl
    change DataW.trod enc Try.prog W 0 (fun _ => true) true n3 25 ((List.drop 7 [k0, k1, k2, k3, k4, k5, k6, k7]).take (Try.prog.cellsOf 25)) = some y3 at t3
    rw [cellsDevice_3] at t3
    simp only [List.drop_zero, List.take_succ_cons, List.take_zero, List.drop_succ_cons] at t3
    obtain ⟨_, hg0⟩ := inner_fields Try.underlying24 (by kernel_rfl) cellsDiscL t0
    obtain ⟨q0_0, n0_0, y0_0, e0_0, t0_0⟩ := hg0 0 _ rfl
    cases e0_0
    obtain ⟨q0_1, n0_1, y0_1, e0_1, t0_1⟩ := hg0 1 _ rfl
    cases e0_1
    obtain ⟨q0_2, n0_2, y0_2, e0_2, t0_2⟩ := hg0 2 _ rfl
    cases e0_2
    obtain ⟨q0_3, n0_3, y0_3, e0_3, t0_3⟩ := hg0 3 _ rfl
    cases e0_3
    obtain ⟨q0_4, n0_4, y0_4, e0_4, t0_4⟩ := hg0 4 _ rfl
    cases e0_4
    obtain ⟨x0_0, rfl⟩ := int_cell Try.underlying2 t0_0
    obtain ⟨x0_1, rfl⟩ := int_cell Try.underlying2 t0_1
    obtain ⟨x0_2, rfl⟩ := int_cell Try.underlying2 t0_2
    obtain ⟨x0_3, rfl⟩ := int_cell Try.underlying2 t0_3
    obtain ⟨a0, len0, cap0, rfl⟩ : ∃ a0 len0 cap0, k4 = .slice a0 len0 cap0 := by
      rcases open_slice Try.underlying22 t0_4 with ⟨hcs, _⟩ | ⟨a', len', cap', m, k, D, Pl, hcs, _⟩
      · simp at hcs; exact ⟨_, _, _, hcs⟩
      · simp at hcs; exact ⟨_, _, _, hcs⟩
    obtain ⟨z0, rfl, hm0, hs0, hx0⟩ := readSectorS t0_4
    obtain ⟨x1, rfl⟩ := int_cell Try.underlying2 t1
    obtain ⟨x2, rfl⟩ := int_cell Try.underlying2 t2
    obtain ⟨a1, len1, cap1, rfl⟩ : ∃ a0 len0 cap0, k7 = .slice a0 len0 cap0 := by
      rcases open_slice Try.underlying25 t3 with ⟨hcs, _⟩ | ⟨a', len', cap', m, k, D, Pl, hcs, _⟩
      · simp at hcs; exact ⟨_, _, _, hcs⟩
      · simp at hcs; exact ⟨_, _, _, hcs⟩
    obtain ⟨z1, rfl, hm1, hs1⟩ := readIntsS t3
    exact ⟨⟨⟨x0_0, x0_1, x0_2, x0_3, z0⟩, x1, x2, z1⟩, a0, a1, cap0, cap1, rfl, ⟨hm0, hm1⟩, ⟨hs0, hs1⟩, hx0⟩
/-- The size: of its parts, one after the other. -/
def wtDevice (x : DeviceV) : Nat := wtDisc x.f0 + x.f3.length
theorem wtDevice_len {x : DeviceV} {m : Nat} (h : wtDevice x ≤ m) : LenDevice m x := ⟨Nat.le_trans (Nat.le_trans (wtDisc_len x.f0) (by unfold wtDevice; omega)) h, Nat.le_trans (by unfold wtDevice; omega) h⟩
theorem wtDevice_str {x : DeviceV} {m : Nat} (h : wtDevice x ≤ m) : StrDevice m x := fun e he => wtSector_at (show wtSector (x.f0.f4) ≤ m from Nat.le_trans (show wtSector (x.f0.f4) ≤ wtDevice x from by have : wtDisc x.f0 = wtSector (x.f0.f4) := rfl; unfold wtDevice; omega) h) e he
set_option maxHeartbeats 4000000 in
theorem szDevice_any (x : DeviceV) (s0 s1 : Option Addr) (c0 c1 left : Nat) (w : World) (hl : left ≤ 1048576) (hL : LenDevice maxLen x) (hV : StrDevice maxLen x) (h : SlDevice w s0 s1 x) :
    Calls Try.prog 11 #[.agg #[.int .i64 x.f0.f0, .int .i64 x.f0.f1, .int .i64 x.f0.f2, .int .i64 x.f0.f3, .slice s0 x.f0.f4.length c0, .int .i64 x.f1, .int .i64 x.f2, .slice s1 x.f3.length c1], .int .i64 (left : Nat)] w fun y w' => y = .returned (.int .i64 (szV left (wtDevice x))) ∧ Below w.heap.size w w' := by
  obtain ⟨hL0, hL1⟩ := hL
  have hv0 := hV
  unfold StrDevice at hv0
  obtain ⟨h0, h1⟩ := h
  have hw0 : ∃ q, wtDisc x.f0 = q := ⟨_, rfl⟩
  obtain ⟨p0, hp0⟩ := hw0
  have hwt : wtDevice x = p0 + x.f3.length := by unfold wtDevice; rw [hp0]
  rw [hwt]
  have k0 := fun w' (hb : Below w.heap.size w w') => szDisc_any x.f0 s0 c0 left w' (by omega) hL0 hv0 (h0.below hb (Nat.le_refl _))
  rw [hp0] at k0
  by_cases g0 : p0 ≤ left
  case neg =>
    have he : szV left p0 = -1 := by unfold szV; rw [if_neg g0]
    have hf : szV left (p0 + x.f3.length) = -1 := by unfold szV; rw [if_neg (by omega)]
    rw [he] at k0
    rw [hf]
    clear he hf 
    have HK0 := Lib.hid k0; clear k0
    clear hwt h0 h1 hp0 hv0 hL0 hL1
    go_enter Try.func11, Try.ntmps11
    go_wp2_with fail
    refine (HK0.out _ (by go_grown)).mono ?_
    rintro e w0 ⟨rfl, hb0⟩
    have FB0 := Lib.hid (show Below w.heap.size w w0 from Below.trans (by go_grown) (hb0.mono (by simp)))
    have FN0 := Lib.hid (show w.heap.size < w0.heap.size from Nat.lt_of_lt_of_le (by simp) hb0.size); clear hb0
    go_wp2
    go_ret
    exact ⟨rfl, FB0.out⟩
  have he0 : szV left p0 = ((left - p0 : Nat) : Int) := by unfold szV; rw [if_pos g0]
  obtain ⟨r0, hr0⟩ : ∃ r, left - p0 = r := ⟨_, rfl⟩
  rw [he0, hr0] at k0
  have hz0 : ¬ ((r0 : Int) < 0) := by omega
  have hy0 : r0 ≤ 1048576 := by omega
  have k3 := fun w' (hb : Below w.heap.size w w') => szIntV_any s1 x.f3.length c1 r0 w' (by omega) hL1
  by_cases g3 : x.f3.length ≤ r0
  case neg =>
    have he : szV r0 x.f3.length = -1 := by unfold szV; rw [if_neg g3]
    have hf : szV left (p0 + x.f3.length) = -1 := by unfold szV; rw [if_neg (by omega)]
    rw [he] at k3
    rw [hf]
    clear he hf he0 hr0
    have HK0 := Lib.hid k0; clear k0
    have HK3 := Lib.hid k3; clear k3
    clear hwt h0 h1 hp0 hv0 hL0 hL1
    go_enter Try.func11, Try.ntmps11
    go_wp2_with fail
    refine (HK0.out _ (by go_grown)).mono ?_
    rintro e w0 ⟨rfl, hb0⟩
    have q0_7 : w0.cell? ⟨w.heap.size, 7, none⟩ = some (.slice s1 x.f3.length c1) := by rw [hb0.cell (p := ⟨w.heap.size, 7, none⟩) (by simp)]; simp [go_sem]
    have FB0 := Lib.hid (show Below w.heap.size w w0 from Below.trans (by go_grown) (hb0.mono (by simp)))
    have FN0 := Lib.hid (show w.heap.size < w0.heap.size from Nat.lt_of_lt_of_le (by simp) hb0.size); clear hb0
    go_wp2_with fail
    refine (HK3.out _ FB0.out).mono ?_
    rintro e w1 ⟨rfl, hb1⟩
    have FB1 := Lib.hid (FB0.out.trans (hb1.mono FB0.out.size))
    have FN1 := Lib.hid (Nat.lt_of_lt_of_le FN0.out hb1.size); clear hb1
    clear q0_7
    go_wp2
    go_ret
    exact ⟨rfl, FB1.out⟩
  have he3 : szV r0 x.f3.length = ((r0 - x.f3.length : Nat) : Int) := by unfold szV; rw [if_pos g3]
  obtain ⟨r3, hr3⟩ : ∃ r, r0 - x.f3.length = r := ⟨_, rfl⟩
  rw [he3, hr3] at k3
  have hz3 : ¬ ((r3 : Int) < 0) := by omega
  have hy3 : r3 ≤ 1048576 := by omega
  have hf : szV left (p0 + x.f3.length) = ((r3 : Nat) : Int) := by unfold szV; rw [if_pos (by omega)]; omega
  rw [hf]
  clear hf he0 hr0 he3 hr3
  have HK0 := Lib.hid k0; clear k0
  have HK3 := Lib.hid k3; clear k3
  clear hwt h0 h1 hp0 hv0 hL0 hL1
  go_enter Try.func11, Try.ntmps11
  go_wp2_with fail
  refine (HK0.out _ (by go_grown)).mono ?_
  rintro e w0 ⟨rfl, hb0⟩
  have q0_7 : w0.cell? ⟨w.heap.size, 7, none⟩ = some (.slice s1 x.f3.length c1) := by rw [hb0.cell (p := ⟨w.heap.size, 7, none⟩) (by simp)]; simp [go_sem]
  have FB0 := Lib.hid (show Below w.heap.size w w0 from Below.trans (by go_grown) (hb0.mono (by simp)))
  have FN0 := Lib.hid (show w.heap.size < w0.heap.size from Nat.lt_of_lt_of_le (by simp) hb0.size); clear hb0
  go_wp2_with fail
  refine (HK3.out _ FB0.out).mono ?_
  rintro e w1 ⟨rfl, hb1⟩
  have FB1 := Lib.hid (FB0.out.trans (hb1.mono FB0.out.size))
  have FN1 := Lib.hid (Nat.lt_of_lt_of_le FN0.out hb1.size); clear hb1
  clear q0_7
  go_wp2
  go_ret
  exact ⟨rfl, FB1.out⟩
def ToDevicePost (x : DeviceV) (w : World) (e : Ending) (w' : World) : Prop :=
  ∃ g0 g1, e = .returned (.agg #[.int .i64 x.f0.f0, .int .i64 x.f0.f1, .int .i64 x.f0.f2, .int .i64 x.f0.f3, .slice (some ⟨g0, 0, none⟩) x.f0.f4.length x.f0.f4.length, .int .i64 x.f1, .int .i64 x.f2, .slice (some ⟨g1, 0, none⟩) x.f3.length x.f3.length]) ∧ SlIDevice w' w.heap.size w'.heap.size (some ⟨g0, 0, none⟩) (some ⟨g1, 0, none⟩) x ∧ Below w.heap.size w w'
set_option maxHeartbeats 8000000 in
theorem toDevice_any (x : DeviceV) (s0 s1 : Option Addr) (c0 c1 : Nat) (w : World) (hL : LenDevice 1048576 x) (h : SlDevice w s0 s1 x) :
    Calls Try.prog 13 #[.agg #[.int .i64 x.f0.f0, .int .i64 x.f0.f1, .int .i64 x.f0.f2, .int .i64 x.f0.f3, .slice s0 x.f0.f4.length c0, .int .i64 x.f1, .int .i64 x.f2, .slice s1 x.f3.length c1]] w (ToDevicePost x w) := by
  obtain ⟨hL0, hL1⟩ := hL
  obtain ⟨h0, h1⟩ := h
  have HT0 := Lib.hid (fun w' (hb : Below w.heap.size w w') => toDisc_any x.f0 s0 c0 w' hL0 (h0.below hb (Nat.le_refl _)))
  have HT3 := Lib.hid (fun w' (hb : Below w.heap.size w w') => toInts_any s1 x.f3 c1 w' hL1 (h1.below hb (Nat.le_refl _)))
  clear h0 h1
  go_enter Try.func13, Try.ntmps13
  go_wp2_with fail
  refine (HT0.out _ (by go_grown)).mono ?_
  rintro e w0 ⟨g0, rfl, hrow0, hg0, hb0⟩
  have r0_0 : w0.cell? ⟨w.heap.size + 1, 0, none⟩ = some (.int .i64 0) := by rw [hb0.cell (p := ⟨w.heap.size + 1, 0, none⟩) (by simp)]; simp [go_sem]
  have o0_0 : w0.cell? ⟨w.heap.size + 1 + 1, 0, none⟩ = some (.int .i64 0) := by rw [hb0.cell (p := ⟨w.heap.size + 1 + 1, 0, none⟩) (by simp)]; simp [go_sem]
  have y0_0 : w0.frozen? ⟨w.heap.size + 1, 0, none⟩ = false := by rw [hb0.frozen (p := ⟨w.heap.size + 1, 0, none⟩) (by simp)]; simp [go_sem]
  have z0_0 : w0.frozen? ⟨w.heap.size + 1 + 1, 0, none⟩ = false := by rw [hb0.frozen (p := ⟨w.heap.size + 1 + 1, 0, none⟩) (by simp)]; simp [go_sem]
  have r0_1 : w0.cell? ⟨w.heap.size + 1, 1, none⟩ = some (.int .i64 0) := by rw [hb0.cell (p := ⟨w.heap.size + 1, 1, none⟩) (by simp)]; simp [go_sem]
  have o0_1 : w0.cell? ⟨w.heap.size + 1 + 1, 1, none⟩ = some (.int .i64 0) := by rw [hb0.cell (p := ⟨w.heap.size + 1 + 1, 1, none⟩) (by simp)]; simp [go_sem]
  have y0_1 : w0.frozen? ⟨w.heap.size + 1, 1, none⟩ = false := by rw [hb0.frozen (p := ⟨w.heap.size + 1, 1, none⟩) (by simp)]; simp [go_sem]
  have z0_1 : w0.frozen? ⟨w.heap.size + 1 + 1, 1, none⟩ = false := by rw [hb0.frozen (p := ⟨w.heap.size + 1 + 1, 1, none⟩) (by simp)]; simp [go_sem]
  have r0_2 : w0.cell? ⟨w.heap.size + 1, 2, none⟩ = some (.int .i64 0) := by rw [hb0.cell (p := ⟨w.heap.size + 1, 2, none⟩) (by simp)]; simp [go_sem]
  have o0_2 : w0.cell? ⟨w.heap.size + 1 + 1, 2, none⟩ = some (.int .i64 0) := by rw [hb0.cell (p := ⟨w.heap.size + 1 + 1, 2, none⟩) (by simp)]; simp [go_sem]
  have y0_2 : w0.frozen? ⟨w.heap.size + 1, 2, none⟩ = false := by rw [hb0.frozen (p := ⟨w.heap.size + 1, 2, none⟩) (by simp)]; simp [go_sem]
  have z0_2 : w0.frozen? ⟨w.heap.size + 1 + 1, 2, none⟩ = false := by rw [hb0.frozen (p := ⟨w.heap.size + 1 + 1, 2, none⟩) (by simp)]; simp [go_sem]
  have r0_3 : w0.cell? ⟨w.heap.size + 1, 3, none⟩ = some (.int .i64 0) := by rw [hb0.cell (p := ⟨w.heap.size + 1, 3, none⟩) (by simp)]; simp [go_sem]
  have o0_3 : w0.cell? ⟨w.heap.size + 1 + 1, 3, none⟩ = some (.int .i64 0) := by rw [hb0.cell (p := ⟨w.heap.size + 1 + 1, 3, none⟩) (by simp)]; simp [go_sem]
  have y0_3 : w0.frozen? ⟨w.heap.size + 1, 3, none⟩ = false := by rw [hb0.frozen (p := ⟨w.heap.size + 1, 3, none⟩) (by simp)]; simp [go_sem]
  have z0_3 : w0.frozen? ⟨w.heap.size + 1 + 1, 3, none⟩ = false := by rw [hb0.frozen (p := ⟨w.heap.size + 1 + 1, 3, none⟩) (by simp)]; simp [go_sem]
  have r0_4 : w0.cell? ⟨w.heap.size + 1, 4, none⟩ = some (.slice none 0 0) := by rw [hb0.cell (p := ⟨w.heap.size + 1, 4, none⟩) (by simp)]; simp [go_sem]
  have o0_4 : w0.cell? ⟨w.heap.size + 1 + 1, 4, none⟩ = some (.slice none 0 0) := by rw [hb0.cell (p := ⟨w.heap.size + 1 + 1, 4, none⟩) (by simp)]; simp [go_sem]
  have y0_4 : w0.frozen? ⟨w.heap.size + 1, 4, none⟩ = false := by rw [hb0.frozen (p := ⟨w.heap.size + 1, 4, none⟩) (by simp)]; simp [go_sem]
  have z0_4 : w0.frozen? ⟨w.heap.size + 1 + 1, 4, none⟩ = false := by rw [hb0.frozen (p := ⟨w.heap.size + 1 + 1, 4, none⟩) (by simp)]; simp [go_sem]
  have r0_5 : w0.cell? ⟨w.heap.size + 1, 5, none⟩ = some (.int .i64 0) := by rw [hb0.cell (p := ⟨w.heap.size + 1, 5, none⟩) (by simp)]; simp [go_sem]
  have o0_5 : w0.cell? ⟨w.heap.size + 1 + 1, 5, none⟩ = some (.int .i64 0) := by rw [hb0.cell (p := ⟨w.heap.size + 1 + 1, 5, none⟩) (by simp)]; simp [go_sem]
  have y0_5 : w0.frozen? ⟨w.heap.size + 1, 5, none⟩ = false := by rw [hb0.frozen (p := ⟨w.heap.size + 1, 5, none⟩) (by simp)]; simp [go_sem]
  have z0_5 : w0.frozen? ⟨w.heap.size + 1 + 1, 5, none⟩ = false := by rw [hb0.frozen (p := ⟨w.heap.size + 1 + 1, 5, none⟩) (by simp)]; simp [go_sem]
  have r0_6 : w0.cell? ⟨w.heap.size + 1, 6, none⟩ = some (.int .i64 0) := by rw [hb0.cell (p := ⟨w.heap.size + 1, 6, none⟩) (by simp)]; simp [go_sem]
  have o0_6 : w0.cell? ⟨w.heap.size + 1 + 1, 6, none⟩ = some (.int .i64 0) := by rw [hb0.cell (p := ⟨w.heap.size + 1 + 1, 6, none⟩) (by simp)]; simp [go_sem]
  have y0_6 : w0.frozen? ⟨w.heap.size + 1, 6, none⟩ = false := by rw [hb0.frozen (p := ⟨w.heap.size + 1, 6, none⟩) (by simp)]; simp [go_sem]
  have z0_6 : w0.frozen? ⟨w.heap.size + 1 + 1, 6, none⟩ = false := by rw [hb0.frozen (p := ⟨w.heap.size + 1 + 1, 6, none⟩) (by simp)]; simp [go_sem]
  have r0_7 : w0.cell? ⟨w.heap.size + 1, 7, none⟩ = some (.slice none 0 0) := by rw [hb0.cell (p := ⟨w.heap.size + 1, 7, none⟩) (by simp)]; simp [go_sem]
  have o0_7 : w0.cell? ⟨w.heap.size + 1 + 1, 7, none⟩ = some (.slice none 0 0) := by rw [hb0.cell (p := ⟨w.heap.size + 1 + 1, 7, none⟩) (by simp)]; simp [go_sem]
  have y0_7 : w0.frozen? ⟨w.heap.size + 1, 7, none⟩ = false := by rw [hb0.frozen (p := ⟨w.heap.size + 1, 7, none⟩) (by simp)]; simp [go_sem]
  have z0_7 : w0.frozen? ⟨w.heap.size + 1 + 1, 7, none⟩ = false := by rw [hb0.frozen (p := ⟨w.heap.size + 1 + 1, 7, none⟩) (by simp)]; simp [go_sem]
  have n0_5 : w0.cell? ⟨w.heap.size, 5, none⟩ = some (.int .i64 x.f1) := by rw [hb0.cell (p := ⟨w.heap.size, 5, none⟩) (by simp <;> omega)]; simp [go_sem]
  have n0_6 : w0.cell? ⟨w.heap.size, 6, none⟩ = some (.int .i64 x.f2) := by rw [hb0.cell (p := ⟨w.heap.size, 6, none⟩) (by simp <;> omega)]; simp [go_sem]
  have n0_7 : w0.cell? ⟨w.heap.size, 7, none⟩ = some (.slice s1 x.f3.length c1) := by rw [hb0.cell (p := ⟨w.heap.size, 7, none⟩) (by simp <;> omega)]; simp [go_sem]
  have FB0 := Lib.hid (show Below w.heap.size w w0 from Below.trans (by go_grown) (hb0.mono (by simp <;> omega)))
  have hgg0 : w.heap.size + 2 < g0 := by have := hg0; simp at this; omega
  have hsz0 : w.heap.size + 3 ≤ w0.heap.size := by have := hb0.size; simp at this; omega
  have HR0_0 := Lib.hid hrow0
  clear hb0 hrow0 hg0
  go_wp2_with fail
  obtain ⟨U1, hU1⟩ : ∃ U, U = (((((((w0.setCell ⟨w.heap.size + 1 + 1, 0, none⟩ (.int .i64 x.f0.f0)).setCell ⟨w.heap.size + 1 + 1, 1, none⟩ (.int .i64 x.f0.f1)).setCell ⟨w.heap.size + 1 + 1, 2, none⟩ (.int .i64 x.f0.f2)).setCell ⟨w.heap.size + 1 + 1, 3, none⟩ (.int .i64 x.f0.f3)).setCell ⟨w.heap.size + 1 + 1, 4, none⟩ (.slice (some ⟨g0, 0, none⟩) x.f0.f4.length x.f0.f4.length)).setCell ⟨w.heap.size + 1 + 1, 5, none⟩ (.int .i64 x.f1)).setCell ⟨w.heap.size + 1 + 1, 6, none⟩ (.int .i64 x.f2)) := ⟨_, rfl⟩
  have a1_0 : U1.cell? ⟨w.heap.size + 1, 0, none⟩ = some (.int .i64 0) := by subst hU1; simp [go_sem, r0_0]
  have b1_0 : U1.cell? ⟨w.heap.size + 1 + 1, 0, none⟩ = some (.int .i64 x.f0.f0) := by subst hU1; simp [go_sem, o0_0, o0_1, o0_2, o0_3, o0_4, o0_5, o0_6, o0_7]
  have d1_0 : U1.frozen? ⟨w.heap.size + 1, 0, none⟩ = false := by subst hU1; simp [go_sem, y0_0]
  have f1_0 : U1.frozen? ⟨w.heap.size + 1 + 1, 0, none⟩ = false := by subst hU1; simp [go_sem, z0_0]
  have a1_1 : U1.cell? ⟨w.heap.size + 1, 1, none⟩ = some (.int .i64 0) := by subst hU1; simp [go_sem, r0_1]
  have b1_1 : U1.cell? ⟨w.heap.size + 1 + 1, 1, none⟩ = some (.int .i64 x.f0.f1) := by subst hU1; simp [go_sem, o0_0, o0_1, o0_2, o0_3, o0_4, o0_5, o0_6, o0_7]
  have d1_1 : U1.frozen? ⟨w.heap.size + 1, 1, none⟩ = false := by subst hU1; simp [go_sem, y0_1]
  have f1_1 : U1.frozen? ⟨w.heap.size + 1 + 1, 1, none⟩ = false := by subst hU1; simp [go_sem, z0_1]
  have a1_2 : U1.cell? ⟨w.heap.size + 1, 2, none⟩ = some (.int .i64 0) := by subst hU1; simp [go_sem, r0_2]
  have b1_2 : U1.cell? ⟨w.heap.size + 1 + 1, 2, none⟩ = some (.int .i64 x.f0.f2) := by subst hU1; simp [go_sem, o0_0, o0_1, o0_2, o0_3, o0_4, o0_5, o0_6, o0_7]
  have d1_2 : U1.frozen? ⟨w.heap.size + 1, 2, none⟩ = false := by subst hU1; simp [go_sem, y0_2]
  have f1_2 : U1.frozen? ⟨w.heap.size + 1 + 1, 2, none⟩ = false := by subst hU1; simp [go_sem, z0_2]
  have a1_3 : U1.cell? ⟨w.heap.size + 1, 3, none⟩ = some (.int .i64 0) := by subst hU1; simp [go_sem, r0_3]
  have b1_3 : U1.cell? ⟨w.heap.size + 1 + 1, 3, none⟩ = some (.int .i64 x.f0.f3) := by subst hU1; simp [go_sem, o0_0, o0_1, o0_2, o0_3, o0_4, o0_5, o0_6, o0_7]
  have d1_3 : U1.frozen? ⟨w.heap.size + 1, 3, none⟩ = false := by subst hU1; simp [go_sem, y0_3]
  have f1_3 : U1.frozen? ⟨w.heap.size + 1 + 1, 3, none⟩ = false := by subst hU1; simp [go_sem, z0_3]
  have a1_4 : U1.cell? ⟨w.heap.size + 1, 4, none⟩ = some (.slice none 0 0) := by subst hU1; simp [go_sem, r0_4]
  have b1_4 : U1.cell? ⟨w.heap.size + 1 + 1, 4, none⟩ = some (.slice (some ⟨g0, 0, none⟩) x.f0.f4.length x.f0.f4.length) := by subst hU1; simp [go_sem, o0_0, o0_1, o0_2, o0_3, o0_4, o0_5, o0_6, o0_7]
  have d1_4 : U1.frozen? ⟨w.heap.size + 1, 4, none⟩ = false := by subst hU1; simp [go_sem, y0_4]
  have f1_4 : U1.frozen? ⟨w.heap.size + 1 + 1, 4, none⟩ = false := by subst hU1; simp [go_sem, z0_4]
  have a1_5 : U1.cell? ⟨w.heap.size + 1, 5, none⟩ = some (.int .i64 0) := by subst hU1; simp [go_sem, r0_5]
  have b1_5 : U1.cell? ⟨w.heap.size + 1 + 1, 5, none⟩ = some (.int .i64 x.f1) := by subst hU1; simp [go_sem, o0_0, o0_1, o0_2, o0_3, o0_4, o0_5, o0_6, o0_7]
  have d1_5 : U1.frozen? ⟨w.heap.size + 1, 5, none⟩ = false := by subst hU1; simp [go_sem, y0_5]
  have f1_5 : U1.frozen? ⟨w.heap.size + 1 + 1, 5, none⟩ = false := by subst hU1; simp [go_sem, z0_5]
  have a1_6 : U1.cell? ⟨w.heap.size + 1, 6, none⟩ = some (.int .i64 0) := by subst hU1; simp [go_sem, r0_6]
  have b1_6 : U1.cell? ⟨w.heap.size + 1 + 1, 6, none⟩ = some (.int .i64 x.f2) := by subst hU1; simp [go_sem, o0_0, o0_1, o0_2, o0_3, o0_4, o0_5, o0_6, o0_7]
  have d1_6 : U1.frozen? ⟨w.heap.size + 1, 6, none⟩ = false := by subst hU1; simp [go_sem, y0_6]
  have f1_6 : U1.frozen? ⟨w.heap.size + 1 + 1, 6, none⟩ = false := by subst hU1; simp [go_sem, z0_6]
  have a1_7 : U1.cell? ⟨w.heap.size + 1, 7, none⟩ = some (.slice none 0 0) := by subst hU1; simp [go_sem, r0_7]
  have b1_7 : U1.cell? ⟨w.heap.size + 1 + 1, 7, none⟩ = some (.slice none 0 0) := by subst hU1; simp [go_sem, o0_0, o0_1, o0_2, o0_3, o0_4, o0_5, o0_6, o0_7]
  have d1_7 : U1.frozen? ⟨w.heap.size + 1, 7, none⟩ = false := by subst hU1; simp [go_sem, y0_7]
  have f1_7 : U1.frozen? ⟨w.heap.size + 1 + 1, 7, none⟩ = false := by subst hU1; simp [go_sem, z0_7]
  have m1_7 : U1.cell? ⟨w.heap.size, 7, none⟩ = some (.slice s1 x.f3.length c1) := by subst hU1; simp [go_sem, n0_7]
  have hs1 : w.heap.size + 3 ≤ U1.heap.size := by subst hU1; simpa using hsz0
  have FU1 := Lib.hid (show Below w.heap.size w U1 from by subst hU1; exact (((((((FB0.out).setCell (by simp <;> omega) _).setCell (by simp <;> omega) _).setCell (by simp <;> omega) _).setCell (by simp <;> omega) _).setCell (by simp <;> omega) _).setCell (by simp <;> omega) _).setCell (by simp <;> omega) _)
  have HU1_0 := Lib.hid (show BlkS rowSector 84 U1 g0 (x.f0.f4) from by
    have := HR0_0.out
    unfold BlkS at this ⊢
    subst hU1
    exact heap_setCell_at (heap_setCell_at (heap_setCell_at (heap_setCell_at (heap_setCell_at (heap_setCell_at (heap_setCell_at (this) (by omega)) (by omega)) (by omega)) (by omega)) (by omega)) (by omega)) (by omega))
  rw [← hU1]
  clear hU1 FB0 hsz0 r0_0 o0_0 y0_0 z0_0 r0_1 o0_1 y0_1 z0_1 r0_2 o0_2 y0_2 z0_2 r0_3 o0_3 y0_3 z0_3 r0_4 o0_4 y0_4 z0_4 r0_5 o0_5 y0_5 z0_5 r0_6 o0_6 y0_6 z0_6 r0_7 o0_7 y0_7 z0_7 HR0_0 n0_5 n0_6 n0_7
  refine (HT3.out _ FU1.out).mono ?_
  rintro e w1 ⟨g1, rfl, hrow1, hg1, hb1⟩
  have r1_0 := (hb1.cell (p := ⟨w.heap.size + 1, 0, none⟩) (by simp <;> omega)).trans a1_0
  have o1_0 := (hb1.cell (p := ⟨w.heap.size + 1 + 1, 0, none⟩) (by simp <;> omega)).trans b1_0
  have y1_0 := (hb1.frozen (p := ⟨w.heap.size + 1, 0, none⟩) (by simp <;> omega)).trans d1_0
  have z1_0 := (hb1.frozen (p := ⟨w.heap.size + 1 + 1, 0, none⟩) (by simp <;> omega)).trans f1_0
  have r1_1 := (hb1.cell (p := ⟨w.heap.size + 1, 1, none⟩) (by simp <;> omega)).trans a1_1
  have o1_1 := (hb1.cell (p := ⟨w.heap.size + 1 + 1, 1, none⟩) (by simp <;> omega)).trans b1_1
  have y1_1 := (hb1.frozen (p := ⟨w.heap.size + 1, 1, none⟩) (by simp <;> omega)).trans d1_1
  have z1_1 := (hb1.frozen (p := ⟨w.heap.size + 1 + 1, 1, none⟩) (by simp <;> omega)).trans f1_1
  have r1_2 := (hb1.cell (p := ⟨w.heap.size + 1, 2, none⟩) (by simp <;> omega)).trans a1_2
  have o1_2 := (hb1.cell (p := ⟨w.heap.size + 1 + 1, 2, none⟩) (by simp <;> omega)).trans b1_2
  have y1_2 := (hb1.frozen (p := ⟨w.heap.size + 1, 2, none⟩) (by simp <;> omega)).trans d1_2
  have z1_2 := (hb1.frozen (p := ⟨w.heap.size + 1 + 1, 2, none⟩) (by simp <;> omega)).trans f1_2
  have r1_3 := (hb1.cell (p := ⟨w.heap.size + 1, 3, none⟩) (by simp <;> omega)).trans a1_3
  have o1_3 := (hb1.cell (p := ⟨w.heap.size + 1 + 1, 3, none⟩) (by simp <;> omega)).trans b1_3
  have y1_3 := (hb1.frozen (p := ⟨w.heap.size + 1, 3, none⟩) (by simp <;> omega)).trans d1_3
  have z1_3 := (hb1.frozen (p := ⟨w.heap.size + 1 + 1, 3, none⟩) (by simp <;> omega)).trans f1_3
  have r1_4 := (hb1.cell (p := ⟨w.heap.size + 1, 4, none⟩) (by simp <;> omega)).trans a1_4
  have o1_4 := (hb1.cell (p := ⟨w.heap.size + 1 + 1, 4, none⟩) (by simp <;> omega)).trans b1_4
  have y1_4 := (hb1.frozen (p := ⟨w.heap.size + 1, 4, none⟩) (by simp <;> omega)).trans d1_4
  have z1_4 := (hb1.frozen (p := ⟨w.heap.size + 1 + 1, 4, none⟩) (by simp <;> omega)).trans f1_4
  have r1_5 := (hb1.cell (p := ⟨w.heap.size + 1, 5, none⟩) (by simp <;> omega)).trans a1_5
  have o1_5 := (hb1.cell (p := ⟨w.heap.size + 1 + 1, 5, none⟩) (by simp <;> omega)).trans b1_5
  have y1_5 := (hb1.frozen (p := ⟨w.heap.size + 1, 5, none⟩) (by simp <;> omega)).trans d1_5
  have z1_5 := (hb1.frozen (p := ⟨w.heap.size + 1 + 1, 5, none⟩) (by simp <;> omega)).trans f1_5
  have r1_6 := (hb1.cell (p := ⟨w.heap.size + 1, 6, none⟩) (by simp <;> omega)).trans a1_6
  have o1_6 := (hb1.cell (p := ⟨w.heap.size + 1 + 1, 6, none⟩) (by simp <;> omega)).trans b1_6
  have y1_6 := (hb1.frozen (p := ⟨w.heap.size + 1, 6, none⟩) (by simp <;> omega)).trans d1_6
  have z1_6 := (hb1.frozen (p := ⟨w.heap.size + 1 + 1, 6, none⟩) (by simp <;> omega)).trans f1_6
  have r1_7 := (hb1.cell (p := ⟨w.heap.size + 1, 7, none⟩) (by simp <;> omega)).trans a1_7
  have o1_7 := (hb1.cell (p := ⟨w.heap.size + 1 + 1, 7, none⟩) (by simp <;> omega)).trans b1_7
  have y1_7 := (hb1.frozen (p := ⟨w.heap.size + 1, 7, none⟩) (by simp <;> omega)).trans d1_7
  have z1_7 := (hb1.frozen (p := ⟨w.heap.size + 1 + 1, 7, none⟩) (by simp <;> omega)).trans f1_7
  have FB1 := Lib.hid (FU1.out.trans (hb1.mono FU1.out.size))
  have hgg1 : w.heap.size + 2 < g1 := by omega
  have hsz1 : w.heap.size + 3 ≤ w1.heap.size := by have := hb1.size; omega
  have HR1_0 := Lib.hid (show BlkS rowSector 84 w1 g0 (x.f0.f4) from by
    have := HU1_0.out
    unfold BlkS at this ⊢
    rw [← this]
    exact hb1.block g0 (Array.getElem?_eq_some_iff.1 this).1)
  clear FU1 hs1 a1_0 b1_0 d1_0 f1_0 a1_1 b1_1 d1_1 f1_1 a1_2 b1_2 d1_2 f1_2 a1_3 b1_3 d1_3 f1_3 a1_4 b1_4 d1_4 f1_4 a1_5 b1_5 d1_5 f1_5 a1_6 b1_6 d1_6 f1_6 a1_7 b1_7 d1_7 f1_7 m1_7 HU1_0
  have HR1_1 := Lib.hid hrow1
  clear hb1 hrow1 hg1
  go_wp2
  refine bodyPost_ret (v := .agg #[.int .i64 x.f0.f0, .int .i64 x.f0.f1, .int .i64 x.f0.f2, .int .i64 x.f0.f3, .slice (some ⟨g0, 0, none⟩) x.f0.f4.length x.f0.f4.length, .int .i64 x.f1, .int .i64 x.f2, .slice (some ⟨g1, 0, none⟩) x.f3.length x.f3.length]) (by simp [results, Try.results13, go_sem, r1_0, y1_0, r1_1, y1_1, r1_2, y1_2, r1_3, y1_3, r1_4, y1_4, r1_5, y1_5, r1_6, y1_6, r1_7, y1_7]) rfl ⟨g0, g1, rfl, ?_, ?_⟩
  · refine ⟨?_, ?_⟩
    · refine BlkS.sli (g := g0) ?_ (by omega)
      have := HR1_0.out
      unfold BlkS at this ⊢
      exact heap_setCell_at (heap_setCell_at (heap_setCell_at (heap_setCell_at (heap_setCell_at (heap_setCell_at (heap_setCell_at (heap_setCell_at (heap_setCell_at (this) (by omega)) (by omega)) (by omega)) (by omega)) (by omega)) (by omega)) (by omega)) (by omega)) (by omega)
    · refine RowAt.sli (g := g1) ?_ (by omega)
      have := HR1_1.out
      unfold RowAt at this ⊢
      exact heap_setCell_at (heap_setCell_at (heap_setCell_at (heap_setCell_at (heap_setCell_at (heap_setCell_at (heap_setCell_at (heap_setCell_at (heap_setCell_at (this) (by omega)) (by omega)) (by omega)) (by omega)) (by omega)) (by omega)) (by omega)) (by omega)) (by omega)
  · exact (((((((((FB1.out).setCell (by simp <;> omega) _).setCell (by simp <;> omega) _).setCell (by simp <;> omega) _).setCell (by simp <;> omega) _).setCell (by simp <;> omega) _).setCell (by simp <;> omega) _).setCell (by simp <;> omega) _).setCell (by simp <;> omega) _).setCell (by simp <;> omega) _
set_option maxHeartbeats 8000000 in
theorem eqDevice_any (r : Bool) (x : DeviceV) (s0 s1 : Option Addr) (c0 c1 : Nat) (y : DeviceV) (t0 t1 : Option Addr) (d0 d1 : Nat) (w : World) (hr : r = true ↔ x = y) (hx : LenDevice 4194304 x) (hy : LenDevice 4194304 y) (h1 : SlDevice w s0 s1 x) (h2 : SlDevice w t0 t1 y) :
    Calls Try.prog 15 #[.agg #[.int .i64 x.f0.f0, .int .i64 x.f0.f1, .int .i64 x.f0.f2, .int .i64 x.f0.f3, .slice s0 x.f0.f4.length c0, .int .i64 x.f1, .int .i64 x.f2, .slice s1 x.f3.length c1], .agg #[.int .i64 y.f0.f0, .int .i64 y.f0.f1, .int .i64 y.f0.f2, .int .i64 y.f0.f3, .slice t0 y.f0.f4.length d0, .int .i64 y.f1, .int .i64 y.f2, .slice t1 y.f3.length d1]] w fun e w' => e = .returned (.bool r) ∧ Below w.heap.size w w' := by
  obtain ⟨lx0, lx1⟩ := hx
  obtain ⟨ly0, ly1⟩ := hy
  obtain ⟨hp0, hp1⟩ := h1
  obtain ⟨hq0, hq1⟩ := h2
  obtain ⟨q0, hq_0⟩ : ∃ q : Bool, q = true ↔ x.f0 = y.f0 := ⟨@decide (x.f0 = y.f0) (Classical.propDecidable _), by simp⟩
  have HC0 := Lib.hid (fun w' (hb : Below w.heap.size w w') => eqDisc_any q0 x.f0 s0 c0 y.f0 t0 d0 w' hq_0 lx0 ly0 (hp0.below hb (Nat.le_refl _)) (hq0.below hb (Nat.le_refl _)))
  have HQ0 := Lib.hid hq_0; clear hq_0
  obtain ⟨q3, hq_3⟩ : ∃ q : Bool, q = true ↔ x.f3 = y.f3 := ⟨@decide (x.f3 = y.f3) (Classical.propDecidable _), by simp⟩
  have HC3 := Lib.hid (fun w' (hb : Below w.heap.size w w') => eqIntR_any q3 s1 t1 x.f3 y.f3 c1 d1 w' hq_3 lx1 ly1 (hp1.below hb (Nat.le_refl _)) (hq1.below hb (Nat.le_refl _)))
  have HQ3 := Lib.hid hq_3; clear hq_3
  have HR := Lib.hid hr; clear hr hp0 hq0 lx0 ly0 hp1 hq1 lx1 ly1
  cases q0 with
  | false =>
    have HE := Lib.hid (show r = false by
      cases r with
      | false => rfl
      | true => exact absurd (HQ0.out.2 (by rw [HR.out.1 rfl])) (by simp))
    go_enter Try.func15, Try.ntmps15
    go_wp2_with fail
    refine (HC0.out _ (by go_grown)).mono ?_
    rintro e w0 ⟨rfl, hb0⟩
    have FB0 := Lib.hid (show Below w.heap.size w w0 from Below.trans (by go_grown) (hb0.mono (by simp <;> omega)))
    have FN0 := Lib.hid (show w.heap.size + 2 ≤ w0.heap.size from by have := hb0.size; simp at this; omega); clear hb0
    go_wp2
    go_ret
    exact ⟨ret_bool HE.out.symm, FB0.out⟩
  | true =>
  by_cases g1 : x.f1 = y.f1
  case neg =>
    have HE := Lib.hid (show r = false by
      cases r with
      | false => rfl
      | true => exact absurd (by rw [HR.out.1 rfl]) g1)
    have gb1 : (x.f1 != y.f1) = true := by simp [g1]
    clear g1
    go_enter Try.func15, Try.ntmps15
    go_wp2_with fail
    refine (HC0.out _ (by go_grown)).mono ?_
    rintro e w0 ⟨rfl, hb0⟩
    have u0_5 : w0.cell? ⟨w.heap.size, 5, none⟩ = some (.int .i64 x.f1) := by rw [hb0.cell (p := ⟨w.heap.size, 5, none⟩) (by simp <;> omega)]; simp [go_sem]
    have v0_5 : w0.cell? ⟨w.heap.size + 1, 5, none⟩ = some (.int .i64 y.f1) := by rw [hb0.cell (p := ⟨w.heap.size + 1, 5, none⟩) (by simp <;> omega)]; simp [go_sem]
    have FB0 := Lib.hid (show Below w.heap.size w w0 from Below.trans (by go_grown) (hb0.mono (by simp <;> omega)))
    have FN0 := Lib.hid (show w.heap.size + 2 ≤ w0.heap.size from by have := hb0.size; simp at this; omega); clear hb0
    go_wp2
    go_ret
    exact ⟨ret_bool HE.out.symm, FB0.out⟩
  have gb1 : (x.f1 != y.f1) = false := by simp [g1]
  have GH1 := Lib.hid g1; clear g1
  by_cases g2 : x.f2 = y.f2
  case neg =>
    have HE := Lib.hid (show r = false by
      cases r with
      | false => rfl
      | true => exact absurd (by rw [HR.out.1 rfl]) g2)
    have gb2 : (x.f2 != y.f2) = true := by simp [g2]
    clear g2
    go_enter Try.func15, Try.ntmps15
    go_wp2_with fail
    refine (HC0.out _ (by go_grown)).mono ?_
    rintro e w0 ⟨rfl, hb0⟩
    have u0_5 : w0.cell? ⟨w.heap.size, 5, none⟩ = some (.int .i64 x.f1) := by rw [hb0.cell (p := ⟨w.heap.size, 5, none⟩) (by simp <;> omega)]; simp [go_sem]
    have v0_5 : w0.cell? ⟨w.heap.size + 1, 5, none⟩ = some (.int .i64 y.f1) := by rw [hb0.cell (p := ⟨w.heap.size + 1, 5, none⟩) (by simp <;> omega)]; simp [go_sem]
    have u0_6 : w0.cell? ⟨w.heap.size, 6, none⟩ = some (.int .i64 x.f2) := by rw [hb0.cell (p := ⟨w.heap.size, 6, none⟩) (by simp <;> omega)]; simp [go_sem]
    have v0_6 : w0.cell? ⟨w.heap.size + 1, 6, none⟩ = some (.int .i64 y.f2) := by rw [hb0.cell (p := ⟨w.heap.size + 1, 6, none⟩) (by simp <;> omega)]; simp [go_sem]
    have FB0 := Lib.hid (show Below w.heap.size w w0 from Below.trans (by go_grown) (hb0.mono (by simp <;> omega)))
    have FN0 := Lib.hid (show w.heap.size + 2 ≤ w0.heap.size from by have := hb0.size; simp at this; omega); clear hb0
    go_wp2
    go_ret
    exact ⟨ret_bool HE.out.symm, FB0.out⟩
  have gb2 : (x.f2 != y.f2) = false := by simp [g2]
  have GH2 := Lib.hid g2; clear g2
  cases q3 with
  | false =>
    have HE := Lib.hid (show r = false by
      cases r with
      | false => rfl
      | true => exact absurd (HQ3.out.2 (by rw [HR.out.1 rfl])) (by simp))
    go_enter Try.func15, Try.ntmps15
    go_wp2_with fail
    refine (HC0.out _ (by go_grown)).mono ?_
    rintro e w0 ⟨rfl, hb0⟩
    have u0_5 : w0.cell? ⟨w.heap.size, 5, none⟩ = some (.int .i64 x.f1) := by rw [hb0.cell (p := ⟨w.heap.size, 5, none⟩) (by simp <;> omega)]; simp [go_sem]
    have v0_5 : w0.cell? ⟨w.heap.size + 1, 5, none⟩ = some (.int .i64 y.f1) := by rw [hb0.cell (p := ⟨w.heap.size + 1, 5, none⟩) (by simp <;> omega)]; simp [go_sem]
    have u0_6 : w0.cell? ⟨w.heap.size, 6, none⟩ = some (.int .i64 x.f2) := by rw [hb0.cell (p := ⟨w.heap.size, 6, none⟩) (by simp <;> omega)]; simp [go_sem]
    have v0_6 : w0.cell? ⟨w.heap.size + 1, 6, none⟩ = some (.int .i64 y.f2) := by rw [hb0.cell (p := ⟨w.heap.size + 1, 6, none⟩) (by simp <;> omega)]; simp [go_sem]
    have u0_7 : w0.cell? ⟨w.heap.size, 7, none⟩ = some (.slice s1 x.f3.length c1) := by rw [hb0.cell (p := ⟨w.heap.size, 7, none⟩) (by simp <;> omega)]; simp [go_sem]
    have v0_7 : w0.cell? ⟨w.heap.size + 1, 7, none⟩ = some (.slice t1 y.f3.length d1) := by rw [hb0.cell (p := ⟨w.heap.size + 1, 7, none⟩) (by simp <;> omega)]; simp [go_sem]
    have FB0 := Lib.hid (show Below w.heap.size w w0 from Below.trans (by go_grown) (hb0.mono (by simp <;> omega)))
    have FN0 := Lib.hid (show w.heap.size + 2 ≤ w0.heap.size from by have := hb0.size; simp at this; omega); clear hb0
    go_wp2_with fail
    refine (HC3.out _ FB0.out).mono ?_
    rintro e w1 ⟨rfl, hb1⟩
    have FB1 := Lib.hid (FB0.out.trans (hb1.mono FB0.out.size))
    have FN1 := Lib.hid (Nat.le_trans FN0.out hb1.size); clear hb1
    go_wp2
    go_ret
    exact ⟨ret_bool HE.out.symm, FB1.out⟩
  | true =>
  have HE := Lib.hid (show r = true from HR.out.2 (DeviceV.ext' ⟨HQ0.out.1 rfl, GH1.out, GH2.out, HQ3.out.1 rfl⟩))
  go_enter Try.func15, Try.ntmps15
  go_wp2_with fail
  refine (HC0.out _ (by go_grown)).mono ?_
  rintro e w0 ⟨rfl, hb0⟩
  have u0_5 : w0.cell? ⟨w.heap.size, 5, none⟩ = some (.int .i64 x.f1) := by rw [hb0.cell (p := ⟨w.heap.size, 5, none⟩) (by simp <;> omega)]; simp [go_sem]
  have v0_5 : w0.cell? ⟨w.heap.size + 1, 5, none⟩ = some (.int .i64 y.f1) := by rw [hb0.cell (p := ⟨w.heap.size + 1, 5, none⟩) (by simp <;> omega)]; simp [go_sem]
  have u0_6 : w0.cell? ⟨w.heap.size, 6, none⟩ = some (.int .i64 x.f2) := by rw [hb0.cell (p := ⟨w.heap.size, 6, none⟩) (by simp <;> omega)]; simp [go_sem]
  have v0_6 : w0.cell? ⟨w.heap.size + 1, 6, none⟩ = some (.int .i64 y.f2) := by rw [hb0.cell (p := ⟨w.heap.size + 1, 6, none⟩) (by simp <;> omega)]; simp [go_sem]
  have u0_7 : w0.cell? ⟨w.heap.size, 7, none⟩ = some (.slice s1 x.f3.length c1) := by rw [hb0.cell (p := ⟨w.heap.size, 7, none⟩) (by simp <;> omega)]; simp [go_sem]
  have v0_7 : w0.cell? ⟨w.heap.size + 1, 7, none⟩ = some (.slice t1 y.f3.length d1) := by rw [hb0.cell (p := ⟨w.heap.size + 1, 7, none⟩) (by simp <;> omega)]; simp [go_sem]
  have FB0 := Lib.hid (show Below w.heap.size w w0 from Below.trans (by go_grown) (hb0.mono (by simp <;> omega)))
  have FN0 := Lib.hid (show w.heap.size + 2 ≤ w0.heap.size from by have := hb0.size; simp at this; omega); clear hb0
  go_wp2_with fail
  refine (HC3.out _ FB0.out).mono ?_
  rintro e w1 ⟨rfl, hb1⟩
  have FB1 := Lib.hid (FB0.out.trans (hb1.mono FB0.out.size))
  have FN1 := Lib.hid (Nat.le_trans FN0.out hb1.size); clear hb1
  go_wp2
  go_ret
  exact ⟨ret_bool HE.out.symm, FB1.out⟩
end Go.Proofs.Ytjnabncfkogigaa
end
section
set_option linter.unusedVariables false
namespace Go.Proofs.Ytjnabncfkogigaa
open Go.RowKit
def isCell (c : UInt8) : Bool := c == 48 || c == 49
def cellsL (l : List UInt8) : Bool := l.all isCell
/-- 1 to 8000 characters 0 and 1. -/
def validCells (s : ByteArray) : Bool := cellsL s.data.toList && inB 1 8000 s.size
theorem cellsL_snoc (s : ByteArray) (k : Nat) (h : k < s.size) : cellsL (s.data.toList.take (k + 1)) = (cellsL (s.data.toList.take k) && isCell s[k]) := by
  have e : s.data.toList.take (k + 1) = s.data.toList.take k ++ [s[k]] := by rw [List.take_succ_eq_append_getElem (by simpa using h)]; rfl
  rw [e]; simp [cellsL]
theorem cellsL_no (s : ByteArray) (k : Nat) (h : k < s.size) (hc : isCell s[k] = false) : cellsL s.data.toList = false := by
  unfold cellsL
  rw [List.all_eq_false]
  exact ⟨s[k], by show s.data[k] ∈ _; simp, by simp [hc]⟩
theorem take_ge' (s : ByteArray) (k : Nat) (h : s.size ≤ k) : s.data.toList.take k = s.data.toList := by
  refine List.take_of_length_le ?_
  have : s.data.toList.length = s.size := by simp
  omega
theorem isCell_iff (c : UInt8) : isCell c = true ↔ c.toNat = 48 ∨ c.toNat = 49 := by
  unfold isCell
  simp only [Bool.or_eq_true, beq_iff_eq, ← UInt8.toNat_inj]
  rfl
/-- The rune at a byte that is no cell is no cell. -/
theorem rune_no (s : ByteArray) (pos : Nat) (h : pos < s.size) (hc : isCell s[pos] = false) : (Utf8.decode s pos).1 ≠ 48 ∧ (Utf8.decode s pos).1 ≠ 49 := by
  have h1 : ¬ (s[pos].toNat = 48 ∨ s[pos].toNat = 49) := by rw [← isCell_iff]; simp [hc]
  by_cases ha : s[pos].toNat < 128
  · rw [decode_ascii s pos h ha]
    exact ⟨fun e => h1 (.inl e), fun e => h1 (.inr e)⟩
  · have := (decode_high s pos h (by omega)).1
    omega
end Go.Proofs.Ytjnabncfkogigaa
end
section
set_option linter.unusedVariables false
namespace Go.Proofs.Ytjnabncfkogigaa
open Go.RowKit
theorem rot_bd (a : Int) (n : Nat) (h : 0 < n) : -(n : Int) < a.tmod n ∧ a.tmod n < n := by
  have h1 := Int.lt_tmod_of_pos a (b := (n : Int)) (by omega)
  have h2 := Int.tmod_lt_of_pos a (b := (n : Int)) (by omega)
  omega
def rotS (s : ByteArray) (k : Nat) : ByteArray := s.extract k s.size ++ s.extract 0 k
def rotK (a : Int) (n : Nat) : Nat := (a % (n : Int)).toNat
theorem rotK_lt (a : Int) (n : Nat) (h : 0 < n) : rotK a n < n := by
  have h1 := Int.emod_nonneg a (b := (n : Int)) (by omega)
  have h2 := Int.emod_lt_of_pos a (b := (n : Int)) (by omega)
  unfold rotK; omega
theorem rotK_eq (a : Int) (n : Nat) (h : 0 < n) : (a.tmod n + n) % n = (rotK a n : Int) := by
  have h1 := Int.emod_nonneg a (b := (n : Int)) (by omega)
  have h3 : (a.tmod n + n) % n = a % n := by
    have h4 := Int.mul_tdiv_add_tmod a n
    have h5 : a.tmod n + n = a + n * (1 - a.tdiv n) := by
      rw [Int.mul_sub, Int.mul_one]; omega
    rw [h5, Int.add_mul_emod_self_left]
  rw [h3]; unfold rotK; omega
end Go.Proofs.Ytjnabncfkogigaa
end
section
set_option linter.unusedVariables false
namespace Go.Proofs.Ytjnabncfkogigaa
open Go.RowKit
theorem validCells_bd {s : ByteArray} (h : validCells s = true) : 0 < s.size ∧ s.size ≤ 8000 := by
  unfold validCells at h
  simp only [Bool.and_eq_true, inB_iff] at h
  omega
end Go.Proofs.Ytjnabncfkogigaa
end
