/- The struct File and slices of it: laws.szFileS, laws.toFile, laws.toFileS, laws.eqFile, laws.eqFileS -/
import Derived.Test.YtlgpkmgfcnhigaaRecs
import Derived.Test.YtlgpkmgfcnhigaaRecKit
namespace Go.Proofs.Ytlgpkmgfcnhigaa
open Go.RowKit Go.ChangeShapes Go.WideShapes Go.ChangeAt Go.Joins Go.Deep
set_option linter.unusedVariables false
set_option linter.unusedSimpArgs false
structure FileV where
  f0 : ByteArray
  f1 : ByteArray
def rowFile (e : FileV) : List Value := [.string e.f0, .string e.f1]
def zeroFile : List Value := [.string ByteArray.empty, .string ByteArray.empty]
theorem rowFile_len (e : FileV) : (rowFile e).length = 2 := rfl
theorem infoFile : (Try.prog.info? 46).map (fun i => (i.zero, i.size, i.bytes)) = some (some (.agg zeroFile.toArray), 2, 32) := by kernel_rfl
theorem cellsFileL : Try.prog.cellsOf 45 = 2 := by kernel_rfl
set_option maxRecDepth 100000 in
theorem readFileS {H : Type} {enc : TypeId × Value → H} {W : World} {fuel : Nat} {y : DataW H × List MemPlace} {a0 : Option Addr} {len0 cap0 : Nat}
    (hf1 : DataW.trod enc Try.prog W 0 (fun _ => true) true fuel 22 [.slice a0 len0 cap0] = some y) :
    ∃ es : List FileV, len0 = es.length ∧ es.length ≤ maxLen ∧ SlS rowFile W a0 es ∧ ∀ e ∈ es, e.f0.size ≤ maxLen ∧ e.f1.size ≤ maxLen := by
  obtain ⟨es, rfl, hm, hs, hx⟩ := open_recs (enc := enc) (P := Try.prog) (w := W) (base := 0) (held := true) (a := a0) (len := len0) (cap := cap0) (row := rowFile) (ok := fun e : FileV => e.f0.size ≤ maxLen ∧ e.f1.size ≤ maxLen) rowFile_len Try.underlying22 Try.underlying45 (by kernel_rfl) cellsFileL (by rfl) (by omega) (by
    intro cs hcs hat
    match cs, hcs with
    | [c0, c1], _ =>
      obtain ⟨c, m0, y0, e, t0⟩ := hat 0 _ rfl
      cases e
      obtain ⟨x0, rfl, s0⟩ := string_cell Try.underlying9 t0
      obtain ⟨c, m1, y1, e, t1⟩ := hat 1 _ rfl
      cases e
      obtain ⟨x1, rfl, s1⟩ := string_cell Try.underlying9 t1
      exact ⟨⟨x0, x1⟩, rfl, ⟨s0, s1⟩⟩) hf1
  exact ⟨es, rfl, hm, hs, hx⟩
set_option maxRecDepth 100000 in
theorem open_FileS {H : Type} {enc : TypeId × Value → H} {W : World} {base : Nat} {v : Value} {d : DataW H} {p : List MemPlace}
    (hv : Value.okWide Try.prog W .any base 22 v) (h : DataW.Trod enc Try.prog W 0 (fun _ => true) true 22 v d p) :
    ∃ (a : Option Addr) (es : List FileV) (cap : Nat), v = .slice a es.length cap ∧ RecArg rowFile W a es ∧ ∀ e ∈ es, e.f0.size ≤ maxLen ∧ e.f1.size ≤ maxLen := by
  obtain ⟨a0, len0, cap0, rfl⟩ := okWide_slice Try.underlying22 hv
  obtain ⟨fuel, hf⟩ := h
  obtain ⟨es, rfl, hm, hs, hx⟩ := readFileS (by simpa [Value.cells] using hf)
  exact ⟨a0, es, cap0, rfl, ⟨hm, hs⟩, hx⟩
def byFile (e : FileV) : Nat := e.f0.size + e.f1.size
def wtFile (es : List FileV) : Nat := es.length + (es.map fun e => byFile e).sum
theorem wtFile_len (es : List FileV) : es.length ≤ wtFile es := Nat.le_add_right _ _
theorem wtFile_at {es : List FileV} {m : Nat} (h : wtFile es ≤ m) : ∀ e ∈ es, e.f0.size ≤ m ∧ e.f1.size ≤ m := by
  intro e he
  unfold wtFile at h
  have : byFile e ≤ (es.map fun e => byFile e).sum := le_sum_of_mem (List.mem_map.2 ⟨e, he, rfl⟩)
  change e.f0.size + e.f1.size ≤ _ at this
  omega
set_option maxHeartbeats 1000000 in
theorem szFile_any (e : FileV) (left : Nat) (w : World) (hl : left ≤ 1048576) (hs : e.f0.size ≤ maxLen ∧ e.f1.size ≤ maxLen) :
    Calls Try.prog 29 #[.agg #[.string e.f0, .string e.f1], .int .i64 (left : Nat)] w fun x w' => x = .returned (.int .i64 (szV left (byFile e))) ∧ Below w.heap.size w w' := by
  unfold maxLen at hs
  obtain ⟨hs0, hs1⟩ := hs
  unfold szV byFile
  by_cases h0 : e.f0.size ≤ left
  case neg =>
    rw [if_neg (by omega)]
    have q0 : (left : Int) - (e.f0.size : Int) < 0 := by omega
    go_enter Try.func29, Try.ntmps29
    go_wp2
    go_ret
    exact ⟨rfl, by go_grown⟩
  have q0 : ¬ ((left : Int) - (e.f0.size : Int) < 0) := by omega
  by_cases h1 : e.f0.size + e.f1.size ≤ left
  case neg =>
    rw [if_neg (by omega)]
    have q1 : (left : Int) - (e.f0.size : Int) - (e.f1.size : Int) < 0 := by omega
    go_enter Try.func29, Try.ntmps29
    go_wp2
    go_ret
    exact ⟨rfl, by go_grown⟩
  have q1 : ¬ ((left : Int) - (e.f0.size : Int) - (e.f1.size : Int) < 0) := by omega
  rw [if_pos (by omega)]
  go_enter Try.func29, Try.ntmps29
  go_wp2
  go_ret
  exact ⟨ret_int (by omega), by go_grown⟩
set_option maxHeartbeats 2000000 in
theorem szFileS_any (a : Option Addr) (es : List FileV) (c left : Nat) (w : World) (hl : left ≤ 1048576) (hm : es.length ≤ maxLen) (hs : ∀ e ∈ es, e.f0.size ≤ maxLen ∧ e.f1.size ≤ maxLen) (h : SlS rowFile w a es) :
    Calls Try.prog 9 #[.slice a es.length c, .int .i64 (left : Nat)] w fun x w' => x = .returned (.int .i64 (szV left (wtFile es))) ∧ Below w.heap.size w w' := by
  unfold maxLen at hm
  by_cases h9 : es.length ≤ left
  · have h0 : ¬ ((left : Int) - (es.length : Int) < 0) := by omega
    have HW := Lib.hid (show ∀ k, wtFile es = es.length + ((es.take k).map fun e => byFile e).sum + ((es.drop k).map fun e => byFile e).sum from fun k => by
      unfold wtFile
      rw [Nat.add_assoc, ← List.sum_append_nat, ← List.map_append, List.take_append_drop])
    go_enter Try.func9, Try.ntmps9
    go_wp2
    go_loopw [1, 5] (fun l i wr => ∃ k m : Nat, k ≤ es.length ∧ i = .int .i64 k ∧ l = .int .i64 m ∧ m ≤ 1048576 ∧ Hid (m + (es.length + ((es.take k).map fun e => byFile e).sum) = left) ∧ Below w.heap.size w wr) (fun _ i _ => es.length - (intOf i).toNat)
    case atStart => exact ⟨0, left - es.length, Nat.zero_le _, rfl, by rw [show ((left - es.length : Nat) : Int) = (left : Int) - es.length by omega], by omega, by unfold Hid; simp; omega, Below.refl _ _⟩
    case round =>
      obtain ⟨k, m, hk, rfl, rfl, hm2, hS, hb⟩ := hrel
      by_cases hlt : k < es.length
      · obtain ⟨e, hx⟩ : ∃ e, es[k]? = some e := ⟨es[k], by simp [hlt]⟩
        obtain ⟨b, off, rfl, hbl, hc⟩ := (h.below hb (Nat.le_refl _)).at rowFile_len hx
        have c0 : wr.cell? ⟨b, off + k * 2, none⟩ = some (.string e.f0) := hc 0 _ rfl
        have c1 : wr.cell? ⟨b, off + k * 2 + 1, none⟩ = some (.string e.f1) := hc 1 _ rfl
        have hse := hs e (List.mem_of_getElem? hx)
        have SZ := Lib.hid (fun w => szFile_any e m w hm2 hse)
        have HS := Lib.hid hs
        have H := Lib.hid (And.intro h (And.intro hc hx)); clear h hc hx hs
        by_cases hq : (byFile e) ≤ m
        · have he : szV m (byFile e) = ((m - (byFile e) : Nat) : Int) := by unfold szV; rw [if_pos hq]
          rw [he] at SZ
          have HQ := Lib.hid hq; clear he hq hse
          obtain ⟨q, hqq⟩ : ∃ q, m - (byFile e) = q := ⟨_, rfl⟩
          rw [hqq] at SZ
          have hq1 : q ≤ 1048576 := by omega
          have hq0 : ¬ ((q : Int) < 0) := by omega
          have HQQ := Lib.hid hqq; clear hqq
          go_wp2_with fail
          refine (SZ.out _).mono ?_
          rintro e_ w1 ⟨rfl, hb1⟩
          clear c0 c1
          go_wp2
          go_roundw
          case rel =>
            refine ⟨k + 1, q, by omega, by go_num, rfl, hq1, ?_, hb.trans (hb1.mono hb.size)⟩
            unfold Hid
            rw [List.take_add_one, H.out.2.2]
            have h1 := hS.out; have h2 := HQ.out; have h3 := HQQ.out
            simp only [Option.toList_some, List.map_append, List.map_cons, List.map_nil, List.sum_append_nat, List.sum_cons, List.sum_nil]
            omega
          case measure => simp [intOf]; omega
        · have he : szV m (byFile e) = -1 := by unfold szV; rw [if_neg hq]
          rw [he] at SZ
          have HQ := Lib.hid hq; clear he hq hse
          go_wp2_with fail
          refine (SZ.out _).mono ?_
          rintro e_ w1 ⟨rfl, hb1⟩
          clear c0 c1
          go_wp2
          go_ret
          refine ⟨ret_int ?_, hb.trans (hb1.mono hb.size)⟩
          unfold szV
          rw [if_neg ?_]
          rw [HW.out (k + 1), List.take_add_one, H.out.2.2]
          have h1 := hS.out; have h2 := HQ.out
          simp only [Option.toList_some, List.map_append, List.map_cons, List.map_nil, List.sum_append_nat, List.sum_cons, List.sum_nil]
          omega
      · obtain rfl : k = es.length := by omega
        go_wp2
        go_ret
        refine ⟨ret_int ?_, hb⟩
        have h1 := hS.out; have h2 := HW.out es.length
        simp only [List.take_length, List.drop_length, List.map_nil, List.sum_nil] at h1 h2
        unfold szV
        rw [if_pos (by omega)]
        omega
  · have h0 : (left : Int) - (es.length : Int) < 0 := by omega
    have HE := Lib.hid (show szV left (wtFile es) = -1 by unfold szV; rw [if_neg (by have := wtFile_len es; omega)])
    go_enter Try.func9, Try.ntmps9
    go_wp2
    go_ret
    exact ⟨ret_int HE.out.symm, Below.refl _ _⟩
set_option maxHeartbeats 2000000 in
theorem toFile_any (e : FileV) (w : World) :
    Calls Try.prog 30 #[.agg #[.string e.f0, .string e.f1]] w fun x w' => x = .returned (.agg #[.string e.f0, .string e.f1]) ∧ Below w.heap.size w w' := by
  go_enter Try.func30, Try.ntmps30
  go_wp2
  refine bodyPost_ret (v := .agg #[.string e.f0, .string e.f1]) (by simp [results, Try.results30, go_sem]) rfl ⟨rfl, ?_⟩
  go_grown
set_option maxHeartbeats 4000000 in
theorem toFileS_any (a : Option Addr) (es : List FileV) (c : Nat) (w : World) (hl : es.length ≤ 1048576) (h : SlS rowFile w a es) :
    Calls Try.prog 11 #[.slice a es.length c] w (ToRecs rowFile 46 es w) := by
  have hmk := fun w => run_make_recs (P := Try.prog) 25 46 zeroFile 2 32 Try.underlying25 infoFile rfl (by omega) .i64 .i64 es.length (by omega) (by omega) w
  go_enter Try.func11, Try.ntmps11
  go_wp2
  clear hmk
  go_loopw [4] (fun i wr => ∃ k : Nat, k ≤ es.length ∧ i = .int .i64 k ∧ Hid (wr.heap[w.heap.size]? = some (.cells (cpS rowFile zeroFile es k).toArray 46 (0, 0))) ∧ Below w.heap.size w wr ∧ w.heap.size < wr.heap.size) (fun i _ => es.length - (intOf i).toNat)
  case atStart => exact ⟨0, Nat.zero_le _, rfl, by unfold Hid; rw [← cpS_zero]; exact heap_alloc_new w _, (Below.refl _ _).alloc (Nat.le_refl _) _, by simp⟩
  case round =>
    obtain ⟨k, hk, rfl, hB, hb, hgt⟩ := hrel
    by_cases hlt : k < es.length
    · obtain ⟨e, hx⟩ : ∃ e, es[k]? = some e := ⟨es[k], by simp [hlt]⟩
      obtain ⟨b, off, rfl, hbl, hc⟩ := (h.below hb (Nat.le_refl _)).at rowFile_len hx
      have c0 : wr.cell? ⟨b, off + k * 2, none⟩ = some (.string e.f0) := hc 0 _ rfl
      have c1 : wr.cell? ⟨b, off + k * 2 + 1, none⟩ = some (.string e.f1) := hc 1 _ rfl
      have TO := Lib.hid (fun w => toFile_any e w)
      have H := Lib.hid (And.intro h (And.intro hc hx)); clear h hc hx
      go_wp2_with fail
      refine (TO.out _).mono ?_
      rintro e_ w1 ⟨rfl, hb1⟩
      clear c0 c1
      have hB1 : w1.heap[w.heap.size]? = some (.cells (cpS rowFile zeroFile es k).toArray 46 (0, 0)) := by rw [hb1.block _ hgt]; exact hB.out
      have hb2 : Below w.heap.size w w1 := hb.trans (hb1.mono (by omega))
      have hgt1 : w.heap.size < w1.heap.size := Nat.lt_of_lt_of_le hgt hb1.size
      have hlen := cpS_size (zero := zeroFile) rowFile_len rfl hk
      have hcell : ∀ j, j < 2 → ∃ v, w1.cell? ⟨w.heap.size, k * 2 + j, none⟩ = some v := fun j hj => by
        have : (cpS rowFile zeroFile es k)[k * 2 + j]?.isSome = true := by simp [hlen]; omega
        obtain ⟨v, hv⟩ := Option.isSome_iff_exists.1 this
        exact ⟨v, by simp [World.cell?, hB1, hv]⟩
      obtain ⟨o0, d0⟩ := hcell 0 (by omega)
      obtain ⟨o1, d1⟩ := hcell 1 (by omega)
      have d0 : w1.cell? ⟨w.heap.size, k * 2, none⟩ = some o0 := d0
      have z0 : w1.frozen? ⟨w.heap.size, k * 2, none⟩ = false := by simp [World.frozen?, hB1]
      have z1 : w1.frozen? ⟨w.heap.size, k * 2 + 1, none⟩ = false := by simp [World.frozen?, hB1]
      have HB := Lib.hid (And.intro hB1 (And.intro hb2 (And.intro hb1 hlen))); clear hB hB1 hb2 hb1 hb hcell hlen hgt hbl
      go_wp2
      go_roundw
      case rel =>
        obtain ⟨hB1, hb2, hb1, hlen⟩ := HB.out
        obtain ⟨h, hc, hx⟩ := H.out
        refine ⟨k + 1, by omega, by go_num, ?_, ?_, ?_⟩
        · unfold Hid
          rw [← cpS_succ (zero := zeroFile) rowFile_len rfl hx]
          exact heap_setCells _ _ (rowFile e) (k * 2) w1 _ hB1
        · exact below_setCells _ (Nat.le_refl _) (rowFile e) (k * 2) w w1 hb2
        · exact Nat.lt_of_lt_of_le hgt1 (below_setCells (B := 0) w.heap.size (Nat.zero_le _) (rowFile e) (k * 2) w1 w1 (Below.refl _ _)).size
      case measure => simp [intOf]; omega
    · obtain rfl : k = es.length := by omega
      go_wp2
      go_ret
      exact ⟨_, rfl, by have := hB.out; rw [cpS_all] at this; exact this, Nat.le_refl _, hb⟩
def sameFile (x y : FileV) : Bool := decide (x.f0 = y.f0) && decide (x.f1 = y.f1)
theorem sameFile_iff {x y : FileV} : sameFile x y = true ↔ x = y := by
  cases x; cases y
  simp [sameFile, and_assoc]
set_option maxHeartbeats 4000000 in
theorem eqFile_any (x y : FileV) (w : World) :
    Calls Try.prog 32 #[.agg #[.string x.f0, .string x.f1], .agg #[.string y.f0, .string y.f1]] w fun e w' => e = .returned (.bool (sameFile x y)) ∧ Below w.heap.size w w' := by
  obtain ⟨x0, x1⟩ := x
  obtain ⟨y0, y1⟩ := y
  dsimp only
  by_cases h0 : x0 = y0
  case neg =>
    have hb0 := toList_ne2 h0
    have HE := Lib.hid (show sameFile ⟨x0, x1⟩ ⟨y0, y1⟩ = false by simp [sameFile, h0])
    clear h0
    go_enter Try.func32, Try.ntmps32
    go_wp2
    go_ret
    exact ⟨ret_bool HE.out.symm, by go_grown⟩
  subst h0
  by_cases h1 : x1 = y1
  case neg =>
    have hb1 := toList_ne2 h1
    have HE := Lib.hid (show sameFile ⟨x0, x1⟩ ⟨x0, y1⟩ = false by simp [sameFile, h1])
    clear h1
    go_enter Try.func32, Try.ntmps32
    go_wp2
    go_ret
    exact ⟨ret_bool HE.out.symm, by go_grown⟩
  subst h1
  have HE := Lib.hid (show sameFile ⟨x0, x1⟩ ⟨x0, x1⟩ = true by simp [sameFile])
  go_enter Try.func32, Try.ntmps32
  go_wp2
  go_ret
  exact ⟨ret_bool HE.out.symm, by go_grown⟩
set_option maxHeartbeats 4000000 in
theorem eqFileS_any (r : Bool) (a b : Option Addr) (xs ys : List FileV) (c d : Nat) (w : World) (hr : r = true ↔ xs = ys) (hx : xs.length ≤ 4194304) (hy : ys.length ≤ 4194304) (h1 : SlS rowFile w a xs) (h2 : SlS rowFile w b ys) :
    Calls Try.prog 13 #[.slice a xs.length c, .slice b ys.length d] w fun e w' => e = .returned (.bool r) ∧ Below w.heap.size w w' := by
  have HR := Lib.hid hr; clear hr
  by_cases hl : xs.length = ys.length
  · have hne : ((xs.length : Int) != ys.length) = false := by simp; omega
    have HL := Lib.hid hl; clear hl
    go_enter Try.func13, Try.ntmps13
    go_wp2
    go_loopw [5] (fun i wr => ∃ k : Nat, k ≤ xs.length ∧ i = .int .i64 k ∧ Hid (xs.take k = ys.take k) ∧ Below w.heap.size w wr) (fun i _ => xs.length - (intOf i).toNat)
    case atStart => exact ⟨0, Nat.zero_le _, rfl, by unfold Hid; rfl, Below.refl _ _⟩
    case round =>
      obtain ⟨k, hk, rfl, hT, hb⟩ := hrel
      have h1' := h1.below hb (Nat.le_refl _)
      have h2' := h2.below hb (Nat.le_refl _)
      by_cases hlt : k < xs.length
      · have hly : k < ys.length := by have := HL.out; omega
        obtain ⟨x, hxk⟩ : ∃ e, xs[k]? = some e := ⟨xs[k], by simp [hlt]⟩
        obtain ⟨y, hyk⟩ : ∃ e, ys[k]? = some e := ⟨ys[k], by simp [hly]⟩
        obtain ⟨bx, ox, rfl, hlx, hcx⟩ := h1'.at rowFile_len hxk
        obtain ⟨b2, o2, rfl, hly2, hcy⟩ := h2'.at rowFile_len hyk
        have c0 : wr.cell? ⟨bx, ox + k * 2, none⟩ = some (.string x.f0) := hcx 0 _ rfl
        have d0 : wr.cell? ⟨b2, o2 + k * 2, none⟩ = some (.string y.f0) := hcy 0 _ rfl
        have c1 : wr.cell? ⟨bx, ox + k * 2 + 1, none⟩ = some (.string x.f1) := hcx 1 _ rfl
        have d1 : wr.cell? ⟨b2, o2 + k * 2 + 1, none⟩ = some (.string y.f1) := hcy 1 _ rfl
        have HX := Lib.hid hxk; have HY := Lib.hid hyk; clear hxk hyk
        have e1 : (k : Int) < xs.length := by omega
        have e2 : (k : Int) < ys.length := by omega
        have H1 := Lib.hid (And.intro h1 (And.intro h1' hcx)); have H2 := Lib.hid (And.intro h2 (And.intro h2' hcy)); clear h1 h1' h2 h2'
        have EQ := Lib.hid (fun w => eqFile_any x y w)
        obtain ⟨q, hq⟩ : ∃ q, sameFile x y = q := ⟨_, rfl⟩
        rw [hq] at EQ
        have HQ := Lib.hid hq; clear hq
        have KS := Lib.hid (fun w' (hbw : Below wr.heap.size wr w') => (show w'.cell? ⟨bx, ox + k * 2, none⟩ = some (.string x.f0) ∧ w'.cell? ⟨bx, ox + k * 2 + 1, none⟩ = some (.string x.f1) ∧ w'.cell? ⟨b2, o2 + k * 2, none⟩ = some (.string y.f0) ∧ w'.cell? ⟨b2, o2 + k * 2 + 1, none⟩ = some (.string y.f1) from ⟨(hcx.below hbw hlx) 0 _ rfl, (hcx.below hbw hlx) 1 _ rfl, (hcy.below hbw hly2) 0 _ rfl, (hcy.below hbw hly2) 1 _ rfl⟩))
        have hks : wr.cell? ⟨bx, ox + k * 2, none⟩ = some (.string x.f0) ∧ wr.cell? ⟨bx, ox + k * 2 + 1, none⟩ = some (.string x.f1) ∧ wr.cell? ⟨b2, o2 + k * 2, none⟩ = some (.string y.f0) ∧ wr.cell? ⟨b2, o2 + k * 2 + 1, none⟩ = some (.string y.f1) := KS.out _ (Below.refl _ _)
        have HC := Lib.hid (show Below wr.heap.size wr wr.drew from (Below.refl _ _).drew)
        have HB := Lib.hid hb; clear hb c0 d0 c1 d1 hlx hly2 hcx hcy
        cases q
        all_goals
          go_wp2
          go_region_held3 (fun w' => w'.cell? ⟨bx, ox + k * 2, none⟩ = some (.string x.f0) ∧ w'.cell? ⟨bx, ox + k * 2 + 1, none⟩ = some (.string x.f1) ∧ w'.cell? ⟨b2, o2 + k * 2, none⟩ = some (.string y.f0) ∧ w'.cell? ⟨b2, o2 + k * 2 + 1, none⟩ = some (.string y.f1))
            (first | (with_reducible exact KS.out _ HC.out) | go_keep)
            ((go_at_call 32; refine (EQ.out _).mono ?_; rintro e w1 ⟨rfl, hb1⟩; replace HC := Lib.hid (HC.out.trans (hb1.mono HC.out.size))))
        · have hb' := HB.out.trans (HC.out.mono HB.out.size)
          clear hks
          go_wp2
          go_ret
          refine ⟨ret_bool ?_, hb'⟩
          cases r with
          | false => rfl
          | true =>
          exfalso
          have e := HR.out.1 rfl
          have h3 := HX.out
          rw [e, HY.out] at h3
          have h4 := sameFile_iff.2 (Option.some.inj h3).symm
          rw [HQ.out] at h4
          cases h4
        · have hb' := HB.out.trans (HC.out.mono HB.out.size)
          clear hks
          go_wp2
          go_roundw
          case rel => exact ⟨k + 1, by omega, by go_num, by unfold Hid; rw [List.take_add_one, List.take_add_one, HX.out, HY.out, hT.out, sameFile_iff.1 HQ.out], hb'⟩
          case measure => simp [intOf]; omega
      · go_wp2
        go_ret
        refine ⟨ret_bool ?_, hb⟩
        obtain rfl : k = xs.length := by omega
        exact (HR.out.2 (take_eq HL.out hT.out)).symm
  · have hne : ((xs.length : Int) != ys.length) = true := by simp; omega
    have HQ := Lib.hid (show r = false by
      cases r with
      | false => rfl
      | true => exact absurd (by rw [HR.out.1 rfl]) hl)
    go_enter Try.func13, Try.ntmps13
    go_wp2
    go_ret
    exact ⟨ret_bool HQ.out.symm, Below.refl _ _⟩
end Go.Proofs.Ytlgpkmgfcnhigaa
