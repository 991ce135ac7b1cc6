/- The struct Mark and slices of it: laws.szMarkS, laws.toMark, laws.toMarkS, laws.eqMark, laws.eqMarkS, laws.markMarkS, laws.heldMarkS -/
import Derived.Test.YtidedgcmpkahgaaRecs
import Derived.Test.YtidedgcmpkahgaaRecKit
namespace Go.Proofs.Ytidedgcmpkahgaa
open Go.RowKit Go.ChangeShapes Go.WideShapes Go.ChangeAt Go.Joins Go.Deep
set_option linter.unusedVariables false
set_option linter.unusedSimpArgs false
structure MarkV where
  f0 : Int
  f1 : Int
  f2 : Int
def rowMark (e : MarkV) : List Value := [.int .i64 e.f0, .int .i64 e.f1, .int .i64 e.f2]
def zeroMark : List Value := [.int .i64 0, .int .i64 0, .int .i64 0]
theorem rowMark_len (e : MarkV) : (rowMark e).length = 3 := rfl
theorem infoMark : (Try.prog.info? 58).map (fun i => (i.zero, i.size, i.bytes)) = some (some (.agg zeroMark.toArray), 3, 24) := by kernel_rfl
theorem cellsMarkL : Try.prog.cellsOf 60 = 3 := by kernel_rfl
set_option maxRecDepth 100000 in
theorem open_MarkS {H : Type} {enc : TypeId × Value → H} {W : World} {base : Nat} {v : Value} {d : DataW H} {p : List MemPlace}
    (hv : Value.okWide Try.prog W .any base 22 v) (h : DataW.Trod enc Try.prog W 0 (fun _ => true) true 22 v d p) :
    ∃ (a : Option Addr) (es : List MarkV) (cap : Nat), v = .slice a es.length cap ∧ RecArg rowMark W a es := by
  obtain ⟨a0, len0, cap0, rfl⟩ := okWide_slice Try.underlying22 hv
  obtain ⟨fuel, hf⟩ := h
  have hf1 : DataW.trod enc Try.prog W 0 (fun _ => true) true fuel 22 [.slice a0 len0 cap0] = some (d, p) := by simpa [Value.cells] using hf
  obtain ⟨es, rfl, hm, hs, hx⟩ := open_recs (enc := enc) (P := Try.prog) (w := W) (base := 0) (held := true) (a := a0) (len := len0) (cap := cap0) (row := rowMark) (ok := fun e : MarkV => True) rowMark_len Try.underlying22 Try.underlying60 (by kernel_rfl) cellsMarkL (by rfl) (by omega) (by
    intro cs hcs hat
    match cs, hcs with
    | [c0, c1, c2], _ =>
      obtain ⟨c, m0, y0, e, t0⟩ := hat 0 _ rfl
      cases e
      obtain ⟨x0, rfl⟩ := int_cell Try.underlying2 t0
      obtain ⟨c, m1, y1, e, t1⟩ := hat 1 _ rfl
      cases e
      obtain ⟨x1, rfl⟩ := int_cell Try.underlying2 t1
      obtain ⟨c, m2, y2, e, t2⟩ := hat 2 _ rfl
      cases e
      obtain ⟨x2, rfl⟩ := int_cell Try.underlying2 t2
      exact ⟨⟨x0, x1, x2⟩, rfl, trivial⟩) hf1
  exact ⟨a0, es, cap0, rfl, hm, hs⟩
def wtMark (es : List MarkV) : Nat := es.length
theorem wtMark_len (es : List MarkV) : es.length ≤ wtMark es := Nat.le_refl _
set_option maxHeartbeats 2000000 in
theorem szMarkS_any (a : Option Addr) (es : List MarkV) (c left : Nat) (w : World) (hl : left ≤ 1048576) (hm : es.length ≤ maxLen) (h : SlS rowMark w a es) :
    Calls Try.prog 7 #[.slice a es.length c, .int .i64 (left : Nat)] w fun x w' => x = .returned (.int .i64 (szV left (wtMark es))) ∧ Below w.heap.size w w' := by
  unfold maxLen at hm
  unfold szV wtMark
  by_cases h : es.length ≤ left
  · rw [if_pos h]
    have h0 : ¬ ((left : Int) - (es.length : Int) < 0) := by omega
    go_enter Try.func7, Try.ntmps7
    go_wp2
    go_ret
    exact ⟨ret_int (by omega), Below.refl _ _⟩
  · rw [if_neg h]
    have h0 : (left : Int) - (es.length : Int) < 0 := by omega
    go_enter Try.func7, Try.ntmps7
    go_wp2
    go_ret
    exact ⟨rfl, Below.refl _ _⟩
set_option maxHeartbeats 2000000 in
theorem toMark_any (e : MarkV) (w : World) :
    Calls Try.prog 28 #[.agg #[.int .i64 e.f0, .int .i64 e.f1, .int .i64 e.f2]] w fun x w' => x = .returned (.agg #[.int .i64 e.f0, .int .i64 e.f1, .int .i64 e.f2]) ∧ Below w.heap.size w w' := by
  go_enter Try.func28, Try.ntmps28
  go_wp2
  refine bodyPost_ret (v := .agg #[.int .i64 e.f0, .int .i64 e.f1, .int .i64 e.f2]) (by simp [results, Try.results28, go_sem]) rfl ⟨rfl, ?_⟩
  go_grown
set_option maxHeartbeats 4000000 in
theorem toMarkS_any (a : Option Addr) (es : List MarkV) (c : Nat) (w : World) (hl : es.length ≤ 1048576) (h : SlS rowMark w a es) :
    Calls Try.prog 9 #[.slice a es.length c] w (ToRecs rowMark 58 es w) := by
  have hmk := fun w => run_make_recs (P := Try.prog) 26 58 zeroMark 3 24 Try.underlying26 infoMark rfl (by omega) .i64 .i64 es.length (by omega) (by omega) w
  go_enter Try.func9, Try.ntmps9
  go_wp2
  clear hmk
  go_loopw [4] (fun i wr => ∃ k : Nat, k ≤ es.length ∧ i = .int .i64 k ∧ Hid (wr.heap[w.heap.size]? = some (.cells (cpS rowMark zeroMark es k).toArray 58 (0, 0))) ∧ Below w.heap.size w wr ∧ w.heap.size < wr.heap.size) (fun i _ => es.length - (intOf i).toNat)
  case atStart => exact ⟨0, Nat.zero_le _, rfl, by unfold Hid; rw [← cpS_zero]; exact heap_alloc_new w _, (Below.refl _ _).alloc (Nat.le_refl _) _, by simp⟩
  case round =>
    obtain ⟨k, hk, rfl, hB, hb, hgt⟩ := hrel
    by_cases hlt : k < es.length
    · obtain ⟨e, hx⟩ : ∃ e, es[k]? = some e := ⟨es[k], by simp [hlt]⟩
      obtain ⟨b, off, rfl, hbl, hc⟩ := (h.below hb (Nat.le_refl _)).at rowMark_len hx
      have c0 : wr.cell? ⟨b, off + k * 3, none⟩ = some (.int .i64 e.f0) := hc 0 _ rfl
      have c1 : wr.cell? ⟨b, off + k * 3 + 1, none⟩ = some (.int .i64 e.f1) := hc 1 _ rfl
      have c2 : wr.cell? ⟨b, off + k * 3 + 2, none⟩ = some (.int .i64 e.f2) := hc 2 _ rfl
      have TO := Lib.hid (fun w => toMark_any e w)
      have H := Lib.hid (And.intro h (And.intro hc hx)); clear h hc hx
      go_wp2_with fail
      refine (TO.out _).mono ?_
      rintro e_ w1 ⟨rfl, hb1⟩
      clear c0 c1 c2
      have hB1 : w1.heap[w.heap.size]? = some (.cells (cpS rowMark zeroMark es k).toArray 58 (0, 0)) := by rw [hb1.block _ hgt]; exact hB.out
      have hb2 : Below w.heap.size w w1 := hb.trans (hb1.mono (by omega))
      have hgt1 : w.heap.size < w1.heap.size := Nat.lt_of_lt_of_le hgt hb1.size
      have hlen := cpS_size (zero := zeroMark) rowMark_len rfl hk
      have hcell : ∀ j, j < 3 → ∃ v, w1.cell? ⟨w.heap.size, k * 3 + j, none⟩ = some v := fun j hj => by
        have : (cpS rowMark zeroMark es k)[k * 3 + j]?.isSome = true := by simp [hlen]; omega
        obtain ⟨v, hv⟩ := Option.isSome_iff_exists.1 this
        exact ⟨v, by simp [World.cell?, hB1, hv]⟩
      obtain ⟨o0, d0⟩ := hcell 0 (by omega)
      obtain ⟨o1, d1⟩ := hcell 1 (by omega)
      obtain ⟨o2, d2⟩ := hcell 2 (by omega)
      have d0 : w1.cell? ⟨w.heap.size, k * 3, none⟩ = some o0 := d0
      have z0 : w1.frozen? ⟨w.heap.size, k * 3, none⟩ = false := by simp [World.frozen?, hB1]
      have z1 : w1.frozen? ⟨w.heap.size, k * 3 + 1, none⟩ = false := by simp [World.frozen?, hB1]
      have z2 : w1.frozen? ⟨w.heap.size, k * 3 + 2, none⟩ = false := by simp [World.frozen?, hB1]
      have HB := Lib.hid (And.intro hB1 (And.intro hb2 (And.intro hb1 hlen))); clear hB hB1 hb2 hb1 hb hcell hlen hgt hbl
      go_wp2
      go_roundw
      case rel =>
        obtain ⟨hB1, hb2, hb1, hlen⟩ := HB.out
        obtain ⟨h, hc, hx⟩ := H.out
        refine ⟨k + 1, by omega, by go_num, ?_, ?_, ?_⟩
        · unfold Hid
          rw [← cpS_succ (zero := zeroMark) rowMark_len rfl hx]
          exact heap_setCells _ _ (rowMark e) (k * 3) w1 _ hB1
        · exact below_setCells _ (Nat.le_refl _) (rowMark e) (k * 3) w w1 hb2
        · exact Nat.lt_of_lt_of_le hgt1 (below_setCells (B := 0) w.heap.size (Nat.zero_le _) (rowMark e) (k * 3) w1 w1 (Below.refl _ _)).size
      case measure => simp [intOf]; omega
    · obtain rfl : k = es.length := by omega
      go_wp2
      go_ret
      exact ⟨_, rfl, by have := hB.out; rw [cpS_all] at this; exact this, Nat.le_refl _, hb⟩
def sameMark (x y : MarkV) : Bool := (x.f0 == y.f0) && (x.f1 == y.f1) && (x.f2 == y.f2)
theorem sameMark_iff {x y : MarkV} : sameMark x y = true ↔ x = y := by
  cases x; cases y
  simp [sameMark, and_assoc]
set_option maxHeartbeats 4000000 in
theorem eqMark_any (x y : MarkV) (w : World) :
    Calls Try.prog 31 #[.agg #[.int .i64 x.f0, .int .i64 x.f1, .int .i64 x.f2], .agg #[.int .i64 y.f0, .int .i64 y.f1, .int .i64 y.f2]] w fun e w' => e = .returned (.bool (sameMark x y)) ∧ Below w.heap.size w w' := by
  obtain ⟨x0, x1, x2⟩ := x
  obtain ⟨y0, y1, y2⟩ := y
  dsimp only
  by_cases h0 : x0 = y0
  case neg =>
    have hb0 : (x0 != y0) = true := by simp [h0]
    have HE := Lib.hid (show sameMark ⟨x0, x1, x2⟩ ⟨y0, y1, y2⟩ = false by simp [sameMark, h0])
    clear h0
    go_enter Try.func31, Try.ntmps31
    go_wp2
    go_ret
    exact ⟨ret_bool HE.out.symm, by go_grown⟩
  subst h0
  by_cases h1 : x1 = y1
  case neg =>
    have hb1 : (x1 != y1) = true := by simp [h1]
    have HE := Lib.hid (show sameMark ⟨x0, x1, x2⟩ ⟨x0, y1, y2⟩ = false by simp [sameMark, h1])
    clear h1
    go_enter Try.func31, Try.ntmps31
    go_wp2
    go_ret
    exact ⟨ret_bool HE.out.symm, by go_grown⟩
  subst h1
  by_cases h2 : x2 = y2
  case neg =>
    have hb2 : (x2 != y2) = true := by simp [h2]
    have HE := Lib.hid (show sameMark ⟨x0, x1, x2⟩ ⟨x0, x1, y2⟩ = false by simp [sameMark, h2])
    clear h2
    go_enter Try.func31, Try.ntmps31
    go_wp2
    go_ret
    exact ⟨ret_bool HE.out.symm, by go_grown⟩
  subst h2
  have HE := Lib.hid (show sameMark ⟨x0, x1, x2⟩ ⟨x0, x1, x2⟩ = true by simp [sameMark])
  go_enter Try.func31, Try.ntmps31
  go_wp2
  go_ret
  exact ⟨ret_bool HE.out.symm, by go_grown⟩
set_option maxHeartbeats 4000000 in
theorem eqMarkS_any (r : Bool) (a b : Option Addr) (xs ys : List MarkV) (c d : Nat) (w : World) (hr : r = true ↔ xs = ys) (hx : xs.length ≤ 4194304) (hy : ys.length ≤ 4194304) (h1 : SlS rowMark w a xs) (h2 : SlS rowMark w b ys) :
    Calls Try.prog 11 #[.slice a xs.length c, .slice b ys.length d] w fun e w' => e = .returned (.bool r) ∧ Below w.heap.size w w' := by
  have HR := Lib.hid hr; clear hr
  by_cases hl : xs.length = ys.length
  · have hne : ((xs.length : Int) != ys.length) = false := by simp; omega
    have HL := Lib.hid hl; clear hl
    go_enter Try.func11, Try.ntmps11
    go_wp2
    go_loopw [5] (fun i wr => ∃ k : Nat, k ≤ xs.length ∧ i = .int .i64 k ∧ Hid (xs.take k = ys.take k) ∧ Below w.heap.size w wr) (fun i _ => xs.length - (intOf i).toNat)
    case atStart => exact ⟨0, Nat.zero_le _, rfl, by unfold Hid; rfl, Below.refl _ _⟩
    case round =>
      obtain ⟨k, hk, rfl, hT, hb⟩ := hrel
      have h1' := h1.below hb (Nat.le_refl _)
      have h2' := h2.below hb (Nat.le_refl _)
      by_cases hlt : k < xs.length
      · have hly : k < ys.length := by have := HL.out; omega
        obtain ⟨x, hxk⟩ : ∃ e, xs[k]? = some e := ⟨xs[k], by simp [hlt]⟩
        obtain ⟨y, hyk⟩ : ∃ e, ys[k]? = some e := ⟨ys[k], by simp [hly]⟩
        obtain ⟨bx, ox, rfl, hlx, hcx⟩ := h1'.at rowMark_len hxk
        obtain ⟨b2, o2, rfl, hly2, hcy⟩ := h2'.at rowMark_len hyk
        have c0 : wr.cell? ⟨bx, ox + k * 3, none⟩ = some (.int .i64 x.f0) := hcx 0 _ rfl
        have d0 : wr.cell? ⟨b2, o2 + k * 3, none⟩ = some (.int .i64 y.f0) := hcy 0 _ rfl
        have c1 : wr.cell? ⟨bx, ox + k * 3 + 1, none⟩ = some (.int .i64 x.f1) := hcx 1 _ rfl
        have d1 : wr.cell? ⟨b2, o2 + k * 3 + 1, none⟩ = some (.int .i64 y.f1) := hcy 1 _ rfl
        have c2 : wr.cell? ⟨bx, ox + k * 3 + 2, none⟩ = some (.int .i64 x.f2) := hcx 2 _ rfl
        have d2 : wr.cell? ⟨b2, o2 + k * 3 + 2, none⟩ = some (.int .i64 y.f2) := hcy 2 _ rfl
        have HX := Lib.hid hxk; have HY := Lib.hid hyk; clear hxk hyk
        have e1 : (k : Int) < xs.length := by omega
        have e2 : (k : Int) < ys.length := by omega
        have H1 := Lib.hid (And.intro h1 (And.intro h1' hcx)); have H2 := Lib.hid (And.intro h2 (And.intro h2' hcy)); clear h1 h1' h2 h2'
        have EQ := Lib.hid (fun w => eqMark_any x y w)
        obtain ⟨q, hq⟩ : ∃ q, sameMark x y = q := ⟨_, rfl⟩
        rw [hq] at EQ
        have HQ := Lib.hid hq; clear hq
        have KS := Lib.hid (fun w' (hbw : Below wr.heap.size wr w') => (show w'.cell? ⟨bx, ox + k * 3, none⟩ = some (.int .i64 x.f0) ∧ w'.cell? ⟨bx, ox + k * 3 + 1, none⟩ = some (.int .i64 x.f1) ∧ w'.cell? ⟨bx, ox + k * 3 + 2, none⟩ = some (.int .i64 x.f2) ∧ w'.cell? ⟨b2, o2 + k * 3, none⟩ = some (.int .i64 y.f0) ∧ w'.cell? ⟨b2, o2 + k * 3 + 1, none⟩ = some (.int .i64 y.f1) ∧ w'.cell? ⟨b2, o2 + k * 3 + 2, none⟩ = some (.int .i64 y.f2) from ⟨(hcx.below hbw hlx) 0 _ rfl, (hcx.below hbw hlx) 1 _ rfl, (hcx.below hbw hlx) 2 _ rfl, (hcy.below hbw hly2) 0 _ rfl, (hcy.below hbw hly2) 1 _ rfl, (hcy.below hbw hly2) 2 _ rfl⟩))
        have hks : wr.cell? ⟨bx, ox + k * 3, none⟩ = some (.int .i64 x.f0) ∧ wr.cell? ⟨bx, ox + k * 3 + 1, none⟩ = some (.int .i64 x.f1) ∧ wr.cell? ⟨bx, ox + k * 3 + 2, none⟩ = some (.int .i64 x.f2) ∧ wr.cell? ⟨b2, o2 + k * 3, none⟩ = some (.int .i64 y.f0) ∧ wr.cell? ⟨b2, o2 + k * 3 + 1, none⟩ = some (.int .i64 y.f1) ∧ wr.cell? ⟨b2, o2 + k * 3 + 2, none⟩ = some (.int .i64 y.f2) := KS.out _ (Below.refl _ _)
        have HC := Lib.hid (show Below wr.heap.size wr wr.drew from (Below.refl _ _).drew)
        have HB := Lib.hid hb; clear hb c0 d0 c1 d1 c2 d2 hlx hly2 hcx hcy
        cases q
        all_goals
          go_wp2
          go_region_held3 (fun w' => w'.cell? ⟨bx, ox + k * 3, none⟩ = some (.int .i64 x.f0) ∧ w'.cell? ⟨bx, ox + k * 3 + 1, none⟩ = some (.int .i64 x.f1) ∧ w'.cell? ⟨bx, ox + k * 3 + 2, none⟩ = some (.int .i64 x.f2) ∧ w'.cell? ⟨b2, o2 + k * 3, none⟩ = some (.int .i64 y.f0) ∧ w'.cell? ⟨b2, o2 + k * 3 + 1, none⟩ = some (.int .i64 y.f1) ∧ w'.cell? ⟨b2, o2 + k * 3 + 2, none⟩ = some (.int .i64 y.f2))
            (first | (with_reducible exact KS.out _ HC.out) | go_keep)
            ((go_at_call 31; refine (EQ.out _).mono ?_; rintro e w1 ⟨rfl, hb1⟩; replace HC := Lib.hid (HC.out.trans (hb1.mono HC.out.size))))
        · have hb' := HB.out.trans (HC.out.mono HB.out.size)
          clear hks
          go_wp2
          go_ret
          refine ⟨ret_bool ?_, hb'⟩
          cases r with
          | false => rfl
          | true =>
          exfalso
          have e := HR.out.1 rfl
          have h3 := HX.out
          rw [e, HY.out] at h3
          have h4 := sameMark_iff.2 (Option.some.inj h3).symm
          rw [HQ.out] at h4
          cases h4
        · have hb' := HB.out.trans (HC.out.mono HB.out.size)
          clear hks
          go_wp2
          go_roundw
          case rel => exact ⟨k + 1, by omega, by go_num, by unfold Hid; rw [List.take_add_one, List.take_add_one, HX.out, HY.out, hT.out, sameMark_iff.1 HQ.out], hb'⟩
          case measure => simp [intOf]; omega
      · go_wp2
        go_ret
        refine ⟨ret_bool ?_, hb⟩
        obtain rfl : k = xs.length := by omega
        exact (HR.out.2 (take_eq HL.out hT.out)).symm
  · have hne : ((xs.length : Int) != ys.length) = true := by simp; omega
    have HQ := Lib.hid (show r = false by
      cases r with
      | false => rfl
      | true => exact absurd (by rw [HR.out.1 rfl]) hl)
    go_enter Try.func11, Try.ntmps11
    go_wp2
    go_ret
    exact ⟨ret_bool HQ.out.symm, Below.refl _ _⟩
end Go.Proofs.Ytidedgcmpkahgaa
