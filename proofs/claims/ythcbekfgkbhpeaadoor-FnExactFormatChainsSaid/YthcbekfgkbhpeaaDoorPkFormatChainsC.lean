/- impl.ValidCells -/
import Derived.Test.YthcbekfgkbhpeaaDoorPkFormatChainsA
import Derived.Laws.RangeAny
import Derived.Laws.RangeString
import Derived.Test.YthcbekfgkbhpeaaDoorPkFormatChainsB
section
set_option linter.unusedVariables false
namespace Go.Proofs.YthcbekfgkbhpeaaDoor
open Go.RowKit
set_option maxRecDepth 20000
def isCell (c : UInt8) : Bool := c == 48 || c == 49
def cellsL (l : List UInt8) : Bool := l.all isCell
/-- 1 to 8000 characters 0 and 1. -/
def validCells (s : ByteArray) : Bool := cellsL s.data.toList && inB 1 8000 s.size
theorem cellsL_snoc (s : ByteArray) (k : Nat) (h : k < s.size) : cellsL (s.data.toList.take (k + 1)) = (cellsL (s.data.toList.take k) && isCell s[k]) := by
  have e : s.data.toList.take (k + 1) = s.data.toList.take k ++ [s[k]] := by rw [List.take_succ_eq_append_getElem (by simpa using h)]; rfl
  rw [e]; simp [cellsL]
theorem cellsL_no (s : ByteArray) (k : Nat) (h : k < s.size) (hc : isCell s[k] = false) : cellsL s.data.toList = false := by
  unfold cellsL
  rw [List.all_eq_false]
  exact ⟨s[k], by show s.data[k] ∈ _; simp, by simp [hc]⟩
theorem take_ge' (s : ByteArray) (k : Nat) (h : s.size ≤ k) : s.data.toList.take k = s.data.toList := by
  refine List.take_of_length_le ?_
  have : s.data.toList.length = s.size := by simp
  omega
theorem isCell_iff (c : UInt8) : isCell c = true ↔ c.toNat = 48 ∨ c.toNat = 49 := by
  unfold isCell
  simp only [Bool.or_eq_true, beq_iff_eq, ← UInt8.toNat_inj]
  rfl
/-- The rune at a byte that is no cell is no cell. -/
theorem rune_no (s : ByteArray) (pos : Nat) (h : pos < s.size) (hc : isCell s[pos] = false) : (Utf8.decode s pos).1 ≠ 48 ∧ (Utf8.decode s pos).1 ≠ 49 := by
  have h1 : ¬ (s[pos].toNat = 48 ∨ s[pos].toNat = 49) := by rw [← isCell_iff]; simp [hc]
  by_cases ha : s[pos].toNat < 128
  · rw [decode_ascii s pos h ha]
    exact ⟨fun e => h1 (.inl e), fun e => h1 (.inr e)⟩
  · have := (decode_high s pos h (by omega)).1
    omega
end Go.Proofs.YthcbekfgkbhpeaaDoor
end
section
set_option linter.unusedVariables false
namespace Go.Proofs.YthcbekfgkbhpeaaDoor
open Go.RowKit
set_option maxRecDepth 20000
end Go.Proofs.YthcbekfgkbhpeaaDoor
end
section
set_option linter.unusedVariables false
namespace Go.Proofs.YthcbekfgkbhpeaaDoor
open Go.RowKit
set_option maxRecDepth 20000
set_option linter.unusedVariables false
def len0 (xs : List StringV) : Nat := ((xs[0]?).map (fun e => e.f0.size)).getD 0
def allCells (xs : List StringV) : Bool := xs.all (fun e => validCells e.f0)
def allLen (n : Nat) (xs : List StringV) : Bool := xs.all (fun e => decide (e.f0.size = n))
def revOk (xs : List StringV) : Bool := inB 1 5 xs.length && (allCells xs && allLen (len0 xs) xs)
theorem all_take_snocE {E : Type} {p : E → Bool} {zs : List E} {k : Nat} {x : E} (h : zs[k]? = some x) : (zs.take (k+1)).all p = ((zs.take k).all p && p x) := by
  rw [List.take_add_one, h]; simp
theorem all_false_ofE {E : Type} {p : E → Bool} {zs : List E} {k : Nat} {x : E} (h : zs[k]? = some x) (hp : p x = false) : zs.all p = false := by
  rw [List.all_eq_false]
  exact ⟨x, List.mem_of_getElem? h, by simp [hp]⟩
set_option maxHeartbeats 1000000 in
theorem isOne1_any (s : ByteArray) (p b off n c : Nat) (e0 : ByteArray) (w : World) (hs : s.size ≤ maxLen) (he : e0.size ≤ maxLen) (hn : 0 < n) (hp : w.cell? ⟨p, 0, none⟩ = some (.slice (some ⟨b, off, none⟩) n c)) (h0 : w.cell? ⟨b, off, none⟩ = some (.string e0)) :
    Calls Tryd.prog 78 #[.string s, .pointer (some ⟨p, 0, none⟩)] w fun x w' => x = .returned (.bool (decide (s.size = e0.size))) ∧ w = w' := by
  unfold maxLen at hs he
  by_cases hq : s.size = e0.size
  · have hd : ((s.size : Int) == (e0.size : Int)) = true := by simp; omega
    have HD := Lib.hid (show decide (s.size = e0.size) = true by simp [hq]); clear hq
    go_enter Tryd.func78, Tryd.ntmps78
    go_wp2
    go_ret
    exact ⟨ret_bool HD.out.symm, rfl⟩
  · have hd : ((s.size : Int) == (e0.size : Int)) = false := by rw [beq_eq_false_iff_ne]; omega
    have HD := Lib.hid (show decide (s.size = e0.size) = false by simp [hq]); clear hq
    go_enter Tryd.func78, Tryd.ntmps78
    go_wp2
    go_ret
    exact ⟨ret_bool HD.out.symm, rfl⟩
set_option maxHeartbeats 1000000 in
theorem everyOne_any (a : Option Addr) (es : List StringV) (c p : Nat) (w : World) (hm : es.length ≤ 1048576) (hs : ∀ e ∈ es, e.f0.size ≤ maxLen) (hp : w.cell? ⟨p, 0, none⟩ = some (.slice a es.length c)) (h : SlS rowString w a es) :
    Calls Tryd.prog 77 #[.slice a es.length c, .func (.func 78) #[] #[.pointer (some ⟨p, 0, none⟩)]] w fun x w' => x = .returned (.bool (allLen (len0 es) es)) ∧ Below w.heap.size w w' := by
  have hplt := World.block_lt_of_cell? w _ hp
  have HP := Lib.hid hp; clear hp
  go_enter Tryd.func77, Tryd.ntmps77
  go_wp2
  go_loopw [9] (fun i wr => ∃ (k : Nat), k ≤ es.length ∧ i = .int .i64 k ∧ Hid (allLen (len0 es) (es.take k) = true) ∧ Below w.heap.size w wr) (fun i _ => es.length - (intOf i).toNat)
  case atStart => exact ⟨0, Nat.zero_le _, rfl, by unfold Hid; rfl, Below.refl _ _⟩
  case round =>
    obtain ⟨k, hk, rfl, hR, hb⟩ := hrel
    by_cases hlt2 : k < es.length
    · obtain ⟨e, hx⟩ : ∃ e, es[k]? = some e := ⟨es[k], by simp [hlt2]⟩
      obtain ⟨e0, hx0⟩ : ∃ e, es[0]? = some e := ⟨es[0], by simp⟩
      have hl0 : len0 es = e0.f0.size := by unfold len0; rw [hx0]; rfl
      have hsl := h.below hb (Nat.le_refl _)
      obtain ⟨b, off, rfl, hbl, hc⟩ := hsl.at rowString_len hx
      have c0 : wr.cell? ⟨b, off + k * 1, none⟩ = some (.string e.f0) := hc 0 _ rfl
      rw [Nat.mul_one] at c0
      obtain ⟨b', off', eq', _, hc'⟩ := hsl.at rowString_len hx0
      cases eq'
      have d0 : wr.cell? ⟨b, off, none⟩ = some (.string e0.f0) := by have := hc' 0 _ rfl; simpa using this
      have CL := Lib.hid (isOne1_any e.f0 p b off es.length c e0.f0 wr (hs e (List.mem_of_getElem? hx)) (hs e0 (List.mem_of_getElem? hx0)) (by omega) (by rw [hb.cell (p := ⟨p, 0, none⟩) hplt]; exact HP.out) d0)
      have H := Lib.hid (And.intro h (And.intro hc (And.intro hx hs))); clear h hc hx hs hsl d0 hc' hx0
      rw [← hl0] at CL
      have HL0 := Lib.hid hl0; clear hl0
      obtain ⟨q, hq⟩ : ∃ q, decide (e.f0.size = len0 es) = q := ⟨_, rfl⟩
      rw [hq] at CL
      have HQ := Lib.hid hq; clear hq
      cases q with
      | false =>
        have HR := Lib.hid (show allLen (len0 es) es = false from all_false_ofE H.out.2.2.1 HQ.out)
        go_wp2_with fail
        refine CL.out.mono ?_
        rintro e_ w1 ⟨rfl, rfl⟩
        go_wp2
        go_ret
        exact ⟨ret_bool HR.out.symm, hb⟩
      | true =>
        go_wp2_with fail
        refine CL.out.mono ?_
        rintro e_ w1 ⟨rfl, rfl⟩
        clear c0
        go_wp2
        go_roundw
        case rel => exact ⟨k + 1, by omega, by go_num, by unfold Hid allLen; rw [all_take_snocE H.out.2.2.1, HQ.out]; have := hR.out; unfold allLen at this; rw [this]; rfl, hb⟩
        case measure => simp [intOf]; omega
    · obtain rfl : k = es.length := by omega
      have HR := Lib.hid (show allLen (len0 es) es = true by have := hR.out; rwa [List.take_length] at this)
      go_wp2
      go_ret
      exact ⟨ret_bool HR.out.symm, hb⟩
set_option maxHeartbeats 1000000 in
theorem isOneLength_any (a : Option Addr) (es : List StringV) (c : Nat) (w : World) (hm : es.length ≤ 1048576) (hs : ∀ e ∈ es, e.f0.size ≤ maxLen) (h : SlS rowString w a es) :
    Calls Tryd.prog 61 #[.slice a es.length c] w fun x w' => x = .returned (.bool (allLen (len0 es) es)) ∧ Below w.heap.size w w' := by
  have EV := Lib.hid (fun w' (hb : Below w.heap.size w w') hp => everyOne_any a es c w.heap.size w' hm hs hp (h.below hb (Nat.le_refl _)))
  clear h hs
  go_enter Tryd.func61, Tryd.ntmps61
  go_wp2_with (go_at_call 77; refine (EV.out _ ((Below.refl _ _).alloc (Nat.le_refl _) _) (cell_new w _ _)).mono ?_; rintro e w1 ⟨rfl, hb1⟩)
  go_ret
  exact ⟨rfl, Below.trans (by go_grown) (hb1.mono (by simp))⟩
theorem within_r (lo hi n : Int) (w : World) (T : TypeId) (b : Nat) (hb : w.heap.size = b) :
    Calls Tryd.prog 37 #[.int .i64 lo, .int .i64 hi, .slice (some ⟨b, 0, none⟩) 1 1] (w.alloc (.cells #[.int .i64 n] T)) fun e w' => e = .returned (.bool (inB lo hi n)) ∧ Below w.heap.size w w' :=
  (within_at lo hi n w T b hb).mono fun e w' ⟨he, hw⟩ => ⟨he, by rw [← hw]; exact (Below.refl _ _).alloc (Nat.le_refl _) _⟩
end Go.Proofs.YthcbekfgkbhpeaaDoor
end
section
set_option linter.unusedVariables false
namespace Go.Proofs.YthcbekfgkbhpeaaDoor
open Go.RowKit Go.ChangeShapes Go.WideShapes Go.ChangeAt Go.Joins Go.Deep
set_option linter.unusedVariables false
set_option linter.unusedSimpArgs false
structure ExtentLayoutV where
  f0 : Int
  f1 : Int
  f2 : Int
  f3 : Int
def rowExtentLayout (e : ExtentLayoutV) : List Value := [.int .i64 e.f0, .int .i64 e.f1, .int .i64 e.f2, .int .i64 e.f3]
def zeroExtentLayout : List Value := [.int .i64 0, .int .i64 0, .int .i64 0, .int .i64 0]
theorem rowExtentLayout_len (e : ExtentLayoutV) : (rowExtentLayout e).length = 4 := rfl
def wtExtentLayout (es : List ExtentLayoutV) : Nat := es.length
theorem wtExtentLayout_len (es : List ExtentLayoutV) : es.length ≤ wtExtentLayout es := Nat.le_refl _
def sameExtentLayout (x y : ExtentLayoutV) : Bool := (x.f0 == y.f0) && (x.f1 == y.f1) && (x.f2 == y.f2) && (x.f3 == y.f3)
theorem sameExtentLayout_iff {x y : ExtentLayoutV} : sameExtentLayout x y = true ↔ x = y := by
  cases x; cases y
  simp [sameExtentLayout, and_assoc]
end Go.Proofs.YthcbekfgkbhpeaaDoor
end
section
set_option linter.unusedVariables false
namespace Go.Proofs.YthcbekfgkbhpeaaDoor
open Go.RowKit
set_option maxRecDepth 20000
set_option linter.unusedVariables false
/-- s, and the same byte behind it up to n bytes. -/
def padB (s : ByteArray) (n : Nat) (c : UInt8) : ByteArray := s ++ ⟨(List.replicate (n - s.size) c).toArray⟩
theorem padB_size {s : ByteArray} {n : Nat} {c : UInt8} (h : s.size ≤ n) : (padB s n c).size = n := by
  unfold padB
  rw [ByteArray.size_append]
  show s.size + (List.replicate (n - s.size) c).toArray.size = n
  simp
  omega
def sizeB (n : Nat) : Bool := decide (n = 8) || (decide (n = 16) || decide (n = 32))
theorem sizeB_iff {n : Nat} : sizeB n = true ↔ n = 8 ∨ n = 16 ∨ n = 32 := by unfold sizeB; simp
def sizeI (n : Int) : Bool := decide (n = 8) || (decide (n = 16) || decide (n = 32))
theorem sizeI_iff {n : Int} : sizeI n = true ↔ n = 8 ∨ n = 16 ∨ n = 32 := by unfold sizeI; simp
theorem sizeI_nat (n : Nat) : sizeI (n : Int) = sizeB n := by
  apply Bool.eq_iff_iff.2
  rw [sizeI_iff, sizeB_iff]
  omega
/-- A list of 8 to 128 blocks of the same size, 8, 16 or 32 bytes. -/
def diskB (es : List StringV) : Bool := inB 8 128 es.length && (allLen (len0 es) es && sizeB (len0 es))
theorem diskB_facts {es : List StringV} (h : diskB es = true) : (8 ≤ es.length ∧ es.length ≤ 128) ∧ (∀ e ∈ es, e.f0.size = len0 es) ∧ (len0 es = 8 ∨ len0 es = 16 ∨ len0 es = 32) := by
  unfold diskB allLen at h
  simp only [Bool.and_eq_true, inB_iff, List.all_eq_true, decide_eq_true_eq, sizeB_iff] at h
  obtain ⟨h1, h2, h3⟩ := h
  exact ⟨by omega, h2, h3⟩
def blkAt (es : List StringV) (k : Nat) : ByteArray := ((es[k]?).map (fun e => e.f0)).getD ByteArray.empty
theorem blkAt_of {es : List StringV} {k : Nat} {e : StringV} (h : es[k]? = some e) : blkAt es k = e.f0 := by unfold blkAt; rw [h]; rfl
/-- The first block of a disk with extents of n blocks of z bytes. -/
def exHead (n z : Nat) : ByteArray := padB ⟨#[69, 88, n.toUInt8, z.toUInt8, (n / 4).toUInt8]⟩ z 0
def exData (n z : Nat) : Nat := 1 + (n / 4 * 16 + z - 1) / z
def exOn (es : List StringV) : Bool := diskB es && decide (blkAt es 0 = exHead es.length (len0 es))
theorem exOn_facts {es : List StringV} (h : exOn es = true) : diskB es = true ∧ blkAt es 0 = exHead es.length (len0 es) := by
  unfold exOn at h
  simpa using h
def exC (es : List StringV) : Int := if exOn es = true then 0 else 7
def exL (es : List StringV) : ExtentLayoutV := if exOn es = true then ⟨(es.length : Int), (len0 es : Int), ((es.length / 4 : Nat) : Int), (exData es.length (len0 es) : Int)⟩ else ⟨0, 0, 0, 0⟩
theorem exHead_size {n z : Nat} (h : z = 8 ∨ z = 16 ∨ z = 32) : (exHead n z).size = z := by
  unfold exHead
  apply padB_size
  show 5 ≤ z
  omega
theorem padB_empty (n : Nat) : padB ⟨#[]⟩ n 0 = ⟨(List.replicate n (0 : UInt8)).toArray⟩ := by
  unfold padB
  apply ByteArray.ext
  rw [show (⟨#[]⟩ : ByteArray).size = 0 from rfl]
  simp
/-- n blocks of z zero bytes, but for the first one. -/
def blankL (n z : Nat) (h : ByteArray) : List StringV := (⟨h⟩ : StringV) :: List.replicate (n - 1) ⟨⟨(List.replicate z (0 : UInt8)).toArray⟩⟩
theorem blankL_len {n z : Nat} {h : ByteArray} (hn : 1 ≤ n) : (blankL n z h).length = n := by unfold blankL; simp; omega
theorem blankL_set {n z : Nat} {h : ByteArray} (hn : 1 ≤ n) : (List.replicate n (⟨⟨(List.replicate z (0 : UInt8)).toArray⟩⟩ : StringV)).set 0 ⟨h⟩ = blankL n z h := by
  obtain ⟨k, rfl⟩ : ∃ k, n = k + 1 := ⟨n - 1, by omega⟩
  unfold blankL
  simp [List.replicate_succ]
theorem blankL_snoc {z k : Nat} {h : ByteArray} (hk : 1 ≤ k) : blankL (k + 1) z h = blankL k z h ++ [⟨⟨(List.replicate z (0 : UInt8)).toArray⟩⟩] := by
  obtain ⟨j, rfl⟩ : ∃ j, k = j + 1 := ⟨k - 1, by omega⟩
  unfold blankL
  rw [show j + 1 + 1 - 1 = j + 1 from rfl, show j + 1 - 1 = j from rfl, List.replicate_succ']
  rfl
/-- The answer of FormatExtents. -/
def fxC (n z : Int) : Int := if inB 8 128 n = true then (if sizeI z = true then 0 else 1) else 2
def fxL (n z : Int) : List StringV := if fxC n z = 0 then blankL n.toNat z.toNat (exHead n.toNat z.toNat) else []
theorem fxL_len (n z : Int) : (fxL n z).length ≤ 1048576 := by
  unfold fxL
  split
  case isTrue h =>
    unfold fxC at h
    split at h
    case isFalse => omega
    rename_i hn
    have := inB_iff.1 hn
    rw [blankL_len (by omega)]
    omega
  case isFalse => simp
end Go.Proofs.YthcbekfgkbhpeaaDoor
end
section
set_option linter.unusedVariables false
namespace Go.Proofs.YthcbekfgkbhpeaaDoor
open Go.RowKit Go.ChangeShapes Go.WideShapes Go.ChangeAt Go.Joins Go.Deep
set_option linter.unusedVariables false
set_option linter.unusedSimpArgs false
set_option maxRecDepth 20000
structure ChainLayoutV where
  f0 : Int
  f1 : Int
  f2 : Int
  f3 : Int
  f4 : Int
def rowChainLayout (e : ChainLayoutV) : List Value := [.int .i64 e.f0, .int .i64 e.f1, .int .i64 e.f2, .int .i64 e.f3, .int .i64 e.f4]
def zeroChainLayout : List Value := [.int .i64 0, .int .i64 0, .int .i64 0, .int .i64 0, .int .i64 0]
theorem rowChainLayout_len (e : ChainLayoutV) : (rowChainLayout e).length = 5 := rfl
theorem infoChainLayout : (Tryd.prog.info? 25).map (fun i => (i.zero, i.size, i.bytes)) = some (some (.agg zeroChainLayout.toArray), 5, 40) := by kernel_rfl
def wtChainLayout (es : List ChainLayoutV) : Nat := es.length
theorem wtChainLayout_len (es : List ChainLayoutV) : es.length ≤ wtChainLayout es := Nat.le_refl _
def sameChainLayout (x y : ChainLayoutV) : Bool := (x.f0 == y.f0) && (x.f1 == y.f1) && (x.f2 == y.f2) && (x.f3 == y.f3) && (x.f4 == y.f4)
theorem sameChainLayout_iff {x y : ChainLayoutV} : sameChainLayout x y = true ↔ x = y := by
  cases x; cases y
  simp [sameChainLayout, and_assoc]
set_option maxHeartbeats 4000000 in
theorem eqChainLayout_any (x y : ChainLayoutV) (w : World) :
    Calls Tryd.prog 13 #[.agg #[.int .i64 x.f0, .int .i64 x.f1, .int .i64 x.f2, .int .i64 x.f3, .int .i64 x.f4], .agg #[.int .i64 y.f0, .int .i64 y.f1, .int .i64 y.f2, .int .i64 y.f3, .int .i64 y.f4]] w fun e w' => e = .returned (.bool (sameChainLayout x y)) ∧ Below w.heap.size w w' := by
  obtain ⟨x0, x1, x2, x3, x4⟩ := x
  obtain ⟨y0, y1, y2, y3, y4⟩ := y
  dsimp only
  by_cases h0 : x0 = y0
  case neg =>
    have hb0 : (x0 != y0) = true := by simp [h0]
    have HE := Lib.hid (show sameChainLayout ⟨x0, x1, x2, x3, x4⟩ ⟨y0, y1, y2, y3, y4⟩ = false by simp [sameChainLayout, h0])
    clear h0
    go_enter Tryd.func13, Tryd.ntmps13
    go_wp2
    go_ret
    exact ⟨ret_bool HE.out.symm, by go_grown⟩
  subst h0
  by_cases h1 : x1 = y1
  case neg =>
    have hb1 : (x1 != y1) = true := by simp [h1]
    have HE := Lib.hid (show sameChainLayout ⟨x0, x1, x2, x3, x4⟩ ⟨x0, y1, y2, y3, y4⟩ = false by simp [sameChainLayout, h1])
    clear h1
    go_enter Tryd.func13, Tryd.ntmps13
    go_wp2
    go_ret
    exact ⟨ret_bool HE.out.symm, by go_grown⟩
  subst h1
  by_cases h2 : x2 = y2
  case neg =>
    have hb2 : (x2 != y2) = true := by simp [h2]
    have HE := Lib.hid (show sameChainLayout ⟨x0, x1, x2, x3, x4⟩ ⟨x0, x1, y2, y3, y4⟩ = false by simp [sameChainLayout, h2])
    clear h2
    go_enter Tryd.func13, Tryd.ntmps13
    go_wp2
    go_ret
    exact ⟨ret_bool HE.out.symm, by go_grown⟩
  subst h2
  by_cases h3 : x3 = y3
  case neg =>
    have hb3 : (x3 != y3) = true := by simp [h3]
    have HE := Lib.hid (show sameChainLayout ⟨x0, x1, x2, x3, x4⟩ ⟨x0, x1, x2, y3, y4⟩ = false by simp [sameChainLayout, h3])
    clear h3
    go_enter Tryd.func13, Tryd.ntmps13
    go_wp2
    go_ret
    exact ⟨ret_bool HE.out.symm, by go_grown⟩
  subst h3
  by_cases h4 : x4 = y4
  case neg =>
    have hb4 : (x4 != y4) = true := by simp [h4]
    have HE := Lib.hid (show sameChainLayout ⟨x0, x1, x2, x3, x4⟩ ⟨x0, x1, x2, x3, y4⟩ = false by simp [sameChainLayout, h4])
    clear h4
    go_enter Tryd.func13, Tryd.ntmps13
    go_wp2
    go_ret
    exact ⟨ret_bool HE.out.symm, by go_grown⟩
  subst h4
  have HE := Lib.hid (show sameChainLayout ⟨x0, x1, x2, x3, x4⟩ ⟨x0, x1, x2, x3, x4⟩ = true by simp [sameChainLayout])
  go_enter Tryd.func13, Tryd.ntmps13
  go_wp2
  go_ret
  exact ⟨ret_bool HE.out.symm, by go_grown⟩
end Go.Proofs.YthcbekfgkbhpeaaDoor
end
section
set_option linter.unusedVariables false
namespace Go.Proofs.YthcbekfgkbhpeaaDoor
open Go.RowKit
set_option maxRecDepth 20000
theorem rot_bd (a : Int) (n : Nat) (h : 0 < n) : -(n : Int) < a.tmod n ∧ a.tmod n < n := by
  have h1 := Int.lt_tmod_of_pos a (b := (n : Int)) (by omega)
  have h2 := Int.tmod_lt_of_pos a (b := (n : Int)) (by omega)
  omega
def rotS (s : ByteArray) (k : Nat) : ByteArray := s.extract k s.size ++ s.extract 0 k
def rotK (a : Int) (n : Nat) : Nat := (a % (n : Int)).toNat
theorem rotK_lt (a : Int) (n : Nat) (h : 0 < n) : rotK a n < n := by
  have h1 := Int.emod_nonneg a (b := (n : Int)) (by omega)
  have h2 := Int.emod_lt_of_pos a (b := (n : Int)) (by omega)
  unfold rotK; omega
theorem rotK_eq (a : Int) (n : Nat) (h : 0 < n) : (a.tmod n + n) % n = (rotK a n : Int) := by
  have h1 := Int.emod_nonneg a (b := (n : Int)) (by omega)
  have h3 : (a.tmod n + n) % n = a % n := by
    have h4 := Int.mul_tdiv_add_tmod a n
    have h5 : a.tmod n + n = a + n * (1 - a.tdiv n) := by
      rw [Int.mul_sub, Int.mul_one]; omega
    rw [h5, Int.add_mul_emod_self_left]
  rw [h3]; unfold rotK; omega
end Go.Proofs.YthcbekfgkbhpeaaDoor
end
section
set_option linter.unusedVariables false
namespace Go.Proofs.YthcbekfgkbhpeaaDoor
open Go.RowKit
set_option maxRecDepth 20000
theorem validCells_bd {s : ByteArray} (h : validCells s = true) : 0 < s.size ∧ s.size ≤ 8000 := by
  unfold validCells at h
  simp only [Bool.and_eq_true, inB_iff] at h
  omega
end Go.Proofs.YthcbekfgkbhpeaaDoor
end
