/- impl.every/string, impl.isOneLength, impl.ValidRevolutions; spec.l10Ok, spec.ValidRevolutions -/
import Derived.Test.YtpdodpnhohmjaaaGreatDoorPkGoneBlocksC
import Derived.Test.YtpdodpnhohmjaaaGreatDoorPkGoneBlocksB
import Derived.Lib.TrimByte
import Derived.Test.YtpdodpnhohmjaaaGreatDoorPkGoneBlocksA
import Derived.Lib.OthersKept
import Derived.Test.YtpdodpnhohmjaaaGreatDoorShelf
section
set_option linter.unusedVariables false
namespace Go.Proofs.YtpdodpnhohmjaaaGreatDoor
open Go.RowKit
set_option maxRecDepth 20000
set_option linter.unusedVariables false
def len0 (xs : List StringV) : Nat := ((xs[0]?).map (fun e => e.f0.size)).getD 0
def allCells (xs : List StringV) : Bool := xs.all (fun e => validCells e.f0)
def allLen (n : Nat) (xs : List StringV) : Bool := xs.all (fun e => decide (e.f0.size = n))
def revOk (xs : List StringV) : Bool := inB 1 5 xs.length && (allCells xs && allLen (len0 xs) xs)
theorem all_take_snocE {E : Type} {p : E → Bool} {zs : List E} {k : Nat} {x : E} (h : zs[k]? = some x) : (zs.take (k+1)).all p = ((zs.take k).all p && p x) := by
  rw [List.take_add_one, h]; simp
theorem all_false_ofE {E : Type} {p : E → Bool} {zs : List E} {k : Nat} {x : E} (h : zs[k]? = some x) (hp : p x = false) : zs.all p = false := by
  rw [List.all_eq_false]
  exact ⟨x, List.mem_of_getElem? h, by simp [hp]⟩
set_option maxHeartbeats 1000000 in
theorem isOne1_any (s : ByteArray) (p b off n c : Nat) (e0 : ByteArray) (w : World) (hs : s.size ≤ maxLen) (he : e0.size ≤ maxLen) (hn : 0 < n) (hp : w.cell? ⟨p, 0, none⟩ = some (.slice (some ⟨b, off, none⟩) n c)) (h0 : w.cell? ⟨b, off, none⟩ = some (.string e0)) :
    Calls Tryz.prog 104 #[.string s, .pointer (some ⟨p, 0, none⟩)] w fun x w' => x = .returned (.bool (decide (s.size = e0.size))) ∧ w = w' := by
  unfold maxLen at hs he
  by_cases hq : s.size = e0.size
  · have hd : ((s.size : Int) == (e0.size : Int)) = true := by simp; omega
    have HD := Lib.hid (show decide (s.size = e0.size) = true by simp [hq]); clear hq
    go_enter Tryz.func104, Tryz.ntmps104
    go_wp2
    go_ret
    exact ⟨ret_bool HD.out.symm, rfl⟩
  · have hd : ((s.size : Int) == (e0.size : Int)) = false := by rw [beq_eq_false_iff_ne]; omega
    have HD := Lib.hid (show decide (s.size = e0.size) = false by simp [hq]); clear hq
    go_enter Tryz.func104, Tryz.ntmps104
    go_wp2
    go_ret
    exact ⟨ret_bool HD.out.symm, rfl⟩
set_option maxHeartbeats 1000000 in
theorem everyOne_any (a : Option Addr) (es : List StringV) (c p : Nat) (w : World) (hm : es.length ≤ 1048576) (hs : ∀ e ∈ es, e.f0.size ≤ maxLen) (hp : w.cell? ⟨p, 0, none⟩ = some (.slice a es.length c)) (h : SlS rowString w a es) :
    Calls Tryz.prog 103 #[.slice a es.length c, .func (.func 104) #[] #[.pointer (some ⟨p, 0, none⟩)]] w fun x w' => x = .returned (.bool (allLen (len0 es) es)) ∧ Below w.heap.size w w' := by
  have hplt := World.block_lt_of_cell? w _ hp
  have HP := Lib.hid hp; clear hp
  go_enter Tryz.func103, Tryz.ntmps103
  go_wp2
  go_loopw [9] (fun i wr => ∃ (k : Nat), k ≤ es.length ∧ i = .int .i64 k ∧ Hid (allLen (len0 es) (es.take k) = true) ∧ Below w.heap.size w wr) (fun i _ => es.length - (intOf i).toNat)
  case atStart => exact ⟨0, Nat.zero_le _, rfl, by unfold Hid; rfl, Below.refl _ _⟩
  case round =>
    obtain ⟨k, hk, rfl, hR, hb⟩ := hrel
    by_cases hlt2 : k < es.length
    · obtain ⟨e, hx⟩ : ∃ e, es[k]? = some e := ⟨es[k], by simp [hlt2]⟩
      obtain ⟨e0, hx0⟩ : ∃ e, es[0]? = some e := ⟨es[0], by simp⟩
      have hl0 : len0 es = e0.f0.size := by unfold len0; rw [hx0]; rfl
      have hsl := h.below hb (Nat.le_refl _)
      obtain ⟨b, off, rfl, hbl, hc⟩ := hsl.at rowString_len hx
      have c0 : wr.cell? ⟨b, off + k * 1, none⟩ = some (.string e.f0) := hc 0 _ rfl
      rw [Nat.mul_one] at c0
      obtain ⟨b', off', eq', _, hc'⟩ := hsl.at rowString_len hx0
      cases eq'
      have d0 : wr.cell? ⟨b, off, none⟩ = some (.string e0.f0) := by have := hc' 0 _ rfl; simpa using this
      have CL := Lib.hid (isOne1_any e.f0 p b off es.length c e0.f0 wr (hs e (List.mem_of_getElem? hx)) (hs e0 (List.mem_of_getElem? hx0)) (by omega) (by rw [hb.cell (p := ⟨p, 0, none⟩) hplt]; exact HP.out) d0)
      have H := Lib.hid (And.intro h (And.intro hc (And.intro hx hs))); clear h hc hx hs hsl d0 hc' hx0
      rw [← hl0] at CL
      have HL0 := Lib.hid hl0; clear hl0
      obtain ⟨q, hq⟩ : ∃ q, decide (e.f0.size = len0 es) = q := ⟨_, rfl⟩
      rw [hq] at CL
      have HQ := Lib.hid hq; clear hq
      cases q with
      | false =>
        have HR := Lib.hid (show allLen (len0 es) es = false from all_false_ofE H.out.2.2.1 HQ.out)
        go_wp2_with fail
        refine CL.out.mono ?_
        rintro e_ w1 ⟨rfl, rfl⟩
        go_wp2
        go_ret
        exact ⟨ret_bool HR.out.symm, hb⟩
      | true =>
        go_wp2_with fail
        refine CL.out.mono ?_
        rintro e_ w1 ⟨rfl, rfl⟩
        clear c0
        go_wp2
        go_roundw
        case rel => exact ⟨k + 1, by omega, by go_num, by unfold Hid allLen; rw [all_take_snocE H.out.2.2.1, HQ.out]; have := hR.out; unfold allLen at this; rw [this]; rfl, hb⟩
        case measure => simp [intOf]; omega
    · obtain rfl : k = es.length := by omega
      have HR := Lib.hid (show allLen (len0 es) es = true by have := hR.out; rwa [List.take_length] at this)
      go_wp2
      go_ret
      exact ⟨ret_bool HR.out.symm, hb⟩
set_option maxHeartbeats 1000000 in
theorem isOneLength_any (a : Option Addr) (es : List StringV) (c : Nat) (w : World) (hm : es.length ≤ 1048576) (hs : ∀ e ∈ es, e.f0.size ≤ maxLen) (h : SlS rowString w a es) :
    Calls Tryz.prog 82 #[.slice a es.length c] w fun x w' => x = .returned (.bool (allLen (len0 es) es)) ∧ Below w.heap.size w w' := by
  have EV := Lib.hid (fun w' (hb : Below w.heap.size w w') hp => everyOne_any a es c w.heap.size w' hm hs hp (h.below hb (Nat.le_refl _)))
  clear h hs
  go_enter Tryz.func82, Tryz.ntmps82
  go_wp2_with (go_at_call 103; refine (EV.out _ ((Below.refl _ _).alloc (Nat.le_refl _) _) (cell_new w _ _)).mono ?_; rintro e w1 ⟨rfl, hb1⟩)
  go_ret
  exact ⟨rfl, Below.trans (by go_grown) (hb1.mono (by simp))⟩
theorem within_r (lo hi n : Int) (w : World) (T : TypeId) (b : Nat) (hb : w.heap.size = b) :
    Calls Tryz.prog 57 #[.int .i64 lo, .int .i64 hi, .slice (some ⟨b, 0, none⟩) 1 1] (w.alloc (.cells #[.int .i64 n] T)) fun e w' => e = .returned (.bool (inB lo hi n)) ∧ Below w.heap.size w w' :=
  (within_at lo hi n w T b hb).mono fun e w' ⟨he, hw⟩ => ⟨he, by rw [← hw]; exact (Below.refl _ _).alloc (Nat.le_refl _) _⟩
end Go.Proofs.YtpdodpnhohmjaaaGreatDoor
end
section
set_option linter.unusedVariables false
namespace Go.Proofs.YtpdodpnhohmjaaaGreatDoor
open Go.RowKit Go.ChangeShapes Go.WideShapes Go.ChangeAt Go.Joins Go.Deep
set_option linter.unusedVariables false
set_option linter.unusedSimpArgs false
structure ExtentLayoutV where
  f0 : Int
  f1 : Int
  f2 : Int
  f3 : Int
def rowExtentLayout (e : ExtentLayoutV) : List Value := [.int .i64 e.f0, .int .i64 e.f1, .int .i64 e.f2, .int .i64 e.f3]
def zeroExtentLayout : List Value := [.int .i64 0, .int .i64 0, .int .i64 0, .int .i64 0]
theorem rowExtentLayout_len (e : ExtentLayoutV) : (rowExtentLayout e).length = 4 := rfl
def wtExtentLayout (es : List ExtentLayoutV) : Nat := es.length
theorem wtExtentLayout_len (es : List ExtentLayoutV) : es.length ≤ wtExtentLayout es := Nat.le_refl _
def sameExtentLayout (x y : ExtentLayoutV) : Bool := (x.f0 == y.f0) && (x.f1 == y.f1) && (x.f2 == y.f2) && (x.f3 == y.f3)
theorem sameExtentLayout_iff {x y : ExtentLayoutV} : sameExtentLayout x y = true ↔ x = y := by
  cases x; cases y
  simp [sameExtentLayout, and_assoc]
end Go.Proofs.YtpdodpnhohmjaaaGreatDoor
end
section
set_option linter.unusedVariables false
namespace Go.Proofs.YtpdodpnhohmjaaaGreatDoor
open Go.RowKit
set_option maxRecDepth 20000
set_option linter.unusedVariables false
/-- s, and the same byte behind it up to n bytes. -/
def padB (s : ByteArray) (n : Nat) (c : UInt8) : ByteArray := s ++ ⟨(List.replicate (n - s.size) c).toArray⟩
theorem padB_size {s : ByteArray} {n : Nat} {c : UInt8} (h : s.size ≤ n) : (padB s n c).size = n := by
  unfold padB
  rw [ByteArray.size_append]
  show s.size + (List.replicate (n - s.size) c).toArray.size = n
  simp
  omega
def sizeB (n : Nat) : Bool := decide (n = 8) || (decide (n = 16) || decide (n = 32))
theorem sizeB_iff {n : Nat} : sizeB n = true ↔ n = 8 ∨ n = 16 ∨ n = 32 := by unfold sizeB; simp
def sizeI (n : Int) : Bool := decide (n = 8) || (decide (n = 16) || decide (n = 32))
theorem sizeI_iff {n : Int} : sizeI n = true ↔ n = 8 ∨ n = 16 ∨ n = 32 := by unfold sizeI; simp
theorem sizeI_nat (n : Nat) : sizeI (n : Int) = sizeB n := by
  apply Bool.eq_iff_iff.2
  rw [sizeI_iff, sizeB_iff]
  omega
/-- A list of 8 to 128 blocks of the same size, 8, 16 or 32 bytes. -/
def diskB (es : List StringV) : Bool := inB 8 128 es.length && (allLen (len0 es) es && sizeB (len0 es))
theorem diskB_facts {es : List StringV} (h : diskB es = true) : (8 ≤ es.length ∧ es.length ≤ 128) ∧ (∀ e ∈ es, e.f0.size = len0 es) ∧ (len0 es = 8 ∨ len0 es = 16 ∨ len0 es = 32) := by
  unfold diskB allLen at h
  simp only [Bool.and_eq_true, inB_iff, List.all_eq_true, decide_eq_true_eq, sizeB_iff] at h
  obtain ⟨h1, h2, h3⟩ := h
  exact ⟨by omega, h2, h3⟩
def blkAt (es : List StringV) (k : Nat) : ByteArray := ((es[k]?).map (fun e => e.f0)).getD ByteArray.empty
theorem blkAt_of {es : List StringV} {k : Nat} {e : StringV} (h : es[k]? = some e) : blkAt es k = e.f0 := by unfold blkAt; rw [h]; rfl
/-- The first block of a disk with extents of n blocks of z bytes. -/
def exHead (n z : Nat) : ByteArray := padB ⟨#[69, 88, n.toUInt8, z.toUInt8, (n / 4).toUInt8]⟩ z 0
def exData (n z : Nat) : Nat := 1 + (n / 4 * 16 + z - 1) / z
def exOn (es : List StringV) : Bool := diskB es && decide (blkAt es 0 = exHead es.length (len0 es))
theorem exOn_facts {es : List StringV} (h : exOn es = true) : diskB es = true ∧ blkAt es 0 = exHead es.length (len0 es) := by
  unfold exOn at h
  simpa using h
def exC (es : List StringV) : Int := if exOn es = true then 0 else 7
def exL (es : List StringV) : ExtentLayoutV := if exOn es = true then ⟨(es.length : Int), (len0 es : Int), ((es.length / 4 : Nat) : Int), (exData es.length (len0 es) : Int)⟩ else ⟨0, 0, 0, 0⟩
theorem exHead_size {n z : Nat} (h : z = 8 ∨ z = 16 ∨ z = 32) : (exHead n z).size = z := by
  unfold exHead
  apply padB_size
  show 5 ≤ z
  omega
theorem padB_empty (n : Nat) : padB ⟨#[]⟩ n 0 = ⟨(List.replicate n (0 : UInt8)).toArray⟩ := by
  unfold padB
  apply ByteArray.ext
  rw [show (⟨#[]⟩ : ByteArray).size = 0 from rfl]
  simp
/-- n blocks of z zero bytes, but for the first one. -/
def blankL (n z : Nat) (h : ByteArray) : List StringV := (⟨h⟩ : StringV) :: List.replicate (n - 1) ⟨⟨(List.replicate z (0 : UInt8)).toArray⟩⟩
theorem blankL_len {n z : Nat} {h : ByteArray} (hn : 1 ≤ n) : (blankL n z h).length = n := by unfold blankL; simp; omega
theorem blankL_set {n z : Nat} {h : ByteArray} (hn : 1 ≤ n) : (List.replicate n (⟨⟨(List.replicate z (0 : UInt8)).toArray⟩⟩ : StringV)).set 0 ⟨h⟩ = blankL n z h := by
  obtain ⟨k, rfl⟩ : ∃ k, n = k + 1 := ⟨n - 1, by omega⟩
  unfold blankL
  simp [List.replicate_succ]
theorem blankL_snoc {z k : Nat} {h : ByteArray} (hk : 1 ≤ k) : blankL (k + 1) z h = blankL k z h ++ [⟨⟨(List.replicate z (0 : UInt8)).toArray⟩⟩] := by
  obtain ⟨j, rfl⟩ : ∃ j, k = j + 1 := ⟨k - 1, by omega⟩
  unfold blankL
  rw [show j + 1 + 1 - 1 = j + 1 from rfl, show j + 1 - 1 = j from rfl, List.replicate_succ']
  rfl
/-- The answer of FormatExtents. -/
def fxC (n z : Int) : Int := if inB 8 128 n = true then (if sizeI z = true then 0 else 1) else 2
def fxL (n z : Int) : List StringV := if fxC n z = 0 then blankL n.toNat z.toNat (exHead n.toNat z.toNat) else []
theorem fxL_len (n z : Int) : (fxL n z).length ≤ 1048576 := by
  unfold fxL
  split
  case isTrue h =>
    unfold fxC at h
    split at h
    case isFalse => omega
    rename_i hn
    have := inB_iff.1 hn
    rw [blankL_len (by omega)]
    omega
  case isFalse => simp
end Go.Proofs.YtpdodpnhohmjaaaGreatDoor
end
section
set_option linter.unusedVariables false
namespace Go.Proofs.YtpdodpnhohmjaaaGreatDoor
open Go.RowKit
set_option maxRecDepth 20000
set_option linter.unusedVariables false
set_option linter.unusedSimpArgs false
theorem ba_extE {a b : ByteArray} (h : a.data.toList = b.data.toList) : a = b := by
  apply ByteArray.ext
  exact Array.toList_inj.1 h
def byteE (n : Nat) : ByteArray := ⟨#[n.toUInt8]⟩
def atE (l : List UInt8) (i : Nat) : Nat := (l[i]?.getD 0).toNat
theorem atE_lt (l : List UInt8) (i : Nat) : atE l i < 256 := (l[i]?.getD 0).toNat_lt
/-- What the bytes say, with this name. -/
def entW (l : List UInt8) (nm : List UInt8) : ChainEntryV := ⟨⟨nm.toArray⟩, (atE l 8 : Int), (atE l 9 : Int) * 256 + (atE l 10 : Int), decide (atE l 11 = 1), decide (atE l 11 = 2)⟩
def entE (l : List UInt8) : ChainEntryV := entW l (Lib.trimRightB (l.take 8) 0)
def zeroE : ChainEntryV := ⟨⟨#[]⟩, 0, 0, false, false⟩
def emptyE (e : ChainEntryV) : Bool := sameChainEntry e zeroE
def validE (e : ChainEntryV) : Bool := emptyE e || ((e.f3 != e.f4) && (nameB e.f0 && (inB 0 255 e.f1 && inB 0 512 e.f2)))
def stE (e : ChainEntryV) : Nat := if e.f3 = true then 1 else if e.f4 = true then 2 else 0
def bytesE (e : ChainEntryV) : ByteArray := padB e.f0 8 0 ++ byteE e.f1.toNat ++ wordBytes e.f2 ++ byteE (stE e)
/-- Are the bytes those of a valid entry? -/
def entOk (l : List UInt8) : Bool := validE (entE l) && decide (bytesE (entE l) = ⟨l.toArray⟩)
def entR (l : List UInt8) : ChainEntryV := if entOk l = true then entE l else zeroE
/-- The model's name: the bytes up to the first zero. -/
def upZ (l : List UInt8) : List UInt8 := (l.take 8).takeWhile (· != 0)
def entS (l : List UInt8) : ChainEntryV := entW l (upZ l)
def validS (e : ChainEntryV) : Bool := if (!e.f3 && !e.f4) = true then emptyE e else (e.f3 != e.f4) && (nameB e.f0 && (inB 0 255 e.f1 && inB 0 512 e.f2))
def bytesS (e : ChainEntryV) : List UInt8 := e.f0.data.toList ++ List.replicate (8 - e.f0.size) 0 ++ [e.f1.toNat.toUInt8, (e.f2 / 256).toNat.toUInt8, (e.f2 % 256).toNat.toUInt8, (stE e).toUInt8]
def entSok (l : List UInt8) : Bool := validS (entS l) && decide (bytesS (entS l) = l)
theorem bytesE_list (e : ChainEntryV) : (bytesE e).data.toList = bytesS e := by
  unfold bytesE bytesS padB byteE wordBytes
  simp [ByteArray.data_append]
/-- A name has no zero byte. -/
theorem name_nz {nm : List UInt8} (h : nameB ⟨nm.toArray⟩ = true) : ∀ x ∈ nm, x ≠ 0 := by
  unfold nameB at h
  simp only [Bool.and_eq_true] at h
  intro x hx hx0
  subst hx0
  obtain ⟨i, hi, he⟩ := List.mem_iff_getElem.1 hx
  have h1 := h.1
  unfold okTo at h1
  rw [List.all_eq_true] at h1
  have hsz : (⟨nm.toArray⟩ : ByteArray).size = nm.length := by show nm.toArray.size = _; simp
  have h2 := h1 i (by rw [hsz]; simp [hi])
  have e : ((⟨nm.toArray⟩ : ByteArray)[i]?.getD 0) = 0 := by
    have : (⟨nm.toArray⟩ : ByteArray)[i]? = some nm[i] := by
      rw [getElem?_pos _ _ (by rw [hsz]; exact hi)]
      rfl
    rw [this, he]; rfl
  rw [e] at h2
  revert h2
  unfold okAt
  simp
theorem trim_app (l : List UInt8) : l = Lib.trimRightB l 0 ++ List.replicate (l.length - (Lib.trimRightB l 0).length) 0 := by
  have key : ∀ m : List UInt8, m = List.replicate (m.length - (m.dropWhile (· == 0)).length) 0 ++ m.dropWhile (· == 0) := by
    intro m
    induction m with
    | nil => simp
    | cons x m ih =>
      by_cases hx : (x == 0) = true
      · have hle : (m.dropWhile (· == 0)).length ≤ m.length := (List.dropWhile_sublist _).length_le
        have e : (x :: m).dropWhile (· == 0) = m.dropWhile (· == 0) := by rw [List.dropWhile_cons, if_pos hx]
        rw [e, List.length_cons, Nat.succ_sub hle, List.replicate_succ, List.cons_append, ← ih, eq_of_beq hx]
      · have e : (x :: m).dropWhile (· == 0) = x :: m := by rw [List.dropWhile_cons, if_neg hx]
        rw [e]; simp
  have h := key l.reverse
  have h2 := congrArg List.reverse h
  rw [List.reverse_reverse, List.reverse_append, List.reverse_replicate, List.length_reverse] at h2
  unfold Lib.trimRightB
  rw [List.length_reverse]
  exact h2
theorem trim_of (nm : List UInt8) (n : Nat) (h : ∀ x ∈ nm, x ≠ 0) : Lib.trimRightB (nm ++ List.replicate n 0) 0 = nm := by
  unfold Lib.trimRightB
  rw [List.reverse_append, List.reverse_replicate]
  have e : (List.replicate n (0 : UInt8) ++ nm.reverse).dropWhile (· == 0) = nm.reverse := by
    induction n with
    | zero =>
      rw [List.replicate_zero, List.nil_append]
      cases hr : nm.reverse with
      | nil => rfl
      | cons x m =>
        have hx : x ≠ 0 := h x (by have : x ∈ nm.reverse := by rw [hr]; simp
                                   simpa using this)
        rw [List.dropWhile_cons, if_neg (by simpa using hx)]
    | succ n ih =>
      rw [List.replicate_succ, List.cons_append, List.dropWhile_cons, if_pos (by simp)]
      exact ih
  rw [e, List.reverse_reverse]
theorem up_of (nm : List UInt8) (n : Nat) (h : ∀ x ∈ nm, x ≠ 0) : (nm ++ List.replicate n (0 : UInt8)).takeWhile (· != 0) = nm := by
  induction nm with
  | nil => cases n <;> simp
  | cons x m ih =>
    have hx : x ≠ 0 := h x (by simp)
    rw [List.cons_append, List.takeWhile_cons, if_pos (by simpa using hx), ih (fun y hy => h y (by simp [hy]))]
theorem up_nz (l : List UInt8) : ∀ x ∈ l.takeWhile (· != 0), x ≠ 0 := by
  induction l with
  | nil => intro x hx; cases hx
  | cons y m ih =>
    intro x hx
    by_cases hy : (y != 0) = true
    · rw [List.takeWhile_cons, if_pos hy, List.mem_cons] at hx
      rcases hx with rfl | hx
      · simpa using hy
      · exact ih x hx
    · rw [List.takeWhile_cons, if_neg hy] at hx
      cases hx
theorem validS_eq (e : ChainEntryV) : validS e = validE e := by
  unfold validS validE
  obtain ⟨f0, f1, f2, f3, f4⟩ := e
  by_cases h : (!f3 && !f4) = true
  · rw [if_pos h]
    simp only [Bool.and_eq_true, Bool.not_eq_true'] at h
    obtain ⟨rfl, rfl⟩ := h
    simp
  · rw [if_neg h]
    have he : emptyE ⟨f0, f1, f2, f3, f4⟩ = false := by
      rw [Bool.eq_false_iff]
      intro h2
      have h3 := sameChainEntry_iff.1 h2
      injection h3 with _ _ _ h4 h5
      rw [h4, h5] at h
      exact h rfl
    rw [he, Bool.false_or]
theorem ent_name {l nm : List UInt8} (h : validE (entW l nm) = true) : ∀ x ∈ nm, x ≠ 0 := by
  unfold validE at h
  rw [Bool.or_eq_true] at h
  rcases h with h | h
  · have h3 := sameChainEntry_iff.1 h
    injection h3 with h4
    have h5 : nm = [] := by
      have := congrArg (fun b : ByteArray => b.data.toList) h4
      simpa [zeroE, entW] using this
    subst h5
    intro x hx
    cases hx
  · simp only [Bool.and_eq_true] at h
    exact name_nz h.2.1
theorem ent_split {l : List UInt8} (hl : l.length = 12) : l = l.take 8 ++ [(atE l 8).toUInt8, (atE l 9).toUInt8, (atE l 10).toUInt8, (atE l 11).toUInt8] := by
  match l, hl with
  | [a0, a1, a2, a3, a4, a5, a6, a7, a8, a9, a10, a11], _ => simp [atE]
theorem bytesS_w {l nm : List UInt8} (hn : nm.length ≤ 8) : bytesS (entW l nm) = (nm ++ List.replicate (8 - nm.length) 0) ++ [(atE l 8).toUInt8, (atE l 9).toUInt8, (atE l 10).toUInt8, (stE (entW l nm)).toUInt8] := by
  have h9 := atE_lt l 9
  have h10 := atE_lt l 10
  have hsz : (⟨nm.toArray⟩ : ByteArray).size = nm.length := by show nm.toArray.size = _; simp
  have e1 : (((atE l 9 : Int) * 256 + (atE l 10 : Int)) / 256).toNat = atE l 9 := by omega
  have e2 : (((atE l 9 : Int) * 256 + (atE l 10 : Int)) % 256).toNat = atE l 10 := by omega
  unfold bytesS
  show nm.toArray.toList ++ List.replicate (8 - (⟨nm.toArray⟩ : ByteArray).size) 0 ++ [((atE l 8 : Int)).toNat.toUInt8, (((atE l 9 : Int) * 256 + (atE l 10 : Int)) / 256).toNat.toUInt8, (((atE l 9 : Int) * 256 + (atE l 10 : Int)) % 256).toNat.toUInt8, (stE (entW l nm)).toUInt8] = _
  rw [e1, e2, hsz, Int.toNat_natCast]
theorem up_le (l : List UInt8) : (upZ l).length ≤ 8 := by
  unfold upZ
  have h1 : ((l.take 8).takeWhile (· != 0)).length ≤ (l.take 8).length := (List.takeWhile_sublist _).length_le
  have h2 := List.length_take_le 8 l
  omega
theorem ent_same {l : List UInt8} (hl : l.length = 12) : entSok l = entOk l ∧ (entOk l = true → entS l = entE l) := by
  have h8 : (l.take 8).length = 8 := by rw [List.length_take]; omega
  have k1 : entOk l = true → entS l = entE l := by
    intro h
    unfold entOk at h
    rw [Bool.and_eq_true] at h
    have hnz := ent_name (l := l) h.1
    unfold entS entE upZ
    have e := trim_app (l.take 8)
    rw [h8] at e
    have e2 : (l.take 8).takeWhile (· != 0) = Lib.trimRightB (l.take 8) 0 := by
      conv => lhs; rw [e]
      exact up_of _ _ hnz
    rw [e2]
  have k2 : entSok l = true → entS l = entE l := by
    intro h
    unfold entSok at h
    rw [Bool.and_eq_true, decide_eq_true_eq] at h
    have hb := h.2
    unfold entS at hb
    rw [bytesS_w (up_le l)] at hb
    have hb2 := hb.trans (ent_split hl)
    have hlen : (upZ l ++ List.replicate (8 - (upZ l).length) 0).length = (l.take 8).length := by
      rw [List.length_append, List.length_replicate, h8]
      have := up_le l
      omega
    have hb3 := (List.append_inj hb2 hlen).1
    unfold entS entE
    rw [← hb3, trim_of (upZ l) _ (up_nz (l.take 8))]
  refine ⟨?_, k1⟩
  have key : entS l = entE l → entSok l = entOk l := by
    intro he
    unfold entSok entOk
    rw [he, validS_eq]
    congr 1
    rw [Bool.eq_iff_iff, decide_eq_true_eq, decide_eq_true_eq]
    constructor
    · intro h
      apply ba_extE
      rw [bytesE_list, h]
    · intro h
      rw [← bytesE_list, h]
  rw [Bool.eq_iff_iff]
  exact ⟨fun h => by rw [← key (k2 h)]; exact h, fun h => by rw [key (k1 h)]; exact h⟩
end Go.Proofs.YtpdodpnhohmjaaaGreatDoor
end
section
set_option linter.unusedVariables false
namespace Go.Proofs.YtpdodpnhohmjaaaGreatDoor
open Go.RowKit
set_option maxRecDepth 20000
def SlRes (l : List Int) (w : World) (e : Ending) (w' : World) : Prop :=
  ∃ a cap, e = .returned (.slice a l.length cap) ∧ SlO w' w.heap.size a l ∧ Below w.heap.size w w'
theorem below_drewN {B : Nat} {a w : World} (h : Below B a w) (n : Nat) : Below B a (w.drewN n) := ⟨h.os, h.tape, h.output, h.size, h.block⟩
theorem OwnI.below' {w w' : World} {B : Nat} {v : Value} {l : List Int} (h : OwnI w B v l) (hb : Below w.heap.size w w') : OwnI w' B v l := by
  refine ⟨h.1, ?_⟩
  rcases h.2 with h2 | ⟨g, cap, cur, rfl, hg, hh, r⟩
  · exact .inl h2
  · exact .inr ⟨g, cap, cur, rfl, hg, by rw [hb.block g (Array.getElem?_eq_some_iff.1 hh).1]; exact hh, r⟩
theorem SlRes.of {l : List Int} {w w' : World} {v : Value} (h : OwnI w' w.heap.size v l) (hb : Below w.heap.size w w') : SlRes l w (.returned v) w' := by
  obtain ⟨a, c, rfl, hs⟩ := h.slO
  exact ⟨a, c, rfl, hs, hb⟩
theorem OwnI.mono {w : World} {B B' : Nat} {v : Value} {l : List Int} (h : OwnI w B v l) (hB : B' ≤ B) : OwnI w B' v l := by
  refine ⟨h.1, ?_⟩
  rcases h.2 with h2 | ⟨g, cap, cur, rfl, hg, r⟩
  · exact .inl h2
  · exact .inr ⟨g, cap, cur, rfl, Nat.le_trans hB hg, r⟩
theorem OwnI.iterAt {w : World} {B : Nat} {v : Value} {l : List Int} (h : OwnI w B v l) {k : Nat} (hk : k < B) (s : ByteArray) (pos : Nat) : OwnI (w.iterAt k s pos) B v l := by
  refine ⟨h.1, ?_⟩
  rcases h.2 with h2 | ⟨g, cap, cur, rfl, hg, hh, r⟩
  · exact .inl h2
  · exact .inr ⟨g, cap, cur, rfl, hg, by rw [Lib.iterAt_other w k g s pos (by omega)]; exact hh, r⟩
end Go.Proofs.YtpdodpnhohmjaaaGreatDoor
end
section
set_option linter.unusedVariables false
namespace Go.Proofs.YtpdodpnhohmjaaaGreatDoor
open Go.RowKit
set_option maxRecDepth 20000
set_option linter.unusedVariables false
/-- Is the number among them? -/
def hasB (ys : List Int) (t : Int) : Bool := ys.contains t
theorem hasB_yes {ys : List Int} {t : Int} {k : Nat} (h : ys[k]? = some t) : hasB ys t = true := by
  unfold hasB; simpa using List.mem_of_getElem? h
theorem hasB_no {ys : List Int} {t : Int} (h : (ys.take ys.length).contains t = false) : hasB ys t = false := by
  unfold hasB; rw [List.take_length] at h; exact h
set_option maxHeartbeats 400000 in
theorem l00Has_any (a : Option Addr) (zs : List Int) (d : Nat) (t : Int) (w : World) (hl : zs.length ≤ 1048576) (h : SlA w a zs) :
    Calls Tryz.prog 49 #[.slice a zs.length d, .int .i64 t] w fun e w' => e = .returned (.bool (hasB zs t)) ∧ w = w' := by
  have H := Lib.hid h; clear h
  go_enter Tryz.func49, Tryz.ntmps49
  go_wp2
  go_loop [5] (fun i => ∃ k : Nat, k ≤ zs.length ∧ i = .int .i64 k ∧ Hid ((zs.take k).contains t = false)) (fun i => zs.length - (intOf i).toNat)
  case atStart => exact ⟨0, Nat.zero_le _, rfl, Lib.hid (by simp)⟩
  case round =>
    obtain ⟨k, hk, rfl, hn⟩ := hrel
    by_cases hlt : k < zs.length
    · obtain ⟨x, hx⟩ := getOf hlt
      obtain ⟨b, off, rfl, hcx⟩ := H.out.cell hx
      have HX := Lib.hid hx; clear hx
      by_cases hxt : x = t
      · subst hxt
        have HE := Lib.hid (hasB_yes HX.out)
        go_wp2
        go_ret
        exact ⟨ret_bool HE.out.symm, rfl⟩
      · have he : (x == t) = false := by simpa using hxt
        clear hxt
        go_wp2
        go_round
        case rel => exact ⟨k + 1, by omega, by go_num, Lib.hid (by rw [List.take_add_one, HX.out]; have := hn.out; simp at this he ⊢; exact ⟨this, fun h => he h.symm⟩)⟩
        case measure => simp [intOf]; omega
    · obtain rfl : k = zs.length := by omega
      clear H
      go_wp2
      go_ret
      exact ⟨ret_bool (hasB_no hn.out).symm, rfl⟩
end Go.Proofs.YtpdodpnhohmjaaaGreatDoor
end
section
set_option linter.unusedVariables false
namespace Go.Proofs.YtpdodpnhohmjaaaGreatDoor
open Go.RowKit
set_option maxRecDepth 20000
set_option linter.unusedVariables false
set_option linter.unusedSimpArgs false
set_option maxRecDepth 20000
set_option maxHeartbeats 400000 in
theorem indexI_any (a : Option Addr) (zs : List Int) (d : Nat) (t : Int) (w : World) (hl : zs.length ≤ 1048576) (h : SlA w a zs) :
    Calls Tryz.prog 43 #[.slice a zs.length d, .int .i64 t] w fun e w' => (∃ r : Int, e = .returned (.int .i64 r) ∧ decide (0 ≤ r) = hasB zs t) ∧ w = w' := by
  have H := Lib.hid h; clear h
  go_enter Tryz.func43, Tryz.ntmps43
  go_wp2
  go_loop [8] (fun i => ∃ k : Nat, k ≤ zs.length ∧ i = .int .i64 k ∧ Hid ((zs.take k).contains t = false)) (fun i => zs.length - (intOf i).toNat)
  case atStart => exact ⟨0, Nat.zero_le _, rfl, Lib.hid (by simp)⟩
  case round =>
    obtain ⟨k, hk, rfl, hn⟩ := hrel
    by_cases hlt : k < zs.length
    · obtain ⟨x, hx⟩ := getOf hlt
      obtain ⟨b, off, rfl, hcx⟩ := H.out.cell hx
      have HX := Lib.hid hx; clear hx
      by_cases hxt : x = t
      · subst hxt
        have HE := Lib.hid (hasB_yes HX.out)
        go_wp2
        go_ret
        exact ⟨⟨(k : Int), rfl, by rw [HE.out]; simp⟩, rfl⟩
      · have he : (x == t) = false := by simpa using hxt
        have he2 : (t == x) = false := by simpa using fun h => hxt h.symm
        clear hxt
        go_wp2
        go_round
        case rel => exact ⟨k + 1, by omega, by go_num, Lib.hid (by rw [List.take_add_one, HX.out]; have := hn.out; simp at this he ⊢; exact ⟨this, fun h => he h.symm⟩)⟩
        case measure => simp [intOf]; omega
    · obtain rfl : k = zs.length := by omega
      clear H
      go_wp2
      go_ret
      exact ⟨⟨-1, rfl, by rw [hasB_no hn.out]; rfl⟩, rfl⟩
set_option maxHeartbeats 400000 in
theorem containsI_any (a : Option Addr) (zs : List Int) (d : Nat) (t : Int) (w : World) (hl : zs.length ≤ 1048576) (h : SlA w a zs) :
    Calls Tryz.prog 105 #[.slice a zs.length d, .int .i64 t] w fun e w' => e = .returned (.bool (hasB zs t)) ∧ w = w' := by
  have IX := Lib.hid (indexI_any a zs d t w hl h); clear h
  go_enter Tryz.func105, Tryz.ntmps105
  go_wp2_with fail
  refine IX.out.mono ?_
  rintro e w1 ⟨⟨r, rfl, hr⟩, rfl⟩
  have HR := Lib.hid hr; clear hr
  go_wp2
  go_ret
  exact ⟨ret_bool HR.out, rfl⟩
set_option maxHeartbeats 1000000 in
theorem isBlockSize_any (n : Int) (w : World) :
    Calls Tryz.prog 83 #[.int .i64 n] w fun e w' => e = .returned (.bool (sizeI n)) ∧ Below w.heap.size w w' := by
  have CT := Lib.hid (fun (W : World) (h : W = w.alloc (.cells #[.int .i64 8, .int .i64 16, .int .i64 32] 2)) => containsI_any (some ⟨w.heap.size, 0, none⟩) [8, 16, 32] 3 n W (by decide) (.inr ⟨_, 0, rfl, by subst h; simp, by
    intro i x hx
    subst h
    match i, hx with
    | 0, hx => simp at hx; subst hx; simp [go_sem]
    | 1, hx => simp at hx; subst hx; simp [go_sem]
    | 2, hx => simp at hx; subst hx; simp [go_sem]⟩))
  have HS := Lib.hid (show hasB [8, 16, 32] n = sizeI n by unfold hasB sizeI; simp)
  go_enter Tryz.func83, Tryz.ntmps83
  go_wp2_with fail
  refine (CT.out _ rfl).mono ?_
  rintro e w1 ⟨rfl, rfl⟩
  go_wp2
  go_ret
  exact ⟨ret_bool HS.out, (Below.refl _ _).alloc (Nat.le_refl _) _⟩
set_option maxHeartbeats 2000000 in
theorem isDisk_any (a : Option Addr) (es : List StringV) (c : Nat) (w : World) (hm : es.length ≤ 1048576) (hs : ∀ e ∈ es, e.f0.size ≤ maxLen) (h : SlS rowString w a es) :
    Calls Tryz.prog 54 #[.slice a es.length c, .int .i64 8] w fun x w' => x = .returned (.bool (diskB es)) ∧ Below w.heap.size w w' := by
  have EO := Lib.hid (fun w' (hb : Below w.heap.size w w') => isOneLength_any a es c w' hm hs (h.below hb (Nat.le_refl _)))
  have WI := Lib.hid (fun w T b hb => within_r 8 128 (es.length : Int) w T b hb)
  have BS := Lib.hid (fun n w => isBlockSize_any n w)
  by_cases h1 : inB 8 128 (es.length : Int) = true
  case neg =>
    have h1 : inB 8 128 (es.length : Int) = false := by simpa using h1
    rw [h1] at WI
    have HR := Lib.hid (show diskB es = false by unfold diskB; rw [h1]; rfl)
    clear h1 h hs
    go_enter Tryz.func54, Tryz.ntmps54
    go_wp2_with fail
    refine (WI.out _ _ _ (by simp)).mono ?_
    rintro e w1 ⟨rfl, hb1⟩
    go_wp2
    go_ret
    exact ⟨ret_bool HR.out.symm, hb1⟩
  rw [h1] at WI
  have hn := inB_iff.1 h1
  by_cases h2 : allLen (len0 es) es = true
  case neg =>
    have h2 : allLen (len0 es) es = false := by simpa using h2
    rw [h2] at EO
    have HR := Lib.hid (show diskB es = false by unfold diskB; rw [h2]; simp)
    clear h1 h2 h hs hn
    go_enter Tryz.func54, Tryz.ntmps54
    go_wp2_with fail
    refine (WI.out _ _ _ (by simp)).mono ?_
    rintro e w1 ⟨rfl, hb1⟩
    go_wp2_with fail
    refine (EO.out _ hb1).mono ?_
    rintro e w2 ⟨rfl, hb2⟩
    go_wp2
    go_ret
    exact ⟨ret_bool HR.out.symm, hb1.trans (hb2.mono hb1.size)⟩
  rw [h2] at EO
  obtain ⟨e0, hx0⟩ : ∃ e, es[0]? = some e := ⟨es[0], by simp⟩
  have hl0 : len0 es = e0.f0.size := by unfold len0; rw [hx0]; rfl
  have HR := Lib.hid (show sizeI (e0.f0.size : Int) = diskB es by unfold diskB; rw [h1, h2, hl0, sizeI_nat]; rfl)
  obtain ⟨b, off, rfl, hbl, hc⟩ := h.at rowString_len hx0
  have C0 := Lib.hid (fun w' (hb : Below w.heap.size w w') => show w'.cell? ⟨b, off, none⟩ = some (.string e0.f0) by rw [hb.cell (p := ⟨b, off, none⟩) hbl]; simpa using hc 0 _ rfl)
  have hs0 := hs e0 (List.mem_of_getElem? hx0)
  unfold maxLen at hs0
  have hpos : 0 < es.length := by omega
  clear h1 h2 h hs hn hl0 hx0 hc
  go_enter Tryz.func54, Tryz.ntmps54
  go_wp2_with fail
  refine (WI.out _ _ _ (by simp)).mono ?_
  rintro e w1 ⟨rfl, hb1⟩
  go_wp2_with fail
  refine (EO.out _ hb1).mono ?_
  rintro e w2 ⟨rfl, hb2⟩
  have hb := hb1.trans (hb2.mono hb1.size)
  have c0 := C0.out _ hb
  clear hb1 hb2
  go_wp2_with fail
  refine (BS.out _ _).mono ?_
  rintro e w3 ⟨rfl, hb3⟩
  clear c0
  go_wp2
  go_ret
  exact ⟨ret_bool HR.out, hb.trans (hb3.mono hb.size)⟩
theorem repeatL_one (c : UInt8) : ∀ n, Lib.repeatL [c] n = List.replicate n c
  | 0 => rfl
  | n + 1 => by rw [Lib.repeatL, repeatL_one c n, List.replicate_succ]; rfl
theorem repeatC_any (c : UInt8) (n : Nat) (hn : n ≤ 1000000) (w : World) : Calls Tryz.prog 106 #[.string ⟨#[c]⟩, .int .i64 (n : Int)] w fun e w' => e = .returned (.string ⟨(List.replicate n c).toArray⟩) ∧ Below w.heap.size w w' := by
  have h := Tryz.strings_Repeat ⟨#[c]⟩ n w (by omega) (by show 1 * n ≤ _; omega)
  rw [show (⟨#[c]⟩ : ByteArray).data.toList = [c] from rfl, repeatL_one] at h
  exact h
set_option maxHeartbeats 1000000 in
theorem padded_any (s : ByteArray) (n : Nat) (c : UInt8) (w : World) (h1 : s.size ≤ n) (h2 : n ≤ 1000000) :
    Calls Tryz.prog 85 #[.string s, .int .i64 (n : Int), .string ⟨#[c]⟩] w fun e w' => e = .returned (.string (padB s n c)) ∧ Below w.heap.size w w' := by
  have RP := Lib.hid (fun w => repeatC_any c (n - s.size) (by omega) w)
  have e1 : (n : Int) - (s.size : Int) = ((n - s.size : Nat) : Int) := by omega
  have e2 : (⟨(List.replicate (n - s.size) c).toArray⟩ : ByteArray).size = n - s.size := by show (List.replicate (n - s.size) c).toArray.size = _; simp
  have hlen : (9223372036854775807 < s.size + (⟨(List.replicate (n - s.size) c).toArray⟩ : ByteArray).size) = False := by rw [e2]; simp; omega
  unfold padB
  generalize n - s.size = k at *
  generalize (⟨(List.replicate k c).toArray⟩ : ByteArray) = z at *
  clear e2
  have hk : (k : Int) ≤ 1000000 := by omega
  go_enter Tryz.func85, Tryz.ntmps85
  go_wp2_with fail
  refine (RP.out _).mono ?_
  rintro e w1 ⟨rfl, hb1⟩
  go_wp2
  go_ret
  exact ⟨rfl, hb1⟩
end Go.Proofs.YtpdodpnhohmjaaaGreatDoor
end
section
set_option linter.unusedVariables false
namespace Go.Proofs.YtpdodpnhohmjaaaGreatDoor
open Go.RowKit
set_option maxRecDepth 20000
theorem rot_bd (a : Int) (n : Nat) (h : 0 < n) : -(n : Int) < a.tmod n ∧ a.tmod n < n := by
  have h1 := Int.lt_tmod_of_pos a (b := (n : Int)) (by omega)
  have h2 := Int.tmod_lt_of_pos a (b := (n : Int)) (by omega)
  omega
def rotS (s : ByteArray) (k : Nat) : ByteArray := s.extract k s.size ++ s.extract 0 k
def rotK (a : Int) (n : Nat) : Nat := (a % (n : Int)).toNat
theorem rotK_lt (a : Int) (n : Nat) (h : 0 < n) : rotK a n < n := by
  have h1 := Int.emod_nonneg a (b := (n : Int)) (by omega)
  have h2 := Int.emod_lt_of_pos a (b := (n : Int)) (by omega)
  unfold rotK; omega
theorem rotK_eq (a : Int) (n : Nat) (h : 0 < n) : (a.tmod n + n) % n = (rotK a n : Int) := by
  have h1 := Int.emod_nonneg a (b := (n : Int)) (by omega)
  have h3 : (a.tmod n + n) % n = a % n := by
    have h4 := Int.mul_tdiv_add_tmod a n
    have h5 : a.tmod n + n = a + n * (1 - a.tdiv n) := by
      rw [Int.mul_sub, Int.mul_one]; omega
    rw [h5, Int.add_mul_emod_self_left]
  rw [h3]; unfold rotK; omega
end Go.Proofs.YtpdodpnhohmjaaaGreatDoor
end
