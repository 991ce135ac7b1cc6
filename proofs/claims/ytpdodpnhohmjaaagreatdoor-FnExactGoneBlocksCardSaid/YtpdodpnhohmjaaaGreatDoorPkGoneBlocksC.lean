/- The struct ChainEntry and slices of it: laws.szChainEntryS, laws.toChainEntry, laws.toChainEntryS, laws.eqChainEntry, laws.eqChainEntryS -/
import Derived.Test.YtpdodpnhohmjaaaGreatDoorPkGoneBlocksB
import Derived.Test.YtpdodpnhohmjaaaGreatDoorPkGoneBlocksA
import Derived.Laws.RangeAny
import Derived.Laws.RangeString
import Derived.Laws.IdiomStrings
import Derived.OwnWalk
import Derived.Maps.AppendAt
import Derived.Lib.UnsafeStr
import Derived.Lib.BufferWrite
import Derived.Deep.AppendLies
import Derived.Deep.RegionHeld3
section
set_option linter.unusedVariables false
namespace Go.Proofs.YtpdodpnhohmjaaaGreatDoor
open Go.RowKit Go.ChangeShapes Go.WideShapes Go.ChangeAt Go.Joins Go.Deep
set_option linter.unusedVariables false
set_option linter.unusedSimpArgs false
set_option maxRecDepth 20000
structure ChainEntryV where
  f0 : ByteArray
  f1 : Int
  f2 : Int
  f3 : Bool
  f4 : Bool
def rowChainEntry (e : ChainEntryV) : List Value := [.string e.f0, .int .i64 e.f1, .int .i64 e.f2, .bool e.f3, .bool e.f4]
def zeroChainEntry : List Value := [.string ByteArray.empty, .int .i64 0, .int .i64 0, .bool false, .bool false]
theorem rowChainEntry_len (e : ChainEntryV) : (rowChainEntry e).length = 5 := rfl
theorem infoChainEntry : (Tryz.prog.info? 45).map (fun i => (i.zero, i.size, i.bytes)) = some (some (.agg zeroChainEntry.toArray), 5, 40) := by kernel_rfl
def wtChainEntry (es : List ChainEntryV) : Nat := es.length + (es.map fun e => e.f0.size).sum
theorem wtChainEntry_len (es : List ChainEntryV) : es.length ≤ wtChainEntry es := Nat.le_add_right _ _
theorem wtChainEntry_at {es : List ChainEntryV} {m : Nat} (h : wtChainEntry es ≤ m) : ∀ e ∈ es, e.f0.size ≤ m := by
  intro e he
  unfold wtChainEntry at h
  have : e.f0.size ≤ (es.map fun e => e.f0.size).sum := le_sum_of_mem (List.mem_map.2 ⟨e, he, rfl⟩)
  omega
def sameChainEntry (x y : ChainEntryV) : Bool := decide (x.f0 = y.f0) && (x.f1 == y.f1) && (x.f2 == y.f2) && (x.f3 == y.f3) && (x.f4 == y.f4)
theorem sameChainEntry_iff {x y : ChainEntryV} : sameChainEntry x y = true ↔ x = y := by
  cases x; cases y
  simp [sameChainEntry, and_assoc]
end Go.Proofs.YtpdodpnhohmjaaaGreatDoor
end
section
set_option linter.unusedVariables false
namespace Go.Proofs.YtpdodpnhohmjaaaGreatDoor
open Go.RowKit
set_option maxRecDepth 20000
/-- May the byte c stand at place i of a name? -/
def okAt (i c : Nat) : Bool := (decide (65 ≤ c) && decide (c ≤ 90)) || (decide (0 < i) && (decide (c = 95) || (decide (48 ≤ c) && decide (c ≤ 57))))
def okTo (s : ByteArray) (k : Nat) : Bool := (List.range k).all fun j => okAt j (s[j]?.getD 0).toNat
def nameB (s : ByteArray) : Bool := okTo s s.size && inB 1 8 s.size
theorem okTo_succ (s : ByteArray) (k : Nat) (h : k < s.size) : okTo s (k + 1) = (okTo s k && okAt k s[k].toNat) := by
  have e : s[k]?.getD 0 = s[k] := by simp [h]
  simp [okTo, List.range_succ, e]
theorem okTo_no (s : ByteArray) (k : Nat) (h : k < s.size) (hc : okAt k s[k].toNat = false) : okTo s s.size = false := by
  have e : s[k]?.getD 0 = s[k] := by simp [h]
  unfold okTo
  rw [List.all_eq_false]
  exact ⟨k, by simp [h], by simp [h, hc]⟩
theorem okAt_high (i c : Nat) (h : 128 ≤ c) : okAt i c = false := by unfold okAt; simp; omega
set_option maxHeartbeats 1000000 in
theorem isName_any (s : ByteArray) (w : World) (hs : s.size ≤ maxLen) :
    Calls Tryz.prog 94 #[.string s] w fun e w' => e = .returned (.bool (nameB s)) ∧ Below w.heap.size w w' := by
  unfold maxLen at hs
  go_enter Tryz.func94, Tryz.ntmps94
  go_wp2
  go_loopw [3, 4, 11, 18] (fun _ _ _ _ wr => ∃ pos, pos ≤ s.size ∧ wr = w.iter s pos ∧ Hid (okTo s pos = true)) (fun _ _ _ _ wr => s.size - wr.iterPos w.heap.size)
  case atStart => exact ⟨0, Nat.zero_le _, rfl, by unfold Hid; rfl⟩
  case round =>
    obtain ⟨pos, hk, rfl, ha⟩ := hrel
    by_cases hp : pos < s.size
    · have HS := Lib.hid (okTo_succ s pos hp)
      have HN := Lib.hid (okTo_no s pos hp)
      have hnx : ∀ ty, (Instr.next (.pointer (some ⟨w.heap.size, 0, none⟩)) true ty).run Tryz.prog (w.iter s pos) = _ := fun ty => run_next_any w s pos ty hp
      have hno : okAt pos s[pos].toNat = false → nameB s = false := by intro h; unfold nameB; rw [HN.out h]; rfl
      by_cases hasc : s[pos].toNat < 128
      · rw [decode_ascii s pos hp hasc] at hnx
        obtain ⟨c, hc⟩ : ∃ c, s[pos].toNat = c := ⟨_, rfl⟩
        rw [hc] at hnx hasc hno
        have HC := Lib.hid hc; clear hc
        have HNO := Lib.hid hno; clear hno
        by_cases hA : 65 ≤ c ∧ c ≤ 90
        · obtain ⟨hA1, hA2⟩ := hA
          have ok := Lib.hid (show okAt pos c = true by unfold okAt; simp; omega)
          go_wp2
          go_roundw
          case rel => exact ⟨pos + 1, by omega, rfl, by unfold Hid; rw [HS.out, ha.out, HC.out, ok.out]; rfl⟩
          case measure => simp; omega
        · by_cases hz : pos = 0
          · have ok := Lib.hid (show okAt pos c = false by unfold okAt; simp; omega)
            have hz1 : ¬ 0 < pos := by omega
            have HZ := Lib.hid hz; clear hz
            by_cases hA1 : 65 ≤ c
            · have hA2 : ¬ c ≤ 90 := by omega
              clear hA
              go_wp2
              go_ret
              exact ⟨ret_bool (HNO.out ok.out).symm, (Below.refl _ _).alloc (Nat.le_refl _) _⟩
            · clear hA
              go_wp2
              go_ret
              exact ⟨ret_bool (HNO.out ok.out).symm, (Below.refl _ _).alloc (Nat.le_refl _) _⟩
          · have hz1 : 0 < pos := by omega
            by_cases hok : okAt pos c = true
            · have hc4 : c = 95 ∨ (48 ≤ c ∧ c ≤ 57) := by unfold okAt at hok; simp at hok; omega
              have OK := Lib.hid hok; clear hok hz hA
              rcases hc4 with h95 | ⟨h48, h57⟩
              · subst h95
                go_wp2
                go_roundw
                case rel => exact ⟨pos + 1, by omega, rfl, by unfold Hid; rw [HS.out, ha.out, HC.out, OK.out]; rfl⟩
                case measure => simp; omega
              · go_wp2
                go_roundw
                case rel => exact ⟨pos + 1, by omega, rfl, by unfold Hid; rw [HS.out, ha.out, HC.out, OK.out]; rfl⟩
                case measure => simp; omega
            · have hc4 : c < 48 ∨ (57 < c ∧ c < 65) ∨ (90 < c ∧ c < 95) ∨ 95 < c := by unfold okAt at hok; simp at hok; omega
              have OK := Lib.hid (show okAt pos c = false by simpa using hok); clear hok hz hA
              rcases hc4 with h | ⟨h, h'⟩ | ⟨h, h'⟩ | h
              all_goals
                have b95 : ((c : Int) == 95) = false := by simp; omega
                go_wp2
                go_ret
                exact ⟨ret_bool (HNO.out OK.out).symm, (Below.refl _ _).alloc (Nat.le_refl _) _⟩
      · have hh := (decode_high s pos hp (by omega)).1
        have OK := Lib.hid (hno (okAt_high _ _ (by omega))); clear hno
        have b95 : (((Utf8.decode s pos).1 : Int) == 95) = false := by simp; omega
        by_cases hz1 : 0 < pos
        all_goals
          go_wp2
          go_ret
          exact ⟨ret_bool OK.out.symm, (Below.refl _ _).alloc (Nat.le_refl _) _⟩
    · have hnx : ∀ ty, (Instr.next (.pointer (some ⟨w.heap.size, 0, none⟩)) true ty).run Tryz.prog (w.iter s pos) = _ := fun ty => run_next_end w s pos ty hp
      go_wp2_with (go_at_call 57; refine (within_at _ _ _ _ _ _ (by simp)).mono ?_; rintro e w' ⟨rfl, rfl⟩)
      go_ret
      refine ⟨ret_bool ?_, ((Below.refl _ _).alloc (Nat.le_refl _) _).alloc (by simp) _⟩
      obtain rfl : pos = s.size := by omega
      unfold nameB; rw [ha.out]; rfl
end Go.Proofs.YtpdodpnhohmjaaaGreatDoor
end
section
set_option linter.unusedVariables false
namespace Go.Proofs.YtpdodpnhohmjaaaGreatDoor
open Go.RowKit
set_option maxRecDepth 20000

theorem wrap64_small (n : Nat) (h : n < 4294967296) : wrap64 (n : Int) = n := by unfold wrap64; omega
theorem or_byte (a b : Nat) (ha : a < 256) (hb : b < 256) : bits .or .i64 ((a : Int) * 256) b = (a : Int) * 256 + b :=
  bits_join .i64 16 (by decide) (fun n h0 h1 => IntWalk.i64_in _ (by omega)) 8 _ _ (by omega) (by omega) (by omega) (by omega) (by omega) (by omega)
theorem word_or (x y : UInt8) : bits .or .i64 (wrap64 (wrap64 (x.toNat : Int) * 256)) (wrap64 (y.toNat : Int)) = (x.toNat : Int) * 256 + y.toNat := by
  have hx := x.toNat_lt; have hy := y.toNat_lt
  rw [wrap64_small _ (by omega), wrap64_small _ (by omega)]
  have e : ((x.toNat : Int) * 256) = ((x.toNat * 256 : Nat) : Int) := by omega
  rw [e, wrap64_small _ (by omega), ← e]
  exact or_byte _ _ (by omega) (by omega)
theorem word_add (x y : UInt8) : wrap64 (wrap64 (wrap64 (x.toNat : Int) * 256) + wrap64 (y.toNat : Int)) = (x.toNat : Int) * 256 + y.toNat := by
  have hx := x.toNat_lt; have hy := y.toNat_lt
  unfold wrap64; omega
def word (s : ByteArray) (k : Nat) : Int := ((s[k]?.getD 0).toNat : Int) * 256 + ((s[k+1]?.getD 0).toNat : Int)

set_option maxHeartbeats 400000 in
theorem getWord_yes (s : ByteArray) (k : Nat) (w : World) (hs : s.size ≤ maxLen) (hk : k + 2 ≤ s.size) :
    Calls Tryz.prog 60 #[.string s, .int .i64 k] w fun e w' => e = .returned (.tuple #[.int .i64 (word s k), .bool true]) ∧ Below w.heap.size w w' := by
  unfold maxLen at hs
  have hin : inB 0 ((s.size : Int) - 2) k = true := by rw [inB_iff]; omega
  have e1 : IntKind.i64.wrap ((k : Int) + 1) = (k : Int) + 1 := IntWalk.i64_in _ (by omega)
  have e2 : ((k : Int) + 1).toNat = k + 1 := by omega
  have e3 : (0 : Int) ≤ (k : Int) + 1 := by omega
  have e4 : (k : Int) + 1 < s.size := by omega
  have e5 : (k : Int) < s.size := by omega
  have hw := Lib.hid (word_or (s[k]'(by omega)) (s[k+1]'(by omega)))
  go_enter Tryz.func60, Tryz.ntmps60
  go_wp2_with (go_at_call 57; refine (within_new _ _ _ _ _).mono ?_; rintro e w' ⟨rfl, rfl⟩)
  go_quiet (fail)
  go_wp2
  go_ret2
  refine ⟨?_, below_drewN ((Below.refl _ _).alloc (Nat.le_refl _) _) _⟩
  show Ending.returned (.tuple #[.int .i64 _, .bool true]) = _
  rw [hw.out]
  have h1 : s[k]?.getD 0 = s[k]'(by omega) := by simp [show k < s.size by omega]
  have h2 : s[k+1]?.getD 0 = s[k+1]'(by omega) := by simp [show k + 1 < s.size by omega]
  unfold word; rw [h1, h2]

set_option maxHeartbeats 400000 in
theorem getWord_no (s : ByteArray) (k : Int) (w : World) (hs : s.size ≤ maxLen) (hk : inB 0 ((s.size : Int) - 2) k = false) :
    Calls Tryz.prog 60 #[.string s, .int .i64 k] w fun e w' => e = .returned (.tuple #[.int .i64 0, .bool false]) ∧ Below w.heap.size w w' := by
  unfold maxLen at hs
  go_enter Tryz.func60, Tryz.ntmps60
  go_wp2_with (go_at_call 57; refine (within_new _ _ _ _ _).mono ?_; rintro e w' ⟨rfl, rfl⟩)
  go_ret2
  exact ⟨rfl, (Below.refl _ _).alloc (Nat.le_refl _) _⟩

end Go.Proofs.YtpdodpnhohmjaaaGreatDoor
end
section
set_option linter.unusedVariables false
namespace Go.Proofs.YtpdodpnhohmjaaaGreatDoor
open Go.RowKit
set_option maxRecDepth 20000

theorem u8info : (Tryz.prog.info? 5).map (fun i => (i.zero, i.size, i.bytes)) = some (some (.int .u8 0), 1, 1) := by kernel_rfl

/-- 'string(b)' of a slice of bytes whose cells are l. -/
theorem conv_of (W : World) (a : Addr) (cap : Nat) (l : List UInt8) (hc : ∀ j (hj : j < l.length), W.cell? (a.add j) = some (.int .u8 (l[j].toNat : Int))) :
    (convert 41 9 (.slice (some a) l.length cap)).run Tryz.prog W = .ok (.string ⟨l.toArray⟩) W :=
  run_convert_bytes_back W 41 9 5 a cap l Tryz.underlying41 Tryz.underlying5 Tryz.underlying9 hc

theorem heap_set_marked (w : World) (g i : Nat) (cs : Array Value) (t : TypeId) (fr : Nat × Nat) (v : Value) (hg : w.heap[g]? = some (.cells cs t fr)) :
    (w.setCell ⟨g, i, none⟩ v).heap[g]? = some (.cells (cs.setIfInBounds i v) t fr) := by
  simp [World.setCell, Array.getElem?_modify, hg]
theorem add0 (b j : Nat) : ((⟨b, 0, none⟩ : Addr).add j) = ⟨b, j, none⟩ := by
  simp [Addr.add]
  intro h; exact h.symm

theorem conv_new2 (W : World) (x y : Int) (h1 : 0 ≤ x) (h2 : x < 256) (h3 : 0 ≤ y) (h4 : y < 256) :
    (convert 41 9 (.slice (some ⟨W.heap.size, 0, none⟩) 2 2)).run Tryz.prog (W.alloc (.cells #[.int .u8 x, .int .u8 y] 5)) = .ok (.string ⟨#[x.toNat.toUInt8, y.toNat.toUInt8]⟩) (W.alloc (.cells #[.int .u8 x, .int .u8 y] 5)) := by
  refine conv_of _ _ 2 [x.toNat.toUInt8, y.toNat.toUInt8] ?_
  intro j hj
  have e := add0 W.heap.size j
  have hx : x.toNat % 256 = x.toNat := Nat.mod_eq_of_lt (by omega)
  have hy : y.toNat % 256 = y.toNat := Nat.mod_eq_of_lt (by omega)
  match j, hj with
  | 0, _ => rw [e]; simp [go_sem, hx]; omega
  | 1, _ => rw [e]; simp [go_sem, hy]; omega
  | j + 2, hj => simp at hj; omega

/-- v is a slice of bytes of the call's own, with the bytes l. -/
def OwnB (w : World) (B : Nat) (v : Value) (l : List UInt8) : Prop := w.ownsRow B 5 1 v l.length (Lib.byteCells l)

theorem conv_own {w : World} {B : Nat} {v : Value} {l : List UInt8} (h : OwnB w B v l) : (convert 41 9 v).run Tryz.prog w = .ok (.string ⟨l.toArray⟩) w := by
  obtain ⟨h1, h2⟩ := h
  rcases h2 with ⟨rfl, hl⟩ | ⟨g, cap, cur, rfl, hg, hh, hn, hm, hs, ht⟩
  · have e : l = [] := List.length_eq_zero_iff.1 hl
    subst e
    rw [run_convert_bytes_string w _ _ _ none 0 0 Tryz.underlying41 Tryz.underlying5 Tryz.underlying9]
    rfl
  · refine conv_of _ _ cap l ?_
    intro j hj
    have e := add0 g j
    have hc : cur[j]? = some (.int .u8 (l[j].toNat : Int)) := by
      have h3 : (cur.toList.take (l.length * 1))[j]? = (Lib.byteCells l)[j]? := by rw [ht]
      rw [List.getElem?_take_of_lt (by omega)] at h3
      simpa [Lib.byteCells, hj] using h3
    rw [e]
    simp [World.cell?, hh, hc]

theorem OwnB.nil (w : World) (B : Nat) (hB : B ≤ w.heap.size) : OwnB (w.alloc (.cells #[] 5)) B (.slice (some ⟨w.heap.size, 0, none⟩) 0 0) [] := by
  refine ⟨rfl, .inr ⟨w.heap.size, 0, #[], rfl, hB, ?_, Nat.le_refl _, by simp [maxLen], rfl, rfl⟩⟩
  show (w.heap.push _)[w.heap.size]? = _
  simp

theorem OwnB.snoc {w : World} {B : Nat} {v : Value} {l : List UInt8} {x : Int} (h1 : 0 ≤ x) (h2 : x < 256)
    (h : w.ownsRow B 5 1 v (l.length + 1) (Lib.byteCells l ++ [.int .u8 x])) : OwnB w B v (l ++ [x.toNat.toUInt8]) := by
  have e : Lib.byteCells (l ++ [x.toNat.toUInt8]) = Lib.byteCells l ++ [.int .u8 x] := by
    rw [Lib.byteCells_append]
    have hx : x.toNat % 256 = x.toNat := Nat.mod_eq_of_lt (by omega)
    simp [Lib.byteCells, hx]; omega
  unfold OwnB
  rw [e]
  simpa using h

theorem below_of_grown {B : Nat} {w w' : World} {v : Value} {l : List UInt8} (h : OwnB w B v l) (hB : B ≤ w.heap.size) (hg : w.grownBy w' v.ownBlock) : Below B w w' := by
  refine (Below.refl B w).grown hg hB ?_
  intro k hk
  rcases h.2 with ⟨rfl, _⟩ | ⟨g, cap, cur, rfl, hg, _⟩
  · cases hk
  · cases hk; exact hg

section
variable {ops : Array Oper} {o : Oper} {a : Act} {Q : Exit → Act → World → Prop} {w : World}
/-- 'append(out, x)' of one byte to bytes of the call's own, in a plain region. -/
theorem wpList_appendB {rest : List Oper} (hgd : o.guard = none) (s x : Operand) (ho : o.op = .call { callee := .builtin .append, args := #[s, x], argTypes := #[41, 41] })
    {B : Nat} {v : Value} {l : List UInt8} (hs : a.eval s = v) (hown : OwnB w B v l) (x8 : Int) (h0 : 0 ≤ x8) (h1 : x8 < 256) (ad : Addr) (c : Nat) (hx : a.eval x = .slice (some ad) 1 c)
    (hc : ∀ j u, [Value.int .u8 x8][j]? = some u → w.cell? (ad.add j) = some u) (hl : l.length < 2147483648) (hB : B ≤ w.heap.size)
    (h : ∀ g cap w', OwnB w' B (.slice (some ⟨g, 0, none⟩) (l.length + 1) cap) (l ++ [x8.toNat.toUInt8]) → w.grownBy w' v.ownBlock → Below B w w' → (v.ownBlock = some g ∨ g = w.heap.size) → wpList Tryz.prog ops Q rest (a.put o.dst (.slice (some ⟨g, 0, none⟩) (l.length + 1) cap)) w') : wpList Tryz.prog ops Q (o :: rest) a w := by
  obtain ⟨i0, hi, hz0, hz1, hz2⟩ := info_parts u8info
  refine wpList_append_lies w hgd s x 41 ho B 5 i0 (.int .u8 0) 1 1 Tryz.underlying41 hi hz0 hz1 hz2 rfl (by decide) v l.length (Lib.byteCells l) hs hown ad 1 c [.int .u8 x8] hx rfl hc (by simp [Value.oneCell']) (by decide) (by unfold maxLen; omega) (by omega) hB _ rfl ?_
  intro g cap w' h2 h3 h4 _
  refine h g cap w' ?_ h3 (below_of_grown hown hB h3) h4
  have h5 := OwnB.snoc h0 h1 h2
  exact h5
/-- The same, in a region that draws its order. -/
theorem step_appendB {K : Act → World → Prop} {E : Prop} (hgd : o.guard = none) (s x : Operand) (ho : o.op = .call { callee := .builtin .append, args := #[s, x], argTypes := #[41, 41] })
    {B : Nat} {v : Value} {l : List UInt8} (hs : a.eval s = v) (hown : OwnB w B v l) (x8 : Int) (h0 : 0 ≤ x8) (h1 : x8 < 256) (ad : Addr) (c : Nat) (hx : a.eval x = .slice (some ad) 1 c)
    (hc : ∀ j u, [Value.int .u8 x8][j]? = some u → w.cell? (ad.add j) = some u) (hl : l.length < 2147483648) (hB : B ≤ w.heap.size)
    (h : ∀ g cap w', OwnB w' B (.slice (some ⟨g, 0, none⟩) (l.length + 1) cap) (l ++ [x8.toNat.toUInt8]) → w.grownBy w' v.ownBlock → Below B w w' → (v.ownBlock = some g ∨ g = w.heap.size) → K (a.put o.dst (.slice (some ⟨g, 0, none⟩) (l.length + 1) cap)) w') :
    if Region.wanted o (yielded ops a.tmps) = true then Oper.wp Tryz.prog o a w K Q else E := by
  obtain ⟨i0, hi, hz0, hz1, hz2⟩ := info_parts u8info
  refine step_append_lies w hgd s x 41 ho B 5 i0 (.int .u8 0) 1 1 Tryz.underlying41 hi hz0 hz1 hz2 rfl (by decide) v l.length (Lib.byteCells l) hs hown ad 1 c [.int .u8 x8] hx rfl hc (by simp [Value.oneCell']) (by decide) (by unfold maxLen; omega) (by omega) hB _ rfl ?_
  intro g cap w' h2 h3 h4 _
  exact h g cap w' (OwnB.snoc h0 h1 h2) h3 (below_of_grown hown hB h3) h4
/-- The same, of several bytes. -/
theorem step_appendBs {K : Act → World → Prop} {E : Prop} (hgd : o.guard = none) (s x : Operand) (ho : o.op = .call { callee := .builtin .append, args := #[s, x], argTypes := #[41, 41] })
    {B : Nat} {v : Value} {l : List UInt8} (hs : a.eval s = v) (hown : OwnB w B v l) (cs : List UInt8) (hcs : 0 < cs.length) (ad : Addr) (c : Nat) (hx : a.eval x = .slice (some ad) cs.length c)
    (hc : ∀ j u, (Lib.byteCells cs)[j]? = some u → w.cell? (ad.add j) = some u) (hl : l.length + cs.length < 2147483648) (hB : B ≤ w.heap.size)
    (h : ∀ g cap w', OwnB w' B (.slice (some ⟨g, 0, none⟩) (l.length + cs.length) cap) (l ++ cs) → w.grownBy w' v.ownBlock → Below B w w' → (v.ownBlock = some g ∨ g = w.heap.size) → K (a.put o.dst (.slice (some ⟨g, 0, none⟩) (l.length + cs.length) cap)) w') :
    if Region.wanted o (yielded ops a.tmps) = true then Oper.wp Tryz.prog o a w K Q else E := by
  obtain ⟨i0, hi, hz0, hz1, hz2⟩ := info_parts u8info
  refine step_append_lies w hgd s x 41 ho B 5 i0 (.int .u8 0) 1 1 Tryz.underlying41 hi hz0 hz1 hz2 rfl (by decide) v l.length (Lib.byteCells l) hs hown ad cs.length c (Lib.byteCells cs) hx (by rw [Lib.byteCells_length]; omega) hc (Lib.byteCells_one cs) hcs (by unfold maxLen; omega) (by omega) hB _ rfl ?_
  intro g cap w' h2 h3 h4 _
  refine h g cap w' ?_ h3 (below_of_grown hown hB h3) h4
  unfold OwnB
  rw [Lib.byteCells_append, List.length_append]
  exact h2
end
theorem OwnB.below {w w' : World} {B : Nat} {v : Value} {l : List UInt8} (h : OwnB w B v l) (hb : Below w.heap.size w w') : OwnB w' B v l := by
  refine ⟨h.1, ?_⟩
  rcases h.2 with h2 | ⟨g, cap, cur, rfl, hg, hh, r⟩
  · exact .inl h2
  · exact .inr ⟨g, cap, cur, rfl, hg, by rw [hb.block g (Array.getElem?_eq_some_iff.1 hh).1]; exact hh, r⟩
theorem OwnB.alloc {w : World} {B : Nat} {v : Value} {l : List UInt8} (h : OwnB w B v l) (o : Obj) : OwnB (w.alloc o) B v l := World.ownsRow.alloc h o
theorem OwnB.drew {w : World} {B : Nat} {v : Value} {l : List UInt8} (h : OwnB w B v l) : OwnB w.drew B v l := h
end Go.Proofs.YtpdodpnhohmjaaaGreatDoor
end
section
set_option linter.unusedVariables false
namespace Go.Proofs.YtpdodpnhohmjaaaGreatDoor
open Go.RowKit
set_option maxRecDepth 20000
def wordBytes (n : Int) : ByteArray := ⟨#[(n / 256).toNat.toUInt8, (n % 256).toNat.toUInt8]⟩
set_option maxHeartbeats 400000 in
theorem putWord_yes (n : Int) (w : World) (h0 : 0 ≤ n) (h1 : n ≤ 65535) :
    Calls Tryz.prog 86 #[.int .i64 n] w fun e w' => e = .returned (.string (wordBytes n)) ∧ Below w.heap.size w w' := by
  have hin : inB 0 65535 n = true := by rw [inB_iff]; omega
  have hcv := conv_new2 (w.alloc (.cells #[.int .i64 n] 2)) (n / 256) (n % 256) (by omega) (by omega) (by omega) (by omega)
  simp only [World.size_alloc] at hcv
  go_enter Tryz.func86, Tryz.ntmps86
  go_wp2_with (go_at_call 57; refine (within_new _ _ _ _ _).mono ?_; rintro e w' ⟨rfl, rfl⟩)
  go_ret
  exact ⟨rfl, ((Below.refl _ _).alloc (Nat.le_refl _) _).alloc (by simp) _⟩
set_option maxHeartbeats 400000 in
theorem putWord_no (n : Int) (w : World) (h : inB 0 65535 n = false) :
    Calls Tryz.prog 86 #[.int .i64 n] w fun e w' => e = .returned (.string ⟨#[]⟩) ∧ Below w.heap.size w w' := by
  go_enter Tryz.func86, Tryz.ntmps86
  go_wp2_with (go_at_call 57; refine (within_new _ _ _ _ _).mono ?_; rintro e w' ⟨rfl, rfl⟩)
  go_ret
  exact ⟨rfl, (Below.refl _ _).alloc (Nat.le_refl _) _⟩
end Go.Proofs.YtpdodpnhohmjaaaGreatDoor
end
section
set_option linter.unusedVariables false
namespace Go.Proofs.YtpdodpnhohmjaaaGreatDoor
open Go.RowKit Go.ChangeShapes Go.WideShapes Go.ChangeAt Go.Joins Go.Deep
set_option linter.unusedVariables false
set_option linter.unusedSimpArgs false
structure StringV where
  f0 : ByteArray
def rowString (e : StringV) : List Value := [.string e.f0]
def zeroString : List Value := [.string ByteArray.empty]
theorem rowString_len (e : StringV) : (rowString e).length = 1 := rfl
theorem infoString : (Tryz.prog.info? 9).map (fun i => (i.zero, i.size, i.bytes)) = some (some (.string ByteArray.empty), 1, 16) := by kernel_rfl
section
variable {H : Type} {enc : TypeId × Value → H} {P : Program} {w : World} {base : Nat} {held : Bool}
theorem open_ones {E : Type} {row : E → List Value} {ok : E → Prop} (hn : ∀ e, (row e).length = 1) {t el : TypeId} (ht : P.underlying t = some (.slice el)) (hC : P.cellsOf el = 1)
    (hread : ∀ (c : Value) (m : Nat) (y : DataW H × List MemPlace), DataW.trod enc P w base (fun _ => true) held m el [c] = some y → ∃ e, [c] = row e ∧ ok e)
    {a : Option Addr} {len cap fuel : Nat} {x : DataW H × List MemPlace} (h : DataW.trod enc P w base (fun _ => true) held fuel t [.slice a len cap] = some x) :
    ∃ es : List E, len = es.length ∧ es.length ≤ maxLen ∧ SlS row w a es ∧ ∀ e ∈ es, ok e := by
  rcases open_slice ht h with ⟨hcs, _⟩ | ⟨a', len', cap', m, k, D, Pl, hcs, _, hl, hm, hmm, _, hi⟩
  · simp at hcs
    obtain ⟨rfl, rfl, rfl⟩ := hcs
    exact ⟨[], rfl, by simp, .inl rfl, by simp⟩
  · simp at hcs
    obtain ⟨rfl, rfl, rfl⟩ := hcs
    simp at hmm
    subst hmm
    have each : ∀ i, i < len → ∃ e, ok e ∧ ∀ j v, (row e)[j]? = some v → w.cell? (a'.add (i * 1 + j)) = some v := by
      intro i hil
      obtain ⟨cs, h1, h2⟩ := hi i (by omega)
      rw [hC] at h1
      obtain ⟨_, hlen, hat⟩ := World.cells?_some h1
      match cs, hlen with
      | [c], _ =>
        obtain ⟨e, he, hok⟩ := hread c _ _ h2
        refine ⟨e, hok, fun j v hv => ?_⟩
        have hj : j < 1 := by rw [← hn e]; exact (List.getElem?_eq_some_iff.1 hv).1
        have := hat j (by simpa using hj)
        rw [add_add] at this
        rw [this, he]; exact hv
    obtain ⟨es, hlen, hp⟩ := list_of len each
    refine ⟨es, hlen.symm, by omega, ?_, fun e hx => ?_⟩
    · cases hes : es with
      | nil => exact .inl rfl
      | cons e0 r =>
        right
        obtain ⟨b, off, spot⟩ := a'
        have hfst := (hp 0 e0 (by simp [hes])).2 0 _ (List.getElem?_eq_getElem (by rw [hn]; omega))
        have hspot : spot = none := by simpa [Addr.add] using World.cell?_spot hfst
        subst hspot
        refine ⟨b, off, rfl, World.block_lt_of_cell? w _ (by rw [add_plain] at hfst; exact hfst), ?_⟩
        rw [← hes]
        intro i v hv
        have hlt := (List.getElem?_eq_some_iff.1 hv).1
        rw [flatten_len (rows_len hn es), List.length_map] at hlt
        have hk : es[i]? = some (es[i]'(by omega)) := List.getElem?_eq_getElem _
        have h3 := flatten_at (rows_len hn es) (k := i) (r := row (es[i]'(by omega))) (by simp [hk]) (j := 0) (by omega)
        have ei : i * 1 + 0 = i := by omega
        rw [ei] at h3
        have h4 := (hp _ _ hk).2 0 v (by rw [← h3]; exact hv)
        rw [ei, add_plain] at h4
        exact h4
    · obtain ⟨i, hi⟩ := List.getElem?_of_mem hx
      exact (hp i e hi).1
end
theorem cellsString : Tryz.prog.cellsOf 9 = 1 := by kernel_rfl
set_option maxRecDepth 100000 in
theorem readStringS {H : Type} {enc : TypeId × Value → H} {W : World} {fuel : Nat} {y : DataW H × List MemPlace} {a0 : Option Addr} {len0 cap0 : Nat}
    (hf1 : DataW.trod enc Tryz.prog W 0 (fun _ => true) true fuel 22 [.slice a0 len0 cap0] = some y) :
    ∃ es : List StringV, len0 = es.length ∧ es.length ≤ maxLen ∧ SlS rowString W a0 es ∧ ∀ e ∈ es, e.f0.size ≤ maxLen := by
  obtain ⟨es, rfl, hm, hs, hx⟩ := open_ones (enc := enc) (P := Tryz.prog) (w := W) (base := 0) (held := true) (a := a0) (len := len0) (cap := cap0) (row := rowString) (ok := fun e : StringV => e.f0.size ≤ maxLen) rowString_len Tryz.underlying22 cellsString (by
    intro c m y hc
    obtain ⟨x0, rfl, s0⟩ := string_cell Tryz.underlying9 hc
    exact ⟨⟨x0⟩, rfl, s0⟩) hf1
  exact ⟨es, rfl, hm, hs, hx⟩
set_option maxRecDepth 100000 in
theorem open_StringS {H : Type} {enc : TypeId × Value → H} {W : World} {base : Nat} {v : Value} {d : DataW H} {p : List MemPlace}
    (hv : Value.okWide Tryz.prog W .any base 22 v) (h : DataW.Trod enc Tryz.prog W 0 (fun _ => true) true 22 v d p) :
    ∃ (a : Option Addr) (es : List StringV) (cap : Nat), v = .slice a es.length cap ∧ RecArg rowString W a es ∧ ∀ e ∈ es, e.f0.size ≤ maxLen := by
  obtain ⟨a0, len0, cap0, rfl⟩ := okWide_slice Tryz.underlying22 hv
  obtain ⟨fuel, hf⟩ := h
  obtain ⟨es, rfl, hm, hs, hx⟩ := readStringS (by simpa [Value.cells] using hf)
  exact ⟨a0, es, cap0, rfl, ⟨hm, hs⟩, hx⟩
def wtString (es : List StringV) : Nat := es.length + (es.map fun e => e.f0.size).sum
theorem wtString_len (es : List StringV) : es.length ≤ wtString es := Nat.le_add_right _ _
theorem wtString_at {es : List StringV} {m : Nat} (h : wtString es ≤ m) : ∀ e ∈ es, e.f0.size ≤ m := by
  intro e he
  unfold wtString at h
  have : e.f0.size ≤ (es.map fun e => e.f0.size).sum := le_sum_of_mem (List.mem_map.2 ⟨e, he, rfl⟩)
  omega
set_option maxHeartbeats 2000000 in
theorem szStringS_any (a : Option Addr) (es : List StringV) (c left : Nat) (w : World) (hl : left ≤ 1048576) (hm : es.length ≤ maxLen) (hs : ∀ e ∈ es, e.f0.size ≤ maxLen) (h : SlS rowString w a es) :
    Calls Tryz.prog 6 #[.slice a es.length c, .int .i64 (left : Nat)] w fun x w' => x = .returned (.int .i64 (szV left (wtString es))) ∧ Below w.heap.size w w' := by
  unfold maxLen at hm
  by_cases h9 : es.length ≤ left
  · have h0 : ¬ ((left : Int) - (es.length : Int) < 0) := by omega
    have HW := Lib.hid (show ∀ k, wtString es = es.length + ((es.take k).map fun e => e.f0.size).sum + ((es.drop k).map fun e => e.f0.size).sum from fun k => by
      unfold wtString
      rw [Nat.add_assoc, ← List.sum_append_nat, ← List.map_append, List.take_append_drop])
    go_enter Tryz.func6, Tryz.ntmps6
    go_wp2
    go_loopw [1, 5] (fun l i wr => ∃ k m : Nat, k ≤ es.length ∧ i = .int .i64 k ∧ l = .int .i64 m ∧ m ≤ 1048576 ∧ Hid (m + (es.length + ((es.take k).map fun e => e.f0.size).sum) = left) ∧ Below w.heap.size w wr) (fun _ i _ => es.length - (intOf i).toNat)
    case atStart => exact ⟨0, left - es.length, Nat.zero_le _, rfl, by rw [show ((left - es.length : Nat) : Int) = (left : Int) - es.length by omega], by omega, by unfold Hid; simp; omega, Below.refl _ _⟩
    case round =>
      obtain ⟨k, m, hk, rfl, rfl, hm2, hS, hb⟩ := hrel
      by_cases hlt : k < es.length
      · obtain ⟨e, hx⟩ : ∃ e, es[k]? = some e := ⟨es[k], by simp [hlt]⟩
        obtain ⟨b, off, rfl, hbl, hc⟩ := (h.below hb (Nat.le_refl _)).at rowString_len hx
        have c0 : wr.cell? ⟨b, off + k * 1, none⟩ = some (.string e.f0) := hc 0 _ rfl
        rw [Nat.mul_one] at c0
        have hse := hs e (List.mem_of_getElem? hx)
        unfold maxLen at hse
        have HS := Lib.hid hs
        have H := Lib.hid (And.intro h (And.intro hc hx)); clear h hc hx hs
        by_cases hq : e.f0.size ≤ m
        · have hq0 : ¬ ((m : Int) - (e.f0.size : Int) < 0) := by omega
          obtain ⟨q, hqq⟩ : ∃ q : Nat, m = e.f0.size + q := ⟨m - e.f0.size, by omega⟩
          have hqi : (m : Int) - (e.f0.size : Int) = (q : Int) := by omega
          have HQ := Lib.hid hq; have HQQ := Lib.hid hqq; have hq1 : q ≤ 1048576 := by omega
          clear hq hqq
          go_wp2
          go_roundw
          case rel =>
            refine ⟨k + 1, q, by omega, by go_num, rfl, hq1, ?_, hb⟩
            unfold Hid
            rw [List.take_add_one, H.out.2.2]
            have h1 := hS.out; have h2 := HQ.out; have h3 := HQQ.out
            simp only [Option.toList_some, List.map_append, List.map_cons, List.map_nil, List.sum_append_nat, List.sum_cons, List.sum_nil]
            omega
          case measure => simp [intOf]; omega
        · have hq0 : (m : Int) - (e.f0.size : Int) < 0 := by omega
          have HQ := Lib.hid hq; clear hq
          go_wp2
          go_ret
          refine ⟨ret_int ?_, hb⟩
          unfold szV
          rw [if_neg ?_]
          rw [HW.out (k + 1), List.take_add_one, H.out.2.2]
          have h1 := hS.out; have h2 := HQ.out
          simp only [Option.toList_some, List.map_append, List.map_cons, List.map_nil, List.sum_append_nat, List.sum_cons, List.sum_nil]
          omega
      · obtain rfl : k = es.length := by omega
        go_wp2
        go_ret
        refine ⟨ret_int ?_, hb⟩
        have h1 := hS.out; have h2 := HW.out es.length
        simp only [List.take_length, List.drop_length, List.map_nil, List.sum_nil] at h1 h2
        unfold szV
        rw [if_pos (by omega)]
        omega
  · have h0 : (left : Int) - (es.length : Int) < 0 := by omega
    have HE := Lib.hid (show szV left (wtString es) = -1 by unfold szV; rw [if_neg (by have := wtString_len es; omega)])
    go_enter Tryz.func6, Tryz.ntmps6
    go_wp2
    go_ret
    exact ⟨ret_int HE.out.symm, Below.refl _ _⟩
theorem run_make_strings (n : Nat) (hbytes : 16 * n ≤ 281474976710656) (w : World) :
    (Instr.makeSlice 22 (.int .i64 (n : Int)) (.int .i64 (n : Int))).run Tryz.prog w = .ok (.slice (some ⟨w.heap.size, 0, none⟩) n n) (w.alloc (.cells (List.replicate n zeroString).flatten.toArray 9)) := by
  obtain ⟨i, hi, hzz⟩ := Option.map_eq_some_iff.1 infoString
  simp only [Prod.mk.injEq] at hzz
  obtain ⟨hz1, hs, hb⟩ := hzz
  have hb2 : ((i.bytes : Int) * n) ≤ 281474976710656 := by rw [hb]; omega
  have hr := run_make (P := Tryz.prog) w 22 9 i _ Tryz.underlying22 hi hz1 .i64 .i64 n n (by omega) (by omega) hb2 (by omega)
  rw [hr]
  have e1 : (Value.string ByteArray.empty).cells = zeroString.toArray := rfl
  rw [e1, hs, Int.toNat_natCast]
  have e2 : n * 1 = n * zeroString.length := rfl
  rw [e2, made_flatten zeroString n (by simp [zeroString])]
set_option maxHeartbeats 4000000 in
theorem toStringS_any (a : Option Addr) (es : List StringV) (c : Nat) (w : World) (hl : es.length ≤ 1048576) (h : SlS rowString w a es) :
    Calls Tryz.prog 8 #[.slice a es.length c] w (ToRecs rowString 9 es w) := by
  have hmk := fun w => run_make_strings es.length (by omega) w
  go_enter Tryz.func8, Tryz.ntmps8
  go_wp2
  clear hmk
  go_loopw [4] (fun i wr => ∃ k : Nat, k ≤ es.length ∧ i = .int .i64 k ∧ Hid (wr.heap[w.heap.size]? = some (.cells (cpS rowString zeroString es k).toArray 9 (0, 0))) ∧ Below w.heap.size w wr ∧ w.heap.size < wr.heap.size) (fun i _ => es.length - (intOf i).toNat)
  case atStart => exact ⟨0, Nat.zero_le _, rfl, by unfold Hid; rw [← cpS_zero]; exact heap_alloc_new w _, (Below.refl _ _).alloc (Nat.le_refl _) _, by simp⟩
  case round =>
    obtain ⟨k, hk, rfl, hB, hb, hgt⟩ := hrel
    by_cases hlt : k < es.length
    · obtain ⟨e, hx⟩ : ∃ e, es[k]? = some e := ⟨es[k], by simp [hlt]⟩
      obtain ⟨b, off, rfl, hbl, hc⟩ := (h.below hb (Nat.le_refl _)).at rowString_len hx
      have c0 : wr.cell? ⟨b, off + k * 1, none⟩ = some (.string e.f0) := hc 0 _ rfl
      rw [Nat.mul_one] at c0
      have H := Lib.hid (And.intro h (And.intro hc hx)); clear h hc hx
      have hB1 := hB.out
      have hlen := cpS_size (zero := zeroString) rowString_len rfl hk
      have hcell : ∃ v, wr.cell? ⟨w.heap.size, k, none⟩ = some v := by
        have : (cpS rowString zeroString es k)[k]?.isSome = true := by simp [hlen]; omega
        obtain ⟨v, hv⟩ := Option.isSome_iff_exists.1 this
        exact ⟨v, by simp [World.cell?, hB1, hv]⟩
      obtain ⟨o0, d0⟩ := hcell
      have z0 : wr.frozen? ⟨w.heap.size, k, none⟩ = false := by simp [World.frozen?, hB1]
      have HB := Lib.hid (And.intro hB1 (And.intro hb hlen)); clear hB hB1 hb hlen hbl
      go_wp2
      go_roundw
      case rel =>
        obtain ⟨hB1, hb, hlen⟩ := HB.out
        obtain ⟨h, hc, hx⟩ := H.out
        refine ⟨k + 1, by omega, by go_num, ?_, ?_, ?_⟩
        · unfold Hid
          rw [← cpS_succ (zero := zeroString) rowString_len rfl hx, Nat.mul_one]
          exact heap_setCells _ _ (rowString e) k wr _ hB1
        · exact below_setCells _ (Nat.le_refl _) (rowString e) k w wr hb
        · exact Nat.lt_of_lt_of_le hgt (below_setCells (B := 0) w.heap.size (Nat.zero_le _) (rowString e) k wr wr (Below.refl _ _)).size
      case measure => simp [intOf]; omega
    · obtain rfl : k = es.length := by omega
      go_wp2
      go_ret
      exact ⟨_, rfl, by have := hB.out; rw [cpS_all] at this; exact this, Nat.le_refl _, hb⟩
set_option maxHeartbeats 4000000 in
theorem eqStringS_any (r : Bool) (a b : Option Addr) (xs ys : List StringV) (c d : Nat) (w : World) (hr : r = true ↔ xs = ys) (hx : xs.length ≤ 4194304) (hy : ys.length ≤ 4194304) (h1 : SlS rowString w a xs) (h2 : SlS rowString w b ys) :
    Calls Tryz.prog 11 #[.slice a xs.length c, .slice b ys.length d] w fun e w' => e = .returned (.bool r) ∧ Below w.heap.size w w' := by
  have HR := Lib.hid hr; clear hr
  by_cases hl : xs.length = ys.length
  · have hne : ((xs.length : Int) != ys.length) = false := by simp; omega
    have HL := Lib.hid hl; clear hl
    go_enter Tryz.func11, Tryz.ntmps11
    go_wp2
    go_loopw [5] (fun i wr => ∃ k : Nat, k ≤ xs.length ∧ i = .int .i64 k ∧ Hid (xs.take k = ys.take k) ∧ Below w.heap.size w wr) (fun i _ => xs.length - (intOf i).toNat)
    case atStart => exact ⟨0, Nat.zero_le _, rfl, by unfold Hid; rfl, Below.refl _ _⟩
    case round =>
      obtain ⟨k, hk, rfl, hT, hb⟩ := hrel
      have h1' := h1.below hb (Nat.le_refl _)
      have h2' := h2.below hb (Nat.le_refl _)
      by_cases hlt : k < xs.length
      · have hly : k < ys.length := by have := HL.out; omega
        obtain ⟨⟨x⟩, hxk⟩ : ∃ e, xs[k]? = some e := ⟨xs[k], by simp [hlt]⟩
        obtain ⟨⟨y⟩, hyk⟩ : ∃ e, ys[k]? = some e := ⟨ys[k], by simp [hly]⟩
        obtain ⟨bx, ox, rfl, hlx, hcx⟩ := h1'.at rowString_len hxk
        obtain ⟨b2, o2, rfl, hly2, hcy⟩ := h2'.at rowString_len hyk
        have c0 : wr.cell? ⟨bx, ox + k * 1, none⟩ = some (.string x) := hcx 0 _ rfl
        have d0 : wr.cell? ⟨b2, o2 + k * 1, none⟩ = some (.string y) := hcy 0 _ rfl
        rw [Nat.mul_one] at c0 d0
        have HX := Lib.hid hxk; have HY := Lib.hid hyk; clear hxk hyk
        have e1 : (k : Int) < xs.length := by omega
        have e2 : (k : Int) < ys.length := by omega
        have H1 := Lib.hid (And.intro h1 (And.intro h1' hcx)); have H2 := Lib.hid (And.intro h2 (And.intro h2' hcy)); clear h1 h1' h2 h2' hcx hcy hlx hly2
        by_cases hq : x = y
        · subst hq
          have hne2 : (x.toList == x.toList) = true := by simp
          go_wp2
          go_quiet (fail)
          go_wp2
          go_roundw
          case rel => exact ⟨k + 1, by omega, by go_num, by unfold Hid; rw [List.take_add_one, List.take_add_one, HX.out, HY.out, hT.out], below_drewN' hb _⟩
          case measure => simp [intOf]; omega
        · have hne2 := toList_ne2 hq
          have HQ := Lib.hid hq; clear hq
          go_wp2
          go_quiet (fail)
          go_wp2
          go_ret
          refine ⟨ret_bool ?_, below_drewN' hb _⟩
          cases r with
          | false => rfl
          | true =>
          exfalso
          have e := HR.out.1 rfl
          have h3 := HX.out
          rw [e, HY.out] at h3
          have h4 := (Option.some.inj h3).symm
          exact HQ.out (by injection h4)
      · go_wp2
        go_ret
        refine ⟨ret_bool ?_, hb⟩
        obtain rfl : k = xs.length := by omega
        exact (HR.out.2 (take_eq HL.out hT.out)).symm
  · have hne : ((xs.length : Int) != ys.length) = true := by simp; omega
    have HQ := Lib.hid (show r = false by
      cases r with
      | false => rfl
      | true => exact absurd (by rw [HR.out.1 rfl]) hl)
    go_enter Tryz.func11, Tryz.ntmps11
    go_wp2
    go_ret
    exact ⟨ret_bool HQ.out.symm, Below.refl _ _⟩
end Go.Proofs.YtpdodpnhohmjaaaGreatDoor
end
section
set_option linter.unusedVariables false
namespace Go.Proofs.YtpdodpnhohmjaaaGreatDoor
open Go.RowKit
set_option maxRecDepth 20000
def isCell (c : UInt8) : Bool := c == 48 || c == 49
def cellsL (l : List UInt8) : Bool := l.all isCell
/-- 1 to 8000 characters 0 and 1. -/
def validCells (s : ByteArray) : Bool := cellsL s.data.toList && inB 1 8000 s.size
theorem cellsL_snoc (s : ByteArray) (k : Nat) (h : k < s.size) : cellsL (s.data.toList.take (k + 1)) = (cellsL (s.data.toList.take k) && isCell s[k]) := by
  have e : s.data.toList.take (k + 1) = s.data.toList.take k ++ [s[k]] := by rw [List.take_succ_eq_append_getElem (by simpa using h)]; rfl
  rw [e]; simp [cellsL]
theorem cellsL_no (s : ByteArray) (k : Nat) (h : k < s.size) (hc : isCell s[k] = false) : cellsL s.data.toList = false := by
  unfold cellsL
  rw [List.all_eq_false]
  exact ⟨s[k], by show s.data[k] ∈ _; simp, by simp [hc]⟩
theorem take_ge' (s : ByteArray) (k : Nat) (h : s.size ≤ k) : s.data.toList.take k = s.data.toList := by
  refine List.take_of_length_le ?_
  have : s.data.toList.length = s.size := by simp
  omega
theorem isCell_iff (c : UInt8) : isCell c = true ↔ c.toNat = 48 ∨ c.toNat = 49 := by
  unfold isCell
  simp only [Bool.or_eq_true, beq_iff_eq, ← UInt8.toNat_inj]
  rfl
/-- The rune at a byte that is no cell is no cell. -/
theorem rune_no (s : ByteArray) (pos : Nat) (h : pos < s.size) (hc : isCell s[pos] = false) : (Utf8.decode s pos).1 ≠ 48 ∧ (Utf8.decode s pos).1 ≠ 49 := by
  have h1 : ¬ (s[pos].toNat = 48 ∨ s[pos].toNat = 49) := by rw [← isCell_iff]; simp [hc]
  by_cases ha : s[pos].toNat < 128
  · rw [decode_ascii s pos h ha]
    exact ⟨fun e => h1 (.inl e), fun e => h1 (.inr e)⟩
  · have := (decode_high s pos h (by omega)).1
    omega
end Go.Proofs.YtpdodpnhohmjaaaGreatDoor
end
section
set_option linter.unusedVariables false
namespace Go.Proofs.YtpdodpnhohmjaaaGreatDoor
open Go.RowKit
set_option maxRecDepth 20000
end Go.Proofs.YtpdodpnhohmjaaaGreatDoor
end
