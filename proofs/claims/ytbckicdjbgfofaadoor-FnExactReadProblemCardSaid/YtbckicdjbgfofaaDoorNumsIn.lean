/- impl.numbersIn: the numbers of a text, with blanks between them. -/
import Derived.Test.YtbckicdjbgfofaaDoorOwnI
import Derived.Test.YtbckicdjbgfofaaDoorCellStr
import Derived.Laws.RangeAny
import Derived.Laws.RangeString
import Derived.WalkMore
namespace Go.Proofs.YtbckicdjbgfofaaDoor
open Go.RowKit
set_option linter.unusedVariables false
set_option linter.unusedSimpArgs false
set_option maxRecDepth 20000
def numsP : List UInt8 → Nat → Option (List Int)
  | [], n => some [(n : Int)]
  | c :: r, n => if 48 ≤ c.toNat ∧ c.toNat ≤ 57 then (if n * 10 + (c.toNat - 48) ≤ 2000000 then numsP r (n * 10 + (c.toNat - 48)) else none) else if c.toNat = 32 then (numsP r 0).map ((n : Int) :: ·) else none
theorem numsP_digit {c : UInt8} {r : List UInt8} {n d : Nat} (h : c.toNat = 48 + d) (hd : d ≤ 9) (hm : n * 10 + d ≤ 2000000) : numsP (c :: r) n = numsP r (n * 10 + d) := by
  rw [numsP, h, if_pos (by omega), show 48 + d - 48 = d by omega, if_pos hm]
theorem numsP_big {c : UInt8} {r : List UInt8} {n d : Nat} (h : c.toNat = 48 + d) (hd : d ≤ 9) (hm : ¬ n * 10 + d ≤ 2000000) : numsP (c :: r) n = none := by
  rw [numsP, h, if_pos (by omega), show 48 + d - 48 = d by omega, if_neg hm]
theorem numsP_blank {c : UInt8} {r : List UInt8} {n : Nat} (h : c.toNat = 32) : numsP (c :: r) n = (numsP r 0).map ((n : Int) :: ·) := by
  rw [numsP, h, if_neg (by omega), if_pos rfl]
theorem numsP_bad {c : UInt8} {r : List UInt8} {n : Nat} (h : ¬ (48 ≤ c.toNat ∧ c.toNat ≤ 57)) (h2 : c.toNat ≠ 32) : numsP (c :: r) n = none := by
  rw [numsP, if_neg h, if_neg h2]
def numsV (l : List UInt8) : Option (List Int) := numsP l 0
def szOf : Value → Nat
  | .string s => s.size
  | _ => 0
/-- What numbersIn returns. -/
def NumRes (B : Nat) (o : Option (List Int)) (w : World) (e : Ending) (w' : World) : Prop :=
  (match o with
    | some xs => ∃ v, e = .returned (.tuple #[v, .bool true]) ∧ OwnI w' B v xs
    | none => e = .returned (.tuple #[.slice none 0 0, .bool false])) ∧ Below B w w'
theorem drop_cons (s : ByteArray) (pos : Nat) (h : pos < s.size) : s.data.toList.drop pos = s[pos] :: s.data.toList.drop (pos + 1) := by
  have hl : pos < s.data.toList.length := by simpa using h
  rw [List.drop_eq_getElem_cons hl]
  rfl
theorem extract_list (s : ByteArray) (pos : Nat) : (s.extract pos s.size).data.toList = s.data.toList.drop pos := by
  simp
  apply List.take_of_length_le
  simp
set_option maxHeartbeats 8000000 in
theorem numbersIn_any (s : ByteArray) (hs : s.size ≤ 1048576) (w : World) :
    Calls Tryd.prog 12 #[.string s] w (NumRes w.heap.size (numsV s.data.toList) w) := by
  obtain ⟨o, ho⟩ : ∃ o, numsV s.data.toList = o := ⟨_, rfl⟩
  rw [ho]
  have HO := Lib.hid ho; clear ho
  go_enter Tryd.func12, Tryd.ntmps12
  go_wp2
  go_step3
  go_wp2
  go_step3
  go_wp2
  go_loopw [0, 4] (fun tv lv wr => ∃ (t : ByteArray) (pre : List Int), tv = .string t ∧ OwnI wr w.heap.size lv pre ∧ t.size ≤ s.size ∧ pre.length + t.size ≤ s.size ∧ Hid (o = (numsP t.data.toList 0).map (pre ++ ·)) ∧ Below w.heap.size w wr) (fun tv _ _ => szOf tv)
  case atStart =>
    refine ⟨s, [], rfl, OwnI.nil _ _, Nat.le_refl _, by simp, ?_, Below.refl _ _⟩
    unfold Hid
    rw [← HO.out]
    unfold numsV
    simp
  case round =>
    obtain ⟨t, pre, rfl, hown, hts, hpl, hH, hb⟩ := hrel
    have HOWN := Lib.hid hown
    have HB := Lib.hid hb
    clear hown hb
    obtain ⟨W0, rfl⟩ : ∃ W0, W0 = wr := ⟨_, rfl⟩
    go_wp2
    go_hide hQ
    go_loopw [0, 4, 5] (fun tv lv nv wi => ∃ pos n : Nat, pos ≤ t.size ∧ tv = .string t ∧ Hid (OwnI W0 w.heap.size lv pre) ∧ nv = .int .i64 n ∧ wi = W0.iter t pos ∧ n ≤ 2000000 ∧ Hid (numsP t.data.toList 0 = numsP (t.data.toList.drop pos) n)) (fun _ _ _ wi => t.size - wi.iterPos W0.heap.size)
    case atStart => exact ⟨0, 0, Nat.zero_le _, rfl, HOWN, rfl, rfl, by omega, by unfold Hid; rfl⟩
    case round =>
      clear HOWN
      obtain ⟨pos, n, hk, rfl, HOWN, rfl, rfl, hn2, hI⟩ := hrel
      by_cases hp : pos < t.size
      · have hnx : ∀ ty, (Instr.next (.pointer (some ⟨W0.heap.size, 0, none⟩)) true ty).run Tryd.prog (W0.iter t pos) = _ := fun ty => run_next_any W0 t pos ty hp
        have HD := Lib.hid (drop_cons t pos hp)
        by_cases hasc : t[pos].toNat < 128
        · rw [decode_ascii t pos hp hasc] at hnx
          have HI := Lib.hid (show numsP t.data.toList 0 = numsP (t[pos] :: t.data.toList.drop (pos + 1)) n by rw [hI.out, HD.out])
          obtain ⟨c, hc⟩ : ∃ c, t[pos].toNat = c := ⟨_, rfl⟩
          have HC := Lib.hid hc
          rw [hc] at hnx hasc
          clear hc
          by_cases hd : 48 ≤ c ∧ c ≤ 57
          · obtain ⟨hd1, hd2⟩ := hd
            obtain ⟨d, rfl⟩ : ∃ d, c = 48 + d := ⟨c - 48, by omega⟩
            have hd9 : d ≤ 9 := by omega
            have hw1 : IntKind.i32.wrap ((48 + d : Nat) : Int) = ((48 + d : Nat) : Int) := by rw [IntKind.wrap_i32]; omega
            by_cases hm : n * 10 + d ≤ 2000000
            · have HN := Lib.hid (show numsP t.data.toList 0 = numsP (t.data.toList.drop (pos + 1)) (n * 10 + d) from HI.out.trans (numsP_digit HC.out hd9 hm))
              have hm1 : ¬ (2000000 : Int) < (n : Int) * 10 + d := by omega
              go_wp2
              go_roundw
              case rel => exact ⟨pos + 1, n * 10 + d, by omega, rfl, HOWN, by go_num, rfl, hm, HN⟩
              case measure => simp; omega
            · have HN := Lib.hid (show numsP t.data.toList 0 = none from HI.out.trans (numsP_big HC.out hd9 hm))
              have hm1 : (2000000 : Int) < (n : Int) * 10 + d := by omega
              clear hm
              go_wp2
              subst hQ
              go_ret2
              refine ⟨?_, HB.out.alloc HB.out.size _⟩
              rw [hH.out, HN.out]
              rfl
          · by_cases h32 : c = 32
            · subst h32
              have HN := Lib.hid (show numsP t.data.toList 0 = _ from HI.out.trans (numsP_blank HC.out))
              have hl : pre.length < 1073741824 := by omega
              obtain ⟨V, hV⟩ : ∃ V, W0.iter t (pos + 1) = V := ⟨_, rfl⟩
              have hown2 : OwnI (W0.iter t (pos + 1)) w.heap.size _ pre := HOWN.out.alloc _
              have hb2 : Below w.heap.size w (W0.iter t (pos + 1)) := HB.out.alloc HB.out.size _
              rw [hV] at hnx hown2 hb2
              have HB2 := Lib.hid hb2
              have hz : w.heap.size ≤ V.heap.size := hb2.size
              clear hb2
              clear hV
              go_wp2_with (at_builtin; refine wpList_appendI (B := w.heap.size) (l := pre) 36 Tryd.underlying36 rfl _ _ rfl rfl (hown2.alloc _) (n : Int) ⟨V.heap.size, 0, none⟩ 1 rfl (World.news_of_block (cs := #[.int .i64 (n : Int)]) (t := 2) (fr := (0, 0)) (heap_alloc_new V _)) hl (Nat.le_trans hz (by simp)) ?_; intro g cap w3 hown3 hb3 _)
              have hsz : (t.extract (pos + 1) t.size).size = t.size - (pos + 1) := by simp
              subst hQ
              go_wp2
              go_roundw
              case rel =>
                refine ⟨t.extract (pos + 1) t.size, pre ++ [(n : Int)], rfl, by simpa using hown3, by omega, by simp only [List.length_append, List.length_singleton]; omega, ?_, (HB2.out.alloc hz _).trans hb3⟩
                unfold Hid
                rw [hH.out, HN.out, extract_list, Option.map_map]
                congr 1
                funext z
                simp
              case measure =>
                show (t.extract (pos + 1) t.size).size < t.size
                omega
            · have HN := Lib.hid (show numsP t.data.toList 0 = none from HI.out.trans (numsP_bad (by rw [HC.out]; exact hd) (by rw [HC.out]; exact h32)))
              have hc4 : c < 48 ∨ 57 < c := by omega
              have b32 : ((c : Int) == 32) = false := by simp; omega
              rcases hc4 with h | h
              all_goals
                go_wp2
                subst hQ
                go_ret2
                refine ⟨?_, HB.out.alloc HB.out.size _⟩
                rw [hH.out, HN.out]
                rfl
        · have hh := (decode_high t pos hp (by omega)).1
          have HN := Lib.hid (show numsP t.data.toList 0 = none from (hI.out.trans (by rw [HD.out])).trans (numsP_bad (c := t[pos]) (by omega) (by omega)))
          have b32 : (((Utf8.decode t pos).1 : Int) == 32) = false := by simp; omega
          go_wp2
          subst hQ
          go_ret2
          refine ⟨?_, HB.out.alloc HB.out.size _⟩
          rw [hH.out, HN.out]
          rfl
      · have hnx : ∀ ty, (Instr.next (.pointer (some ⟨W0.heap.size, 0, none⟩)) true ty).run Tryd.prog (W0.iter t pos) = _ := fun ty => run_next_end W0 t pos ty hp
        have HN := Lib.hid (show numsP t.data.toList 0 = some [(n : Int)] by rw [hI.out, List.drop_of_length_le (by simp; omega)]; rfl)
        obtain ⟨V, hV⟩ : ∃ V, W0.iter t pos = V := ⟨_, rfl⟩
        have hown2 : OwnI (W0.iter t pos) w.heap.size _ pre := HOWN.out.alloc _
        have hb2 : Below w.heap.size w (W0.iter t pos) := HB.out.alloc HB.out.size _
        rw [hV] at hnx hown2 hb2
        have HB2 := Lib.hid hb2
        have hz : w.heap.size ≤ V.heap.size := hb2.size
        clear hb2
        rw [hV]
        clear hV
        have hl : pre.length < 1073741824 := by omega
        go_wp2
        subst hQ
        go_wp2_with (at_builtin; refine wpList_appendI (B := w.heap.size) (l := pre) 36 Tryd.underlying36 rfl _ _ rfl rfl (hown2.alloc _) (n : Int) ⟨V.heap.size, 0, none⟩ 1 rfl (World.news_of_block (cs := #[.int .i64 (n : Int)]) (t := 2) (fr := (0, 0)) (heap_alloc_new V _)) hl (Nat.le_trans hz (by simp)) ?_; intro g cap w3 hown3 hb3 _)
        go_ret2
        refine ⟨?_, (HB2.out.alloc hz _).trans hb3⟩
        rw [hH.out, HN.out]
        exact ⟨_, rfl, by simpa using hown3⟩
end Go.Proofs.YtbckicdjbgfofaaDoor
