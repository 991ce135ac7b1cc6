/- impl.DataOf, spec.l12Data, spec.DataOf -/
import Derived.Test.YtpcfhfnlpcpofaaDiscValid
import Derived.Test.YtpcfhfnlpcpofaaDiscSpecOk
import Derived.Test.YtpcfhfnlpcpofaaBuilderStr
import Derived.Test.YtpcfhfnlpcpofaaDigitsOf
import Derived.Lib.AppendStr
namespace Go.Proofs.Ytpcfhfnlpcpofaa
open Go.RowKit
set_option linter.unusedVariables false
set_option linter.unusedSimpArgs false
set_option maxRecDepth 20000
/-- The bytes of the first sectors. -/
def dataL (es : List SectorV) : List UInt8 := (es.map (fun e => e.f0.data.toList)).flatten
def dataV (x : DiscV) : ByteArray := if discB x = true then ⟨(dataL x.f4).toArray⟩ else ⟨#[]⟩
theorem dataL_succ {es : List SectorV} {k : Nat} {e : SectorV} (h : es[k]? = some e) : dataL (es.take (k + 1)) = dataL (es.take k) ++ e.f0.data.toList := by
  unfold dataL
  rw [List.take_add_one, h]
  simp
theorem discB_size {x : DiscV} (h : discB x = true) {e : SectorV} (he : e ∈ x.f4) : e.f0.size ≤ 32 := by
  unfold discB at h
  simp only [Bool.and_eq_true, List.all_eq_true] at h
  have h2 := h.2.2 e he
  unfold secOkB at h2
  simp only [Bool.and_eq_true, decide_eq_true_eq] at h2
  have h3 : (secN x.f3).toNat ≤ 32 := by unfold secN; split <;> (try split) <;> omega
  omega
theorem dataL_len {x : DiscV} (h : discB x = true) (k : Nat) : (dataL (x.f4.take k)).length ≤ 32 * k := by
  induction k with
  | zero => simp [dataL]
  | succ k ih =>
    by_cases hk : k < x.f4.length
    · have hx : x.f4[k]? = some x.f4[k] := by simp [hk]
      rw [dataL_succ hx, List.length_append]
      have := discB_size h (List.mem_of_getElem? hx)
      have e : (x.f4[k]).f0.data.toList.length = (x.f4[k]).f0.size := by simp
      omega
    · rw [List.take_of_length_le (by omega)]
      rw [List.take_of_length_le (by omega)] at ih
      omega
set_option maxHeartbeats 8000000 in
theorem dataOf_g (x : DiscV) (a : Option Addr) (c : Nat) (hm : x.f4.length ≤ 1048576) (hs : ∀ e ∈ x.f4, e.f0.size ≤ 1048576) (w : World) (h : SlS rowSector w a x.f4) :
    Calls Try.prog 43 #[.agg #[.int .i64 x.f0, .int .i64 x.f1, .int .i64 x.f2, .int .i64 x.f3, .slice a x.f4.length c]] w fun e w' => e = .returned (.string (dataV x)) ∧ Below w.heap.size w w' := by
  have hs2 : ∀ e ∈ x.f4, e.f0.size ≤ maxLen := fun e he => by have := hs e he; unfold maxLen; omega
  have va := fun w' (hb : Below w.heap.size w w') => validDisc_any x a c w' hm hs2 (h.below hb (Nat.le_refl _))
  unfold dataV
  by_cases hd0 : discB x = true
  case neg =>
    have hdf : discB x = false := by simpa using hd0
    rw [hdf] at va
    rw [if_neg hd0]
    have VA := Lib.hid va
    clear hd0 hdf va h hs hs2
    go_enter Try.func43, Try.ntmps43
    go_wp2_with fail
    refine (VA.out _ (by go_grown)).mono ?_
    rintro e w1 ⟨rfl, hb1⟩
    go_wp2
    go_ret
    exact ⟨rfl, Below.trans (by go_grown) (hb1.mono (by simp))⟩
  have HST := Lib.hid (fun e he => discB_size hd0 (e := e) he)
  have HLN := Lib.hid (fun k => dataL_len hd0 k)
  have hl128 := discB_len hd0
  rw [hd0] at va
  rw [if_pos hd0]
  have VA := Lib.hid va
  clear hd0 va hs hs2
  go_enter Try.func43, Try.ntmps43
  go_wp2_with fail
  refine (VA.out _ (by go_grown)).mono ?_
  rintro e w1 ⟨rfl, hb1⟩
  have q4 : w1.cell? ⟨w.heap.size, 4, none⟩ = some (.slice a x.f4.length c) := by rw [hb1.cell (p := ⟨w.heap.size, 4, none⟩) (by simp)]; simp [go_sem]
  have F1 := Lib.hid (show Below w.heap.size w w1 from Below.trans (by go_grown) (hb1.mono (by simp)))
  have hz1 : w.heap.size < w1.heap.size := by have := hb1.size; simp at this; omega
  clear hb1
  go_wp2
  clear q4
  go_loopw [12] (fun i wr => ∃ k : Nat, k ≤ x.f4.length ∧ i = .int .i64 k ∧ (∃ l : List UInt8, Hid (l = dataL (x.f4.take k)) ∧ Bld w1.heap.size w1.heap.size l wr) ∧ Below w1.heap.size w1 wr) (fun i _ => x.f4.length - (intOf i).toNat)
  case atStart => exact ⟨0, Nat.zero_le _, rfl, ⟨[], by unfold Hid; rfl, Bld.fresh w1⟩, (Below.refl _ _).alloc (Nat.le_refl _) _⟩
  case round =>
    obtain ⟨k, hk, rfl, ⟨l, hL, hB⟩, hbr⟩ := hrel
    have hb := Lib.hid (F1.out.trans (hbr.mono F1.out.size))
    have hsz := hbr.size
    have hll : l.length ≤ 32 * k := by rw [hL.out]; exact HLN.out k
    by_cases hlt : k < x.f4.length
    · obtain ⟨e, hx⟩ : ∃ e, x.f4[k]? = some e := ⟨x.f4[k], by simp [hlt]⟩
      obtain ⟨b, off, rfl, hbl, hc⟩ := (h.below hb.out (Nat.le_refl _)).at rowSector_len hx
      have c0 : wr.cell? ⟨b, off + k * 2, none⟩ = some (.string e.f0) := hc 0 _ rfl
      have c1 : wr.cell? ⟨b, off + k * 2 + 1, none⟩ = some (.int .i64 e.f1) := hc 1 _ rfl
      have hsz2 := HST.out e (List.mem_of_getElem? hx)
      have HX := Lib.hid (And.intro hx (And.intro h hc)); clear hx h hc
      have WS := Lib.hid (fun W (hW : Below wr.heap.size wr W) => writeString_any w1.heap.size w1.heap.size l e.f0 W (hB.same (fun j hj hjl => hW.block j hjl)) (by omega) (Nat.le_trans hsz hW.size))
      have HBr := Lib.hid hbr; clear hbr
      go_wp2_with fail
      refine (WS.out _ (by go_grown)).mono ?_
      rintro e_ w2 ⟨rfl, hB2, hb2⟩
      have F2 := Lib.hid (show Below w1.heap.size w1 w2 from HBr.out.trans (Below.trans (show Below w1.heap.size wr _ from by have := hsz; first | exact (Below.refl _ _).alloc this _ | go_grown) hb2))
      have HB2 := Lib.hid hB2
      clear c0 c1 hb2 hB2
      go_wp2
      go_roundw
      case rel => exact ⟨k + 1, by omega, by go_num, ⟨_, by unfold Hid; rw [dataL_succ HX.out.1, ← hL.out], HB2.out⟩, F2.out⟩
      case measure => simp [intOf]; omega
    · obtain rfl : k = x.f4.length := by omega
      have HE := Lib.hid (show dataL x.f4 = l by rw [hL.out, List.take_length])
      have HBr := Lib.hid hbr; clear hbr
      go_wp2_with fail
      refine (Try.Builder_String_any w1.heap.size w1.heap.size l _ hB hsz).mono ?_
      rintro e w2 ⟨rfl, hb2⟩
      go_wp2
      go_ret
      exact ⟨by rw [HE.out]; rfl, F1.out.trans ((HBr.out.trans hb2).mono F1.out.size)⟩
theorem OwnB.snocS {w : World} {B : Nat} {v : Value} {l : List UInt8} {t : ByteArray} (h : w.ownsRow B 5 1 v (l.length + t.size) (Lib.byteCells l ++ Lib.strCells t)) : OwnB w B v (l ++ t.data.toList) := by
  unfold OwnB
  have e1 : Lib.byteCells (l ++ t.data.toList) = Lib.byteCells l ++ Lib.strCells t := by rw [Lib.byteCells_append]; rfl
  have e2 : (l ++ t.data.toList).length = l.length + t.size := by rw [List.length_append]; simp
  rw [e1, e2]
  exact h
set_option maxHeartbeats 8000000 in
theorem l12Data_any (x : DiscV) (a : Option Addr) (c p : Nat) (hd0 : discB x = true) (w : World) (hp : BoxAt w p #[.int .i64 x.f0, .int .i64 x.f1, .int .i64 x.f2, .int .i64 x.f3, .slice a x.f4.length c]) (h : SlS rowSector w a x.f4) :
    Calls Try.prog 86 #[.pointer (some ⟨p, 0, none⟩)] w fun e w' => e = .returned (.string ⟨(dataL x.f4).toArray⟩) ∧ Below w.heap.size w w' := by
  obtain ⟨i0, hi, hz0, hz1, hz2⟩ := info_parts u8info
  have HST := Lib.hid (fun e he => discB_size hd0 (e := e) he)
  have HLN := Lib.hid (fun k => dataL_len hd0 k)
  have hl128 := discB_len hd0
  have hplt := hp.lt (by simp)
  have HP := Lib.hid hp
  clear hd0 hp
  have HI := Lib.hid (And.intro hi (And.intro hz0 (And.intro hz1 hz2))); clear hi hz0 hz1 hz2
  go_enter Try.func86, Try.ntmps86
  go_wp2
  go_loopw [3, 4] (fun v i wr => ∃ k : Nat, k ≤ x.f4.length ∧ i = .int .i64 k ∧ (∃ l : List UInt8, Hid (l = dataL (x.f4.take k)) ∧ OwnB wr w.heap.size v l) ∧ Below w.heap.size w wr) (fun _ i _ => x.f4.length - (intOf i).toNat)
  case atStart => exact ⟨0, Nat.zero_le _, rfl, ⟨[], by unfold Hid; rfl, OwnB.nil w _ (Nat.le_refl _)⟩, (Below.refl _ _).alloc (Nat.le_refl _) _⟩
  case round =>
    obtain ⟨k, hk, rfl, ⟨l, hL, hB⟩, hb⟩ := hrel
    have q4 := (HP.out.below hb hplt) 4 _ rfl
    have hll : l.length ≤ 32 * k := by rw [hL.out]; exact HLN.out k
    by_cases hlt : k < x.f4.length
    · obtain ⟨e, hx⟩ : ∃ e, x.f4[k]? = some e := ⟨x.f4[k], by simp [hlt]⟩
      obtain ⟨b, off, rfl, hbl, hc⟩ := (h.below hb (Nat.le_refl _)).at rowSector_len hx
      have c0 : wr.cell? ⟨b, off + k * 2, none⟩ = some (.string e.f0) := hc 0 _ rfl
      have hsz2 := HST.out e (List.mem_of_getElem? hx)
      have HX := Lib.hid (And.intro hx (And.intro h hc)); clear hx h hc
      have e1 : (k : Int) < x.f4.length := by omega
      have how := hB
      unfold OwnB at how
      have HB := Lib.hid hB; clear hB
      go_wp2_with (at_builtin; refine Lib.wpList_append_own_string _ rfl _ _ 103 9 rfl w.heap.size 5 i0 Try.underlying103 Try.underlying9 HI.out.1 HI.out.2.1 HI.out.2.2.1 HI.out.2.2.2 _ _ _ rfl how e.f0 rfl ?c3 ?c4 ?c5 ?_)
      case c3 => unfold maxLen; omega
      case c4 => omega
      case c5 => exact hb.size
      intro v' w2 hown' hgrow _
      have hb2 : Below w.heap.size w w2 := hb.grown hgrow hb.size (fun j hj => (how.lt j hj).1)
      have HO := Lib.hid (And.intro (OwnB.snocS hown') hb2)
      clear hown' hgrow hb2 how c0 q4
      go_wp2
      go_roundw
      case rel => exact ⟨k + 1, by omega, by go_num, ⟨_, by unfold Hid; rw [dataL_succ HX.out.1, ← hL.out], HO.out.1⟩, HO.out.2⟩
      case measure => simp [intOf]; omega
    · obtain rfl : k = x.f4.length := by omega
      have HE := Lib.hid (show dataL x.f4 = l by rw [hL.out, List.take_length])
      have hcv := conv_own hB
      go_wp2
      go_ret
      exact ⟨by rw [HE.out]; rfl, hb⟩
set_option maxHeartbeats 8000000 in
theorem specDataOf_g (x : DiscV) (a : Option Addr) (c : Nat) (hm : x.f4.length ≤ 1048576) (hs : ∀ e ∈ x.f4, e.f0.size ≤ 1048576) (w : World) (h : SlS rowSector w a x.f4) :
    Calls Try.prog 42 #[.agg #[.int .i64 x.f0, .int .i64 x.f1, .int .i64 x.f2, .int .i64 x.f3, .slice a x.f4.length c]] w fun e w' => e = .returned (.string (dataV x)) ∧ Below w.heap.size w w' := by
  have hs2 : ∀ e ∈ x.f4, e.f0.size ≤ maxLen := fun e he => by have := hs e he; unfold maxLen; omega
  have va := fun w' (hb : Below w.heap.size w w') hp => l12Ok_any x a c w.heap.size w' hm hs2 hp (h.below hb (Nat.le_refl _))
  have BX := Lib.hid (BoxAt.new w #[.int .i64 x.f0, .int .i64 x.f1, .int .i64 x.f2, .int .i64 x.f3, .slice a x.f4.length c] 29 _ rfl)
  unfold dataV
  by_cases hd0 : discB x = true
  case neg =>
    have hdf : discB x = false := by simpa using hd0
    rw [hdf] at va
    rw [if_neg hd0]
    have VA := Lib.hid va
    clear hd0 hdf va h hs hs2
    go_enter Try.func42, Try.ntmps42
    go_wp2_with fail
    refine (VA.out _ ((Below.refl _ _).alloc (Nat.le_refl _) _) BX.out).mono ?_
    rintro e w1 ⟨rfl, hb1⟩
    go_wp2
    go_ret
    exact ⟨rfl, Below.trans ((Below.refl _ _).alloc (Nat.le_refl _) _) (hb1.mono (by simp))⟩
  have DA := Lib.hid (fun w' (hb : Below w.heap.size w w') hp => l12Data_any x a c w.heap.size hd0 w' hp (h.below hb (Nat.le_refl _)))
  rw [hd0] at va
  rw [if_pos hd0]
  have VA := Lib.hid va
  clear hd0 va hs hs2 h
  go_enter Try.func42, Try.ntmps42
  go_wp2_with fail
  refine (VA.out _ ((Below.refl _ _).alloc (Nat.le_refl _) _) BX.out).mono ?_
  rintro e w1 ⟨rfl, hb1⟩
  have F1 := Lib.hid (show Below w.heap.size w w1 from Below.trans ((Below.refl _ _).alloc (Nat.le_refl _) _) (hb1.mono (by simp)))
  replace BX := Lib.hid (BX.out.below hb1 (by simp))
  clear hb1
  go_wp2_with fail
  refine (DA.out _ F1.out BX.out).mono ?_
  rintro e w2 ⟨rfl, hb2⟩
  go_wp2
  go_ret
  exact ⟨rfl, F1.out.trans (hb2.mono F1.out.size)⟩
end Go.Proofs.Ytpcfhfnlpcpofaa
