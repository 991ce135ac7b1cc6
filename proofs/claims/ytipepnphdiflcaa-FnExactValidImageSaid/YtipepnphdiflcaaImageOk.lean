/- impl.ValidImage, spec.ValidImage -/
import Derived.Test.YtipepnphdiflcaaNoteEv
import Derived.Test.YtipepnphdiflcaaNoteSp
import Derived.Test.YtipepnphdiflcaaNestImage
import Derived.Test.YtipepnphdiflcaaDiscValid
import Derived.Test.YtipepnphdiflcaaDiscSpecOk
namespace Go.Proofs.Ytipepnphdiflcaa
open Go.RowKit Go.ChangeShapes Go.WideShapes Go.ChangeAt Go.Joins Go.Deep
set_option linter.unusedVariables false
set_option linter.unusedSimpArgs false
set_option maxRecDepth 20000
def imageB (x : DiscV) (es : List StringV) : Bool := discB x && (decide (es.length ≤ 8) && es.all noteE)
set_option maxHeartbeats 1000000 in
theorem validImage0_any (x : DiscV) (a : Option Addr) (c : Nat) (es : List StringV) (b : Option Addr) (c2 : Nat) (w : World) (hm : x.f4.length ≤ 1048576) (hs : ∀ e ∈ x.f4, e.f0.size ≤ maxLen) (h : SlS rowSector w a x.f4) (hm2 : es.length ≤ 1048576) (hs2 : ∀ e ∈ es, e.f0.size ≤ maxLen) (h2 : SlS rowString w b es) :
    Calls Try.prog 60 #[.agg #[.int .i64 x.f0, .int .i64 x.f1, .int .i64 x.f2, .int .i64 x.f3, .slice a x.f4.length c, .slice b es.length c2]] w fun e w' => e = .returned (.bool (imageB x es)) ∧ Below w.heap.size w w' := by
  have hd := fun w' (hb : Below w.heap.size w w') => validDisc_any x a c w' hm hs (h.below hb (Nat.le_refl _))
  have hn := fun w' (hb : Below w.heap.size w w') => everyNote_any b es c2 w' hm2 hs2 (h2.below hb (Nat.le_refl _))
  unfold imageB
  generalize discB x = q at *
  generalize es.all noteE = r at *
  have HD := Lib.hid hd; have HN := Lib.hid hn; clear hd hn h h2 hs hs2
  cases q with
  | false =>
    go_enter Try.func60, Try.ntmps60
    go_wp2_with fail
    refine (HD.out _ (by go_grown)).mono ?_
    rintro e w1 ⟨rfl, hb1⟩
    go_wp2
    go_ret
    exact ⟨rfl, Below.trans (by go_grown) (hb1.mono (by simp))⟩
  | true =>
    by_cases h8 : es.length ≤ 8
    case neg =>
      have h9 : ¬ ((es.length : Int) ≤ 8) := by omega
      rw [decide_eq_false h8]
      go_enter Try.func60, Try.ntmps60
      go_wp2_with fail
      refine (HD.out _ (by go_grown)).mono ?_
      rintro e w1 ⟨rfl, hb1⟩
      have q5 : w1.cell? ⟨w.heap.size, 5, none⟩ = some (.slice b es.length c2) := by rw [hb1.cell (p := ⟨w.heap.size, 5, none⟩) (by simp)]; simp [go_sem]
      have FB := Lib.hid (show Below w.heap.size w w1 from Below.trans (by go_grown) (hb1.mono (by simp))); clear hb1
      go_wp2
      go_ret
      exact ⟨rfl, FB.out⟩
    case pos =>
      have h9 : (es.length : Int) ≤ 8 := by omega
      rw [decide_eq_true h8]
      go_enter Try.func60, Try.ntmps60
      go_wp2_with fail
      refine (HD.out _ (by go_grown)).mono ?_
      rintro e w1 ⟨rfl, hb1⟩
      have q5 : w1.cell? ⟨w.heap.size, 5, none⟩ = some (.slice b es.length c2) := by rw [hb1.cell (p := ⟨w.heap.size, 5, none⟩) (by simp)]; simp [go_sem]
      have FB := Lib.hid (show Below w.heap.size w w1 from Below.trans (by go_grown) (hb1.mono (by simp))); clear hb1
      go_wp2_with fail
      refine (HN.out _ FB.out).mono ?_
      rintro e w2 ⟨rfl, hb2⟩
      have FB2 := Lib.hid (FB.out.trans (hb2.mono FB.out.size)); clear hb2
      go_wp2
      go_ret
      exact ⟨by simp, FB2.out⟩
theorem validImage_any (x : ImageV) (s0 s1 : Option Addr) (c0 c1 : Nat) (hL : LenImage 1048576 x) (hV : StrImage 1048576 x) (w : World) (h : SlImage w s0 s1 x) :
    Calls Try.prog 60 #[.agg #[.int .i64 x.f0.f0, .int .i64 x.f0.f1, .int .i64 x.f0.f2, .int .i64 x.f0.f3, .slice s0 x.f0.f4.length c0, .slice s1 x.f1.length c1]] w fun e w' => e = .returned (.bool (imageB x.f0 x.f1)) ∧ Below w.heap.size w w' :=
  validImage0_any x.f0 s0 c0 x.f1 s1 c1 w hL.1 (fun e he => by have := hV.1 e he; unfold maxLen; omega) h.1 hL.2 (fun e he => by have := hV.2 e he; unfold maxLen; omega) h.2
set_option maxHeartbeats 4000000 in
theorem l13Ok_any (x : ImageV) (s0 s1 : Option Addr) (c0 c1 p : Nat) (hL : LenImage 1048576 x) (hV : StrImage 1048576 x) (w : World) (hp : BoxAt w p #[.int .i64 x.f0.f0, .int .i64 x.f0.f1, .int .i64 x.f0.f2, .int .i64 x.f0.f3, .slice s0 x.f0.f4.length c0, .slice s1 x.f1.length c1]) (h : SlImage w s0 s1 x) :
    Calls Try.prog 107 #[.pointer (some ⟨p, 0, none⟩)] w fun e w' => e = .returned (.bool (imageB x.f0 x.f1)) ∧ Below w.heap.size w w' := by
  have hplt := hp.lt (by simp)
  have hq4 : BoxAt w p #[.int .i64 x.f0.f0, .int .i64 x.f0.f1, .int .i64 x.f0.f2, .int .i64 x.f0.f3, .slice s0 x.f0.f4.length c0] := by
    intro i v hv
    match i, hv with
    | 0, hv => exact hp 0 v hv
    | 1, hv => exact hp 1 v hv
    | 2, hv => exact hp 2 v hv
    | 3, hv => exact hp 3 v hv
    | 4, hv => exact hp 4 v hv
    | n + 5, hv => simp at hv
  have OK := Lib.hid (l12Ok_any x.f0 s0 c0 p w hL.1 (fun e he => by have := hV.1 e he; unfold maxLen; omega) hq4 h.1)
  have P5 := hp 5 _ rfl
  have hm := hL.2
  have HS := Lib.hid hV.2
  have HN := Lib.hid h.2
  unfold imageB
  clear h hV hL hp hq4
  go_enter Try.func107, Try.ntmps107
  go_wp2
  go_loopw [3] (fun i wr => ∃ k : Nat, k ≤ x.f1.length ∧ i = .int .i64 (k : Int) ∧ Hid ((x.f1.take k).all noteE = true) ∧ wr = w) (fun i _ => x.f1.length - (intOf i).toNat)
  case atStart => exact ⟨0, Nat.zero_le _, rfl, Lib.hid rfl, rfl⟩
  case round =>
    obtain ⟨k, hk, rfl, ha, rfl⟩ := hrel
    by_cases hlt : k < x.f1.length
    · obtain ⟨e, hx⟩ : ∃ e, x.f1[k]? = some e := ⟨x.f1[k], by simp [hlt]⟩
      obtain ⟨b, off, rfl, hbl, hc⟩ := HN.out.at rowString_len hx
      have c0 : wr.cell? ⟨b, off + k * 1, none⟩ = some (.string e.f0) := hc 0 _ rfl
      rw [Nat.mul_one] at c0
      have hse := HS.out e (List.mem_of_getElem? hx)
      have NO := Lib.hid (fun w => specNote_any e.f0 w (by unfold maxLen; omega))
      have HX := Lib.hid hx
      obtain ⟨q, hq⟩ : ∃ q, noteB e.f0 = q := ⟨_, rfl⟩
      rw [hq] at NO
      have HQ := Lib.hid (show noteE e = q from hq)
      clear hx hc hq hse
      cases q with
      | false =>
        have HF := Lib.hid (show x.f1.all noteE = false from List.all_eq_false.2 ⟨e, List.mem_of_getElem? HX.out, by rw [HQ.out]; simp⟩)
        go_wp2_with fail
        refine (NO.out _).mono ?_
        rintro e_ _ ⟨rfl, rfl⟩
        go_wp2
        go_ret
        exact ⟨ret_bool (by rw [HF.out]; simp), Below.refl _ _⟩
      | true =>
        go_wp2_with fail
        refine (NO.out _).mono ?_
        rintro e_ _ ⟨rfl, rfl⟩
        go_wp2
        go_roundw
        case rel => exact ⟨k + 1, by omega, by go_num, Lib.hid (by rw [List.take_add_one, HX.out, List.all_append, ha.out]; simp [HQ.out]), by first | rfl | trivial⟩
        case measure => simp [intOf]; omega
    · obtain rfl : k = x.f1.length := by omega
      have HF := Lib.hid (show x.f1.all noteE = true by have := ha.out; rwa [List.take_length] at this)
      obtain ⟨q, hq⟩ : ∃ q, discB x.f0 = q := ⟨_, rfl⟩
      rw [hq] at OK
      have HR := Lib.hid (show (discB x.f0 && (decide (x.f1.length ≤ 8) && x.f1.all noteE)) = (q && decide (x.f1.length ≤ 8)) by rw [HF.out, hq, Bool.and_true])
      clear hq
      cases q with
      | false =>
        go_wp2_with fail
        refine OK.out.mono ?_
        rintro e w1 ⟨rfl, hb1⟩
        go_wp2
        go_ret
        exact ⟨ret_bool (by rw [HR.out]; rfl), hb1⟩
      | true =>
        go_wp2_with fail
        refine OK.out.mono ?_
        rintro e w1 ⟨rfl, hb1⟩
        have q5 := (hb1.cell (p := ⟨p, 5, none⟩) hplt).trans P5
        go_wp2
        go_ret
        refine ⟨ret_bool ?_, hb1⟩
        rw [HR.out, Bool.true_and]
        apply decide_eq_decide.2
        omega
set_option maxHeartbeats 1000000 in
theorem specValidImage_any (x : ImageV) (s0 s1 : Option Addr) (c0 c1 : Nat) (hL : LenImage 1048576 x) (hV : StrImage 1048576 x) (w : World) (h : SlImage w s0 s1 x) :
    Calls Try.prog 58 #[.agg #[.int .i64 x.f0.f0, .int .i64 x.f0.f1, .int .i64 x.f0.f2, .int .i64 x.f0.f3, .slice s0 x.f0.f4.length c0, .slice s1 x.f1.length c1]] w fun e w' => e = .returned (.bool (imageB x.f0 x.f1)) ∧ Below w.heap.size w w' := by
  have OK := Lib.hid (fun w' p (hb : Below w.heap.size w w') hp => l13Ok_any x s0 s1 c0 c1 p hL hV w' hp (h.below hb (Nat.le_refl _)))
  clear h hV hL
  go_enter Try.func58, Try.ntmps58
  go_wp2_with fail
  refine (OK.out _ _ (by go_grown) (BoxAt.new w _ 78 _ rfl)).mono ?_
  rintro e w1 ⟨rfl, hb1⟩
  go_wp2
  go_ret
  exact ⟨rfl, Below.trans (by go_grown) (hb1.mono (by simp))⟩
end Go.Proofs.Ytipepnphdiflcaa
