/- impl.haveParitySize, impl.UpdateParity. -/
import Derived.Test.YtpgcmgbflcdjiaaGfRow
import Derived.Test.YtpgcmgbflcdjiaaRevOk
import Derived.Test.YtpgcmgbflcdjiaaSliceCells
namespace Go.Proofs.Ytpgcmgbflcdjiaa
open Go.RowKit
open Gf
set_option linter.unusedVariables false
set_option maxRecDepth 20000
/-- There are blocks, all of one length from 1 to 64. -/
def psB (es : List StringV) : Bool := !es.isEmpty && (allLen (len0 es) es && inB 1 64 (len0 es : Nat))
set_option maxHeartbeats 2000000 in
theorem haveParitySize_any (a : Option Addr) (es : List StringV) (c : Nat) (w : World) (hm : es.length ≤ 1048576) (hs : ∀ e ∈ es, e.f0.size ≤ maxLen) (h : SlS rowString w a es) :
    Calls Try.prog 39 #[.slice a es.length c] w fun x w' => x = .returned (.bool (psB es)) ∧ Below w.heap.size w w' := by
  have EO := Lib.hid (isOneLength_any a es c w hm hs h)
  unfold psB
  cases es with
  | nil =>
    clear EO hs h
    go_enter Try.func39, Try.ntmps39
    go_wp2
    go_ret
    exact ⟨rfl, Below.refl _ _⟩
  | cons e0 es' =>
    obtain ⟨b, off, rfl, hlt, hc⟩ := SlS.at rowString_len h (k := 0) (e := e0) rfl
    have h0 : w.cell? ⟨b, off, none⟩ = some (.string e0.f0) := by
      have := hc 0 _ rfl; simpa using this
    have hl0 : len0 (e0 :: es') = e0.f0.size := rfl
    have hs0 := hs e0 (by simp)
    unfold maxLen at hs0
    have H0 := Lib.hid h0
    have hlen : 0 < (e0 :: es').length := by simp
    have hE : (!(e0 :: es').isEmpty) = true := rfl
    rw [hE]
    generalize (e0 :: es') = ys at *
    rw [hl0] at EO ⊢
    clear hc h hs h0 hl0 hE
    obtain ⟨y, hy⟩ : ∃ y, allLen e0.f0.size ys = y := ⟨_, rfl⟩
    rw [hy] at EO ⊢
    clear hy
    obtain ⟨L, hL⟩ : ∃ L, ys.length = L := ⟨_, rfl⟩
    rw [hL] at EO hlen hm ⊢
    clear hL
    cases y
    · go_enter Try.func39, Try.ntmps39
      go_wp2_with fail
      refine EO.out.mono ?_
      rintro e w1 ⟨rfl, hb1⟩
      go_wp2
      go_ret
      exact ⟨rfl, hb1⟩
    · go_enter Try.func39, Try.ntmps39
      go_wp2_with fail
      refine EO.out.mono ?_
      rintro e w1 ⟨rfl, hb1⟩
      have h1 : w1.cell? ⟨b, off, none⟩ = some (.string e0.f0) := by
        rw [hb1.cell (p := ⟨b, off, none⟩) hlt]; exact H0.out
      go_wp2_with fail
      refine (within_r 1 64 (e0.f0.size : Int) w1 _ _ rfl).mono ?_
      rintro e w2 ⟨rfl, hb2⟩
      go_wp2
      go_ret
      exact ⟨by simp, hb1.trans (hb2.mono hb1.size)⟩
theorem TBk.on {w w' : World} {B b : Nat} {bs : List UInt8} (hb : Below B w w') (hp : b < B) (h : TBk w b bs) : TBk w' b bs := h.below hb hp
theorem gbel {w a b : World} (hb : Below a.heap.size a b) (h : Below w.heap.size w a) : Below w.heap.size w b := h.trans (hb.mono h.size)
def upX (b a : ByteArray) : List UInt8 := xL b.data.toList a.data.toList
def upC (p q : ByteArray) (i : Int) (b a : ByteArray) : Int := if psB [⟨p⟩, ⟨q⟩, ⟨b⟩, ⟨a⟩] then (if inB 0 127 i then 0 else 2) else 1
def upP (p q : ByteArray) (i : Int) (b a : ByteArray) : ByteArray := if upC p q i b a = 0 then ⟨(xL p.data.toList (upX b a)).toArray⟩ else ⟨#[]⟩
def upQ (p q : ByteArray) (i : Int) (b a : ByteArray) : ByteArray := if upC p q i b a = 0 then ⟨(xL q.data.toList (mL (pwV i) (upX b a))).toArray⟩ else ⟨#[]⟩
theorem psB4 {p q b a : ByteArray} (h : psB [⟨p⟩, ⟨q⟩, ⟨b⟩, ⟨a⟩] = true) : 1 ≤ p.size ∧ p.size ≤ 64 ∧ q.size = p.size ∧ b.size = p.size ∧ a.size = p.size := by
  unfold psB allLen len0 at h
  simp [inB] at h
  omega
theorem four_strs (w : World) (p q b a : ByteArray) (T : TypeId) : SlS rowString (w.alloc (.cells #[.string p, .string q, .string b, .string a] T)) (some ⟨w.heap.size, 0, none⟩) [⟨p⟩, ⟨q⟩, ⟨b⟩, ⟨a⟩] := by
  refine .inr ⟨w.heap.size, 0, rfl, by simp, ?_⟩
  intro j v hv
  match j, hv with
  | 0, hv => simp [rowString] at hv; subst hv; simp [go_sem]
  | 1, hv => simp [rowString] at hv; subst hv; simp [go_sem]
  | 2, hv => simp [rowString] at hv; subst hv; simp [go_sem]
  | 3, hv => simp [rowString] at hv; subst hv; simp [go_sem]
  | j + 4, hv => simp [rowString] at hv
set_option maxHeartbeats 4000000 in
theorem updateParity_g (p q : ByteArray) (i : Int) (b a : ByteArray) (hp : p.size ≤ 1048576) (hq : q.size ≤ 1048576) (hb : b.size ≤ 1048576) (ha : a.size ≤ 1048576) (w : World) :
    Calls Try.prog 22 #[.string p, .string q, .int .i64 i, .string b, .string a] w fun e w' => e = .returned (.tuple #[.string (upP p q i b a), .string (upQ p q i b a), .int .i64 (upC p q i b a)]) ∧ Below w.heap.size w w' := by
  have PS := Lib.hid (fun (w : World) T => (haveParitySize_any (some ⟨w.heap.size, 0, none⟩) [⟨p⟩, ⟨q⟩, ⟨b⟩, ⟨a⟩] 4 (w.alloc (.cells #[.string p, .string q, .string b, .string a] T)) (by simp) (by unfold maxLen; simp; omega) (four_strs w p q b a T)))
  have IP := Lib.hid (fun w => isPlace_any i 128 w (by omega) (by omega))
  have FB := Lib.hid (Below.refl w.heap.size w)
  cases hs : psB [⟨p⟩, ⟨q⟩, ⟨b⟩, ⟨a⟩] with
  | false =>
    rw [hs] at PS
    have e : upC p q i b a = 1 := by unfold upC; rw [hs]; rfl
    unfold upP upQ
    rw [e, if_neg (by decide), if_neg (by decide)]
    clear e hs IP
    go_enter Try.func22, Try.ntmps22
    go_wp2_with fail
    refine (PS.out _ _).mono ?_
    rintro e w1 ⟨rfl, hb1⟩
    go_wp2
    go_ret3
    exact ⟨rfl, (FB.out.alloc (Nat.le_refl _) _).trans (hb1.mono (by simp))⟩
  | true =>
    rw [hs] at PS
    obtain ⟨z1, z2, z3, z4, z5⟩ := psB4 hs
    cases hi : inB 0 127 i with
    | false =>
      have hi2 : inB 0 (128 - 1) i = false := hi
      rw [hi2] at IP
      have e : upC p q i b a = 2 := by unfold upC; rw [hs, hi]; rfl
      unfold upP upQ
      rw [e, if_neg (by decide), if_neg (by decide)]
      clear e hs hi hi2
      go_enter Try.func22, Try.ntmps22
      go_wp2_with fail
      refine (PS.out _ _).mono ?_
      rintro e w1 ⟨rfl, hb1⟩
      have FB1 := Lib.hid ((FB.out.alloc (Nat.le_refl _) _).trans (hb1.mono (by simp)))
      clear hb1
      go_wp2_with fail
      refine (IP.out _).mono ?_
      rintro e w2 ⟨rfl, hb2⟩
      go_wp2
      go_ret3
      exact ⟨rfl, FB1.out.trans (hb2.mono FB1.out.size)⟩
    | true =>
      have hi2 : inB 0 (128 - 1) i = true := hi
      rw [hi2] at IP
      have e : upC p q i b a = 0 := by unfold upC; rw [hs, hi]; rfl
      unfold upP upQ
      rw [e, if_pos rfl, if_pos rfl]
      clear e hs hi hi2 hp hq hb ha
      have Z1 := z1
      obtain ⟨n, hn⟩ : ∃ n, p.size = n := ⟨_, rfl⟩
      rw [hn] at z1 z2 z3 z4 z5
      clear Z1
      have HX := Lib.hid (show (upX b a).length = n from xL_len (str_len b n z4) (str_len a n z5))
      have HY := Lib.hid (show xL b.data.toList a.data.toList = upX b a from rfl)
      have C1 := Lib.hid (fun w => sumss_any b a n w z4 z5 z1 z2)
      rw [HY.out] at C1
      generalize upX b a = X at *
      have HM := Lib.hid (mL_len (pwV i) HX.out)
      have hpv := pwV_lt i
      have C2 := Lib.hid (fun g w (t : TBk w g X) => sumsr_any p g n X n w hn HX.out t z1 z2)
      have C3 := Lib.hid (fun g w (t : TBk w g X) => multiple_any g n X n (pwV i) w HX.out t hpv z1 z2)
      have C4 := Lib.hid (fun g w (t : TBk w g (mL (pwV i) X)) => sumsr_any q g n (mL (pwV i) X) n w z3 HM.out t z1 z2)
      have LP := Lib.hid (show (xL p.data.toList X).length = n from xL_len (str_len p n hn) HX.out)
      have LQ := Lib.hid (show (xL q.data.toList (mL (pwV i) X)).length = n from xL_len (str_len q n z3) HM.out)
      have HP := Lib.hid (fun w => gfPow_any i w)
      generalize xL p.data.toList X = PL at *
      generalize xL q.data.toList (mL (pwV i) X) = QL at *
      generalize mL (pwV i) X = ML at *
      generalize pwV i = pv at *
      clear HY hn z3 z4 z5 HX HM
      go_enter Try.func22, Try.ntmps22
      go_wp2_with fail
      refine (PS.out _ _).mono ?_
      rintro e w1 ⟨rfl, hb1⟩
      have FB1 := Lib.hid ((FB.out.alloc (Nat.le_refl _) _).trans (hb1.mono (by simp)))
      clear hb1 FB PS
      go_wp2_with fail
      refine (IP.out _).mono ?_
      rintro e w2 ⟨rfl, hb2⟩
      have FB2 := Lib.hid (FB1.out.trans (hb2.mono FB1.out.size))
      clear hb2 FB1
      go_wp2_with fail
      refine (C1.out _).mono ?_
      rintro e w3 ⟨rfl, ht3, hb3, hs3⟩
      have FB3 := Lib.hid (FB2.out.trans (hb3.mono FB2.out.size))
      have HT3 := Lib.hid ht3
      have hs3h := Lib.hid hs3
      generalize w2.heap.size = g at *
      clear hb3 FB2 ht3
      go_wp2
      go_region_with
        (first
          | (go_at_call 16; refine (HP.out _).mono ?_; rintro e wq ⟨rfl, rfl⟩)
          | (go_at_call 43; (with_reducible refine (C3.out g _ HT4.out).mono ?_); rintro e w5 ⟨rfl, ht5, hb5, hs5⟩; have HT5 := Lib.hid ht5; have HP5 := Lib.hid (TBk.on hb5 hs4 HP4.out); have cvP5 := TBk.conv (b := w3.heap.size) HP5.out n n LP.out; have FB5 := Lib.hid (gbel hb5 FB4.out); have hs45 := hb5.size; clear ht5 hb5)
          | (go_at_call 42; first
              | ((with_reducible refine (C2.out g _ HT3.out.drew).mono ?_); rintro e w4 ⟨rfl, ht4, hb4, hs4⟩; have HP4 := Lib.hid ht4; have HT4 := Lib.hid (TBk.on hb4 hs3 HT3.out.drew); have cvP4 := TBk.conv (b := w3.heap.size) ht4 n n LP.out; have FB4 := Lib.hid (gbel hb4 FB3.out.drew); clear ht4 hb4)
              | ((with_reducible refine (C4.out _ _ HT5.out).mono ?_); rintro e w6 ⟨rfl, ht6, hb6, hs6⟩; have HP6 := Lib.hid (TBk.on hb6 (Nat.lt_of_lt_of_le hs4 hs45) HP5.out); have cvP6 := TBk.conv (b := w3.heap.size) HP6.out n n LP.out; have cvQ6 := TBk.conv (b := w5.heap.size) ht6 n n LQ.out; have FB6 := Lib.hid (gbel hb6 FB5.out); clear ht6 hb6))
          | fail)
      all_goals
        go_wp2
        go_ret3
        exact ⟨rfl, FB6.out⟩
end Go.Proofs.Ytpgcmgbflcdjiaa
