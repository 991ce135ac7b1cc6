/- The text of a list of files: impl.FilesText, spec.l22Text, spec.FilesText -/
import Derived.Test.YtlgpkmgfcnhigaaFilesOk
import Derived.Test.YtlgpkmgfcnhigaaSpecDigits
import Derived.Test.YtlgpkmgfcnhigaaBuilderStr
import Derived.Test.YtlgpkmgfcnhigaaBoxes
import Derived.Lib.OthersKept
namespace Go.Proofs.Ytlgpkmgfcnhigaa
open Go.RowKit Go.ChangeShapes Go.WideShapes Go.ChangeAt Go.Joins Go.Deep
set_option linter.unusedVariables false
set_option linter.unusedSimpArgs false
set_option maxRecDepth 20000
def hexL (s : ByteArray) : ByteArray := ⟨(digits4 s.data.toList).toArray⟩
def dashT (s : ByteArray) : ByteArray := if s.size = 0 then ⟨#[45]⟩ else hexL s
def pieceT (e : FileV) : ByteArray := e.f0 ++ ⟨#[32]⟩ ++ dashT e.f1 ++ ⟨#[10]⟩
def ftK (es : List FileV) : Nat → List UInt8
  | 0 => []
  | k + 1 => match es[k]? with
    | none => ftK es k
    | some e => ftK es k ++ (pieceT e).data.toList
def filesT (es : List FileV) : ByteArray := if filesB es = true then ⟨(ftK es es.length).toArray⟩ else ⟨#[]⟩
theorem hexL_size (s : ByteArray) : (hexL s).size = 2 * s.size := by
  show (digits4 s.data.toList).toArray.size = _
  rw [List.size_toArray, digits4_length]
  simp
theorem hexL_emp {s : ByteArray} (h : s.size = 0) : hexL s = ⟨#[]⟩ := by
  have : (hexL s).size = 0 := by rw [hexL_size]; omega
  exact ByteArray.ext (Array.eq_empty_of_size_eq_zero this)
theorem hexL_ne {s : ByteArray} (h : ¬ s.size = 0) : (hexL s).toList.isEmpty = false ∧ ¬ (hexL s).toList = [] := by
  have h2 : (hexL s).toList.length = 2 * s.size := by rw [ByteArray.toList_eq, Array.length_toList]; exact hexL_size s
  constructor
  · cases hh : (hexL s).toList with
    | nil => rw [hh] at h2; simp at h2; omega
    | cons => rfl
  · intro hh; rw [hh] at h2; simp at h2; omega
theorem dashT_emp {s : ByteArray} (h : s.size = 0) : dashT s = ⟨#[45]⟩ := by unfold dashT; rw [if_pos h]
theorem dashT_ne {s : ByteArray} (h : ¬ s.size = 0) : dashT s = hexL s := by unfold dashT; rw [if_neg h]
theorem dashT_size (s : ByteArray) : (dashT s).size ≤ 2 * s.size + 1 := by
  unfold dashT
  split
  · show 1 ≤ _; omega
  · rw [hexL_size]; omega
theorem pieceT_size (e : FileV) : (pieceT e).size ≤ e.f0.size + 2 * e.f1.size + 3 := by
  have h := dashT_size e.f1
  have e32 : (⟨#[32]⟩ : ByteArray).size = 1 := rfl
  have e10 : (⟨#[10]⟩ : ByteArray).size = 1 := rfl
  unfold pieceT
  repeat rw [ByteArray.size_append]
  rw [e32, e10]
  omega
theorem ftK_succ {es : List FileV} {k : Nat} {e : FileV} (h : es[k]? = some e) : ftK es (k + 1) = ftK es k ++ (pieceT e).data.toList := by
  show (match es[k]? with | none => _ | some e => _) = _
  rw [h]
theorem filesB_bds {es : List FileV} (h : filesB es = true) : es.length ≤ 16 ∧ ∀ e ∈ es, e.f0.size ≤ 8 ∧ e.f1.size ≤ 512 := by
  unfold filesB at h
  simp only [Bool.and_eq_true, decide_eq_true_eq] at h
  refine ⟨h.1, fun e he => ?_⟩
  have h2 := List.all_eq_true.1 h.2.1 e he
  unfold fileE at h2
  simp only [Bool.and_eq_true, decide_eq_true_eq] at h2
  refine ⟨?_, h2.2⟩
  have h3 := h2.1
  unfold nameB at h3
  simp only [Bool.and_eq_true] at h3
  have := inB_iff.1 h3.2
  omega
theorem ftK_len {es : List FileV} (h : ∀ e ∈ es, e.f0.size ≤ 8 ∧ e.f1.size ≤ 512) : ∀ k, k ≤ es.length → (ftK es k).length ≤ k * 1035
  | 0, _ => Nat.zero_le _
  | k + 1, hk => by
    have hx : es[k]? = some es[k] := by simp
    rw [ftK_succ hx, List.length_append]
    have h1 := ftK_len h k (by omega)
    have h2 := h es[k] (List.getElem_mem _)
    have h3 := pieceT_size es[k]
    have h4 : (pieceT es[k]).data.toList.length = (pieceT es[k]).size := by simp
    omega
theorem ft_app (l : List UInt8) (p : ByteArray) : (⟨l.toArray⟩ : ByteArray) ++ p = ⟨(l ++ p.data.toList).toArray⟩ := by
  apply ByteArray.ext
  rw [ByteArray.data_append]
  apply Array.toList_inj.1
  simp
set_option maxHeartbeats 4000000 in
theorem filesText_any (a : Option Addr) (c : Nat) (es : List FileV) (hm : es.length ≤ 1048576) (hs : ∀ e ∈ es, e.f0.size ≤ 1048576 ∧ e.f1.size ≤ 1048576) (w : World) (h : SlS rowFile w a es) :
    Calls Try.prog 15 #[.slice a es.length c] w fun e w' => e = .returned (.string (filesT es)) ∧ Below w.heap.size w w' := by
  have VF := Lib.hid (validFiles_any a c es hm hs w h)
  unfold filesT
  by_cases hv : filesB es = true
  case neg =>
    rw [if_neg hv]
    have hv0 : filesB es = false := by simpa using hv
    rw [hv0] at VF
    clear hv hv0 h
    go_enter Try.func15, Try.ntmps15
    go_wp2_with fail
    refine VF.out.mono ?_
    rintro e w1 ⟨rfl, hb1⟩
    go_wp2
    go_ret
    exact ⟨rfl, hb1⟩
  case pos =>
    rw [if_pos hv]
    rw [hv] at VF
    obtain ⟨hl16, hbd⟩ := filesB_bds hv
    have FL := Lib.hid (ftK_len hbd)
    have HBD := Lib.hid hbd
    clear hv hbd hs
    go_enter Try.func15, Try.ntmps15
    go_wp2_with fail
    refine VF.out.mono ?_
    rintro e w1 ⟨rfl, hb1⟩
    have hz1 := hb1.size
    have FB1 := Lib.hid hb1; clear hb1
    go_wp2
    go_loopw [12] (fun i wr => ∃ k : Nat, k ≤ es.length ∧ i = .int .i64 k ∧ Bld w1.heap.size w1.heap.size (ftK es k) wr ∧ Below w1.heap.size w1 wr) (fun i _ => es.length - (intOf i).toNat)
    case atStart => exact ⟨0, Nat.zero_le _, rfl, Bld.fresh w1, (Below.refl _ _).alloc (Nat.le_refl _) _⟩
    case round =>
      obtain ⟨k, hk, rfl, hB, hb⟩ := hrel
      have hsz := hb.size
      by_cases hlt : k < es.length
      · obtain ⟨e, hx⟩ : ∃ e, es[k]? = some e := ⟨es[k], by simp [hlt]⟩
        obtain ⟨b, off, rfl, hbl, hc⟩ := (h.below (FB1.out.trans (hb.mono hz1)) (Nat.le_refl _)).at rowFile_len hx
        have c0 : wr.cell? ⟨b, off + k * 2, none⟩ = some (.string e.f0) := hc 0 _ rfl
        have c1 : wr.cell? ⟨b, off + k * 2 + 1, none⟩ = some (.string e.f1) := hc 1 _ rfl
        have hse := HBD.out e (List.mem_of_getElem? hx)
        have hpl := FL.out k hk
        have HPS := Lib.hid (pieceT_size e)
        have HS := Lib.hid (ftK_succ hx)
        have BX := Lib.hid (BoxAt.new wr #[.string e.f0, .string e.f1] 46 _ rfl)
        have hl0 : (ftK es k).length < 100000 := by omega
        generalize ftK es k = l at hB hl0 HS
        clear hpl
        have H := Lib.hid (And.intro h (And.intro hc hx)); clear h hc hx
        have e1 : (k : Int) < es.length := by omega
        have HX := Lib.hid (fun W => hexText_any e.f1 W (by omega))
        rw [hexTextS_ok (by omega)] at HX
        change Hid (∀ W, Calls Try.prog 36 #[.string e.f1] W fun e_ w' => e_ = .returned (.string (hexL e.f1)) ∧ Below W.heap.size W w') at HX
        by_cases he : e.f1.size = 0
        · have HD := Lib.hid (show pieceT e = e.f0 ++ ⟨#[32]⟩ ++ ⟨#[45]⟩ ++ ⟨#[10]⟩ by unfold pieceT; rw [dashT_emp he])
          rw [hexL_emp he] at HX
          go_wp2_with fail
          refine (HX.out _).mono ?_
          rintro e_ w2 ⟨rfl, hb2⟩
          have q0 := (BX.out.below hb2 (by simp)) 0 _ rfl
          have F2 := Lib.hid (show Below wr.heap.size wr w2 from Below.trans (by go_grown) (hb2.mono (by simp)))
          have hz2 := F2.out.size
          have hB2 := hB.same (fun j _ hj => F2.out.block j hj)
          clear hb2 c0 c1 BX
          have g1 : (9223372036854775807 < e.f0.size + 1) = False := by simp; omega
          have g2 : (9223372036854775807 < e.f0.size + 1 + 1) = False := by simp; omega
          have g3 : (9223372036854775807 < e.f0.size + 1 + 1 + 1) = False := by simp; omega
          go_wp2_with fail
          refine (writeString_any w1.heap.size w1.heap.size l _ w2 hB2 (by rw [ByteArray.size_append, ByteArray.size_append, ByteArray.size_append]; have z1 : (⟨#[32]⟩ : ByteArray).size = 1 := rfl; have z2 : (⟨#[45]⟩ : ByteArray).size = 1 := rfl; have z3 : (⟨#[10]⟩ : ByteArray).size = 1 := rfl; omega) (by omega)).mono ?_
          rintro e_ w3 ⟨rfl, hB3, hb3⟩
          go_wp2
          go_roundw
          case rel =>
            refine ⟨k + 1, by omega, by go_num, ?_, (hb.trans (F2.out.mono (by omega))).trans hb3⟩
            rw [HS.out, HD.out]; exact hB3
          case measure => simp [intOf]; omega
        · have HD := Lib.hid (show pieceT e = e.f0 ++ ⟨#[32]⟩ ++ hexL e.f1 ++ ⟨#[10]⟩ by unfold pieceT; rw [dashT_ne he])
          obtain ⟨n1, n2⟩ := hexL_ne he
          have hzx := hexL_size e.f1
          generalize hexL e.f1 = hx at *
          have hzx1 : hx.size ≤ 1024 := by omega
          clear hzx
          go_wp2_with fail
          refine (HX.out _).mono ?_
          rintro e_ w2 ⟨rfl, hb2⟩
          have q0 := (BX.out.below hb2 (by simp)) 0 _ rfl
          have F2 := Lib.hid (show Below wr.heap.size wr w2 from Below.trans (by go_grown) (hb2.mono (by simp)))
          have hz2 := F2.out.size
          have hB2 := hB.same (fun j _ hj => F2.out.block j hj)
          clear hb2 c0 c1 BX
          have g1 : (9223372036854775807 < e.f0.size + 1) = False := by simp; omega
          have g2 : (9223372036854775807 < e.f0.size + 1 + hx.size) = False := by simp; omega
          have g3 : (9223372036854775807 < e.f0.size + 1 + hx.size + 1) = False := by simp; omega
          go_wp2_with fail
          refine (writeString_any w1.heap.size w1.heap.size l _ w2 hB2 (by rw [ByteArray.size_append, ByteArray.size_append, ByteArray.size_append]; have z1 : (⟨#[32]⟩ : ByteArray).size = 1 := rfl; have z2 : (⟨#[45]⟩ : ByteArray).size = 1 := rfl; have z3 : (⟨#[10]⟩ : ByteArray).size = 1 := rfl; omega) (by omega)).mono ?_
          rintro e_ w3 ⟨rfl, hB3, hb3⟩
          go_wp2
          go_roundw
          case rel =>
            refine ⟨k + 1, by omega, by go_num, ?_, (hb.trans (F2.out.mono (by omega))).trans hb3⟩
            rw [HS.out, HD.out]; exact hB3
          case measure => simp [intOf]; omega
      · obtain rfl : k = es.length := by omega
        go_wp2_with (go_at_call 38; refine (Try.Builder_String_any w1.heap.size w1.heap.size _ _ hB hsz).mono ?_; rintro e w2 ⟨rfl, hb2⟩)
        go_ret
        exact ⟨rfl, FB1.out.trans ((hb.trans hb2).mono hz1)⟩
set_option maxHeartbeats 4000000 in
theorem l22Text_any (a : Option Addr) (c : Nat) (es : List FileV) (hl16 : es.length ≤ 16) (hbd : ∀ e ∈ es, e.f0.size ≤ 8 ∧ e.f1.size ≤ 512) (w : World) (h : SlS rowFile w a es) :
    Calls Try.prog 34 #[.slice a es.length c] w fun e w' => e = .returned (.string ⟨(ftK es es.length).toArray⟩) ∧ Below w.heap.size w w' := by
  have FL := Lib.hid (ftK_len hbd)
  have HBD := Lib.hid hbd
  clear hbd
  go_enter Try.func34, Try.ntmps34
  go_wp2
  go_loopw [3, 4] (fun v i wr => ∃ (k : Nat) (o : ByteArray), k ≤ es.length ∧ i = .int .i64 k ∧ v = .string o ∧ Hid (o = ⟨(ftK es k).toArray⟩) ∧ o.size ≤ 16560 ∧ Below w.heap.size w wr) (fun _ i _ => es.length - (intOf i).toNat)
  case atStart => exact ⟨0, ⟨#[]⟩, Nat.zero_le _, rfl, rfl, Lib.hid rfl, Nat.zero_le _, Below.refl _ _⟩
  case round =>
    obtain ⟨k, o, hk, rfl, rfl, hO, hoz, hb⟩ := hrel
    by_cases hlt : k < es.length
    · obtain ⟨e, hx⟩ : ∃ e, es[k]? = some e := ⟨es[k], by simp [hlt]⟩
      have h' := h.below hb (Nat.le_refl _)
      obtain ⟨b, off, rfl, hbl, hc⟩ := h'.at rowFile_len hx
      have c1 : wr.cell? ⟨b, off + k * 2 + 1, none⟩ = some (.string e.f1) := hc 1 _ rfl
      have hse := HBD.out e (List.mem_of_getElem? hx)
      have HS := Lib.hid (show (⟨(ftK es (k + 1)).toArray⟩ : ByteArray) = o ++ pieceT e by rw [ftK_succ hx, hO.out, ft_app])
      have HZ := Lib.hid (FL.out (k + 1) (by omega))
      have CE := Lib.hid (fun W (hb : Below wr.heap.size wr W) => (show W.cell? ⟨b, off + k * 2, none⟩ = some (.string e.f0) from by rw [hb.cell (p := ⟨b, off + k * 2, none⟩) hbl]; exact hc 0 _ rfl))
      have H := Lib.hid (And.intro h (And.intro hc (And.intro hx h'))); clear h hc hx h'
      have e1 : (k : Int) < es.length := by omega
      have HX := Lib.hid (fun W => l01Hex_any e.f1 W (by omega))
      change Hid (∀ W, Calls Try.prog 52 #[.string e.f1] W fun e_ w' => e_ = .returned (.string (hexL e.f1)) ∧ Below W.heap.size W w') at HX
      by_cases he : e.f1.size = 0
      · have HD := Lib.hid (show pieceT e = e.f0 ++ ⟨#[32]⟩ ++ ⟨#[45]⟩ ++ ⟨#[10]⟩ by unfold pieceT; rw [dashT_emp he])
        rw [hexL_emp he] at HX
        go_wp2_with fail
        refine (HX.out _).mono ?_
        rintro e_ w2 ⟨rfl, hb2⟩
        have q0 := CE.out w2 hb2
        have F2 := Lib.hid hb2
        clear hb2 c1
        have g1 : (9223372036854775807 < e.f0.size + 1) = False := by simp; omega
        have g2 : (9223372036854775807 < e.f0.size + 1 + 1) = False := by simp; omega
        have g3 : (9223372036854775807 < e.f0.size + 1 + 1 + 1) = False := by simp; omega
        have g4 : (9223372036854775807 < o.size + (e.f0.size + 1 + 1 + 1)) = False := by simp; omega
        go_wp2
        go_roundw
        case rel =>
          refine ⟨k + 1, _, by omega, by go_num, rfl, Lib.hid (by rw [HS.out, HD.out]), ?_, hb.trans (F2.out.mono hb.size)⟩
          have hz := HZ.out
          rw [← HD.out, ← HS.out]
          show (ftK es (k + 1)).toArray.size ≤ _
          rw [List.size_toArray]
          omega
        case measure => simp [intOf]; omega
      · have HD := Lib.hid (show pieceT e = e.f0 ++ ⟨#[32]⟩ ++ hexL e.f1 ++ ⟨#[10]⟩ by unfold pieceT; rw [dashT_ne he])
        obtain ⟨n1, n2⟩ := hexL_ne he
        have hzx := hexL_size e.f1
        generalize hexL e.f1 = hx at *
        have hzx1 : hx.size ≤ 1024 := by omega
        clear hzx
        go_wp2_with fail
        refine (HX.out _).mono ?_
        rintro e_ w2 ⟨rfl, hb2⟩
        have q0 := CE.out w2 hb2
        have F2 := Lib.hid hb2
        clear hb2 c1
        have g1 : (9223372036854775807 < e.f0.size + 1) = False := by simp; omega
        have g2 : (9223372036854775807 < e.f0.size + 1 + hx.size) = False := by simp; omega
        have g3 : (9223372036854775807 < e.f0.size + 1 + hx.size + 1) = False := by simp; omega
        have g4 : (9223372036854775807 < o.size + (e.f0.size + 1 + hx.size + 1)) = False := by simp; omega
        go_wp2
        go_roundw
        case rel =>
          refine ⟨k + 1, _, by omega, by go_num, rfl, Lib.hid (by rw [HS.out, HD.out]), ?_, hb.trans (F2.out.mono hb.size)⟩
          have hz := HZ.out
          rw [← HD.out, ← HS.out]
          show (ftK es (k + 1)).toArray.size ≤ _
          rw [List.size_toArray]
          omega
        case measure => simp [intOf]; omega
    · obtain rfl : k = es.length := by omega
      go_wp2
      go_ret
      exact ⟨by rw [hO.out]; rfl, hb⟩
set_option maxHeartbeats 1000000 in
theorem specFilesText_any (a : Option Addr) (c : Nat) (es : List FileV) (hm : es.length ≤ 1048576) (hs : ∀ e ∈ es, e.f0.size ≤ 1048576 ∧ e.f1.size ≤ 1048576) (w : World) (h : SlS rowFile w a es) :
    Calls Try.prog 14 #[.slice a es.length c] w fun e w' => e = .returned (.string (filesT es)) ∧ Below w.heap.size w w' := by
  have VF := Lib.hid (l15Files_any a es c hm hs w h)
  unfold filesT
  by_cases hv : filesB es = true
  case neg =>
    rw [if_neg hv]
    have hv0 : filesB es = false := by simpa using hv
    rw [hv0] at VF
    clear hv hv0 h
    go_enter Try.func14, Try.ntmps14
    go_wp2_with fail
    refine VF.out.mono ?_
    rintro e w1 ⟨rfl, hb1⟩
    go_wp2
    go_ret
    exact ⟨rfl, hb1⟩
  case pos =>
    rw [if_pos hv]
    rw [hv] at VF
    obtain ⟨hl16, hbd⟩ := filesB_bds hv
    have TX := Lib.hid (fun W (hb : Below w.heap.size w W) => l22Text_any a c es hl16 hbd W (h.below hb (Nat.le_refl _)))
    clear hv hbd hs h
    go_enter Try.func14, Try.ntmps14
    go_wp2_with fail
    refine VF.out.mono ?_
    rintro e w1 ⟨rfl, hb1⟩
    have FB := Lib.hid hb1
    clear hb1
    go_wp2_with fail
    refine (TX.out _ FB.out).mono ?_
    rintro e w2 ⟨rfl, hb2⟩
    go_wp2
    go_ret
    exact ⟨rfl, FB.out.trans (hb2.mono FB.out.size)⟩
end Go.Proofs.Ytlgpkmgfcnhigaa
