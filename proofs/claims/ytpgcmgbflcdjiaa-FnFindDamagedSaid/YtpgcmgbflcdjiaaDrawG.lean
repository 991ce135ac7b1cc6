/- spec.l23Draw, spec.A2Group: a drawn group. Made by mk_gfdraw.py. -/
import Derived.Test.YtpgcmgbflcdjiaaSrcF
import Derived.Test.YtpgcmgbflcdjiaaOwnR
import Derived.Test.YtpgcmgbflcdjiaaRecString
import Derived.Test.YtpgcmgbflcdjiaaGfUp
namespace Go.Proofs.Ytpgcmgbflcdjiaa
open Go.RowKit
set_option linter.unusedVariables false
set_option maxRecDepth 20000
theorem ownsRow_sf {w w' : World} {p B : Nat} {T : TypeId} {s k : Nat} {v : Value} {xs : List Value} (h : w.ownsRow B T s v k xs) (hp : p < B) (hf : Sf p w w') : w'.ownsRow B T s v k xs := by
  refine ⟨h.1, ?_⟩
  rcases h.2 with h2 | ⟨g, cap, cur, rfl, hg, hh, r⟩
  · exact .inl h2
  · exact .inr ⟨g, cap, cur, rfl, hg, (hf.2.2.2 g (Array.getElem?_eq_some_iff.1 hh).1 (by omega)).trans hh, r⟩
theorem OwnR.sf {w w' : World} {p B n : Nat} {T : TypeId} {v : Value} {es : List StringV} (h : OwnR rowString T n w B v es) (hp : p < B) (hf : Sf p w w') : OwnR rowString T n w' B v es := ownsRow_sf h hp hf
/-- A drawn group. -/
def GrpRes (B : Nat) (Fr : World → Prop) (e : Ending) (w' : World) : Prop :=
  ∃ (es : List StringV) (x : Option Addr) (c z : Nat), e = .returned (.slice x es.length c) ∧ 1 ≤ es.length ∧ es.length ≤ 128 ∧ 1 ≤ z ∧ z ≤ 64 ∧ (∀ e ∈ es, e.f0.size = z) ∧ SlSI rowString 9 w' B w'.heap.size x es ∧ Fr w'
theorem three_ints (w : World) : Ints (w.alloc (.cells #[.int .i64 128, .int .i64 127, .int .i64 60] 2)) w.heap.size 0 [128, 127, 60] := by
  intro i x hx
  have h := heap_alloc_new w (.cells #[.int .i64 128, .int .i64 127, .int .i64 60] 2)
  match i, hx with
  | 0, hx => simp at hx; subst hx; simp only [World.cell?, h]; rfl
  | 1, hx => simp at hx; subst hx; simp only [World.cell?, h]; rfl
  | 2, hx => simp at hx; subst hx; simp only [World.cell?, h]; rfl
  | i + 3, hx => simp at hx
theorem grp_pg {es : List StringV} {nN z : Nat} (h1 : 1 ≤ nN) (h2 : nN ≤ 128) (z1 : 1 ≤ z) (z2 : z ≤ 64) (hl : es.length = nN) (hz : ∀ e ∈ es, e.f0.size = z) : psB es = true ∧ inB 1 128 (es.length : Nat) = true ∧ len0 es = z := by
  cases es with
  | nil => simp at hl; omega
  | cons e es =>
    have h0 : len0 (e :: es) = e.f0.size := rfl
    have h3 := hz e (by simp)
    refine ⟨?_, by simp only [inB_iff]; omega, by rw [h0]; exact h3⟩
    unfold psB allLen
    rw [h0]
    simp only [Bool.and_eq_true, List.all_eq_true, decide_eq_true_eq]
    refine ⟨rfl, fun x hx => by rw [hz x hx, h3], ?_⟩
    rw [inB_iff]; omega
set_option maxHeartbeats 8000000 in
theorem l23Draw_any (p : Nat) (a : Option Addr) (n cap k : Nat) (w : World) (hn : n ≤ 1048576) (hk : k < 10000000000) (ha : CodeLt a n w.heap.size) (h : SrcAt w p a n cap k) :
    Calls Try.prog 49 #[.pointer (some ⟨p, 0, none⟩)] w (GrpRes w.heap.size (Sf p w)) := by
  have hp := h.lt
  have P1 := Lib.hid (pick_any 7 p a n cap k w (by omega) hn (by omega) h)
  clear h
  go_enter Try.func49, Try.ntmps49
  go_wp2_with fail
  refine P1.out.mono ?_
  rintro e w1 ⟨v, rfl, hv0, hv1, k1, q1, q2, q3, q4⟩
  obtain ⟨v1, rfl⟩ : ∃ j : Nat, v = j := ⟨v.toNat, by omega⟩
  have hv7 : v1 ≤ 6 := by omega
  have S1 := Lib.hid (Sf.only hp q4)
  have hp1 : p < w1.heap.size := q3.lt
  have P2 := Lib.hid (pick_any 8 p a n cap k1 w1 (by omega) hn (by omega) q3)
  clear q3 q4 P1 hv0 hv1
  go_wp2_with fail
  refine P2.out.mono ?_
  rintro e w2 ⟨v, rfl, hv0, hv1, k2, r1, r2, r3, r4⟩
  obtain ⟨v2, rfl⟩ : ∃ j : Nat, v = j := ⟨v.toNat, by omega⟩
  have hv8 : v2 ≤ 7 := by omega
  have S2 := Lib.hid (S1.out.trans (Sf.only hp1 r4))
  have hp2 : p < w2.heap.size := r3.lt
  have P3 := Lib.hid (one_any 20 p a n cap k2 w2 (by omega) hn (by omega) r3)
  clear r3 r4 P2 hv0 hv1 S1
  go_wp2_with fail
  refine P3.out.mono ?_
  rintro e w3 ⟨b, rfl, k3, s1, s2, s3, s4⟩
  have S3 := Lib.hid (S2.out.trans (Sf.only hp2 s4))
  have hp3 : p < w3.heap.size := s3.lt
  have hs3 := S3.out.2.2.1
  cases b with
  | false =>
    have P4 := Lib.hid (one_any 20 p a n cap k3 w3 (by omega) hn (by omega) s3)
    clear s3 s4 P3 S2
    go_wp2_with fail
    refine P4.out.mono ?_
    rintro e w5 ⟨b, rfl, k5, u1, u2, u3, u4⟩
    have S5 := Lib.hid (S3.out.trans (Sf.only hp3 u4))
    have hk5 : k5 ≤ k + 20 := by omega
    cases b with
    | false =>
      have S7 := Lib.hid (S5.out.alloc (.cells #[] 9))
      have hp5 : p < w5.heap.size := u3.lt
      have ha5 : CodeLt a n w5.heap.size := ha.mono S5.out.2.2.1
      have U7 := Lib.hid (u3.below (C := w5.heap.size) ha5 (Below.alloc (Below.refl _ w5) (Nat.le_refl _) (.cells #[] 9)) hp5)
      have O7 := Lib.hid (show OwnR rowString 9 1 (w5.alloc (.cells #[] 9)) w5.heap.size (.slice (some ⟨w5.heap.size, 0, none⟩) 0 0) [] from OwnR.empty w5 _ (Nat.le_refl _))
      have hwz5 : w.heap.size ≤ w5.heap.size := S5.out.2.2.1
      have hN1 : 1 ≤ (1 + v1) := by omega
      have hN2 : (1 + v1) ≤ 128 := by omega
      have hZ1 : 1 ≤ (1 + v2) := by omega
      have hZ2 : (1 + v2) ≤ 64 := by omega
      clear u3 u4 P4
      go_wp2
      go_loopw [5, 6, 7, 8] (fun out i _ _ wr => ∃ (j : Nat) (es : List StringV), i = .int .i64 (j : Int) ∧ j ≤ (1 + v1) ∧ OwnR rowString 9 1 wr w5.heap.size out es ∧ es.length = j ∧ (∀ e ∈ es, e.f0.size = (1 + v2)) ∧ (∃ k', k' ≤ k + 20 + 64 * j ∧ SrcAt wr p a n cap k') ∧ Sf p w wr ∧ w5.heap.size ≤ wr.heap.size) (fun _ i _ _ _ => (1 + v1) - (intOf i).toNat)
      case atStart => exact ⟨0, [], rfl, Nat.zero_le _, O7.out, rfl, by simp, ⟨k5, by omega, U7.out⟩, S7.out, by simp⟩
      case round =>
        obtain ⟨j, es, rfl, hj, ho, hel, hez, ⟨k6, hk6, hu⟩, hsf, hsz⟩ := hrel
        by_cases hlt : j < (1 + v1)
        · have hlti : (j : Int) < (1 : Int) + (v1 : Int) := by omega
          have hpr := hu.lt
          have HU := Lib.hid (hu.below (C := wr.heap.size) (ha.mono (by omega)) (Below.alloc (Below.refl _ wr) (Nat.le_refl _) (.cells #[] 5)) hpr)
          have HSA := Lib.hid (Sf.alloc (Sf.refl hpr) (.cells #[] 5))
          have HO := Lib.hid (show OwnB (wr.alloc (.cells #[] 5)) wr.heap.size (.slice (some ⟨wr.heap.size, 0, none⟩) 0 0) [] from OwnB.nil wr _ (Nat.le_refl _))
          have HR := Lib.hid (And.intro ho (And.intro hel (And.intro hez hsf)))
          have har : CodeLt a n wr.heap.size := ha.mono (by omega)
          clear ho hel hez hu hsf
          obtain ⟨W0, rfl⟩ : ∃ W0, W0 = wr := ⟨_, rfl⟩
          go_wp2
          go_hide hQ
          go_loopw [7, 8] (fun out i wi => ∃ (m : Nat) (l : List UInt8), i = .int .i64 (m : Int) ∧ m ≤ (1 + v2) ∧ OwnB wi W0.heap.size out l ∧ l.length = m ∧ (∃ k', k' ≤ k6 + m ∧ SrcAt wi p a n cap k') ∧ Sf p W0 wi) (fun _ i _ => (1 + v2) - (intOf i).toNat)
          case atStart => exact ⟨0, [], rfl, Nat.zero_le _, HO.out, rfl, ⟨k6, by omega, HU.out⟩, HSA.out⟩
          case round =>
            clear HU HSA HO
            obtain ⟨m, l, rfl, hm, hob, hll, ⟨k7, hk7, hu7⟩, hsi⟩ := hrel
            by_cases hltm : m < (1 + v2)
            · have hltmi : (m : Int) < (1 : Int) + (v2 : Int) := by omega
              have N1 := Lib.hid (next_any p a n cap k7 wr hn (by omega) hu7)
              have hpi := hu7.lt
              have HOB := Lib.hid hob
              have HLL := Lib.hid hll
              have HSI := Lib.hid hsi
              have hsz7 := hsi.2.2.1
              clear hob hll hu7 hsi
              go_wp2_with fail
              refine N1.out.mono ?_
              rintro e w8 ⟨x, rfl, hx0, hx1, k8, a1, a2, a3, a4⟩
              have ho8 := HOB.out.only a4 (by omega)
              have hll8 : l.length < 2147483648 := by have := HLL.out; omega
              have hs8 : W0.heap.size ≤ w8.heap.size := by have := a4.2.2.2.1; omega
              have HA3 := Lib.hid a3
              have HS8 := Lib.hid (HSI.out.trans (Sf.only hpi a4))
              have hw8 : IntKind.u8.wrap x = x := by rw [IntKind.wrap_u8]; omega
              clear a3 a4
              go_wp2_with (at_builtin; refine wpList_appendB rfl _ _ rfl rfl (ho8.alloc _) x hx0 hx1 ⟨w8.heap.size, 0, none⟩ 1 rfl (World.news_of_block (cs := #[.int .u8 x]) (t := 5) (fr := (0, 0)) (heap_alloc_new w8 _)) hll8 (by simp; omega) ?_; intro g cap9 w9 hown9 _ hb9 _)
              have HB9 := Lib.hid (((Below.refl W0.heap.size w8).alloc hs8 (.cells #[.int .u8 x] 5)).trans hb9)
              have HO9 := Lib.hid hown9
              clear hown9 hb9
              go_roundw
              case rel =>
                exact ⟨m + 1, l ++ [x.toNat.toUInt8], by go_num, by omega, HO9.out, by have := HLL.out; simp; omega, ⟨k8, by omega, HA3.out.below (C := W0.heap.size) har HB9.out (by omega)⟩, HS8.out.grow HB9.out⟩
              case measure => simp [intOf]; omega
            · have hltmi : ¬ (m : Int) < (1 : Int) + (v2 : Int) := by omega
              have HMZ := Lib.hid (show m = (1 + v2) by omega)
              have hcv := conv_own hob
              have hor := HR.out.1.sf (by omega) hsi
              have hll8 : es.length < 1073741824 := by have := HR.out.2.1; omega
              have HS9 := Lib.hid (HR.out.2.2.2.trans hsi)
              have hsz9 : w5.heap.size ≤ wr.heap.size := by have := hsi.2.2.1; omega
              have HU9 := Lib.hid hu7
              have HLL := Lib.hid hll
              clear hob hll hu7 hsi
              go_wp2
              subst hQ
              go_wp2_with (at_builtin; refine wpList_appendR 33 9 (.string ByteArray.empty) 16 Try.underlying33 infoString rfl (by omega) (by omega) rfl _ _ rfl rfl (hor.alloc _) ⟨⟨l.toArray⟩⟩ rfl (by simp [rowString, Value.oneCell']) ⟨wr.heap.size, 0, none⟩ 1 rfl (World.news_of_block (cs := #[.string ⟨l.toArray⟩]) (t := 9) (fr := (0, 0)) (heap_alloc_new wr _)) hll8 (by simp; omega) ?_; intro g cap9 w9 hown9 hgr hb9)
              have HB9 := Lib.hid (((Below.refl w5.heap.size wr).alloc hsz9 (.cells #[.string ⟨l.toArray⟩] 9)).trans hb9)
              have HO9 := Lib.hid hown9
              clear hown9 hb9 hgr
              go_roundw
              case rel =>
                refine ⟨j + 1, es ++ [⟨⟨l.toArray⟩⟩], by go_num, by omega, by simpa using HO9.out, by have := HR.out.2.1; simp; omega, ?_, ⟨k7, by omega, HU9.out.below (C := w5.heap.size) ha5 HB9.out hp5⟩, HS9.out.grow (HB9.out.mono hwz5), Nat.le_trans hsz9 HB9.out.size⟩
                intro e he
                rcases List.mem_append.1 he with h | h
                · exact HR.out.2.2.1 e h
                · simp at h; subst h; exact HLL.out.trans HMZ.out
              case measure => simp [intOf]; omega
        · have hlti : ¬ (j : Int) < (1 : Int) + (v1 : Int) := by omega
          have HJN := Lib.hid (show j = (1 + v1) by omega)
          obtain ⟨x, c, rfl, hs1⟩ := ho.slSI
          have HF := Lib.hid (And.intro hs1 (And.intro hel (And.intro hez hsf)))
          clear ho hs1 hel hez hsf hu
          go_wp2
          go_ret
          exact ⟨es, x, c, (1 + v2), rfl, by have := HF.out.2.1; have := HJN.out; omega, by have := HF.out.2.1; have := HJN.out; omega, hZ1, hZ2, HF.out.2.2.1, SlSI.mono HF.out.1 hwz5 (Nat.le_refl _), HF.out.2.2.2⟩
    | true =>
      have S7 := Lib.hid (S5.out.alloc (.cells #[] 9))
      have hp5 : p < w5.heap.size := u3.lt
      have ha5 : CodeLt a n w5.heap.size := ha.mono S5.out.2.2.1
      have U7 := Lib.hid (u3.below (C := w5.heap.size) ha5 (Below.alloc (Below.refl _ w5) (Nat.le_refl _) (.cells #[] 9)) hp5)
      have O7 := Lib.hid (show OwnR rowString 9 1 (w5.alloc (.cells #[] 9)) w5.heap.size (.slice (some ⟨w5.heap.size, 0, none⟩) 0 0) [] from OwnR.empty w5 _ (Nat.le_refl _))
      have hwz5 : w.heap.size ≤ w5.heap.size := S5.out.2.2.1
      have hN1 : 1 ≤ (1 + v1) := by omega
      have hN2 : (1 + v1) ≤ 128 := by omega
      have hZ1 : 1 ≤ (64) := by omega
      have hZ2 : (64) ≤ 64 := by omega
      clear u3 u4 P4
      go_wp2
      go_loopw [5, 6, 7, 8] (fun out i _ _ wr => ∃ (j : Nat) (es : List StringV), i = .int .i64 (j : Int) ∧ j ≤ (1 + v1) ∧ OwnR rowString 9 1 wr w5.heap.size out es ∧ es.length = j ∧ (∀ e ∈ es, e.f0.size = (64)) ∧ (∃ k', k' ≤ k + 20 + 64 * j ∧ SrcAt wr p a n cap k') ∧ Sf p w wr ∧ w5.heap.size ≤ wr.heap.size) (fun _ i _ _ _ => (1 + v1) - (intOf i).toNat)
      case atStart => exact ⟨0, [], rfl, Nat.zero_le _, O7.out, rfl, by simp, ⟨k5, by omega, U7.out⟩, S7.out, by simp⟩
      case round =>
        obtain ⟨j, es, rfl, hj, ho, hel, hez, ⟨k6, hk6, hu⟩, hsf, hsz⟩ := hrel
        by_cases hlt : j < (1 + v1)
        · have hlti : (j : Int) < (1 : Int) + (v1 : Int) := by omega
          have hpr := hu.lt
          have HU := Lib.hid (hu.below (C := wr.heap.size) (ha.mono (by omega)) (Below.alloc (Below.refl _ wr) (Nat.le_refl _) (.cells #[] 5)) hpr)
          have HSA := Lib.hid (Sf.alloc (Sf.refl hpr) (.cells #[] 5))
          have HO := Lib.hid (show OwnB (wr.alloc (.cells #[] 5)) wr.heap.size (.slice (some ⟨wr.heap.size, 0, none⟩) 0 0) [] from OwnB.nil wr _ (Nat.le_refl _))
          have HR := Lib.hid (And.intro ho (And.intro hel (And.intro hez hsf)))
          have har : CodeLt a n wr.heap.size := ha.mono (by omega)
          clear ho hel hez hu hsf
          obtain ⟨W0, rfl⟩ : ∃ W0, W0 = wr := ⟨_, rfl⟩
          go_wp2
          go_hide hQ
          go_loopw [7, 8] (fun out i wi => ∃ (m : Nat) (l : List UInt8), i = .int .i64 (m : Int) ∧ m ≤ (64) ∧ OwnB wi W0.heap.size out l ∧ l.length = m ∧ (∃ k', k' ≤ k6 + m ∧ SrcAt wi p a n cap k') ∧ Sf p W0 wi) (fun _ i _ => (64) - (intOf i).toNat)
          case atStart => exact ⟨0, [], rfl, Nat.zero_le _, HO.out, rfl, ⟨k6, by omega, HU.out⟩, HSA.out⟩
          case round =>
            clear HU HSA HO
            obtain ⟨m, l, rfl, hm, hob, hll, ⟨k7, hk7, hu7⟩, hsi⟩ := hrel
            by_cases hltm : m < (64)
            · have hltmi : (m : Int) < (64 : Int) := by omega
              have N1 := Lib.hid (next_any p a n cap k7 wr hn (by omega) hu7)
              have hpi := hu7.lt
              have HOB := Lib.hid hob
              have HLL := Lib.hid hll
              have HSI := Lib.hid hsi
              have hsz7 := hsi.2.2.1
              clear hob hll hu7 hsi
              go_wp2_with fail
              refine N1.out.mono ?_
              rintro e w8 ⟨x, rfl, hx0, hx1, k8, a1, a2, a3, a4⟩
              have ho8 := HOB.out.only a4 (by omega)
              have hll8 : l.length < 2147483648 := by have := HLL.out; omega
              have hs8 : W0.heap.size ≤ w8.heap.size := by have := a4.2.2.2.1; omega
              have HA3 := Lib.hid a3
              have HS8 := Lib.hid (HSI.out.trans (Sf.only hpi a4))
              have hw8 : IntKind.u8.wrap x = x := by rw [IntKind.wrap_u8]; omega
              clear a3 a4
              go_wp2_with (at_builtin; refine wpList_appendB rfl _ _ rfl rfl (ho8.alloc _) x hx0 hx1 ⟨w8.heap.size, 0, none⟩ 1 rfl (World.news_of_block (cs := #[.int .u8 x]) (t := 5) (fr := (0, 0)) (heap_alloc_new w8 _)) hll8 (by simp; omega) ?_; intro g cap9 w9 hown9 _ hb9 _)
              have HB9 := Lib.hid (((Below.refl W0.heap.size w8).alloc hs8 (.cells #[.int .u8 x] 5)).trans hb9)
              have HO9 := Lib.hid hown9
              clear hown9 hb9
              go_roundw
              case rel =>
                exact ⟨m + 1, l ++ [x.toNat.toUInt8], by go_num, by omega, HO9.out, by have := HLL.out; simp; omega, ⟨k8, by omega, HA3.out.below (C := W0.heap.size) har HB9.out (by omega)⟩, HS8.out.grow HB9.out⟩
              case measure => simp [intOf]; omega
            · have hltmi : ¬ (m : Int) < (64 : Int) := by omega
              have HMZ := Lib.hid (show m = (64) by omega)
              have hcv := conv_own hob
              have hor := HR.out.1.sf (by omega) hsi
              have hll8 : es.length < 1073741824 := by have := HR.out.2.1; omega
              have HS9 := Lib.hid (HR.out.2.2.2.trans hsi)
              have hsz9 : w5.heap.size ≤ wr.heap.size := by have := hsi.2.2.1; omega
              have HU9 := Lib.hid hu7
              have HLL := Lib.hid hll
              clear hob hll hu7 hsi
              go_wp2
              subst hQ
              go_wp2_with (at_builtin; refine wpList_appendR 33 9 (.string ByteArray.empty) 16 Try.underlying33 infoString rfl (by omega) (by omega) rfl _ _ rfl rfl (hor.alloc _) ⟨⟨l.toArray⟩⟩ rfl (by simp [rowString, Value.oneCell']) ⟨wr.heap.size, 0, none⟩ 1 rfl (World.news_of_block (cs := #[.string ⟨l.toArray⟩]) (t := 9) (fr := (0, 0)) (heap_alloc_new wr _)) hll8 (by simp; omega) ?_; intro g cap9 w9 hown9 hgr hb9)
              have HB9 := Lib.hid (((Below.refl w5.heap.size wr).alloc hsz9 (.cells #[.string ⟨l.toArray⟩] 9)).trans hb9)
              have HO9 := Lib.hid hown9
              clear hown9 hb9 hgr
              go_roundw
              case rel =>
                refine ⟨j + 1, es ++ [⟨⟨l.toArray⟩⟩], by go_num, by omega, by simpa using HO9.out, by have := HR.out.2.1; simp; omega, ?_, ⟨k7, by omega, HU9.out.below (C := w5.heap.size) ha5 HB9.out hp5⟩, HS9.out.grow (HB9.out.mono hwz5), Nat.le_trans hsz9 HB9.out.size⟩
                intro e he
                rcases List.mem_append.1 he with h | h
                · exact HR.out.2.2.1 e h
                · simp at h; subst h; exact HLL.out.trans HMZ.out
              case measure => simp [intOf]; omega
        · have hlti : ¬ (j : Int) < (1 : Int) + (v1 : Int) := by omega
          have HJN := Lib.hid (show j = (1 + v1) by omega)
          obtain ⟨x, c, rfl, hs1⟩ := ho.slSI
          have HF := Lib.hid (And.intro hs1 (And.intro hel (And.intro hez hsf)))
          clear ho hs1 hel hez hsf hu
          go_wp2
          go_ret
          exact ⟨es, x, c, (64), rfl, by have := HF.out.2.1; have := HJN.out; omega, by have := HF.out.2.1; have := HJN.out; omega, hZ1, hZ2, HF.out.2.2.1, SlSI.mono HF.out.1 hwz5 (Nat.le_refl _), HF.out.2.2.2⟩
  | true =>
    have h4 : SrcAt (w3.alloc (.cells #[.int .i64 128, .int .i64 127, .int .i64 60] 2)) p a n cap k3 := s3.below (C := w3.heap.size) (ha.mono hs3) (Below.alloc (Below.refl _ w3) (Nat.le_refl _) _) hp3
    have A1 := Lib.hid (among_any w3.heap.size 3 [128, 127, 60] p a n cap k3 _ (by decide) (by decide) (by omega) (three_ints w3) hn (by omega) h4)
    have S4 := Lib.hid (S3.out.alloc (.cells #[.int .i64 128, .int .i64 127, .int .i64 60] 2))
    have hp4 : p < (w3.alloc (.cells #[.int .i64 128, .int .i64 127, .int .i64 60] 2)).heap.size := by simp; omega
    clear s3 s4 P3 S2 h4
    go_wp2_with fail
    refine A1.out.mono ?_
    rintro e w4 ⟨v, rfl, hc, k4, t1, t2, t3, t4⟩
    have hc2 : 60 ≤ v ∧ v ≤ 128 := by simp at hc; omega
    obtain ⟨v3, rfl⟩ : ∃ j : Nat, v = j := ⟨v.toNat, by omega⟩
    have hv3 : 60 ≤ v3 ∧ v3 ≤ 128 := by omega
    have S6 := Lib.hid (S4.out.trans (Sf.only hp4 t4))
    have hp6 : p < w4.heap.size := t3.lt
    have P4 := Lib.hid (one_any 20 p a n cap k4 w4 (by omega) hn (by omega) t3)
    clear t3 t4 A1 S3 S4 hc hc2 hp4
    go_wp2_with fail
    refine P4.out.mono ?_
    rintro e w5 ⟨b, rfl, k5, u1, u2, u3, u4⟩
    have S5 := Lib.hid (S6.out.trans (Sf.only hp6 u4))
    have hk5 : k5 ≤ k + 20 := by omega
    cases b with
    | false =>
      have S7 := Lib.hid (S5.out.alloc (.cells #[] 9))
      have hp5 : p < w5.heap.size := u3.lt
      have ha5 : CodeLt a n w5.heap.size := ha.mono S5.out.2.2.1
      have U7 := Lib.hid (u3.below (C := w5.heap.size) ha5 (Below.alloc (Below.refl _ w5) (Nat.le_refl _) (.cells #[] 9)) hp5)
      have O7 := Lib.hid (show OwnR rowString 9 1 (w5.alloc (.cells #[] 9)) w5.heap.size (.slice (some ⟨w5.heap.size, 0, none⟩) 0 0) [] from OwnR.empty w5 _ (Nat.le_refl _))
      have hwz5 : w.heap.size ≤ w5.heap.size := S5.out.2.2.1
      have hN1 : 1 ≤ (v3) := by omega
      have hN2 : (v3) ≤ 128 := by omega
      have hZ1 : 1 ≤ (1) := by omega
      have hZ2 : (1) ≤ 64 := by omega
      clear u3 u4 P4
      go_wp2
      go_loopw [5, 6, 7, 8] (fun out i _ _ wr => ∃ (j : Nat) (es : List StringV), i = .int .i64 (j : Int) ∧ j ≤ (v3) ∧ OwnR rowString 9 1 wr w5.heap.size out es ∧ es.length = j ∧ (∀ e ∈ es, e.f0.size = (1)) ∧ (∃ k', k' ≤ k + 20 + 64 * j ∧ SrcAt wr p a n cap k') ∧ Sf p w wr ∧ w5.heap.size ≤ wr.heap.size) (fun _ i _ _ _ => (v3) - (intOf i).toNat)
      case atStart => exact ⟨0, [], rfl, Nat.zero_le _, O7.out, rfl, by simp, ⟨k5, by omega, U7.out⟩, S7.out, by simp⟩
      case round =>
        obtain ⟨j, es, rfl, hj, ho, hel, hez, ⟨k6, hk6, hu⟩, hsf, hsz⟩ := hrel
        by_cases hlt : j < (v3)
        · have hlti : (j : Int) < (v3 : Int) := by omega
          have hpr := hu.lt
          have HU := Lib.hid (hu.below (C := wr.heap.size) (ha.mono (by omega)) (Below.alloc (Below.refl _ wr) (Nat.le_refl _) (.cells #[] 5)) hpr)
          have HSA := Lib.hid (Sf.alloc (Sf.refl hpr) (.cells #[] 5))
          have HO := Lib.hid (show OwnB (wr.alloc (.cells #[] 5)) wr.heap.size (.slice (some ⟨wr.heap.size, 0, none⟩) 0 0) [] from OwnB.nil wr _ (Nat.le_refl _))
          have HR := Lib.hid (And.intro ho (And.intro hel (And.intro hez hsf)))
          have har : CodeLt a n wr.heap.size := ha.mono (by omega)
          clear ho hel hez hu hsf
          obtain ⟨W0, rfl⟩ : ∃ W0, W0 = wr := ⟨_, rfl⟩
          go_wp2
          go_hide hQ
          go_loopw [7, 8] (fun out i wi => ∃ (m : Nat) (l : List UInt8), i = .int .i64 (m : Int) ∧ m ≤ (1) ∧ OwnB wi W0.heap.size out l ∧ l.length = m ∧ (∃ k', k' ≤ k6 + m ∧ SrcAt wi p a n cap k') ∧ Sf p W0 wi) (fun _ i _ => (1) - (intOf i).toNat)
          case atStart => exact ⟨0, [], rfl, Nat.zero_le _, HO.out, rfl, ⟨k6, by omega, HU.out⟩, HSA.out⟩
          case round =>
            clear HU HSA HO
            obtain ⟨m, l, rfl, hm, hob, hll, ⟨k7, hk7, hu7⟩, hsi⟩ := hrel
            by_cases hltm : m < (1)
            · have hltmi : (m : Int) < (1 : Int) := by omega
              have N1 := Lib.hid (next_any p a n cap k7 wr hn (by omega) hu7)
              have hpi := hu7.lt
              have HOB := Lib.hid hob
              have HLL := Lib.hid hll
              have HSI := Lib.hid hsi
              have hsz7 := hsi.2.2.1
              clear hob hll hu7 hsi
              go_wp2_with fail
              refine N1.out.mono ?_
              rintro e w8 ⟨x, rfl, hx0, hx1, k8, a1, a2, a3, a4⟩
              have ho8 := HOB.out.only a4 (by omega)
              have hll8 : l.length < 2147483648 := by have := HLL.out; omega
              have hs8 : W0.heap.size ≤ w8.heap.size := by have := a4.2.2.2.1; omega
              have HA3 := Lib.hid a3
              have HS8 := Lib.hid (HSI.out.trans (Sf.only hpi a4))
              have hw8 : IntKind.u8.wrap x = x := by rw [IntKind.wrap_u8]; omega
              clear a3 a4
              go_wp2_with (at_builtin; refine wpList_appendB rfl _ _ rfl rfl (ho8.alloc _) x hx0 hx1 ⟨w8.heap.size, 0, none⟩ 1 rfl (World.news_of_block (cs := #[.int .u8 x]) (t := 5) (fr := (0, 0)) (heap_alloc_new w8 _)) hll8 (by simp; omega) ?_; intro g cap9 w9 hown9 _ hb9 _)
              have HB9 := Lib.hid (((Below.refl W0.heap.size w8).alloc hs8 (.cells #[.int .u8 x] 5)).trans hb9)
              have HO9 := Lib.hid hown9
              clear hown9 hb9
              go_roundw
              case rel =>
                exact ⟨m + 1, l ++ [x.toNat.toUInt8], by go_num, by omega, HO9.out, by have := HLL.out; simp; omega, ⟨k8, by omega, HA3.out.below (C := W0.heap.size) har HB9.out (by omega)⟩, HS8.out.grow HB9.out⟩
              case measure => simp [intOf]; omega
            · have hltmi : ¬ (m : Int) < (1 : Int) := by omega
              have HMZ := Lib.hid (show m = (1) by omega)
              have hcv := conv_own hob
              have hor := HR.out.1.sf (by omega) hsi
              have hll8 : es.length < 1073741824 := by have := HR.out.2.1; omega
              have HS9 := Lib.hid (HR.out.2.2.2.trans hsi)
              have hsz9 : w5.heap.size ≤ wr.heap.size := by have := hsi.2.2.1; omega
              have HU9 := Lib.hid hu7
              have HLL := Lib.hid hll
              clear hob hll hu7 hsi
              go_wp2
              subst hQ
              go_wp2_with (at_builtin; refine wpList_appendR 33 9 (.string ByteArray.empty) 16 Try.underlying33 infoString rfl (by omega) (by omega) rfl _ _ rfl rfl (hor.alloc _) ⟨⟨l.toArray⟩⟩ rfl (by simp [rowString, Value.oneCell']) ⟨wr.heap.size, 0, none⟩ 1 rfl (World.news_of_block (cs := #[.string ⟨l.toArray⟩]) (t := 9) (fr := (0, 0)) (heap_alloc_new wr _)) hll8 (by simp; omega) ?_; intro g cap9 w9 hown9 hgr hb9)
              have HB9 := Lib.hid (((Below.refl w5.heap.size wr).alloc hsz9 (.cells #[.string ⟨l.toArray⟩] 9)).trans hb9)
              have HO9 := Lib.hid hown9
              clear hown9 hb9 hgr
              go_roundw
              case rel =>
                refine ⟨j + 1, es ++ [⟨⟨l.toArray⟩⟩], by go_num, by omega, by simpa using HO9.out, by have := HR.out.2.1; simp; omega, ?_, ⟨k7, by omega, HU9.out.below (C := w5.heap.size) ha5 HB9.out hp5⟩, HS9.out.grow (HB9.out.mono hwz5), Nat.le_trans hsz9 HB9.out.size⟩
                intro e he
                rcases List.mem_append.1 he with h | h
                · exact HR.out.2.2.1 e h
                · simp at h; subst h; exact HLL.out.trans HMZ.out
              case measure => simp [intOf]; omega
        · have hlti : ¬ (j : Int) < (v3 : Int) := by omega
          have HJN := Lib.hid (show j = (v3) by omega)
          obtain ⟨x, c, rfl, hs1⟩ := ho.slSI
          have HF := Lib.hid (And.intro hs1 (And.intro hel (And.intro hez hsf)))
          clear ho hs1 hel hez hsf hu
          go_wp2
          go_ret
          exact ⟨es, x, c, (1), rfl, by have := HF.out.2.1; have := HJN.out; omega, by have := HF.out.2.1; have := HJN.out; omega, hZ1, hZ2, HF.out.2.2.1, SlSI.mono HF.out.1 hwz5 (Nat.le_refl _), HF.out.2.2.2⟩
    | true =>
      have S7 := Lib.hid (S5.out.alloc (.cells #[] 9))
      have hp5 : p < w5.heap.size := u3.lt
      have ha5 : CodeLt a n w5.heap.size := ha.mono S5.out.2.2.1
      have U7 := Lib.hid (u3.below (C := w5.heap.size) ha5 (Below.alloc (Below.refl _ w5) (Nat.le_refl _) (.cells #[] 9)) hp5)
      have O7 := Lib.hid (show OwnR rowString 9 1 (w5.alloc (.cells #[] 9)) w5.heap.size (.slice (some ⟨w5.heap.size, 0, none⟩) 0 0) [] from OwnR.empty w5 _ (Nat.le_refl _))
      have hwz5 : w.heap.size ≤ w5.heap.size := S5.out.2.2.1
      have hN1 : 1 ≤ (v3) := by omega
      have hN2 : (v3) ≤ 128 := by omega
      have hZ1 : 1 ≤ (64) := by omega
      have hZ2 : (64) ≤ 64 := by omega
      clear u3 u4 P4
      go_wp2
      go_loopw [5, 6, 7, 8] (fun out i _ _ wr => ∃ (j : Nat) (es : List StringV), i = .int .i64 (j : Int) ∧ j ≤ (v3) ∧ OwnR rowString 9 1 wr w5.heap.size out es ∧ es.length = j ∧ (∀ e ∈ es, e.f0.size = (64)) ∧ (∃ k', k' ≤ k + 20 + 64 * j ∧ SrcAt wr p a n cap k') ∧ Sf p w wr ∧ w5.heap.size ≤ wr.heap.size) (fun _ i _ _ _ => (v3) - (intOf i).toNat)
      case atStart => exact ⟨0, [], rfl, Nat.zero_le _, O7.out, rfl, by simp, ⟨k5, by omega, U7.out⟩, S7.out, by simp⟩
      case round =>
        obtain ⟨j, es, rfl, hj, ho, hel, hez, ⟨k6, hk6, hu⟩, hsf, hsz⟩ := hrel
        by_cases hlt : j < (v3)
        · have hlti : (j : Int) < (v3 : Int) := by omega
          have hpr := hu.lt
          have HU := Lib.hid (hu.below (C := wr.heap.size) (ha.mono (by omega)) (Below.alloc (Below.refl _ wr) (Nat.le_refl _) (.cells #[] 5)) hpr)
          have HSA := Lib.hid (Sf.alloc (Sf.refl hpr) (.cells #[] 5))
          have HO := Lib.hid (show OwnB (wr.alloc (.cells #[] 5)) wr.heap.size (.slice (some ⟨wr.heap.size, 0, none⟩) 0 0) [] from OwnB.nil wr _ (Nat.le_refl _))
          have HR := Lib.hid (And.intro ho (And.intro hel (And.intro hez hsf)))
          have har : CodeLt a n wr.heap.size := ha.mono (by omega)
          clear ho hel hez hu hsf
          obtain ⟨W0, rfl⟩ : ∃ W0, W0 = wr := ⟨_, rfl⟩
          go_wp2
          go_hide hQ
          go_loopw [7, 8] (fun out i wi => ∃ (m : Nat) (l : List UInt8), i = .int .i64 (m : Int) ∧ m ≤ (64) ∧ OwnB wi W0.heap.size out l ∧ l.length = m ∧ (∃ k', k' ≤ k6 + m ∧ SrcAt wi p a n cap k') ∧ Sf p W0 wi) (fun _ i _ => (64) - (intOf i).toNat)
          case atStart => exact ⟨0, [], rfl, Nat.zero_le _, HO.out, rfl, ⟨k6, by omega, HU.out⟩, HSA.out⟩
          case round =>
            clear HU HSA HO
            obtain ⟨m, l, rfl, hm, hob, hll, ⟨k7, hk7, hu7⟩, hsi⟩ := hrel
            by_cases hltm : m < (64)
            · have hltmi : (m : Int) < (64 : Int) := by omega
              have N1 := Lib.hid (next_any p a n cap k7 wr hn (by omega) hu7)
              have hpi := hu7.lt
              have HOB := Lib.hid hob
              have HLL := Lib.hid hll
              have HSI := Lib.hid hsi
              have hsz7 := hsi.2.2.1
              clear hob hll hu7 hsi
              go_wp2_with fail
              refine N1.out.mono ?_
              rintro e w8 ⟨x, rfl, hx0, hx1, k8, a1, a2, a3, a4⟩
              have ho8 := HOB.out.only a4 (by omega)
              have hll8 : l.length < 2147483648 := by have := HLL.out; omega
              have hs8 : W0.heap.size ≤ w8.heap.size := by have := a4.2.2.2.1; omega
              have HA3 := Lib.hid a3
              have HS8 := Lib.hid (HSI.out.trans (Sf.only hpi a4))
              have hw8 : IntKind.u8.wrap x = x := by rw [IntKind.wrap_u8]; omega
              clear a3 a4
              go_wp2_with (at_builtin; refine wpList_appendB rfl _ _ rfl rfl (ho8.alloc _) x hx0 hx1 ⟨w8.heap.size, 0, none⟩ 1 rfl (World.news_of_block (cs := #[.int .u8 x]) (t := 5) (fr := (0, 0)) (heap_alloc_new w8 _)) hll8 (by simp; omega) ?_; intro g cap9 w9 hown9 _ hb9 _)
              have HB9 := Lib.hid (((Below.refl W0.heap.size w8).alloc hs8 (.cells #[.int .u8 x] 5)).trans hb9)
              have HO9 := Lib.hid hown9
              clear hown9 hb9
              go_roundw
              case rel =>
                exact ⟨m + 1, l ++ [x.toNat.toUInt8], by go_num, by omega, HO9.out, by have := HLL.out; simp; omega, ⟨k8, by omega, HA3.out.below (C := W0.heap.size) har HB9.out (by omega)⟩, HS8.out.grow HB9.out⟩
              case measure => simp [intOf]; omega
            · have hltmi : ¬ (m : Int) < (64 : Int) := by omega
              have HMZ := Lib.hid (show m = (64) by omega)
              have hcv := conv_own hob
              have hor := HR.out.1.sf (by omega) hsi
              have hll8 : es.length < 1073741824 := by have := HR.out.2.1; omega
              have HS9 := Lib.hid (HR.out.2.2.2.trans hsi)
              have hsz9 : w5.heap.size ≤ wr.heap.size := by have := hsi.2.2.1; omega
              have HU9 := Lib.hid hu7
              have HLL := Lib.hid hll
              clear hob hll hu7 hsi
              go_wp2
              subst hQ
              go_wp2_with (at_builtin; refine wpList_appendR 33 9 (.string ByteArray.empty) 16 Try.underlying33 infoString rfl (by omega) (by omega) rfl _ _ rfl rfl (hor.alloc _) ⟨⟨l.toArray⟩⟩ rfl (by simp [rowString, Value.oneCell']) ⟨wr.heap.size, 0, none⟩ 1 rfl (World.news_of_block (cs := #[.string ⟨l.toArray⟩]) (t := 9) (fr := (0, 0)) (heap_alloc_new wr _)) hll8 (by simp; omega) ?_; intro g cap9 w9 hown9 hgr hb9)
              have HB9 := Lib.hid (((Below.refl w5.heap.size wr).alloc hsz9 (.cells #[.string ⟨l.toArray⟩] 9)).trans hb9)
              have HO9 := Lib.hid hown9
              clear hown9 hb9 hgr
              go_roundw
              case rel =>
                refine ⟨j + 1, es ++ [⟨⟨l.toArray⟩⟩], by go_num, by omega, by simpa using HO9.out, by have := HR.out.2.1; simp; omega, ?_, ⟨k7, by omega, HU9.out.below (C := w5.heap.size) ha5 HB9.out hp5⟩, HS9.out.grow (HB9.out.mono hwz5), Nat.le_trans hsz9 HB9.out.size⟩
                intro e he
                rcases List.mem_append.1 he with h | h
                · exact HR.out.2.2.1 e h
                · simp at h; subst h; exact HLL.out.trans HMZ.out
              case measure => simp [intOf]; omega
        · have hlti : ¬ (j : Int) < (v3 : Int) := by omega
          have HJN := Lib.hid (show j = (v3) by omega)
          obtain ⟨x, c, rfl, hs1⟩ := ho.slSI
          have HF := Lib.hid (And.intro hs1 (And.intro hel (And.intro hez hsf)))
          clear ho hs1 hel hez hsf hu
          go_wp2
          go_ret
          exact ⟨es, x, c, (64), rfl, by have := HF.out.2.1; have := HJN.out; omega, by have := HF.out.2.1; have := HJN.out; omega, hZ1, hZ2, HF.out.2.2.1, SlSI.mono HF.out.1 hwz5 (Nat.le_refl _), HF.out.2.2.2⟩
theorem a2Group_any (a : Option Addr) (n cap : Nat) (w : World) (hn : n ≤ 1048576) (ha : CodeLt a n w.heap.size) (hc : CodeAt w a n) :
    Calls Try.prog 32 #[.slice a n cap] w (GrpRes w.heap.size (Below w.heap.size w)) := by
  have hs := src_new w a n cap ha hc
  have hb : Below w.heap.size w (w.alloc (.cells #[.slice a n cap, .int .i64 0, .int .u64 0] 72)) := Below.alloc (Below.refl _ w) (Nat.le_refl _) _
  have D := Lib.hid (l23Draw_any w.heap.size a n cap 0 _ hn (by omega) (ha.mono hb.size) hs)
  have HB := Lib.hid hb; clear hs hb
  go_enter Try.func32, Try.ntmps32
  go_wp2_with fail
  refine (l00From_any a n cap w).mono ?_
  rintro e w1 ⟨rfl, rfl⟩
  go_wp2_with fail
  refine D.out.mono ?_
  rintro e w2 ⟨es, x, c, z, rfl, h1, h2, h3, h4, h5, h6, h7⟩
  go_wp2
  go_ret
  exact ⟨es, x, c, z, rfl, h1, h2, h3, h4, h5, SlSI.mono h6 (by simp) (Nat.le_refl _), HB.out.trans h7.2.1⟩
end Go.Proofs.Ytpgcmgbflcdjiaa
