/- spec.PackRuns -/
import Derived.Test.YtogoklgppepbjaaPkVal
import Derived.Test.YtogoklgppepbjaaRunIm
import Derived.Test.YtogoklgppepbjaaConv
namespace Go.Proofs.Ytogoklgppepbjaa
open Go.RowKit
set_option linter.unusedVariables false
set_option linter.unusedSimpArgs false
set_option maxRecDepth 20000
theorem snocS2 {w : World} {B : Nat} {v : Value} {l : List UInt8} {t : ByteArray} (h : w.ownsRow B 5 1 v (l.length + t.size) (Lib.byteCells l ++ Lib.strCells t)) : OwnB w B v (l ++ t.data.toList) := by
  unfold OwnB
  have e : (l ++ t.data.toList).length = l.length + t.size := by simp
  rw [e, show Lib.byteCells (l ++ t.data.toList) = Lib.byteCells l ++ Lib.strCells t by simp [Lib.byteCells, Lib.strCells]]
  exact h
section
variable {ops : Array Oper} {o : Oper} {a : Act} {Q : Exit → Act → World → Prop} {w : World}
theorem wpList_appendBs {rest : List Oper} (hgd : o.guard = none) (s x : Operand) (ho : o.op = .call { callee := .builtin .append, args := #[s, x], argTypes := #[65, 65] })
    {B : Nat} {v : Value} {l : List UInt8} (hs : a.eval s = v) (hown : OwnB w B v l) (cs : List UInt8) (hcs : 0 < cs.length) (ad : Addr) (c : Nat) (hx : a.eval x = .slice (some ad) cs.length c)
    (hc : ∀ j u, (Lib.byteCells cs)[j]? = some u → w.cell? (ad.add j) = some u) (hl : l.length + cs.length < 2147483648) (hB : B ≤ w.heap.size)
    (h : ∀ g cap w', OwnB w' B (.slice (some ⟨g, 0, none⟩) (l.length + cs.length) cap) (l ++ cs) → w.grownBy w' v.ownBlock → Below B w w' → wpList Try.prog ops Q rest (a.put o.dst (.slice (some ⟨g, 0, none⟩) (l.length + cs.length) cap)) w') : wpList Try.prog ops Q (o :: rest) a w := by
  obtain ⟨i0, hi, hz0, hz1, hz2⟩ := info_parts u8info
  refine wpList_append_lies w hgd s x 65 ho B 5 i0 (.int .u8 0) 1 1 Try.underlying65 hi hz0 hz1 hz2 rfl (by decide) v l.length (Lib.byteCells l) hs hown ad cs.length c (Lib.byteCells cs) hx (by rw [Lib.byteCells_length]; omega) hc (Lib.byteCells_one cs) hcs (by unfold maxLen; omega) (by omega) hB _ rfl ?_
  intro g cap w' h2 h3 h4 _
  refine h g cap w' ?_ h3 ((Below.refl B w).grown h3 hB (fun j hj => (hown.lt j hj).1))
  unfold OwnB
  have e : (l ++ cs).length = l.length + cs.length := by simp
  rw [e, show Lib.byteCells (l ++ cs) = Lib.byteCells l ++ Lib.byteCells cs by simp [Lib.byteCells]]
  exact h2
end
def pkS (s : ByteArray) : ByteArray := if s.size ≤ 4096 then ⟨(pkV s 0).toArray⟩ else ByteArray.empty
set_option maxHeartbeats 8000000 in
theorem specPackRuns_any (s : ByteArray) (hs0 : s.size ≤ 1048576) (w : World) :
    Calls Try.prog 11 #[.string s] w fun e w' => e = .returned (.tuple #[.string (pkS s), .bool (decide (s.size ≤ 4096))]) ∧ Below w.heap.size w w' := by
  by_cases hs : s.size ≤ 4096
  case neg =>
    have h1 : (4096 : Int) < (s.size : Int) := by omega
    unfold pkS
    rw [if_neg hs, decide_eq_false hs]
    go_enter Try.func11, Try.ntmps11
    go_wp2
    go_ret2
    exact ⟨rfl, Below.refl _ _⟩
  have h1 : ¬ (4096 : Int) < (s.size : Int) := by omega
  obtain ⟨r, hr⟩ : ∃ r, pkV s 0 = r := ⟨_, rfl⟩
  have hps : pkS s = ⟨r.toArray⟩ := by unfold pkS; rw [if_pos hs, hr]
  rw [hps, decide_eq_true hs]
  have HR := Lib.hid hr; clear hr hps
  obtain ⟨i0, hi, hz0, hz1, hz2⟩ := info_parts u8info
  have HI := Lib.hid (And.intro hi (And.intro hz0 (And.intro hz1 hz2))); clear hi hz0 hz1 hz2
  go_enter Try.func11, Try.ntmps11
  go_wp2
  go_loopw [4, 5, 6, 7] (fun v p _ _ wr => ∃ (i : Nat) (L : List UInt8), i ≤ s.size ∧ p = .int .i64 i ∧ Hid (L ++ pkV s i = r) ∧ L.length ≤ 2 * i ∧ Hid (OwnB wr w.heap.size v L) ∧ Below w.heap.size w wr) (fun _ p _ _ _ => s.size - (intOf p).toNat)
  case atStart => exact ⟨0, [], Nat.zero_le _, rfl, by unfold Hid; rw [HR.out]; rfl, by simp, Lib.hid (OwnB.nil w _ (Nat.le_refl _)), (Below.refl _ _).alloc (Nat.le_refl _) _⟩
  case round =>
    obtain ⟨i, L, hi, rfl, hV, hll, hO, hb⟩ := hrel
    have hsz := hb.size
    by_cases hlt : i < s.size
    · have hii : (i : Int) < (s.size : Int) := by omega
      have RN := Lib.hid (show ∀ w', Calls Try.prog 39 #[.string s, .int .i64 (i : Int), .int .i64 64] w' fun e w'' => e = .returned (.int .i64 (runV s i 64 : Nat)) ∧ Below w'.heap.size w' w'' from fun w' => l14Run_any s i 64 w' hlt hs (by omega) (by omega))
      have hrb := runV_bd (most := 64) hlt (by omega)
      have hbi := s[i].toNat_lt
      by_cases h3 : 3 ≤ runV s i 64
      · have hst := pkV_run hlt h3
        rw [byteAt_eq s i hlt] at hst
        generalize runV s i 64 = n at *
        have h3i : (3 : Int) ≤ (n : Int) := by omega
        obtain ⟨b8, hb8⟩ : ∃ b8, (61 + n).toUInt8 = b8 := ⟨_, rfl⟩
        have hb8n : (b8.toNat : Int) = 61 + (n : Int) := by rw [← hb8, UInt8.toNat_ofNat']; omega
        have hwb : IntKind.u8.wrap (61 + (n : Int)) = (b8.toNat : Int) := by rw [← hb8n]; exact wraps_u8 _ (by omega) (by have := b8.toNat_lt; omega)
        have hwn : IntKind.i64.wrap (61 + (n : Int)) = 61 + (n : Int) := IntWalk.i64_in _ (by omega)
        have HV := Lib.hid (show (L ++ [b8, s[i]]) ++ pkV s (i + n) = r by rw [← hV.out, hst, hb8]; simp)
        have HRB := Lib.hid hrb
        have hwi : IntKind.i64.wrap ((i : Int) + (n : Int)) = (i : Int) + (n : Int) := IntWalk.i64_in _ (by omega)
        clear hst hrb hb8 hb8n
        go_wp2_with fail
        refine (RN.out _).mono ?_
        rintro e w2 ⟨rfl, hb2⟩
        have O2 := Lib.hid (OwnB.below hO.out hb2)
        have HB2 := Lib.hid (hb.trans (hb2.mono hsz))
        have hz2 := hb2.size
        clear hb2
        go_wp2_with (at_builtin; refine wpList_appendBs rfl _ _ rfl rfl (O2.out.alloc _) [b8, s[i]] (Nat.zero_lt_succ 1) ⟨w2.heap.size, 0, none⟩ 2 rfl (World.news_of_block (cs := #[.int .u8 (b8.toNat : Int), .int .u8 (s[i].toNat : Int)]) (t := 5) (fr := (0, 0)) (heap_alloc_new w2 _)) (by simp; omega) (by simp; omega) ?_; intro g cap6 w6 hown6 _ hb6)
        go_roundw
        case rel =>
          obtain ⟨r1, r2, r3⟩ := HRB.out
          exact ⟨i + n, L ++ [b8, s[i]], by omega, by congr 1, HV, by simp; omega, Lib.hid hown6, (HB2.out.alloc (by omega) _).trans hb6⟩
        case measure =>
          obtain ⟨r1, r2, r3⟩ := HRB.out
          simp [intOf]; omega
      · have HRB0 := Lib.hid hrb
        have h3i : ¬ (3 : Int) ≤ ((runV s i 64 : Nat) : Int) := by omega
        generalize hrn : runV s i 64 = n at RN h3i
        clear hrn hrb
        go_wp2_with fail
        refine (RN.out _).mono ?_
        rintro e0 w2 ⟨rfl, hb2⟩
        have O2 := Lib.hid (OwnB.below hO.out hb2)
        have HB2 := Lib.hid (hb.trans (hb2.mono hsz))
        have hz2 := hb2.size
        clear hb2
        go_wp2
        go_loopw [7] (fun v W => ∃ e : Nat, i ≤ e ∧ e ≤ i + 64 ∧ e ≤ s.size ∧ v = .int .i64 e ∧ Hid (peV s (64 - (e - i)) e = peV s 64 i) ∧ Below w2.heap.size w2 W) (fun v _ => i + 64 - (intOf v).toNat)
        case atStart => exact ⟨i, Nat.le_refl _, by omega, by omega, rfl, by unfold Hid; simp, Below.refl _ _⟩
        case round =>
          obtain ⟨e, he1, he2, he3, rfl, hE, hbe⟩ := hrel
          have O3 := Lib.hid (OwnB.below O2.out hbe)
          have HB3 := Lib.hid (HB2.out.trans (hbe.mono HB2.out.size))
          by_cases h5 : e < s.size
          · have h5i : (e : Int) < (s.size : Int) := by omega
            have hwe : IntKind.i64.wrap ((e : Int) - (i : Int)) = (e : Int) - (i : Int) := IntWalk.i64_in _ (by omega)
            by_cases h6 : e < i + 64
            · have h6i : (e : Int) - (i : Int) < 64 := by omega
              have RN3 := Lib.hid (show ∀ w', Calls Try.prog 39 #[.string s, .int .i64 (e : Int), .int .i64 3] w' fun x w'' => x = .returned (.int .i64 (runV s e 3 : Nat)) ∧ Below w'.heap.size w' w'' from fun w' => l14Run_any s e 3 w' h5 hs (by omega) (by omega))
              have hpe := hE.out
              rw [show 64 - (e - i) = (64 - (e + 1 - i)) + 1 by omega, peV] at hpe
              by_cases h7 : runV s e 3 < 3
              · rw [if_pos ⟨h5, h7⟩] at hpe
                have HPE := Lib.hid hpe
                have h7i : ((runV s e 3 : Nat) : Int) < 3 := by omega
                generalize runV s e 3 = n3 at RN3 h7i
                clear hpe h7
                go_wp2_with fail
                refine (RN3.out _).mono ?_
                rintro x0 w4 ⟨rfl, hb4⟩
                go_wp2
                go_roundw
                case rel => exact ⟨e + 1, by omega, by omega, by omega, by go_num, Lib.hid HPE.out, hbe.trans (hb4.mono hbe.size)⟩
                case measure => simp [intOf]; omega
              · rw [if_neg (fun h => h7 h.2)] at hpe
                have HPE := Lib.hid hpe
                have h7i : ¬ ((runV s e 3 : Nat) : Int) < 3 := by omega
                generalize runV s e 3 = n3 at RN3 h7i
                clear hpe h7
                go_wp2_with fail
                refine (RN3.out _).mono ?_
                rintro x0 w4 ⟨rfl, hb4⟩
                have O4 := Lib.hid (OwnB.below O3.out hb4)
                have HB4 := Lib.hid (HB3.out.trans (hb4.mono HB3.out.size))
                clear hb4
                have HE2 := Lib.hid (show e = peV s 64 i from HPE.out)
                obtain ⟨b8, hb8⟩ : ∃ b8, (e - i - 1).toUInt8 = b8 := ⟨_, rfl⟩
                have hie : i + 1 ≤ e := by rw [HE2.out]; exact pe_step hlt h3
                have hb8n : (b8.toNat : Int) = (e : Int) - (i : Int) - 1 := by rw [← hb8, UInt8.toNat_ofNat']; omega
                have hwb : IntKind.u8.wrap ((e : Int) - (i : Int) - 1) = (b8.toNat : Int) := by rw [← hb8n]; exact wraps_u8 _ (by omega) (by have := b8.toNat_lt; omega)
                have hw1 : IntKind.i64.wrap ((e : Int) - (i : Int)) = (e : Int) - (i : Int) := IntWalk.i64_in _ (by omega)
                have hw2 : IntKind.i64.wrap ((e : Int) - (i : Int) - 1) = (e : Int) - (i : Int) - 1 := IntWalk.i64_in _ (by omega)
                have hst := pkV_plain hlt h3
                rw [← HE2.out, hb8] at hst
                have HV := Lib.hid (show (L ++ [b8] ++ (s.extract i e).data.toList) ++ pkV s e = r by rw [← hV.out, hst]; simp)
                have hsl : i ≤ e ∧ e ≤ s.size := by omega
                have hxs : (s.extract i e).size = e - i := by rw [ByteArray.size_extract]; omega
                have HSZ := Lib.hid (And.intro hie (And.intro he2 he3))
                have HXS := Lib.hid hxs
                have hl8 : L.length ≤ 8192 := by omega
                have hzW : w.heap.size ≤ w4.heap.size := HB4.out.size
                have hl9 : L.length + (e - i) < 1000000 := by omega
                clear hst hb8 hb8n hie he2 hxs
                go_wp2_with (first
                  | (at_builtin; refine wpList_appendBs rfl _ _ rfl rfl (O4.out.alloc _) [b8] (Nat.zero_lt_succ 0) ⟨w4.heap.size, 0, none⟩ 1 rfl (World.news_of_block (cs := #[.int .u8 (b8.toNat : Int)]) (t := 5) (fr := (0, 0)) (heap_alloc_new w4 _)) (by simp; omega) (by simp; omega) ?_; intro g6 cap6 w6 hown6 _ hb6; have hz6 := hb6.size; have HB6 := Lib.hid ((HB4.out.alloc (by have := HB4.out.size; omega) _).trans hb6); have how := hown6; unfold OwnB at how)
                  | (at_builtin; refine Lib.wpList_append_own_string _ rfl _ _ 65 9 rfl w.heap.size 5 i0 Try.underlying65 Try.underlying9 HI.out.1 HI.out.2.1 HI.out.2.2.1 HI.out.2.2.2 _ _ _ rfl how (s.extract i e) rfl (by unfold maxLen; rw [HXS.out]; simp; omega) (by rw [HXS.out]; simp; omega) HB6.out.size ?_; intro v7 w7 hown7 hgr7 _))
                have HB7 := Lib.hid (HB6.out.grown hgr7 HB6.out.size (fun j hj => (how.lt j hj).1))
                have O7 := Lib.hid (snocS2 (l := L ++ [b8]) hown7)
                clear hown7 hgr7 how
                go_wp2
                go_roundw
                case rel =>
                  obtain ⟨q1, q2, q3⟩ := HSZ.out
                  exact ⟨e, L ++ [b8] ++ (s.extract i e).data.toList, by omega, rfl, HV, by simp [HXS.out]; omega, O7, HB7.out⟩
                case measure =>
                  obtain ⟨q1, q2, q3⟩ := HSZ.out
                  simp [intOf]; omega
            · have h6i : ¬ (e : Int) - (i : Int) < 64 := by omega
              have hpe := hE.out
              rw [show 64 - (e - i) = 0 by omega, peV] at hpe
              have HPE := Lib.hid hpe
              clear hpe
              have HE2 := Lib.hid (show e = peV s 64 i from HPE.out)
              obtain ⟨b8, hb8⟩ : ∃ b8, (e - i - 1).toUInt8 = b8 := ⟨_, rfl⟩
              have hie : i + 1 ≤ e := by rw [HE2.out]; exact pe_step hlt h3
              have hb8n : (b8.toNat : Int) = (e : Int) - (i : Int) - 1 := by rw [← hb8, UInt8.toNat_ofNat']; omega
              have hwb : IntKind.u8.wrap ((e : Int) - (i : Int) - 1) = (b8.toNat : Int) := by rw [← hb8n]; exact wraps_u8 _ (by omega) (by have := b8.toNat_lt; omega)
              have hw1 : IntKind.i64.wrap ((e : Int) - (i : Int)) = (e : Int) - (i : Int) := IntWalk.i64_in _ (by omega)
              have hw2 : IntKind.i64.wrap ((e : Int) - (i : Int) - 1) = (e : Int) - (i : Int) - 1 := IntWalk.i64_in _ (by omega)
              have hst := pkV_plain hlt h3
              rw [← HE2.out, hb8] at hst
              have HV := Lib.hid (show (L ++ [b8] ++ (s.extract i e).data.toList) ++ pkV s e = r by rw [← hV.out, hst]; simp)
              have hsl : i ≤ e ∧ e ≤ s.size := by omega
              have hxs : (s.extract i e).size = e - i := by rw [ByteArray.size_extract]; omega
              have HSZ := Lib.hid (And.intro hie (And.intro he2 he3))
              have HXS := Lib.hid hxs
              have hl8 : L.length ≤ 8192 := by omega
              have hzW : w.heap.size ≤ wr.heap.size := HB3.out.size
              have hl9 : L.length + (e - i) < 1000000 := by omega
              clear hst hb8 hb8n hie he2 hxs
              go_wp2_with (first
                | (at_builtin; refine wpList_appendBs rfl _ _ rfl rfl (O3.out.alloc _) [b8] (Nat.zero_lt_succ 0) ⟨wr.heap.size, 0, none⟩ 1 rfl (World.news_of_block (cs := #[.int .u8 (b8.toNat : Int)]) (t := 5) (fr := (0, 0)) (heap_alloc_new wr _)) (by simp; omega) (by simp; omega) ?_; intro g6 cap6 w6 hown6 _ hb6; have hz6 := hb6.size; have HB6 := Lib.hid ((HB3.out.alloc (by have := HB3.out.size; omega) _).trans hb6); have how := hown6; unfold OwnB at how)
                | (at_builtin; refine Lib.wpList_append_own_string _ rfl _ _ 65 9 rfl w.heap.size 5 i0 Try.underlying65 Try.underlying9 HI.out.1 HI.out.2.1 HI.out.2.2.1 HI.out.2.2.2 _ _ _ rfl how (s.extract i e) rfl (by unfold maxLen; rw [HXS.out]; simp; omega) (by rw [HXS.out]; simp; omega) HB6.out.size ?_; intro v7 w7 hown7 hgr7 _))
              have HB7 := Lib.hid (HB6.out.grown hgr7 HB6.out.size (fun j hj => (how.lt j hj).1))
              have O7 := Lib.hid (snocS2 (l := L ++ [b8]) hown7)
              clear hown7 hgr7 how
              go_wp2
              go_roundw
              case rel =>
                obtain ⟨q1, q2, q3⟩ := HSZ.out
                exact ⟨e, L ++ [b8] ++ (s.extract i e).data.toList, by omega, rfl, HV, by simp [HXS.out]; omega, O7, HB7.out⟩
              case measure =>
                obtain ⟨q1, q2, q3⟩ := HSZ.out
                simp [intOf]; omega
          · have h5i : ¬ (e : Int) < (s.size : Int) := by omega
            have HPE := Lib.hid (show e = peV s 64 i by
              have hpe := hE.out
              cases hf : 64 - (e - i) with
              | zero => rw [hf, peV] at hpe; exact hpe
              | succ f' => rw [hf, peV, if_neg (fun h => h5 h.1)] at hpe; exact hpe)
            have HE2 := Lib.hid (show e = peV s 64 i from HPE.out)
            obtain ⟨b8, hb8⟩ : ∃ b8, (e - i - 1).toUInt8 = b8 := ⟨_, rfl⟩
            have hie : i + 1 ≤ e := by rw [HE2.out]; exact pe_step hlt h3
            have hb8n : (b8.toNat : Int) = (e : Int) - (i : Int) - 1 := by rw [← hb8, UInt8.toNat_ofNat']; omega
            have hwb : IntKind.u8.wrap ((e : Int) - (i : Int) - 1) = (b8.toNat : Int) := by rw [← hb8n]; exact wraps_u8 _ (by omega) (by have := b8.toNat_lt; omega)
            have hw1 : IntKind.i64.wrap ((e : Int) - (i : Int)) = (e : Int) - (i : Int) := IntWalk.i64_in _ (by omega)
            have hw2 : IntKind.i64.wrap ((e : Int) - (i : Int) - 1) = (e : Int) - (i : Int) - 1 := IntWalk.i64_in _ (by omega)
            have hst := pkV_plain hlt h3
            rw [← HE2.out, hb8] at hst
            have HV := Lib.hid (show (L ++ [b8] ++ (s.extract i e).data.toList) ++ pkV s e = r by rw [← hV.out, hst]; simp)
            have hsl : i ≤ e ∧ e ≤ s.size := by omega
            have hxs : (s.extract i e).size = e - i := by rw [ByteArray.size_extract]; omega
            have HSZ := Lib.hid (And.intro hie (And.intro he2 he3))
            have HXS := Lib.hid hxs
            have hl8 : L.length ≤ 8192 := by omega
            have hzW : w.heap.size ≤ wr.heap.size := HB3.out.size
            have hl9 : L.length + (e - i) < 1000000 := by omega
            clear hst hb8 hb8n hie he2 hxs
            go_wp2_with (first
              | (at_builtin; refine wpList_appendBs rfl _ _ rfl rfl (O3.out.alloc _) [b8] (Nat.zero_lt_succ 0) ⟨wr.heap.size, 0, none⟩ 1 rfl (World.news_of_block (cs := #[.int .u8 (b8.toNat : Int)]) (t := 5) (fr := (0, 0)) (heap_alloc_new wr _)) (by simp; omega) (by simp; omega) ?_; intro g6 cap6 w6 hown6 _ hb6; have hz6 := hb6.size; have HB6 := Lib.hid ((HB3.out.alloc (by have := HB3.out.size; omega) _).trans hb6); have how := hown6; unfold OwnB at how)
              | (at_builtin; refine Lib.wpList_append_own_string _ rfl _ _ 65 9 rfl w.heap.size 5 i0 Try.underlying65 Try.underlying9 HI.out.1 HI.out.2.1 HI.out.2.2.1 HI.out.2.2.2 _ _ _ rfl how (s.extract i e) rfl (by unfold maxLen; rw [HXS.out]; simp; omega) (by rw [HXS.out]; simp; omega) HB6.out.size ?_; intro v7 w7 hown7 hgr7 _))
            have HB7 := Lib.hid (HB6.out.grown hgr7 HB6.out.size (fun j hj => (how.lt j hj).1))
            have O7 := Lib.hid (snocS2 (l := L ++ [b8]) hown7)
            clear hown7 hgr7 how
            go_wp2
            go_roundw
            case rel =>
              obtain ⟨q1, q2, q3⟩ := HSZ.out
              exact ⟨e, L ++ [b8] ++ (s.extract i e).data.toList, by omega, rfl, HV, by simp [HXS.out]; omega, O7, HB7.out⟩
            case measure =>
              obtain ⟨q1, q2, q3⟩ := HSZ.out
              simp [intOf]; omega
    · obtain rfl : i = s.size := by omega
      have hcv := conv_own hO.out
      have hV2 := hV.out
      rw [pkV_end (by omega), List.append_nil] at hV2
      have HV2 := Lib.hid hV2; clear hV2
      go_wp2
      go_ret2
      exact ⟨by rw [HV2.out]; rfl, hb⟩
end Go.Proofs.Ytogoklgppepbjaa
