/- impl.EncodeGcr, spec.EncodeGcr -/
import Derived.Test.YtffefhgemmjkoaaDoorGcrTab
import Derived.Test.YtffefhgemmjkoaaDoorBuilderStr
import Derived.Test.YtffefhgemmjkoaaDoorSlRes
namespace Go.Proofs.YtffefhgemmjkoaaDoor
open Go.RowKit
set_option maxRecDepth 20000
set_option linter.unusedVariables false
def encGL (s : ByteArray) : Nat → List UInt8
  | 0 => []
  | n + 1 => encGL s n ++ grpT (gcrN ((s[n]?.getD 0).toNat / 16)) ++ grpT (gcrN ((s[n]?.getD 0).toNat % 16))
theorem encGL_len (s : ByteArray) (n : Nat) : (encGL s n).length = 10 * n := by
  induction n with
  | zero => rfl
  | succ n ih => unfold encGL; rw [List.length_append, List.length_append, ih, grpT_len, grpT_len]; omega
theorem encGL_succ (s : ByteArray) (n : Nat) (h : n < s.size) : encGL s (n + 1) = encGL s n ++ grpT (gcrN (s[n].toNat / 16)) ++ grpT (gcrN (s[n].toNat % 16)) := by
  have e : s[n]?.getD 0 = s[n] := by rw [getElem?_pos s n h]; rfl
  show encGL s n ++ grpT (gcrN ((s[n]?.getD 0).toNat / 16)) ++ grpT (gcrN ((s[n]?.getD 0).toNat % 16)) = _
  rw [e]
def encGT (s : ByteArray) : ByteArray := if s.size ≤ 800 then ⟨(encGL s s.size).toArray⟩ else ⟨#[]⟩
def encGB (s : ByteArray) : Bool := decide (s.size ≤ 800)
theorem grpS_list (x : Nat) : (grpS x).data.toList = grpT x := rfl
theorem grpS_size (x : Nat) : (grpS x).size = 5 := rfl
set_option maxHeartbeats 4000000 in
theorem encodeGcr_any (s : ByteArray) (h : s.size ≤ 1048576) (w : World) (hw : 0 < w.heap.size) (ht : GrpTab w) :
    Calls Tryd.prog 22 #[.string s] w fun e w' => e = .returned (.tuple #[.string (encGT s), .bool (encGB s)]) ∧ Below w.heap.size w w' := by
  by_cases h5 : s.size ≤ 800
  · have hE : encGT s = ⟨(encGL s s.size).toArray⟩ := by unfold encGT; rw [if_pos h5]
    have hB : encGB s = true := by unfold encGB; simp [h5]
    rw [hE, hB]
    clear hE hB
    have HT := Lib.hid ht; clear ht
    go_enter Tryd.func22, Tryd.ntmps22
    go_wp2
    go_loopw [5, 7, 13] (fun _ _ i wr => ∃ k : Nat, k ≤ s.size ∧ i = .int .i64 k ∧ (∃ l : List UInt8, Hid (l = encGL s k) ∧ l.length = 10 * k ∧ Bld w.heap.size w.heap.size l wr) ∧ Below w.heap.size w wr) (fun _ _ i _ => s.size - (intOf i).toNat)
    case atStart => exact ⟨0, Nat.zero_le _, rfl, ⟨[], by unfold Hid; rfl, rfl, Bld.fresh w⟩, (Below.refl _ _).alloc (Nat.le_refl _) _⟩
    case round =>
      obtain ⟨k, hk, rfl, ⟨l, hL, hl, hB⟩, hbr⟩ := hrel
      have hsz := hbr.size
      have hl0 : l.length < 100000 := by omega
      have HL := Lib.hid hl; clear hl
      by_cases hlt : k < s.size
      · have hx := s[k].toNat_lt
        have e1 : (k : Int) < s.size := by omega
        have HS := Lib.hid (encGL_succ s k hlt)
        obtain ⟨n0, hn0⟩ : ∃ n, s[k].toNat / 16 = n := ⟨_, rfl⟩
        obtain ⟨n1, hn1⟩ : ∃ n, s[k].toNat % 16 = n := ⟨_, rfl⟩
        rw [hn0, hn1] at HS
        have hb0 : n0 < 16 := by omega
        have hb1 : n1 < 16 := by omega
        have hbi0 : (n0 : Int) < 16 := by omega
        have hbi1 : (n1 : Int) < 16 := by omega
        have hq0 : (s[k].toNat : Int) / 16 = (n0 : Int) := by omega
        have hq1 : bits .and .u8 (s[k].toNat : Int) 15 = (n1 : Int) := by rw [u8_and15 _ (by omega) (by omega)]; omega
        clear hn0 hn1
        have hc0 := (HT.out.below hbr hw).cell n0 hb0
        have HG0 := Lib.hid (fun w => groupText_any (gcrN n0) (gcrN_bd n0 hb0) w)
        have HG1 := Lib.hid (fun w => groupText_any (gcrN n1) (gcrN_bd n1 hb1) w)
        have HC1 := Lib.hid (fun w' (hb : Below w.heap.size w w') => (HT.out.below hb hw).cell n1 hb1)
        generalize gcrN n0 = x0 at *
        generalize gcrN n1 = x1 at *
        go_wp2
        go_quiet (fail)
        rename_i nq
        have hBq : Bld w.heap.size w.heap.size l (wr.drewN nq) := hB
        have hbrq := below_drewN hbr nq
        have hc0q : (wr.drewN nq).cell? ⟨0, n0, none⟩ = some (.int .u8 (x0 : Int)) := hc0
        generalize wr.drewN nq = wq at hBq hbrq hc0q ⊢
        clear hB hbr hc0 hsz
        have hsz := hbrq.size
        have i0 : ∀ w, (Instr.index 64 (.agg #[.int .u8 (n0 : Int), .int .u8 (n1 : Int)]) (.int .i64 0)).run Tryd.prog w = .ok (.int .u8 (n0 : Int)) w := fun _ => rfl
        have i1 : ∀ w, (Instr.index 64 (.agg #[.int .u8 (n0 : Int), .int .u8 (n1 : Int)]) (.int .i64 1)).run Tryd.prog w = .ok (.int .u8 (n1 : Int)) w := fun _ => rfl
        go_wp2
        refine wp_loop_rounds 3 ?_
        rw [rounds_succ]
        go_wp2_with (first
          | (go_at_call 55; refine (HG0.out _).mono ?_; rintro e w2 ⟨rfl, hb2⟩; have hB2 := hBq.same (fun k _ hk => hb2.block k hk); have hs2 := hb2.size)
          | (go_at_call 54; refine (writeString_any w.heap.size w.heap.size l (grpS x0) _ hB2 (by rw [grpS_size]; omega) (by omega)).mono ?_; rintro e w3 ⟨rfl, hB3, hb3⟩; have hbr3 := (hbrq.trans (hb2.mono hsz)).trans hb3; have hc1 := HC1.out w3 hbr3))
        have hs3 := hb3.size
        clear hb2 hB2
        rw [rounds_succ]
        go_wp2_with (first
          | (go_at_call 55; refine (HG1.out _).mono ?_; rintro e w4 ⟨rfl, hb4⟩; have hB4 := hB3.same (fun k _ hk => hb4.block k hk); have hs4 := hb4.size)
          | (go_at_call 54; refine (writeString_any w.heap.size w.heap.size (l ++ (grpS x0).data.toList) (grpS x1) _ hB4 (by rw [grpS_size, List.length_append, grpS_list, grpT_len]; omega) (by omega)).mono ?_; rintro e w5 ⟨rfl, hB5, hb5⟩))
        rw [rounds_succ]
        go_wp2
        go_roundw
        case rel =>
          refine ⟨k + 1, by omega, by go_num, ⟨_, ?_, ?_, hB5⟩, (hbr3.trans (hb4.mono (by omega))).trans hb5⟩
          · unfold Hid; rw [HS.out, hL.out, grpS_list, grpS_list]
          · rw [List.length_append, List.length_append, grpS_list, grpS_list, grpT_len, grpT_len, HL.out]; omega
        case measure => simp [intOf] <;> omega
      · obtain rfl : k = s.size := by omega
        go_wp2_with (go_at_call 56; refine (Tryd.Builder_String_any w.heap.size w.heap.size l _ hB hsz).mono ?_; rintro e w1 ⟨rfl, hb1⟩)
        go_ret2
        exact ⟨by rw [hL.out]; rfl, hbr.trans hb1⟩
  · have hE : encGT s = ⟨#[]⟩ := by unfold encGT; rw [if_neg h5]
    have hB : encGB s = false := by unfold encGB; simp [h5]
    rw [hE, hB]
    have h8 : (800 : Int) < s.size := by omega
    clear hE hB h5
    go_enter Tryd.func22, Tryd.ntmps22
    go_wp2
    go_ret2
    exact ⟨rfl, Below.refl _ _⟩
theorem gcrCodeV_at (n : Nat) (h : n < 16) : gcrCodeV (n : Int) = grpS (gcrN n) := by unfold gcrCodeV; rw [if_pos (by rw [inB_iff]; omega)]; rfl
section
variable {ops : Array Oper} {o : Oper} {a : Act} {Q : Exit → Act → World → Prop} {w : World}
/-- 'append(out, s...)' of a string to bytes of the call's own. -/
theorem wpList_appendS {rest : List Oper} (hgd : o.guard = none) (s x : Operand) (ho : o.op = .call { callee := .builtin .append, args := #[s, x], argTypes := #[34, 9] })
    {B : Nat} {v : Value} {l : List UInt8} (hs : a.eval s = v) (hown : OwnB w B v l) (t : ByteArray) (hx : a.eval x = .string t) (hl : l.length + t.size < 2147483648) (hB : B ≤ w.heap.size)
    (h : ∀ v' w', OwnB w' B v' (l ++ t.data.toList) → Below B w w' → wpList Tryd.prog ops Q rest (a.put o.dst v') w') : wpList Tryd.prog ops Q (o :: rest) a w := by
  obtain ⟨i0, hi, hz0, hz1, hz2⟩ := info_parts u8info
  refine Lib.wpList_append_own_string _ hgd s x 34 9 ho B 5 i0 Tryd.underlying34 Tryd.underlying9 hi hz0 hz1 hz2 v l.length (Lib.byteCells l) hs hown t hx (by unfold maxLen; omega) (by omega) hB ?_
  intro v' w' h2 h3 _
  refine h v' w' ?_ (below_of_grown hown hB h3)
  unfold OwnB
  rw [Lib.byteCells_append, List.length_append]
  have : t.data.toList.length = t.size := by simp
  rw [this]
  exact h2
end
set_option maxHeartbeats 4000000 in
theorem specEncodeGcr_any (s : ByteArray) (h : s.size ≤ 1048576) (w : World) :
    Calls Tryd.prog 73 #[.string s] w fun e w' => e = .returned (.tuple #[.string (encGT s), .bool (encGB s)]) ∧ Below w.heap.size w w' := by
  by_cases h5 : s.size ≤ 800
  · have hE : encGT s = ⟨(encGL s s.size).toArray⟩ := by unfold encGT; rw [if_pos h5]
    have hB : encGB s = true := by unfold encGB; simp [h5]
    rw [hE, hB]
    clear hE hB
    go_enter Tryd.func73, Tryd.ntmps73
    go_wp2
    go_loopw [4, 5] (fun v i wr => ∃ k : Nat, k ≤ s.size ∧ i = .int .i64 k ∧ (∃ l : List UInt8, Hid (l = encGL s k) ∧ l.length = 10 * k ∧ OwnB wr w.heap.size v l) ∧ Below w.heap.size w wr) (fun _ i _ => s.size - (intOf i).toNat)
    case atStart => exact ⟨0, Nat.zero_le _, rfl, ⟨[], by unfold Hid; rfl, rfl, OwnB.nil w _ (Nat.le_refl _)⟩, (Below.refl _ _).alloc (Nat.le_refl _) _⟩
    case round =>
      obtain ⟨k, hk, rfl, ⟨l, hL, hl, hown⟩, hbr⟩ := hrel
      have hsz := hbr.size
      have hl0 : l.length < 100000 := by omega
      have HL := Lib.hid hl; clear hl
      by_cases hlt : k < s.size
      · have hx := s[k].toNat_lt
        have e1 : (k : Int) < s.size := by omega
        have HS := Lib.hid (encGL_succ s k hlt)
        obtain ⟨n0, hn0⟩ : ∃ n, s[k].toNat / 16 = n := ⟨_, rfl⟩
        obtain ⟨n1, hn1⟩ : ∃ n, s[k].toNat % 16 = n := ⟨_, rfl⟩
        rw [hn0, hn1] at HS
        have hb0 : n0 < 16 := by omega
        have hb1 : n1 < 16 := by omega
        have hq0 : (s[k].toNat : Int) / 16 = (n0 : Int) := by omega
        have hq1 : (s[k].toNat : Int) % 16 = (n1 : Int) := by omega
        clear hn0 hn1
        have HG0 := Lib.hid (fun w => specGcrCode_any (n0 : Int) w)
        have HG1 := Lib.hid (fun w => specGcrCode_any (n1 : Int) w)
        rw [gcrCodeV_at n0 hb0] at HG0
        rw [gcrCodeV_at n1 hb1] at HG1
        generalize gcrN n0 = x0 at *
        generalize gcrN n1 = x1 at *
        go_wp2_with fail
        refine (HG0.out _).mono ?_
        rintro e w2 ⟨rfl, hb2⟩
        have hs2 := hb2.size
        have hown2 := hown.below hb2
        have hbr2 := hbr.trans (hb2.mono hsz)
        clear hown hbr hb2
        go_wp2_with (first
          | (at_builtin; refine wpList_appendS rfl _ _ rfl rfl hown2 (grpS x0) rfl (by rw [grpS_size]; omega) (by omega) ?_; intro v3 w3 hown3 hb3; have hbr3 := hbr2.trans hb3; have hs3 := hbr3.size)
          | (go_at_call 117; refine (HG1.out w3).mono ?_; rintro e w4 ⟨rfl, hb4⟩; have hown4 := hown3.below hb4; have hbr4 := hbr3.trans (hb4.mono hs3); have hs4 := hbr4.size)
          | (at_builtin; refine wpList_appendS rfl _ _ rfl rfl hown4 (grpS x1) rfl (by rw [grpS_size, List.length_append, grpS_list, grpT_len]; omega) (by omega) ?_; intro v5 w5 hown5 hb5))
        go_roundw
        case rel =>
          refine ⟨k + 1, by omega, by go_num, ⟨_, ?_, ?_, hown5⟩, hbr4.trans hb5⟩
          · unfold Hid; rw [HS.out, hL.out, grpS_list, grpS_list]
          · rw [List.length_append, List.length_append, grpS_list, grpS_list, grpT_len, grpT_len, HL.out]; omega
        case measure => simp [intOf] <;> omega
      · obtain rfl : k = s.size := by omega
        have hcv := conv_own hown
        go_wp2
        go_ret2
        exact ⟨by rw [hL.out]; rfl, hbr⟩
  · have hE : encGT s = ⟨#[]⟩ := by unfold encGT; rw [if_neg h5]
    have hB : encGB s = false := by unfold encGB; simp [h5]
    rw [hE, hB]
    have h8 : (8000 : Int) < 10 * s.size := by omega
    clear hE hB h5
    go_enter Tryd.func73, Tryd.ntmps73
    go_wp2
    go_ret2
    exact ⟨rfl, by go_grown⟩
end Go.Proofs.YtffefhgemmjkoaaDoor
