/- spec.l17Size, l17Data, l17Head, l17On, spec.ExtentsOn -/
import Derived.Test.YtommbiddbgageaaPkFormatExtentsExOn
namespace Go.Proofs.Ytommbiddbgageaa
open Go.RowKit
set_option linter.unusedVariables false
set_option linter.unusedSimpArgs false
set_option maxRecDepth 20000
set_option maxHeartbeats 400000 in
theorem l17Size_any (n : Int) (w : World) :
    Calls Try.prog 27 #[.int .i64 n] w fun e w' => e = .returned (.bool (sizeI n)) ∧ w = w' := by
  by_cases h1 : n = 8
  · subst h1
    go_enter Try.func27, Try.ntmps27
    go_wp2
    go_ret
    exact ⟨rfl, rfl⟩
  · by_cases h2 : n = 16
    · subst h2
      go_enter Try.func27, Try.ntmps27
      go_wp2
      go_ret
      exact ⟨rfl, rfl⟩
    · have e1 : (n == 8) = false := by simpa using h1
      have e2 : (n == 16) = false := by simpa using h2
      have HE := Lib.hid (show sizeI n = (n == 32) by
        unfold sizeI
        rw [decide_eq_false h1, decide_eq_false h2]
        by_cases h : n = 32
        · simp [h]
        · simp [h])
      clear h1 h2
      go_enter Try.func27, Try.ntmps27
      go_wp2
      go_ret
      exact ⟨ret_bool HE.out.symm, rfl⟩
set_option maxHeartbeats 400000 in
theorem l17Data_any (n z : Nat) (w : World) (hz : 0 < z) (hz2 : z ≤ 1000) (hn : n ≤ 1000) :
    Calls Try.prog 47 #[.int .i64 (n : Int), .int .i64 (z : Int)] w fun e w' => e = .returned (.int .i64 (exData n z : Int)) ∧ w = w' := by
  have e0 : Int.tdiv (n : Int) 4 = ((n / 4 : Nat) : Int) := by rw [Int.tdiv_eq_ediv_of_nonneg (by omega)]; rfl
  have e1 : ((n / 4 : Nat) : Int) * 16 = ((n / 4 * 16 : Nat) : Int) := by omega
  have hr : n / 4 * 16 ≤ 4000 := by omega
  have e2 : ((n / 4 * 16 : Nat) : Int) + (z : Int) - 1 = ((n / 4 * 16 + z - 1 : Nat) : Int) := by omega
  have e3 : ¬ (z : Int) = 0 := by omega
  have e3b : ((z : Int) == 0) = false := by simp; omega
  have e4 : Int.tdiv ((n / 4 * 16 + z - 1 : Nat) : Int) (z : Int) = (((n / 4 * 16 + z - 1) / z : Nat) : Int) := by rw [Int.tdiv_eq_ediv_of_nonneg (by omega)]; exact (Int.natCast_ediv _ _).symm
  have e5 : (n / 4 * 16 + z - 1) / z ≤ n / 4 * 16 + z - 1 := Nat.div_le_self _ _
  have e8 : (1 : Int) + (((n / 4 * 16 + z - 1) / z : Nat) : Int) = (exData n z : Int) := by unfold exData; omega
  have hq4 : n / 4 ≤ 250 := by omega
  generalize (n / 4 * 16 + z - 1) / z = q at *
  generalize n / 4 * 16 = r at *
  generalize n / 4 = t at *
  have e6 : wrap64 (q : Int) = (q : Int) := by unfold wrap64; omega
  have e7 : IntKind.i64.wrap (q : Int) = (q : Int) := IntWalk.i64_in _ (by omega)
  go_enter Try.func47, Try.ntmps47
  go_wp2
  go_ret
  exact ⟨ret_int (by omega), rfl⟩
theorem made_u8 (n j : Nat) (h : j < n) : (madeCells #[Value.int .u8 0] n)[j]? = some (.int .u8 0) := by
  have hs : (madeCells #[Value.int .u8 0] n).size = n := by simp [madeCells]
  rw [Array.getElem?_eq_getElem (by omega)]
  simp [madeCells, Nat.mod_one]
theorem rowB_made (n : Nat) : RowB (madeCells #[Value.int .u8 0] n) (List.replicate n 0) n := by
  refine ⟨by simp [madeCells], by simp, ?_⟩
  intro j hj
  rw [made_u8 n j (by simpa using hj)]
  simp
theorem u8iE : (Try.prog.info? 5).map (fun i => (i.zero, i.size, i.bytes)) = some (some (.int .u8 0), 1, 1) := by kernel_rfl
theorem repl_set (z : Nat) (hz : 5 ≤ z) (a b c d e : UInt8) : ((((((List.replicate z (0 : UInt8)).set 0 a).set 1 b).set 2 c).set 3 d).set 4 e) = [a, b, c, d, e] ++ List.replicate (z - 5) 0 := by
  obtain ⟨k, rfl⟩ : ∃ k, z = k + 5 := ⟨z - 5, by omega⟩
  simp [List.replicate_succ]
theorem exHead_list (n z : Nat) (hz : 5 ≤ z) : (⟨((((((List.replicate z (0 : UInt8)).set 0 69).set 1 88).set 2 n.toUInt8).set 3 z.toUInt8).set 4 (n / 4).toUInt8).toArray⟩ : ByteArray) = exHead n z := by
  rw [repl_set z hz]
  unfold exHead padB
  apply ByteArray.ext
  rw [show (⟨#[69, 88, n.toUInt8, z.toUInt8, (n / 4).toUInt8]⟩ : ByteArray).size = 5 from rfl]
  simp
theorem u8_of (n : Nat) (h : n < 256) : ((n.toUInt8).toNat : Int) = (n : Int) := by
  have : n.toUInt8.toNat = n % 256 := by simp
  omega
set_option maxHeartbeats 4000000 in
theorem l17Head_any (n z : Nat) (w : World) (hz : z = 8 ∨ z = 16 ∨ z = 32) (hn : n ≤ 128) :
    Calls Try.prog 46 #[.int .i64 (n : Int), .int .i64 (z : Int)] w fun e w' => e = .returned (.string (exHead n z)) ∧ Below w.heap.size w w' := by
  have hmk := fun w => run_make_row' (P := Try.prog) 75 5 (.int .u8 0) 1 Try.underlying75 u8iE rfl .i64 .i64 z (by omega) (by omega) w
  have m0 := made_u8 z 0 (by omega)
  have m1 := made_u8 z 1 (by omega)
  have m2 := made_u8 z 2 (by omega)
  have m3 := made_u8 z 3 (by omega)
  have m4 := made_u8 z 4 (by omega)
  have e0 : Int.tdiv (n : Int) 4 = ((n / 4 : Nat) : Int) := by rw [Int.tdiv_eq_ediv_of_nonneg (by omega)]; rfl
  have hR := (((((rowB_made z).set 0 69 (by simp; omega)).set 1 88 (by simp; omega)).set 2 n.toUInt8 (by simp; omega)).set 3 z.toUInt8 (by simp; omega)).set 4 (n / 4).toUInt8 (by simp; omega)
  rw [u8_of n (by omega), u8_of z (by omega), u8_of (n / 4) (by omega)] at hR
  have hcv : ∀ W : World, (convert 75 9 (.slice (some ⟨W.heap.size, 0, none⟩) z z)).run Try.prog (W.alloc (.cells ((((((madeCells #[Value.int .u8 0] z).setIfInBounds 0 (.int .u8 69)).setIfInBounds 1 (.int .u8 88)).setIfInBounds 2 (.int .u8 (n : Int))).setIfInBounds 3 (.int .u8 (z : Int))).setIfInBounds 4 (.int .u8 ((n / 4 : Nat) : Int))) 5)) = .ok (.string (exHead n z)) (W.alloc (.cells ((((((madeCells #[Value.int .u8 0] z).setIfInBounds 0 (.int .u8 69)).setIfInBounds 1 (.int .u8 88)).setIfInBounds 2 (.int .u8 (n : Int))).setIfInBounds 3 (.int .u8 (z : Int))).setIfInBounds 4 (.int .u8 ((n / 4 : Nat) : Int))) 5)) := fun W => by
    rw [← exHead_list n z (by omega)]
    exact hR.conv (heap_alloc_new W _) z z (by simp)
  have hq : n / 4 ≤ 32 := by omega
  have h2 : (n : Int) < 256 := by omega
  have h3 : (z : Int) < 256 := by omega
  clear hR
  generalize exHead n z = hd at *
  generalize n / 4 = q at *
  have h4 : (q : Int) < 256 := by omega
  have k1 : 0 < z := by omega
  have k2 : 1 < z := by omega
  have k3 : 2 < z := by omega
  have k4 : 3 < z := by omega
  have k5 : 4 < z := by omega
  go_enter Try.func46, Try.ntmps46
  go_wp2
  go_ret
  exact ⟨rfl, (Below.refl _ _).alloc (Nat.le_refl _) _⟩
def OnRes (es : List StringV) (w : World) (e : Ending) (w' : World) : Prop :=
  e = .returned (.tuple #[.agg #[.int .i64 (exL es).f0, .int .i64 (exL es).f1, .int .i64 (exL es).f2, .int .i64 (exL es).f3], .bool (exOn es)]) ∧ Below w.heap.size w w'
set_option maxHeartbeats 4000000 in
theorem l17On_any (a : Option Addr) (c : Nat) (es : List StringV) (hm : es.length ≤ 1048576) (hs : ∀ e ∈ es, e.f0.size ≤ 1048576) (w : World) (h : SlS rowString w a es) :
    Calls Try.prog 22 #[.slice a es.length c] w (OnRes es w) := by
  have IN := Lib.hid (fun w => l00In_any (es.length : Int) 8 128 w)
  unfold OnRes
  have HNO := Lib.hid (show exOn es = false → exL es = ⟨0, 0, 0, 0⟩ from fun hno => by unfold exL; rw [hno]; rfl)
  by_cases h1 : inB 8 128 (es.length : Int) = true
  case neg =>
    have h1 : inB 8 128 (es.length : Int) = false := by simpa using h1
    have hno : exOn es = false := by unfold exOn diskB; rw [h1]; rfl
    rw [h1] at IN
    rw [HNO.out hno, hno]
    clear h1 hno h hs
    go_enter Try.func22, Try.ntmps22
    go_wp2_with fail
    refine (IN.out _).mono ?_
    rintro e w1 ⟨rfl, rfl⟩
    go_wp2
    refine bodyPost_ret (v := .tuple #[.agg #[.int .i64 0, .int .i64 0, .int .i64 0, .int .i64 0], .bool false]) (by simp [results, Try.results22, go_sem]) rfl ⟨rfl, ?_⟩
    go_grown
  have hn := inB_iff.1 h1
  rw [h1] at IN
  obtain ⟨e0, hx0⟩ : ∃ e, es[0]? = some e := ⟨es[0], by simp⟩
  have hl0 : len0 es = e0.f0.size := by unfold len0; rw [hx0]; rfl
  obtain ⟨b, off, rfl, hbl, hc⟩ := h.at rowString_len hx0
  have C0 := Lib.hid (fun w' (hb : Below w.heap.size w w') => show w'.cell? ⟨b, off, none⟩ = some (.string e0.f0) by rw [hb.cell (p := ⟨b, off, none⟩) hbl]; simpa using hc 0 _ rfl)
  have hs0 := hs e0 (List.mem_of_getElem? hx0)
  have hpos : 0 < es.length := by omega
  have SZ := Lib.hid (fun w => l17Size_any (e0.f0.size : Int) w)
  by_cases h2 : sizeI (e0.f0.size : Int) = true
  case neg =>
    have h2 : sizeI (e0.f0.size : Int) = false := by simpa using h2
    have hno : exOn es = false := by unfold exOn diskB; rw [hl0, ← sizeI_nat, h2]; simp
    rw [h2] at SZ
    rw [HNO.out hno, hno]
    clear h1 h2 hno h hs hx0 hl0 hc hn
    have c0 := C0.out _ ((Below.refl w.heap.size w).alloc (Nat.le_refl _) (.cells #[.int .i64 0, .int .i64 0, .int .i64 0, .int .i64 0] 25))
    go_enter Try.func22, Try.ntmps22
    go_wp2_with fail
    refine (IN.out _).mono ?_
    rintro e w1 ⟨rfl, rfl⟩
    go_wp2_with fail
    refine (SZ.out _).mono ?_
    rintro e w1 ⟨rfl, rfl⟩
    go_wp2
    refine bodyPost_ret (v := .tuple #[.agg #[.int .i64 0, .int .i64 0, .int .i64 0, .int .i64 0], .bool false]) (by simp [results, Try.results22, go_sem]) rfl ⟨rfl, ?_⟩
    go_grown
  have hz := sizeI_iff.1 h2
  rw [h2] at SZ
  have hz2 : e0.f0.size = 8 ∨ e0.f0.size = 16 ∨ e0.f0.size = 32 := by omega
  have HON := Lib.hid (show allLen e0.f0.size es = true → exOn es = decide (e0.f0 = exHead es.length e0.f0.size) from fun hal => by
    unfold exOn diskB
    rw [h1, hl0, hal, ← sizeI_nat, h2, blkAt_of hx0]
    simp)
  have HOF := Lib.hid (show allLen e0.f0.size es = false → exOn es = false from fun hal => by
    unfold exOn diskB
    rw [hl0, hal]
    simp)
  have HYE := Lib.hid (show exOn es = true → exL es = ⟨(es.length : Int), (e0.f0.size : Int), ((es.length / 4 : Nat) : Int), (exData es.length e0.f0.size : Int)⟩ from fun hye => by unfold exL; rw [hye, hl0]; rfl)
  have HE := Lib.hid (fun w => l17Head_any es.length e0.f0.size w hz2 (by omega))
  have DT := Lib.hid (fun w => l17Data_any es.length e0.f0.size w (by omega) (by omega) (by omega))
  have e4 : Int.tdiv (es.length : Int) 4 = ((es.length / 4 : Nat) : Int) := by rw [Int.tdiv_eq_ediv_of_nonneg (by omega)]; rfl
  have hsl := h.below ((Below.refl w.heap.size w).alloc (Nat.le_refl _) (.cells #[.int .i64 0, .int .i64 0, .int .i64 0, .int .i64 0] 25)) (Nat.le_refl _)
  have c0 := C0.out _ ((Below.refl w.heap.size w).alloc (Nat.le_refl _) (.cells #[.int .i64 0, .int .i64 0, .int .i64 0, .int .i64 0] 25))
  clear h1 h2 hx0 hl0 hc h hz
  go_enter Try.func22, Try.ntmps22
  go_wp2_with fail
  refine (IN.out _).mono ?_
  rintro e w1 ⟨rfl, rfl⟩
  go_wp2_with fail
  refine (SZ.out _).mono ?_
  rintro e w1 ⟨rfl, rfl⟩
  go_wp2
  go_loop [6] (fun i => ∃ k : Nat, k ≤ es.length ∧ i = .int .i64 k ∧ Hid (allLen e0.f0.size (es.take k) = true)) (fun i => es.length - (intOf i).toNat)
  case atStart => exact ⟨0, Nat.zero_le _, rfl, Lib.hid rfl⟩
  case round =>
    obtain ⟨k, hk, rfl, hR⟩ := hrel
    by_cases hlt : k < es.length
    · obtain ⟨e, hx⟩ : ∃ e, es[k]? = some e := ⟨es[k], by simp [hlt]⟩
      obtain ⟨b', off', hbo, _, hck⟩ := hsl.at rowString_len hx
      simp only [Option.some.injEq, Addr.mk.injEq, and_true] at hbo
      obtain ⟨rfl, rfl⟩ := hbo
      have ck : (w.alloc (.cells #[.int .i64 0, .int .i64 0, .int .i64 0, .int .i64 0] 25)).cell? ⟨b, off + k, none⟩ = some (.string e.f0) := by simpa using hck 0 _ rfl
      have hse := hs e (List.mem_of_getElem? hx)
      have HX := Lib.hid (And.intro hx (And.intro hck (And.intro hsl hs))); clear hx hck hsl hs
      by_cases hq : e.f0.size = e0.f0.size
      · have hne : ((e.f0.size : Int) == (e0.f0.size : Int)) = true := by simp; omega
        have HQ := Lib.hid hq; clear hq
        go_wp2
        go_round
        case rel => exact ⟨k + 1, by omega, by go_num, Lib.hid (by unfold allLen; rw [all_take_snocE HX.out.1]; have := hR.out; unfold allLen at this; rw [this]; simp [HQ.out])⟩
        case measure => simp [intOf]; omega
      · have hne : ((e.f0.size : Int) == (e0.f0.size : Int)) = false := by rw [beq_eq_false_iff_ne]; omega
        have HN := Lib.hid (HOF.out (all_false_ofE HX.out.1 (by simp [hq])))
        clear hq
        go_wp2
        refine bodyPost_ret (v := .tuple #[.agg #[.int .i64 0, .int .i64 0, .int .i64 0, .int .i64 0], .bool false]) (by simp [results, Try.results22, go_sem]) rfl ⟨by rw [HNO.out HN.out, HN.out], ?_⟩
        go_grown
    · obtain rfl : k = es.length := by omega
      have HO := Lib.hid (HON.out (by have := hR.out; rwa [List.take_length] at this))
      have R0 := BoxF.new w #[.int .i64 0, .int .i64 0, .int .i64 0, .int .i64 0] 25 _ rfl
      have FB := Lib.hid ((Below.refl w.heap.size w).alloc (Nat.le_refl _) (.cells #[.int .i64 0, .int .i64 0, .int .i64 0, .int .i64 0] 25))
      have hlt0 : w.heap.size < (w.alloc (.cells #[.int .i64 0, .int .i64 0, .int .i64 0, .int .i64 0] 25)).heap.size := by simp
      clear hR hsl hs
      go_wp2_with fail
      go_upto_region 10 with (fail)
      generalize w.alloc (.cells #[.int .i64 0, .int .i64 0, .int .i64 0, .int .i64 0] 25) = W at *
      have HC := Lib.hid (show Below W.heap.size W W.drew from (Below.refl _ _).drew)
      by_cases heq : e0.f0 = exHead es.length e0.f0.size
      all_goals
        first
        | rw [decide_eq_true heq] at HO
        | rw [decide_eq_false heq] at HO
        first
        | have hne : ((e0.f0).toList == (exHead es.length e0.f0.size).toList) = true := by rw [← heq]; simp
        | have hne : ((e0.f0).toList == (exHead es.length e0.f0.size).toList) = false := toList_ne2 heq
        replace HO := Lib.hid HO
        clear HOF HON heq
        generalize exHead es.length e0.f0.size = hd at *
        generalize exData es.length e0.f0.size = dd at *
        have hq4 : es.length / 4 ≤ 32 := by omega
        generalize es.length / 4 = q4 at *
        have hw4 : wrap64 (q4 : Int) = (q4 : Int) := by unfold wrap64; omega
        refine wp_region_held_drew (S := (fun w' => w'.cell? ⟨b, off, none⟩ = some (.string e0.f0))) (by kernel_rfl) (C0.out _ (FB.out.trans (HC.out.mono FB.out.size))) (fun hHeld => ?_)
        refine wpAnyH_take (i := 0) (oi := { dst := some 39, op := Op.move (Operand.tmp 0), type := 22, pos := "l17_extents.go:22", after := #[], guard := none }) (v := ?_) rfl (by kernel_rfl) (by kernel_rfl) (by kernel_rfl) (fun _ _ _ h => h) (Or.inl ⟨by rfl, ?hy⟩) hHeld ?_
        case hy => (intro w' hSw; (try dsimp only at hSw); go_simp; try with_reducible rfl)
        simp only [Act.put, List.setIfInBounds_toArray, List.set_cons_zero, List.set_cons_succ]
        refine wpAnyH_take (i := 1) (oi := { dst := some 40, op := Op.indexAddr 22 (Operand.tmp 39) (Operand.const (Value.int IntKind.i64 0)), type := 0, pos := "l17_extents.go:22", after := #[{ on := 0, ground := Ground.data }], guard := none }) (v := ?_) rfl (by kernel_rfl) (by kernel_rfl) (by kernel_rfl) (fun _ _ _ h => h) (Or.inl ⟨by rfl, ?hy⟩) hHeld ?_
        case hy => (intro w' hSw; (try dsimp only at hSw); go_simp; try with_reducible rfl)
        simp only [Act.put, List.setIfInBounds_toArray, List.set_cons_zero, List.set_cons_succ]
        refine wpAnyH_take (i := 2) (oi := { dst := some 41, op := Op.load 9 (Operand.tmp 40), type := 9, pos := "l17_extents.go:22", after := #[{ on := 1, ground := Ground.data }], guard := none }) (v := ?_) rfl (by kernel_rfl) (by kernel_rfl) (by kernel_rfl) (fun _ _ _ h => h) (Or.inl ⟨by rfl, ?hy⟩) hHeld ?_
        case hy => (intro w' hSw; (try dsimp only at hSw); go_simp; try with_reducible rfl)
        simp only [Act.put, List.setIfInBounds_toArray, List.set_cons_zero, List.set_cons_succ]
        refine wpAnyH_take (i := 3) (oi := { dst := some 42, op := Op.move (Operand.tmp 4), type := 2, pos := "l17_extents.go:22", after := #[], guard := none }) (v := ?_) rfl (by kernel_rfl) (by kernel_rfl) (by kernel_rfl) (fun _ _ _ h => h) (Or.inl ⟨by rfl, ?hy⟩) hHeld ?_
        case hy => (intro w' hSw; (try dsimp only at hSw); go_simp; try with_reducible rfl)
        simp only [Act.put, List.setIfInBounds_toArray, List.set_cons_zero, List.set_cons_succ]
        refine wpAnyH_take (i := 4) (oi := { dst := some 43, op := Op.move (Operand.tmp 5), type := 2, pos := "l17_extents.go:22", after := #[], guard := none }) (v := ?_) rfl (by kernel_rfl) (by kernel_rfl) (by kernel_rfl) (fun _ _ _ h => h) (Or.inl ⟨by rfl, ?hy⟩) hHeld ?_
        case hy => (intro w' hSw; (try dsimp only at hSw); go_simp; try with_reducible rfl)
        simp only [Act.put, List.setIfInBounds_toArray, List.set_cons_zero, List.set_cons_succ]
        refine wpAnyH_ready (rs := [5]) (by kernel_rfl) (by simp) ?_
        refine AllReadyH.cons (o := { dst := some 44, op := Op.call { callee := Callee.value (Operand.func 46), args := #[Operand.tmp 42, Operand.tmp 43], argTypes := #[2, 2] }, type := 9, pos := "l17_extents.go:22", after := #[{ on := 3, ground := Ground.data }, { on := 4, ground := Ground.data }], guard := none }) rfl (fun K hK => ?_) AllReadyH.nil
        go_simp
        go_at_call 46; refine (HE.out _).mono ?_; rintro e wk1 ⟨rfl, hb1⟩; replace HC := Lib.hid (HC.out.trans (hb1.mono HC.out.size))
        go_wp2_with fail
        refine hK.out _ _ (C0.out _ (FB.out.trans (HC.out.mono FB.out.size))) (fun hHeld => ?_)
        clear hK K
        try simp only [Act.put, List.setIfInBounds_toArray, List.set_cons_zero, List.set_cons_succ]
        refine wpAnyH_take (i := 6) (oi := { dst := some 45, op := Op.binOp BinOp.neq 9 (Operand.tmp 41) (Operand.tmp 44) 9, type := 4, pos := "l17_extents.go:22", after := #[{ on := 2, ground := Ground.data }, { on := 5, ground := Ground.data }], guard := none }) (v := ?_) rfl (by kernel_rfl) (by kernel_rfl) (by kernel_rfl) (fun _ _ _ h => h) (Or.inl ⟨by rfl, ?hy⟩) hHeld ?_
        case hy => (intro w' hSw; (try dsimp only at hSw); go_simp; try with_reducible rfl)
        simp only [Act.put, List.setIfInBounds_toArray, List.set_cons_zero, List.set_cons_succ]
        refine wpAnyH_done (by kernel_rfl) ?_ _
        obtain ⟨a0, z0⟩ := (R0.below HC.out hlt0) 0 _ rfl
        obtain ⟨a1, z1⟩ := (R0.below HC.out hlt0) 1 _ rfl
        obtain ⟨a2, z2⟩ := (R0.below HC.out hlt0) 2 _ rfl
        obtain ⟨a3, z3⟩ := (R0.below HC.out hlt0) 3 _ rfl
        replace FB := Lib.hid (FB.out.trans (HC.out.mono FB.out.size))
        clear HC R0 hHeld
        first
        | (go_wp2_with (go_at_call 47; refine (DT.out _).mono ?_; rintro e w9 ⟨rfl, rfl⟩)
           refine bodyPost_ret (v := .tuple #[.agg #[.int .i64 (es.length : Int), .int .i64 (e0.f0.size : Int), .int .i64 (q4 : Int), .int .i64 (dd : Int)], .bool true]) (by simp [results, Try.results22, go_sem, a0, a1, a2, a3]) rfl ⟨by rw [HYE.out HO.out, HO.out], ?_⟩
           exact (((FB.out.setCell (by simp) _).setCell (by simp) _).setCell (by simp) _).setCell (by simp) _)
        | (go_wp2
           refine bodyPost_ret (v := .tuple #[.agg #[.int .i64 0, .int .i64 0, .int .i64 0, .int .i64 0], .bool false]) (by simp [results, Try.results22, go_sem, a0, a1, a2, a3]) rfl ⟨by rw [HNO.out HO.out, HO.out], ?_⟩
           exact (((FB.out.setCell (by simp) _).setCell (by simp) _).setCell (by simp) _).setCell (by simp) _)
set_option maxHeartbeats 4000000 in
theorem specExtentsOn_any (a : Option Addr) (c : Nat) (es : List StringV) (hm : es.length ≤ 1048576) (hs : ∀ e ∈ es, e.f0.size ≤ 1048576) (w : World) (h : SlS rowString w a es) :
    Calls Try.prog 7 #[.slice a es.length c] w (ExRes (exL es) (exC es) w) := by
  have ON := Lib.hid (fun w' (hb : Below w.heap.size w w') => l17On_any a c es hm hs w' (h.below hb (Nat.le_refl _)))
  unfold OnRes at ON
  unfold ExRes
  have HNO := Lib.hid (show exOn es = false → exL es = ⟨0, 0, 0, 0⟩ from fun hno => by unfold exL; rw [hno]; rfl)
  obtain ⟨q, hq⟩ : ∃ q, exOn es = q := ⟨_, rfl⟩
  have hC : exC es = if q = true then 0 else 7 := by rw [← hq]; rfl
  rw [hC]
  rw [hq] at HNO ON
  obtain ⟨L, hL⟩ : ∃ L, exL es = L := ⟨_, rfl⟩
  rw [hL] at HNO ON ⊢
  obtain ⟨l0, l1, l2, l3⟩ := L
  dsimp only at ON ⊢
  clear hq hC h hs hL
  cases q
  all_goals
    simp only [if_true, Bool.false_eq_true, if_false]
    try (have hz := HNO.out rfl; injection hz with g0 g1 g2 g3; subst g0; subst g1; subst g2; subst g3)
    go_enter Try.func7, Try.ntmps7
    have R0 := BoxF.new w #[.int .i64 0, .int .i64 0, .int .i64 0, .int .i64 0] 25 _ rfl
    go_wp2_with fail
    refine (ON.out _ (by go_grown)).mono ?_
    rintro e w1 ⟨rfl, hb1⟩
    obtain ⟨a0, z0⟩ := (R0.below hb1 (by simp)) 0 _ rfl
    obtain ⟨a1, z1⟩ := (R0.below hb1 (by simp)) 1 _ rfl
    obtain ⟨a2, z2⟩ := (R0.below hb1 (by simp)) 2 _ rfl
    obtain ⟨a3, z3⟩ := (R0.below hb1 (by simp)) 3 _ rfl
    have FB := Lib.hid (show Below w.heap.size w w1 from Below.trans (by go_grown) (hb1.mono (by simp)))
    have hz1 : w.heap.size < w1.heap.size := Nat.lt_of_lt_of_le (by simp) hb1.size
    clear hb1 R0
    go_wp2
    first
    | (refine bodyPost_ret (v := .tuple #[.agg #[.int .i64 l0, .int .i64 l1, .int .i64 l2, .int .i64 l3], .int .i64 0]) (by simp [results, Try.results7, go_sem, a0, a1, a2, a3, hz1]) rfl ⟨rfl, ?_⟩)
    | (refine bodyPost_ret (v := .tuple #[.agg #[.int .i64 0, .int .i64 0, .int .i64 0, .int .i64 0], .int .i64 7]) (by simp [results, Try.results7, go_sem, a0, a1, a2, a3, hz1]) rfl ⟨rfl, ?_⟩)
    refine Below.alloc (Below.setCell (Below.setCell (Below.setCell (Below.setCell FB.out ?_ _) ?_ _) ?_ _) ?_ _) ?_ _
    all_goals first | exact Nat.le_refl _ | (simp; omega)
end Go.Proofs.Ytommbiddbgageaa
