/- impl.chainEntryOf -/
import Derived.Test.YtpdodpnhohmjaaaGreatDoorPkGoneChainsE
import Derived.Test.YtpdodpnhohmjaaaGreatDoorPkGoneChainsBoxP
namespace Go.Proofs.YtpdodpnhohmjaaaGreatDoor
open Go.RowKit
set_option maxRecDepth 20000
set_option linter.unusedVariables false
set_option linter.unusedSimpArgs false
set_option maxRecDepth 20000
theorem ent_facts {l : List UInt8} {s : ByteArray} (hs : s = ⟨l.toArray⟩) (hl : l.length = 12) (h8 : 8 < s.size) (h11 : 11 < s.size) :
    (⟨(Lib.trimRightB (List.take 8 s.data.toList) 0).toArray⟩ : ByteArray) = (entE l).f0 ∧ IntKind.i64.wrap ((s[8]'h8).toNat : Int) = (entE l).f1 ∧ word s 9 = (entE l).f2 ∧ (((s[11]'h11).toNat : Int) == 1) = (entE l).f3 ∧ (((s[11]'h11).toNat : Int) == 2) = (entE l).f4 := by
  subst hs
  have hg : ∀ (i : Nat) (hi : i < (⟨l.toArray⟩ : ByteArray).size), ((⟨l.toArray⟩ : ByteArray)[i]'hi).toNat = atE l i := by
    intro i hi
    have hi2 : i < l.length := by
      have h : (⟨l.toArray⟩ : ByteArray).size = l.length := by show l.toArray.size = _; simp
      omega
    unfold atE
    rw [List.getElem?_eq_getElem hi2]
    rfl
  have hq : ∀ (i : Nat), i < 12 → (((⟨l.toArray⟩ : ByteArray)[i]?.getD 0).toNat) = atE l i := by
    intro i hi
    have h : i < (⟨l.toArray⟩ : ByteArray).size := by show i < l.toArray.size; simp; omega
    rw [getElem?_pos (⟨l.toArray⟩ : ByteArray) i h]
    exact hg i h
  have a8 := atE_lt l 8
  refine ⟨rfl, ?_, ?_, ?_, ?_⟩
  · rw [hg 8 h8]
    show IntKind.i64.wrap (atE l 8 : Int) = (atE l 8 : Int)
    exact IntWalk.i64_in _ (by omega)
  · unfold word
    rw [hq 9 (by omega), hq 10 (by omega)]
    rfl
  · rw [hg 11 h11]
    show ((atE l 11 : Int) == 1) = decide (atE l 11 = 1)
    rw [Bool.eq_iff_iff]; simp; omega
  · rw [hg 11 h11]
    show ((atE l 11 : Int) == 2) = decide (atE l 11 = 2)
    rw [Bool.eq_iff_iff]; simp; omega
theorem entE_f0 {l : List UInt8} (hl : l.length = 12) : (entE l).f0.size ≤ 8 := by
  show (Lib.trimRightB (l.take 8) 0).toArray.size ≤ 8
  have h := congrArg List.length (trim_app (l.take 8))
  rw [List.length_append] at h
  have h8 : (l.take 8).length = 8 := by rw [List.length_take]; omega
  simp only [List.size_toArray]
  omega
set_option maxHeartbeats 8000000 in
theorem chainEntryOf_any (l : List UInt8) (hl : l.length = 12) (w : World) :
    Calls Tryz.prog 44 #[.string ⟨l.toArray⟩] w fun x w' => x = .returned (.tuple #[.agg #[.string (entR l).f0, .int .i64 (entR l).f1, .int .i64 (entR l).f2, .bool (entR l).f3, .bool (entR l).f4], .bool (entOk l)]) ∧ Below w.heap.size w w' := by
  obtain ⟨s, hs⟩ : ∃ s : ByteArray, s = ⟨l.toArray⟩ := ⟨_, rfl⟩
  have hsz : s.size = 12 := by rw [hs]; show l.toArray.size = 12; simp [hl]
  have hml : s.size ≤ maxLen := by unfold maxLen; omega
  have GW := Lib.hid (fun w => getWord_yes s 9 w hml (by omega))
  have hf0 := entE_f0 hl
  have VA := Lib.hid (fun w => entValid_any (entE l) (by unfold maxLen; omega) w)
  have q8n : 8 < s.size := by omega
  have q11n : 11 < s.size := by omega
  have HE := Lib.hid (ent_facts hs hl q8n q11n)
  have q8 : (8 : Int) ≤ (s.size : Int) := by omega
  have q8' : (8 : Int) < (s.size : Int) := by omega
  have q11 : (11 : Int) < (s.size : Int) := by omega
  have hex : (s.extract 0 8).size ≤ 9223372036854775807 := by rw [ByteArray.size_extract]; omega
  have TR := Lib.hid (fun w => Tryz.strings_TrimRight_one (s.extract 0 8) 0 (by decide) w hex)
  have hOK : entOk l = (validE (entE l) && decide (bytesE (entE l) = s)) := by rw [hs]; rfl
  have hR : entR l = if entOk l = true then entE l else zeroE := rfl
  rw [hR, hOK, ← hs]
  have R0 := Lib.hid (BoxF.new w #[.string ⟨#[]⟩, .int .i64 0, .int .i64 0, .bool false, .bool false] 45 _ rfl)
  clear hex hsz hml hs hOK hR hf0
  by_cases hv : validE (entE l) = true
  case neg =>
    have hf : validE (entE l) = false := by simpa using hv
    have hR2 : (if (validE (entE l) && decide (bytesE (entE l) = s)) = true then entE l else zeroE) = zeroE := by rw [hf]; rfl
    rw [hR2, hf, Bool.false_and]
    rw [hf] at VA
    show Calls _ _ _ _ fun x w' => x = .returned (.tuple #[.agg #[.string ⟨#[]⟩, .int .i64 0, .int .i64 0, .bool false, .bool false], .bool false]) ∧ _
    clear hv hf hR2
    go_enter Tryz.func44, Tryz.ntmps44
    go_wp2_with fail
    refine (GW.out _).mono ?_
    rintro x w1 ⟨rfl, hb1⟩
    replace R0 := Lib.hid (R0.out.below hb1 (by simp))
    have FB := Lib.hid (show Below w.heap.size w w1 from Below.trans (by go_grown) (hb1.mono (by simp)))
    have hlt : w.heap.size < w1.heap.size := by have := hb1.size; simp at this; omega
    clear hb1
    go_wp2
    have KS := Lib.hid (fun w' (hb : Below w1.heap.size w1 w') => (show True from trivial))
    have HC := Lib.hid (show Below w1.heap.size w1 w1.drew from (Below.refl _ _).drew)
    refine wp_region_held_drew (S := (fun w' => True)) (by kernel_rfl) (KS.out _ HC.out) (fun hHeld => ?_)
    refine wpAnyH_take (i := 0) (oi := { dst := some 12, op := Op.move (Operand.tmp 0), type := 9, pos := "l16_chains.go:248", after := #[], guard := none }) (v := ?_) rfl (by kernel_rfl) (by kernel_rfl) (by kernel_rfl) (fun _ _ _ h => h) (Or.inl ⟨by rfl, ?hy⟩) hHeld ?_
    case hy => (intro w' hSw; (try dsimp only at hSw); go_simp; try with_reducible rfl)
    simp only [Act.put, List.setIfInBounds_toArray, List.set_cons_zero, List.set_cons_succ]
    refine wpAnyH_take (i := 1) (oi := { dst := some 13, op := Op.slice 9 (Operand.tmp 12) none (some (Operand.const (Value.int IntKind.i64 8))) none, type := 9, pos := "l16_chains.go:248", after := #[{ on := 0, ground := Ground.data }], guard := none }) (v := ?_) rfl (by kernel_rfl) (by kernel_rfl) (by kernel_rfl) (fun _ _ _ h => h) (Or.inl ⟨by rfl, ?hy⟩) hHeld ?_
    case hy => (intro w' hSw; (try dsimp only at hSw); go_simp; try with_reducible rfl)
    simp only [Act.put, List.setIfInBounds_toArray, List.set_cons_zero, List.set_cons_succ]
    refine wpAnyH_take (i := 3) (oi := { dst := some 15, op := Op.move (Operand.tmp 0), type := 9, pos := "l16_chains.go:248", after := #[], guard := none }) (v := ?_) rfl (by kernel_rfl) (by kernel_rfl) (by kernel_rfl) (fun _ _ _ h => h) (Or.inl ⟨by rfl, ?hy⟩) hHeld ?_
    case hy => (intro w' hSw; (try dsimp only at hSw); go_simp; try with_reducible rfl)
    simp only [Act.put, List.setIfInBounds_toArray, List.set_cons_zero, List.set_cons_succ]
    refine wpAnyH_take (i := 4) (oi := { dst := some 16, op := Op.index 9 (Operand.tmp 15) (Operand.const (Value.int IntKind.i64 8)), type := 5, pos := "l16_chains.go:248", after := #[{ on := 3, ground := Ground.data }], guard := none }) (v := ?_) rfl (by kernel_rfl) (by kernel_rfl) (by kernel_rfl) (fun _ _ _ h => h) (Or.inl ⟨by rfl, ?hy⟩) hHeld ?_
    case hy => (intro w' hSw; (try dsimp only at hSw); go_simp; try with_reducible rfl)
    simp only [Act.put, List.setIfInBounds_toArray, List.set_cons_zero, List.set_cons_succ]
    refine wpAnyH_take (i := 5) (oi := { dst := some 17, op := Op.convert 5 2 (Operand.tmp 16), type := 2, pos := "l16_chains.go:248", after := #[{ on := 4, ground := Ground.data }], guard := none }) (v := ?_) rfl (by kernel_rfl) (by kernel_rfl) (by kernel_rfl) (fun _ _ _ h => h) (Or.inl ⟨by rfl, ?hy⟩) hHeld ?_
    case hy => (intro w' hSw; (try dsimp only at hSw); go_simp; try with_reducible rfl)
    simp only [Act.put, List.setIfInBounds_toArray, List.set_cons_zero, List.set_cons_succ]
    refine wpAnyH_take (i := 6) (oi := { dst := some 18, op := Op.move (Operand.tmp 4), type := 2, pos := "l16_chains.go:248", after := #[], guard := none }) (v := ?_) rfl (by kernel_rfl) (by kernel_rfl) (by kernel_rfl) (fun _ _ _ h => h) (Or.inl ⟨by rfl, ?hy⟩) hHeld ?_
    case hy => (intro w' hSw; (try dsimp only at hSw); go_simp; try with_reducible rfl)
    simp only [Act.put, List.setIfInBounds_toArray, List.set_cons_zero, List.set_cons_succ]
    refine wpAnyH_take (i := 7) (oi := { dst := some 19, op := Op.move (Operand.tmp 0), type := 9, pos := "l16_chains.go:248", after := #[], guard := none }) (v := ?_) rfl (by kernel_rfl) (by kernel_rfl) (by kernel_rfl) (fun _ _ _ h => h) (Or.inl ⟨by rfl, ?hy⟩) hHeld ?_
    case hy => (intro w' hSw; (try dsimp only at hSw); go_simp; try with_reducible rfl)
    simp only [Act.put, List.setIfInBounds_toArray, List.set_cons_zero, List.set_cons_succ]
    refine wpAnyH_take (i := 8) (oi := { dst := some 20, op := Op.index 9 (Operand.tmp 19) (Operand.const (Value.int IntKind.i64 11)), type := 5, pos := "l16_chains.go:248", after := #[{ on := 7, ground := Ground.data }], guard := none }) (v := ?_) rfl (by kernel_rfl) (by kernel_rfl) (by kernel_rfl) (fun _ _ _ h => h) (Or.inl ⟨by rfl, ?hy⟩) hHeld ?_
    case hy => (intro w' hSw; (try dsimp only at hSw); go_simp; try with_reducible rfl)
    simp only [Act.put, List.setIfInBounds_toArray, List.set_cons_zero, List.set_cons_succ]
    refine wpAnyH_take (i := 9) (oi := { dst := some 21, op := Op.binOp BinOp.eql 5 (Operand.tmp 20) (Operand.const (Value.int IntKind.u8 1)) 5, type := 4, pos := "l16_chains.go:248", after := #[{ on := 8, ground := Ground.data }], guard := none }) (v := ?_) rfl (by kernel_rfl) (by kernel_rfl) (by kernel_rfl) (fun _ _ _ h => h) (Or.inl ⟨by rfl, ?hy⟩) hHeld ?_
    case hy => (intro w' hSw; (try dsimp only at hSw); go_simp; try with_reducible rfl)
    simp only [Act.put, List.setIfInBounds_toArray, List.set_cons_zero, List.set_cons_succ]
    refine wpAnyH_take (i := 10) (oi := { dst := some 22, op := Op.move (Operand.tmp 0), type := 9, pos := "l16_chains.go:248", after := #[], guard := none }) (v := ?_) rfl (by kernel_rfl) (by kernel_rfl) (by kernel_rfl) (fun _ _ _ h => h) (Or.inl ⟨by rfl, ?hy⟩) hHeld ?_
    case hy => (intro w' hSw; (try dsimp only at hSw); go_simp; try with_reducible rfl)
    simp only [Act.put, List.setIfInBounds_toArray, List.set_cons_zero, List.set_cons_succ]
    refine wpAnyH_take (i := 11) (oi := { dst := some 23, op := Op.index 9 (Operand.tmp 22) (Operand.const (Value.int IntKind.i64 11)), type := 5, pos := "l16_chains.go:248", after := #[{ on := 10, ground := Ground.data }], guard := none }) (v := ?_) rfl (by kernel_rfl) (by kernel_rfl) (by kernel_rfl) (fun _ _ _ h => h) (Or.inl ⟨by rfl, ?hy⟩) hHeld ?_
    case hy => (intro w' hSw; (try dsimp only at hSw); go_simp; try with_reducible rfl)
    simp only [Act.put, List.setIfInBounds_toArray, List.set_cons_zero, List.set_cons_succ]
    refine wpAnyH_take (i := 12) (oi := { dst := some 24, op := Op.binOp BinOp.eql 5 (Operand.tmp 23) (Operand.const (Value.int IntKind.u8 2)) 5, type := 4, pos := "l16_chains.go:248", after := #[{ on := 11, ground := Ground.data }], guard := none }) (v := ?_) rfl (by kernel_rfl) (by kernel_rfl) (by kernel_rfl) (fun _ _ _ h => h) (Or.inl ⟨by rfl, ?hy⟩) hHeld ?_
    case hy => (intro w' hSw; (try dsimp only at hSw); go_simp; try with_reducible rfl)
    simp only [Act.put, List.setIfInBounds_toArray, List.set_cons_zero, List.set_cons_succ]
    refine wpAnyH_ready (rs := [2, 14]) (by kernel_rfl) (by simp) ?_
    refine AllReadyH.cons (o := { dst := some 14, op := Op.call { callee := Callee.value (Operand.func 61), args := #[Operand.tmp 13, Operand.const (Value.string { data := #[0] })], argTypes := #[9, 9] }, type := 9, pos := "l16_chains.go:249", after := #[{ on := 1, ground := Ground.data }], guard := none }) rfl (fun K hK => ?_) (AllReadyH.cons (o := { dst := some 6, op := Op.alloc 45, type := 0, pos := "l16_chains.go:248", after := #[], guard := none }) rfl (fun K hK => ?_) AllReadyH.nil)
    · go_simp
      go_at_call 61; refine (TR.out _).mono ?_; rintro x w2 ⟨rfl, rfl⟩
      go_wp2_with fail
      refine hK.out _ _ (KS.out _ HC.out) (fun hHeld => ?_)
      clear hK K
      try simp only [Act.put, List.setIfInBounds_toArray, List.set_cons_zero, List.set_cons_succ]
      refine wpAnyH_take (i := 13) (oi := { dst := some 25, op := Op.build 45 #[(0, Operand.tmp 14), (1, Operand.tmp 17), (2, Operand.tmp 18), (3, Operand.tmp 21), (4, Operand.tmp 24)], type := 45, pos := "l16_chains.go:248", after := #[{ on := 2, ground := Ground.data }, { on := 5, ground := Ground.data }, { on := 6, ground := Ground.data }, { on := 9, ground := Ground.data }, { on := 12, ground := Ground.data }], guard := none }) (v := ?_) rfl (by kernel_rfl) (by kernel_rfl) (by kernel_rfl) (fun _ _ _ h => h) (Or.inl ⟨by rfl, ?hy⟩) hHeld ?_
      case hy => (intro w' hSw; (try dsimp only at hSw); go_simp; try with_reducible rfl)
      simp only [Act.put, List.setIfInBounds_toArray, List.set_cons_zero, List.set_cons_succ]
      refine wpAnyH_ready (rs := [14]) (by kernel_rfl) (by simp) ?_
      refine AllReadyH.cons (o := { dst := some 6, op := Op.alloc 45, type := 0, pos := "l16_chains.go:248", after := #[], guard := none }) rfl (fun K hK => ?_) AllReadyH.nil
      go_simp
      refine hK.out _ _ (KS.out _ HC.out) (fun hHeld => ?_)
      clear hK K
      try simp only [Act.put, List.setIfInBounds_toArray, List.set_cons_zero, List.set_cons_succ]
      refine wpAnyH_ready (rs := [15]) (by kernel_rfl) (by simp) ?_
      refine AllReadyH.cons (o := { dst := none, op := Op.store 45 (Operand.tmp 6) (Operand.tmp 25), type := 0, pos := "l16_chains.go:248", after := #[{ on := 14, ground := Ground.data }, { on := 13, ground := Ground.data }, { on := 2, ground := Ground.chain }, { on := 0, ground := Ground.phase }, { on := 1, ground := Ground.phase }, { on := 2, ground := Ground.phase }, { on := 3, ground := Ground.phase }, { on := 4, ground := Ground.phase }, { on := 5, ground := Ground.phase }, { on := 6, ground := Ground.phase }, { on := 7, ground := Ground.phase }, { on := 8, ground := Ground.phase }, { on := 9, ground := Ground.phase }, { on := 10, ground := Ground.phase }, { on := 11, ground := Ground.phase }, { on := 12, ground := Ground.phase }, { on := 13, ground := Ground.phase }, { on := 14, ground := Ground.phase }], guard := none }) rfl (fun K hK => ?_) AllReadyH.nil
      go_simp
      refine hK.out _ _ (KS.out _ HC.out) (fun hHeld => ?_)
      clear hK K
      try simp only [Act.put, List.setIfInBounds_toArray, List.set_cons_zero, List.set_cons_succ]
      refine wpAnyH_done (by kernel_rfl) ?_ _
      obtain ⟨i0, i1, i2, i3, i4⟩ := HE.out
      rw [i0, i1, i2, i3, i4]
      clear i0 i1 i2 i3 i4 q8
      have FW := Lib.hid (show Below w1.heap.size w1 (w1.alloc (.cells #[.string (entE l).f0, .int .i64 (entE l).f1, .int .i64 (entE l).f2, .bool (entE l).f3, .bool (entE l).f4] 45)).drew from ((Below.refl _ _).alloc (Nat.le_refl _) _).drew)
      have KB := Lib.hid (show BoxAt (w1.alloc (.cells #[.string (entE l).f0, .int .i64 (entE l).f1, .int .i64 (entE l).f2, .bool (entE l).f3, .bool (entE l).f4] 45)).drew w1.heap.size #[.string (entE l).f0, .int .i64 (entE l).f1, .int .i64 (entE l).f2, .bool (entE l).f3, .bool (entE l).f4] from BoxAt.new w1 #[.string (entE l).f0, .int .i64 (entE l).f1, .int .i64 (entE l).f2, .bool (entE l).f3, .bool (entE l).f4] 45 w1.heap.size rfl)
      replace R0 := Lib.hid (R0.out.below FW.out hlt)
      replace FB := Lib.hid (FB.out.trans (FW.out.mono FB.out.size))
      have hlt1 : w.heap.size < (w1.alloc (.cells #[.string (entE l).f0, .int .i64 (entE l).f1, .int .i64 (entE l).f2, .bool (entE l).f3, .bool (entE l).f4] 45)).drew.heap.size := by simp; omega
      have hlt2 : w1.heap.size < (w1.alloc (.cells #[.string (entE l).f0, .int .i64 (entE l).f1, .int .i64 (entE l).f2, .bool (entE l).f3, .bool (entE l).f4] 45)).drew.heap.size := by simp
      clear FW HC KS hlt
      generalize (w1.alloc (.cells #[.string (entE l).f0, .int .i64 (entE l).f1, .int .i64 (entE l).f2, .bool (entE l).f3, .bool (entE l).f4] 45)).drew = W at KB R0 FB hlt1 hlt2 ⊢
      generalize w1.heap.size = gb at KB hlt2 ⊢
      have k0 := KB.out 0 _ rfl
      have k1 := KB.out 1 _ rfl
      have k2 := KB.out 2 _ rfl
      have k3 := KB.out 3 _ rfl
      have k4 := KB.out 4 _ rfl
      go_wp2_with fail
      refine (VA.out _).mono ?_
      rintro x w3 ⟨rfl, hb3⟩
      replace R0 := Lib.hid (R0.out.below hb3 hlt1)
      replace KB := Lib.hid (KB.out.below hb3 hlt2)
      replace FB := Lib.hid (FB.out.trans (hb3.mono FB.out.size))
      replace hlt1 := Nat.lt_of_lt_of_le hlt1 hb3.size
      replace hlt2 := Nat.lt_of_lt_of_le hlt2 hb3.size
      clear hb3 k0 k1 k2 k3 k4
      obtain ⟨a0, z0⟩ := R0.out 0 _ rfl
      obtain ⟨a1, z1⟩ := R0.out 1 _ rfl
      obtain ⟨a2, z2⟩ := R0.out 2 _ rfl
      obtain ⟨a3, z3⟩ := R0.out 3 _ rfl
      obtain ⟨a4, z4⟩ := R0.out 4 _ rfl
      go_wp2
      refine bodyPost_ret (v := .tuple #[.agg #[.string ⟨#[]⟩, .int .i64 0, .int .i64 0, .bool false, .bool false], .bool false]) (by simp [results, Tryz.results44, go_sem, a0, a1, a2, a3, a4]) rfl ⟨rfl, ?_⟩
      exact ((((FB.out.setCell (by simp) _).setCell (by simp) _).setCell (by simp) _).setCell (by simp) _).setCell (by simp) _
    · go_simp
      refine hK.out _ _ (KS.out _ HC.out) (fun hHeld => ?_)
      clear hK K
      try simp only [Act.put, List.setIfInBounds_toArray, List.set_cons_zero, List.set_cons_succ]
      refine wpAnyH_ready (rs := [2]) (by kernel_rfl) (by simp) ?_
      refine AllReadyH.cons (o := { dst := some 14, op := Op.call { callee := Callee.value (Operand.func 61), args := #[Operand.tmp 13, Operand.const (Value.string { data := #[0] })], argTypes := #[9, 9] }, type := 9, pos := "l16_chains.go:249", after := #[{ on := 1, ground := Ground.data }], guard := none }) rfl (fun K hK => ?_) AllReadyH.nil
      go_simp
      go_at_call 61; refine (TR.out _).mono ?_; rintro x w2 ⟨rfl, rfl⟩
      go_wp2_with fail
      refine hK.out _ _ (KS.out _ HC.out) (fun hHeld => ?_)
      clear hK K
      try simp only [Act.put, List.setIfInBounds_toArray, List.set_cons_zero, List.set_cons_succ]
      refine wpAnyH_take (i := 13) (oi := { dst := some 25, op := Op.build 45 #[(0, Operand.tmp 14), (1, Operand.tmp 17), (2, Operand.tmp 18), (3, Operand.tmp 21), (4, Operand.tmp 24)], type := 45, pos := "l16_chains.go:248", after := #[{ on := 2, ground := Ground.data }, { on := 5, ground := Ground.data }, { on := 6, ground := Ground.data }, { on := 9, ground := Ground.data }, { on := 12, ground := Ground.data }], guard := none }) (v := ?_) rfl (by kernel_rfl) (by kernel_rfl) (by kernel_rfl) (fun _ _ _ h => h) (Or.inl ⟨by rfl, ?hy⟩) hHeld ?_
      case hy => (intro w' hSw; (try dsimp only at hSw); go_simp; try with_reducible rfl)
      simp only [Act.put, List.setIfInBounds_toArray, List.set_cons_zero, List.set_cons_succ]
      refine wpAnyH_ready (rs := [15]) (by kernel_rfl) (by simp) ?_
      refine AllReadyH.cons (o := { dst := none, op := Op.store 45 (Operand.tmp 6) (Operand.tmp 25), type := 0, pos := "l16_chains.go:248", after := #[{ on := 14, ground := Ground.data }, { on := 13, ground := Ground.data }, { on := 2, ground := Ground.chain }, { on := 0, ground := Ground.phase }, { on := 1, ground := Ground.phase }, { on := 2, ground := Ground.phase }, { on := 3, ground := Ground.phase }, { on := 4, ground := Ground.phase }, { on := 5, ground := Ground.phase }, { on := 6, ground := Ground.phase }, { on := 7, ground := Ground.phase }, { on := 8, ground := Ground.phase }, { on := 9, ground := Ground.phase }, { on := 10, ground := Ground.phase }, { on := 11, ground := Ground.phase }, { on := 12, ground := Ground.phase }, { on := 13, ground := Ground.phase }, { on := 14, ground := Ground.phase }], guard := none }) rfl (fun K hK => ?_) AllReadyH.nil
      go_simp
      refine hK.out _ _ (KS.out _ HC.out) (fun hHeld => ?_)
      clear hK K
      try simp only [Act.put, List.setIfInBounds_toArray, List.set_cons_zero, List.set_cons_succ]
      refine wpAnyH_done (by kernel_rfl) ?_ _
      obtain ⟨i0, i1, i2, i3, i4⟩ := HE.out
      rw [i0, i1, i2, i3, i4]
      clear i0 i1 i2 i3 i4 q8
      have FW := Lib.hid (show Below w1.heap.size w1 (w1.alloc (.cells #[.string (entE l).f0, .int .i64 (entE l).f1, .int .i64 (entE l).f2, .bool (entE l).f3, .bool (entE l).f4] 45)).drew from ((Below.refl _ _).alloc (Nat.le_refl _) _).drew)
      have KB := Lib.hid (show BoxAt (w1.alloc (.cells #[.string (entE l).f0, .int .i64 (entE l).f1, .int .i64 (entE l).f2, .bool (entE l).f3, .bool (entE l).f4] 45)).drew w1.heap.size #[.string (entE l).f0, .int .i64 (entE l).f1, .int .i64 (entE l).f2, .bool (entE l).f3, .bool (entE l).f4] from BoxAt.new w1 #[.string (entE l).f0, .int .i64 (entE l).f1, .int .i64 (entE l).f2, .bool (entE l).f3, .bool (entE l).f4] 45 w1.heap.size rfl)
      replace R0 := Lib.hid (R0.out.below FW.out hlt)
      replace FB := Lib.hid (FB.out.trans (FW.out.mono FB.out.size))
      have hlt1 : w.heap.size < (w1.alloc (.cells #[.string (entE l).f0, .int .i64 (entE l).f1, .int .i64 (entE l).f2, .bool (entE l).f3, .bool (entE l).f4] 45)).drew.heap.size := by simp; omega
      have hlt2 : w1.heap.size < (w1.alloc (.cells #[.string (entE l).f0, .int .i64 (entE l).f1, .int .i64 (entE l).f2, .bool (entE l).f3, .bool (entE l).f4] 45)).drew.heap.size := by simp
      clear FW HC KS hlt
      generalize (w1.alloc (.cells #[.string (entE l).f0, .int .i64 (entE l).f1, .int .i64 (entE l).f2, .bool (entE l).f3, .bool (entE l).f4] 45)).drew = W at KB R0 FB hlt1 hlt2 ⊢
      generalize w1.heap.size = gb at KB hlt2 ⊢
      have k0 := KB.out 0 _ rfl
      have k1 := KB.out 1 _ rfl
      have k2 := KB.out 2 _ rfl
      have k3 := KB.out 3 _ rfl
      have k4 := KB.out 4 _ rfl
      go_wp2_with fail
      refine (VA.out _).mono ?_
      rintro x w3 ⟨rfl, hb3⟩
      replace R0 := Lib.hid (R0.out.below hb3 hlt1)
      replace KB := Lib.hid (KB.out.below hb3 hlt2)
      replace FB := Lib.hid (FB.out.trans (hb3.mono FB.out.size))
      replace hlt1 := Nat.lt_of_lt_of_le hlt1 hb3.size
      replace hlt2 := Nat.lt_of_lt_of_le hlt2 hb3.size
      clear hb3 k0 k1 k2 k3 k4
      obtain ⟨a0, z0⟩ := R0.out 0 _ rfl
      obtain ⟨a1, z1⟩ := R0.out 1 _ rfl
      obtain ⟨a2, z2⟩ := R0.out 2 _ rfl
      obtain ⟨a3, z3⟩ := R0.out 3 _ rfl
      obtain ⟨a4, z4⟩ := R0.out 4 _ rfl
      go_wp2
      refine bodyPost_ret (v := .tuple #[.agg #[.string ⟨#[]⟩, .int .i64 0, .int .i64 0, .bool false, .bool false], .bool false]) (by simp [results, Tryz.results44, go_sem, a0, a1, a2, a3, a4]) rfl ⟨rfl, ?_⟩
      exact ((((FB.out.setCell (by simp) _).setCell (by simp) _).setCell (by simp) _).setCell (by simp) _).setCell (by simp) _
  have BY := Lib.hid (fun w => entBytes_any (entE l) hv w)
  rw [hv] at VA
  by_cases hb : bytesE (entE l) = s
  case neg =>
    have hR2 : (if (validE (entE l) && decide (bytesE (entE l) = s)) = true then entE l else zeroE) = zeroE := by rw [hv, decide_eq_false hb]; rfl
    rw [hR2, hv, decide_eq_false hb, Bool.and_false]
    show Calls _ _ _ _ fun x w' => x = .returned (.tuple #[.agg #[.string ⟨#[]⟩, .int .i64 0, .int .i64 0, .bool false, .bool false], .bool false]) ∧ _
    have hne := toList_ne hb
    generalize bytesE (entE l) = m at *
    clear hv hR2 hb
    go_enter Tryz.func44, Tryz.ntmps44
    go_wp2_with fail
    refine (GW.out _).mono ?_
    rintro x w1 ⟨rfl, hb1⟩
    replace R0 := Lib.hid (R0.out.below hb1 (by simp))
    have FB := Lib.hid (show Below w.heap.size w w1 from Below.trans (by go_grown) (hb1.mono (by simp)))
    have hlt : w.heap.size < w1.heap.size := by have := hb1.size; simp at this; omega
    clear hb1
    go_wp2
    have KS := Lib.hid (fun w' (hb : Below w1.heap.size w1 w') => (show True from trivial))
    have HC := Lib.hid (show Below w1.heap.size w1 w1.drew from (Below.refl _ _).drew)
    refine wp_region_held_drew (S := (fun w' => True)) (by kernel_rfl) (KS.out _ HC.out) (fun hHeld => ?_)
    refine wpAnyH_take (i := 0) (oi := { dst := some 12, op := Op.move (Operand.tmp 0), type := 9, pos := "l16_chains.go:248", after := #[], guard := none }) (v := ?_) rfl (by kernel_rfl) (by kernel_rfl) (by kernel_rfl) (fun _ _ _ h => h) (Or.inl ⟨by rfl, ?hy⟩) hHeld ?_
    case hy => (intro w' hSw; (try dsimp only at hSw); go_simp; try with_reducible rfl)
    simp only [Act.put, List.setIfInBounds_toArray, List.set_cons_zero, List.set_cons_succ]
    refine wpAnyH_take (i := 1) (oi := { dst := some 13, op := Op.slice 9 (Operand.tmp 12) none (some (Operand.const (Value.int IntKind.i64 8))) none, type := 9, pos := "l16_chains.go:248", after := #[{ on := 0, ground := Ground.data }], guard := none }) (v := ?_) rfl (by kernel_rfl) (by kernel_rfl) (by kernel_rfl) (fun _ _ _ h => h) (Or.inl ⟨by rfl, ?hy⟩) hHeld ?_
    case hy => (intro w' hSw; (try dsimp only at hSw); go_simp; try with_reducible rfl)
    simp only [Act.put, List.setIfInBounds_toArray, List.set_cons_zero, List.set_cons_succ]
    refine wpAnyH_take (i := 3) (oi := { dst := some 15, op := Op.move (Operand.tmp 0), type := 9, pos := "l16_chains.go:248", after := #[], guard := none }) (v := ?_) rfl (by kernel_rfl) (by kernel_rfl) (by kernel_rfl) (fun _ _ _ h => h) (Or.inl ⟨by rfl, ?hy⟩) hHeld ?_
    case hy => (intro w' hSw; (try dsimp only at hSw); go_simp; try with_reducible rfl)
    simp only [Act.put, List.setIfInBounds_toArray, List.set_cons_zero, List.set_cons_succ]
    refine wpAnyH_take (i := 4) (oi := { dst := some 16, op := Op.index 9 (Operand.tmp 15) (Operand.const (Value.int IntKind.i64 8)), type := 5, pos := "l16_chains.go:248", after := #[{ on := 3, ground := Ground.data }], guard := none }) (v := ?_) rfl (by kernel_rfl) (by kernel_rfl) (by kernel_rfl) (fun _ _ _ h => h) (Or.inl ⟨by rfl, ?hy⟩) hHeld ?_
    case hy => (intro w' hSw; (try dsimp only at hSw); go_simp; try with_reducible rfl)
    simp only [Act.put, List.setIfInBounds_toArray, List.set_cons_zero, List.set_cons_succ]
    refine wpAnyH_take (i := 5) (oi := { dst := some 17, op := Op.convert 5 2 (Operand.tmp 16), type := 2, pos := "l16_chains.go:248", after := #[{ on := 4, ground := Ground.data }], guard := none }) (v := ?_) rfl (by kernel_rfl) (by kernel_rfl) (by kernel_rfl) (fun _ _ _ h => h) (Or.inl ⟨by rfl, ?hy⟩) hHeld ?_
    case hy => (intro w' hSw; (try dsimp only at hSw); go_simp; try with_reducible rfl)
    simp only [Act.put, List.setIfInBounds_toArray, List.set_cons_zero, List.set_cons_succ]
    refine wpAnyH_take (i := 6) (oi := { dst := some 18, op := Op.move (Operand.tmp 4), type := 2, pos := "l16_chains.go:248", after := #[], guard := none }) (v := ?_) rfl (by kernel_rfl) (by kernel_rfl) (by kernel_rfl) (fun _ _ _ h => h) (Or.inl ⟨by rfl, ?hy⟩) hHeld ?_
    case hy => (intro w' hSw; (try dsimp only at hSw); go_simp; try with_reducible rfl)
    simp only [Act.put, List.setIfInBounds_toArray, List.set_cons_zero, List.set_cons_succ]
    refine wpAnyH_take (i := 7) (oi := { dst := some 19, op := Op.move (Operand.tmp 0), type := 9, pos := "l16_chains.go:248", after := #[], guard := none }) (v := ?_) rfl (by kernel_rfl) (by kernel_rfl) (by kernel_rfl) (fun _ _ _ h => h) (Or.inl ⟨by rfl, ?hy⟩) hHeld ?_
    case hy => (intro w' hSw; (try dsimp only at hSw); go_simp; try with_reducible rfl)
    simp only [Act.put, List.setIfInBounds_toArray, List.set_cons_zero, List.set_cons_succ]
    refine wpAnyH_take (i := 8) (oi := { dst := some 20, op := Op.index 9 (Operand.tmp 19) (Operand.const (Value.int IntKind.i64 11)), type := 5, pos := "l16_chains.go:248", after := #[{ on := 7, ground := Ground.data }], guard := none }) (v := ?_) rfl (by kernel_rfl) (by kernel_rfl) (by kernel_rfl) (fun _ _ _ h => h) (Or.inl ⟨by rfl, ?hy⟩) hHeld ?_
    case hy => (intro w' hSw; (try dsimp only at hSw); go_simp; try with_reducible rfl)
    simp only [Act.put, List.setIfInBounds_toArray, List.set_cons_zero, List.set_cons_succ]
    refine wpAnyH_take (i := 9) (oi := { dst := some 21, op := Op.binOp BinOp.eql 5 (Operand.tmp 20) (Operand.const (Value.int IntKind.u8 1)) 5, type := 4, pos := "l16_chains.go:248", after := #[{ on := 8, ground := Ground.data }], guard := none }) (v := ?_) rfl (by kernel_rfl) (by kernel_rfl) (by kernel_rfl) (fun _ _ _ h => h) (Or.inl ⟨by rfl, ?hy⟩) hHeld ?_
    case hy => (intro w' hSw; (try dsimp only at hSw); go_simp; try with_reducible rfl)
    simp only [Act.put, List.setIfInBounds_toArray, List.set_cons_zero, List.set_cons_succ]
    refine wpAnyH_take (i := 10) (oi := { dst := some 22, op := Op.move (Operand.tmp 0), type := 9, pos := "l16_chains.go:248", after := #[], guard := none }) (v := ?_) rfl (by kernel_rfl) (by kernel_rfl) (by kernel_rfl) (fun _ _ _ h => h) (Or.inl ⟨by rfl, ?hy⟩) hHeld ?_
    case hy => (intro w' hSw; (try dsimp only at hSw); go_simp; try with_reducible rfl)
    simp only [Act.put, List.setIfInBounds_toArray, List.set_cons_zero, List.set_cons_succ]
    refine wpAnyH_take (i := 11) (oi := { dst := some 23, op := Op.index 9 (Operand.tmp 22) (Operand.const (Value.int IntKind.i64 11)), type := 5, pos := "l16_chains.go:248", after := #[{ on := 10, ground := Ground.data }], guard := none }) (v := ?_) rfl (by kernel_rfl) (by kernel_rfl) (by kernel_rfl) (fun _ _ _ h => h) (Or.inl ⟨by rfl, ?hy⟩) hHeld ?_
    case hy => (intro w' hSw; (try dsimp only at hSw); go_simp; try with_reducible rfl)
    simp only [Act.put, List.setIfInBounds_toArray, List.set_cons_zero, List.set_cons_succ]
    refine wpAnyH_take (i := 12) (oi := { dst := some 24, op := Op.binOp BinOp.eql 5 (Operand.tmp 23) (Operand.const (Value.int IntKind.u8 2)) 5, type := 4, pos := "l16_chains.go:248", after := #[{ on := 11, ground := Ground.data }], guard := none }) (v := ?_) rfl (by kernel_rfl) (by kernel_rfl) (by kernel_rfl) (fun _ _ _ h => h) (Or.inl ⟨by rfl, ?hy⟩) hHeld ?_
    case hy => (intro w' hSw; (try dsimp only at hSw); go_simp; try with_reducible rfl)
    simp only [Act.put, List.setIfInBounds_toArray, List.set_cons_zero, List.set_cons_succ]
    refine wpAnyH_ready (rs := [2, 14]) (by kernel_rfl) (by simp) ?_
    refine AllReadyH.cons (o := { dst := some 14, op := Op.call { callee := Callee.value (Operand.func 61), args := #[Operand.tmp 13, Operand.const (Value.string { data := #[0] })], argTypes := #[9, 9] }, type := 9, pos := "l16_chains.go:249", after := #[{ on := 1, ground := Ground.data }], guard := none }) rfl (fun K hK => ?_) (AllReadyH.cons (o := { dst := some 6, op := Op.alloc 45, type := 0, pos := "l16_chains.go:248", after := #[], guard := none }) rfl (fun K hK => ?_) AllReadyH.nil)
    · go_simp
      go_at_call 61; refine (TR.out _).mono ?_; rintro x w2 ⟨rfl, rfl⟩
      go_wp2_with fail
      refine hK.out _ _ (KS.out _ HC.out) (fun hHeld => ?_)
      clear hK K
      try simp only [Act.put, List.setIfInBounds_toArray, List.set_cons_zero, List.set_cons_succ]
      refine wpAnyH_take (i := 13) (oi := { dst := some 25, op := Op.build 45 #[(0, Operand.tmp 14), (1, Operand.tmp 17), (2, Operand.tmp 18), (3, Operand.tmp 21), (4, Operand.tmp 24)], type := 45, pos := "l16_chains.go:248", after := #[{ on := 2, ground := Ground.data }, { on := 5, ground := Ground.data }, { on := 6, ground := Ground.data }, { on := 9, ground := Ground.data }, { on := 12, ground := Ground.data }], guard := none }) (v := ?_) rfl (by kernel_rfl) (by kernel_rfl) (by kernel_rfl) (fun _ _ _ h => h) (Or.inl ⟨by rfl, ?hy⟩) hHeld ?_
      case hy => (intro w' hSw; (try dsimp only at hSw); go_simp; try with_reducible rfl)
      simp only [Act.put, List.setIfInBounds_toArray, List.set_cons_zero, List.set_cons_succ]
      refine wpAnyH_ready (rs := [14]) (by kernel_rfl) (by simp) ?_
      refine AllReadyH.cons (o := { dst := some 6, op := Op.alloc 45, type := 0, pos := "l16_chains.go:248", after := #[], guard := none }) rfl (fun K hK => ?_) AllReadyH.nil
      go_simp
      refine hK.out _ _ (KS.out _ HC.out) (fun hHeld => ?_)
      clear hK K
      try simp only [Act.put, List.setIfInBounds_toArray, List.set_cons_zero, List.set_cons_succ]
      refine wpAnyH_ready (rs := [15]) (by kernel_rfl) (by simp) ?_
      refine AllReadyH.cons (o := { dst := none, op := Op.store 45 (Operand.tmp 6) (Operand.tmp 25), type := 0, pos := "l16_chains.go:248", after := #[{ on := 14, ground := Ground.data }, { on := 13, ground := Ground.data }, { on := 2, ground := Ground.chain }, { on := 0, ground := Ground.phase }, { on := 1, ground := Ground.phase }, { on := 2, ground := Ground.phase }, { on := 3, ground := Ground.phase }, { on := 4, ground := Ground.phase }, { on := 5, ground := Ground.phase }, { on := 6, ground := Ground.phase }, { on := 7, ground := Ground.phase }, { on := 8, ground := Ground.phase }, { on := 9, ground := Ground.phase }, { on := 10, ground := Ground.phase }, { on := 11, ground := Ground.phase }, { on := 12, ground := Ground.phase }, { on := 13, ground := Ground.phase }, { on := 14, ground := Ground.phase }], guard := none }) rfl (fun K hK => ?_) AllReadyH.nil
      go_simp
      refine hK.out _ _ (KS.out _ HC.out) (fun hHeld => ?_)
      clear hK K
      try simp only [Act.put, List.setIfInBounds_toArray, List.set_cons_zero, List.set_cons_succ]
      refine wpAnyH_done (by kernel_rfl) ?_ _
      obtain ⟨i0, i1, i2, i3, i4⟩ := HE.out
      rw [i0, i1, i2, i3, i4]
      clear i0 i1 i2 i3 i4 q8
      have FW := Lib.hid (show Below w1.heap.size w1 (w1.alloc (.cells #[.string (entE l).f0, .int .i64 (entE l).f1, .int .i64 (entE l).f2, .bool (entE l).f3, .bool (entE l).f4] 45)).drew from ((Below.refl _ _).alloc (Nat.le_refl _) _).drew)
      have KB := Lib.hid (show BoxAt (w1.alloc (.cells #[.string (entE l).f0, .int .i64 (entE l).f1, .int .i64 (entE l).f2, .bool (entE l).f3, .bool (entE l).f4] 45)).drew w1.heap.size #[.string (entE l).f0, .int .i64 (entE l).f1, .int .i64 (entE l).f2, .bool (entE l).f3, .bool (entE l).f4] from BoxAt.new w1 #[.string (entE l).f0, .int .i64 (entE l).f1, .int .i64 (entE l).f2, .bool (entE l).f3, .bool (entE l).f4] 45 w1.heap.size rfl)
      replace R0 := Lib.hid (R0.out.below FW.out hlt)
      replace FB := Lib.hid (FB.out.trans (FW.out.mono FB.out.size))
      have hlt1 : w.heap.size < (w1.alloc (.cells #[.string (entE l).f0, .int .i64 (entE l).f1, .int .i64 (entE l).f2, .bool (entE l).f3, .bool (entE l).f4] 45)).drew.heap.size := by simp; omega
      have hlt2 : w1.heap.size < (w1.alloc (.cells #[.string (entE l).f0, .int .i64 (entE l).f1, .int .i64 (entE l).f2, .bool (entE l).f3, .bool (entE l).f4] 45)).drew.heap.size := by simp
      clear FW HC KS hlt
      generalize (w1.alloc (.cells #[.string (entE l).f0, .int .i64 (entE l).f1, .int .i64 (entE l).f2, .bool (entE l).f3, .bool (entE l).f4] 45)).drew = W at KB R0 FB hlt1 hlt2 ⊢
      generalize w1.heap.size = gb at KB hlt2 ⊢
      have k0 := KB.out 0 _ rfl
      have k1 := KB.out 1 _ rfl
      have k2 := KB.out 2 _ rfl
      have k3 := KB.out 3 _ rfl
      have k4 := KB.out 4 _ rfl
      go_wp2_with fail
      refine (VA.out _).mono ?_
      rintro x w3 ⟨rfl, hb3⟩
      replace R0 := Lib.hid (R0.out.below hb3 hlt1)
      replace KB := Lib.hid (KB.out.below hb3 hlt2)
      replace FB := Lib.hid (FB.out.trans (hb3.mono FB.out.size))
      replace hlt1 := Nat.lt_of_lt_of_le hlt1 hb3.size
      replace hlt2 := Nat.lt_of_lt_of_le hlt2 hb3.size
      clear hb3 k0 k1 k2 k3 k4
      have k0 := KB.out 0 _ rfl
      have k1 := KB.out 1 _ rfl
      have k2 := KB.out 2 _ rfl
      have k3 := KB.out 3 _ rfl
      have k4 := KB.out 4 _ rfl
      go_wp2_with fail
      refine (BY.out _).mono ?_
      rintro x w4 ⟨rfl, hb4⟩
      replace R0 := Lib.hid (R0.out.below hb4 hlt1)
      replace KB := Lib.hid (KB.out.below hb4 hlt2)
      replace FB := Lib.hid (FB.out.trans (hb4.mono FB.out.size))
      clear hb4 k0 k1 k2 k3 k4
      obtain ⟨a0, z0⟩ := R0.out 0 _ rfl
      obtain ⟨a1, z1⟩ := R0.out 1 _ rfl
      obtain ⟨a2, z2⟩ := R0.out 2 _ rfl
      obtain ⟨a3, z3⟩ := R0.out 3 _ rfl
      obtain ⟨a4, z4⟩ := R0.out 4 _ rfl
      go_wp2
      refine bodyPost_ret (v := .tuple #[.agg #[.string ⟨#[]⟩, .int .i64 0, .int .i64 0, .bool false, .bool false], .bool false]) (by simp [results, Tryz.results44, go_sem, a0, a1, a2, a3, a4]) rfl ⟨rfl, ?_⟩
      exact ((((FB.out.setCell (by simp) _).setCell (by simp) _).setCell (by simp) _).setCell (by simp) _).setCell (by simp) _
    · go_simp
      refine hK.out _ _ (KS.out _ HC.out) (fun hHeld => ?_)
      clear hK K
      try simp only [Act.put, List.setIfInBounds_toArray, List.set_cons_zero, List.set_cons_succ]
      refine wpAnyH_ready (rs := [2]) (by kernel_rfl) (by simp) ?_
      refine AllReadyH.cons (o := { dst := some 14, op := Op.call { callee := Callee.value (Operand.func 61), args := #[Operand.tmp 13, Operand.const (Value.string { data := #[0] })], argTypes := #[9, 9] }, type := 9, pos := "l16_chains.go:249", after := #[{ on := 1, ground := Ground.data }], guard := none }) rfl (fun K hK => ?_) AllReadyH.nil
      go_simp
      go_at_call 61; refine (TR.out _).mono ?_; rintro x w2 ⟨rfl, rfl⟩
      go_wp2_with fail
      refine hK.out _ _ (KS.out _ HC.out) (fun hHeld => ?_)
      clear hK K
      try simp only [Act.put, List.setIfInBounds_toArray, List.set_cons_zero, List.set_cons_succ]
      refine wpAnyH_take (i := 13) (oi := { dst := some 25, op := Op.build 45 #[(0, Operand.tmp 14), (1, Operand.tmp 17), (2, Operand.tmp 18), (3, Operand.tmp 21), (4, Operand.tmp 24)], type := 45, pos := "l16_chains.go:248", after := #[{ on := 2, ground := Ground.data }, { on := 5, ground := Ground.data }, { on := 6, ground := Ground.data }, { on := 9, ground := Ground.data }, { on := 12, ground := Ground.data }], guard := none }) (v := ?_) rfl (by kernel_rfl) (by kernel_rfl) (by kernel_rfl) (fun _ _ _ h => h) (Or.inl ⟨by rfl, ?hy⟩) hHeld ?_
      case hy => (intro w' hSw; (try dsimp only at hSw); go_simp; try with_reducible rfl)
      simp only [Act.put, List.setIfInBounds_toArray, List.set_cons_zero, List.set_cons_succ]
      refine wpAnyH_ready (rs := [15]) (by kernel_rfl) (by simp) ?_
      refine AllReadyH.cons (o := { dst := none, op := Op.store 45 (Operand.tmp 6) (Operand.tmp 25), type := 0, pos := "l16_chains.go:248", after := #[{ on := 14, ground := Ground.data }, { on := 13, ground := Ground.data }, { on := 2, ground := Ground.chain }, { on := 0, ground := Ground.phase }, { on := 1, ground := Ground.phase }, { on := 2, ground := Ground.phase }, { on := 3, ground := Ground.phase }, { on := 4, ground := Ground.phase }, { on := 5, ground := Ground.phase }, { on := 6, ground := Ground.phase }, { on := 7, ground := Ground.phase }, { on := 8, ground := Ground.phase }, { on := 9, ground := Ground.phase }, { on := 10, ground := Ground.phase }, { on := 11, ground := Ground.phase }, { on := 12, ground := Ground.phase }, { on := 13, ground := Ground.phase }, { on := 14, ground := Ground.phase }], guard := none }) rfl (fun K hK => ?_) AllReadyH.nil
      go_simp
      refine hK.out _ _ (KS.out _ HC.out) (fun hHeld => ?_)
      clear hK K
      try simp only [Act.put, List.setIfInBounds_toArray, List.set_cons_zero, List.set_cons_succ]
      refine wpAnyH_done (by kernel_rfl) ?_ _
      obtain ⟨i0, i1, i2, i3, i4⟩ := HE.out
      rw [i0, i1, i2, i3, i4]
      clear i0 i1 i2 i3 i4 q8
      have FW := Lib.hid (show Below w1.heap.size w1 (w1.alloc (.cells #[.string (entE l).f0, .int .i64 (entE l).f1, .int .i64 (entE l).f2, .bool (entE l).f3, .bool (entE l).f4] 45)).drew from ((Below.refl _ _).alloc (Nat.le_refl _) _).drew)
      have KB := Lib.hid (show BoxAt (w1.alloc (.cells #[.string (entE l).f0, .int .i64 (entE l).f1, .int .i64 (entE l).f2, .bool (entE l).f3, .bool (entE l).f4] 45)).drew w1.heap.size #[.string (entE l).f0, .int .i64 (entE l).f1, .int .i64 (entE l).f2, .bool (entE l).f3, .bool (entE l).f4] from BoxAt.new w1 #[.string (entE l).f0, .int .i64 (entE l).f1, .int .i64 (entE l).f2, .bool (entE l).f3, .bool (entE l).f4] 45 w1.heap.size rfl)
      replace R0 := Lib.hid (R0.out.below FW.out hlt)
      replace FB := Lib.hid (FB.out.trans (FW.out.mono FB.out.size))
      have hlt1 : w.heap.size < (w1.alloc (.cells #[.string (entE l).f0, .int .i64 (entE l).f1, .int .i64 (entE l).f2, .bool (entE l).f3, .bool (entE l).f4] 45)).drew.heap.size := by simp; omega
      have hlt2 : w1.heap.size < (w1.alloc (.cells #[.string (entE l).f0, .int .i64 (entE l).f1, .int .i64 (entE l).f2, .bool (entE l).f3, .bool (entE l).f4] 45)).drew.heap.size := by simp
      clear FW HC KS hlt
      generalize (w1.alloc (.cells #[.string (entE l).f0, .int .i64 (entE l).f1, .int .i64 (entE l).f2, .bool (entE l).f3, .bool (entE l).f4] 45)).drew = W at KB R0 FB hlt1 hlt2 ⊢
      generalize w1.heap.size = gb at KB hlt2 ⊢
      have k0 := KB.out 0 _ rfl
      have k1 := KB.out 1 _ rfl
      have k2 := KB.out 2 _ rfl
      have k3 := KB.out 3 _ rfl
      have k4 := KB.out 4 _ rfl
      go_wp2_with fail
      refine (VA.out _).mono ?_
      rintro x w3 ⟨rfl, hb3⟩
      replace R0 := Lib.hid (R0.out.below hb3 hlt1)
      replace KB := Lib.hid (KB.out.below hb3 hlt2)
      replace FB := Lib.hid (FB.out.trans (hb3.mono FB.out.size))
      replace hlt1 := Nat.lt_of_lt_of_le hlt1 hb3.size
      replace hlt2 := Nat.lt_of_lt_of_le hlt2 hb3.size
      clear hb3 k0 k1 k2 k3 k4
      have k0 := KB.out 0 _ rfl
      have k1 := KB.out 1 _ rfl
      have k2 := KB.out 2 _ rfl
      have k3 := KB.out 3 _ rfl
      have k4 := KB.out 4 _ rfl
      go_wp2_with fail
      refine (BY.out _).mono ?_
      rintro x w4 ⟨rfl, hb4⟩
      replace R0 := Lib.hid (R0.out.below hb4 hlt1)
      replace KB := Lib.hid (KB.out.below hb4 hlt2)
      replace FB := Lib.hid (FB.out.trans (hb4.mono FB.out.size))
      clear hb4 k0 k1 k2 k3 k4
      obtain ⟨a0, z0⟩ := R0.out 0 _ rfl
      obtain ⟨a1, z1⟩ := R0.out 1 _ rfl
      obtain ⟨a2, z2⟩ := R0.out 2 _ rfl
      obtain ⟨a3, z3⟩ := R0.out 3 _ rfl
      obtain ⟨a4, z4⟩ := R0.out 4 _ rfl
      go_wp2
      refine bodyPost_ret (v := .tuple #[.agg #[.string ⟨#[]⟩, .int .i64 0, .int .i64 0, .bool false, .bool false], .bool false]) (by simp [results, Tryz.results44, go_sem, a0, a1, a2, a3, a4]) rfl ⟨rfl, ?_⟩
      exact ((((FB.out.setCell (by simp) _).setCell (by simp) _).setCell (by simp) _).setCell (by simp) _).setCell (by simp) _
  case pos =>
    have hR2 : (if (validE (entE l) && decide (bytesE (entE l) = s)) = true then entE l else zeroE) = entE l := by rw [hv, decide_eq_true hb]; rfl
    rw [hR2, hv, decide_eq_true hb, Bool.and_true]
    rw [hb] at BY
    clear hv hR2 hb
    go_enter Tryz.func44, Tryz.ntmps44
    go_wp2_with fail
    refine (GW.out _).mono ?_
    rintro x w1 ⟨rfl, hb1⟩
    replace R0 := Lib.hid (R0.out.below hb1 (by simp))
    have FB := Lib.hid (show Below w.heap.size w w1 from Below.trans (by go_grown) (hb1.mono (by simp)))
    have hlt : w.heap.size < w1.heap.size := by have := hb1.size; simp at this; omega
    clear hb1
    go_wp2
    have KS := Lib.hid (fun w' (hb : Below w1.heap.size w1 w') => (show True from trivial))
    have HC := Lib.hid (show Below w1.heap.size w1 w1.drew from (Below.refl _ _).drew)
    refine wp_region_held_drew (S := (fun w' => True)) (by kernel_rfl) (KS.out _ HC.out) (fun hHeld => ?_)
    refine wpAnyH_take (i := 0) (oi := { dst := some 12, op := Op.move (Operand.tmp 0), type := 9, pos := "l16_chains.go:248", after := #[], guard := none }) (v := ?_) rfl (by kernel_rfl) (by kernel_rfl) (by kernel_rfl) (fun _ _ _ h => h) (Or.inl ⟨by rfl, ?hy⟩) hHeld ?_
    case hy => (intro w' hSw; (try dsimp only at hSw); go_simp; try with_reducible rfl)
    simp only [Act.put, List.setIfInBounds_toArray, List.set_cons_zero, List.set_cons_succ]
    refine wpAnyH_take (i := 1) (oi := { dst := some 13, op := Op.slice 9 (Operand.tmp 12) none (some (Operand.const (Value.int IntKind.i64 8))) none, type := 9, pos := "l16_chains.go:248", after := #[{ on := 0, ground := Ground.data }], guard := none }) (v := ?_) rfl (by kernel_rfl) (by kernel_rfl) (by kernel_rfl) (fun _ _ _ h => h) (Or.inl ⟨by rfl, ?hy⟩) hHeld ?_
    case hy => (intro w' hSw; (try dsimp only at hSw); go_simp; try with_reducible rfl)
    simp only [Act.put, List.setIfInBounds_toArray, List.set_cons_zero, List.set_cons_succ]
    refine wpAnyH_take (i := 3) (oi := { dst := some 15, op := Op.move (Operand.tmp 0), type := 9, pos := "l16_chains.go:248", after := #[], guard := none }) (v := ?_) rfl (by kernel_rfl) (by kernel_rfl) (by kernel_rfl) (fun _ _ _ h => h) (Or.inl ⟨by rfl, ?hy⟩) hHeld ?_
    case hy => (intro w' hSw; (try dsimp only at hSw); go_simp; try with_reducible rfl)
    simp only [Act.put, List.setIfInBounds_toArray, List.set_cons_zero, List.set_cons_succ]
    refine wpAnyH_take (i := 4) (oi := { dst := some 16, op := Op.index 9 (Operand.tmp 15) (Operand.const (Value.int IntKind.i64 8)), type := 5, pos := "l16_chains.go:248", after := #[{ on := 3, ground := Ground.data }], guard := none }) (v := ?_) rfl (by kernel_rfl) (by kernel_rfl) (by kernel_rfl) (fun _ _ _ h => h) (Or.inl ⟨by rfl, ?hy⟩) hHeld ?_
    case hy => (intro w' hSw; (try dsimp only at hSw); go_simp; try with_reducible rfl)
    simp only [Act.put, List.setIfInBounds_toArray, List.set_cons_zero, List.set_cons_succ]
    refine wpAnyH_take (i := 5) (oi := { dst := some 17, op := Op.convert 5 2 (Operand.tmp 16), type := 2, pos := "l16_chains.go:248", after := #[{ on := 4, ground := Ground.data }], guard := none }) (v := ?_) rfl (by kernel_rfl) (by kernel_rfl) (by kernel_rfl) (fun _ _ _ h => h) (Or.inl ⟨by rfl, ?hy⟩) hHeld ?_
    case hy => (intro w' hSw; (try dsimp only at hSw); go_simp; try with_reducible rfl)
    simp only [Act.put, List.setIfInBounds_toArray, List.set_cons_zero, List.set_cons_succ]
    refine wpAnyH_take (i := 6) (oi := { dst := some 18, op := Op.move (Operand.tmp 4), type := 2, pos := "l16_chains.go:248", after := #[], guard := none }) (v := ?_) rfl (by kernel_rfl) (by kernel_rfl) (by kernel_rfl) (fun _ _ _ h => h) (Or.inl ⟨by rfl, ?hy⟩) hHeld ?_
    case hy => (intro w' hSw; (try dsimp only at hSw); go_simp; try with_reducible rfl)
    simp only [Act.put, List.setIfInBounds_toArray, List.set_cons_zero, List.set_cons_succ]
    refine wpAnyH_take (i := 7) (oi := { dst := some 19, op := Op.move (Operand.tmp 0), type := 9, pos := "l16_chains.go:248", after := #[], guard := none }) (v := ?_) rfl (by kernel_rfl) (by kernel_rfl) (by kernel_rfl) (fun _ _ _ h => h) (Or.inl ⟨by rfl, ?hy⟩) hHeld ?_
    case hy => (intro w' hSw; (try dsimp only at hSw); go_simp; try with_reducible rfl)
    simp only [Act.put, List.setIfInBounds_toArray, List.set_cons_zero, List.set_cons_succ]
    refine wpAnyH_take (i := 8) (oi := { dst := some 20, op := Op.index 9 (Operand.tmp 19) (Operand.const (Value.int IntKind.i64 11)), type := 5, pos := "l16_chains.go:248", after := #[{ on := 7, ground := Ground.data }], guard := none }) (v := ?_) rfl (by kernel_rfl) (by kernel_rfl) (by kernel_rfl) (fun _ _ _ h => h) (Or.inl ⟨by rfl, ?hy⟩) hHeld ?_
    case hy => (intro w' hSw; (try dsimp only at hSw); go_simp; try with_reducible rfl)
    simp only [Act.put, List.setIfInBounds_toArray, List.set_cons_zero, List.set_cons_succ]
    refine wpAnyH_take (i := 9) (oi := { dst := some 21, op := Op.binOp BinOp.eql 5 (Operand.tmp 20) (Operand.const (Value.int IntKind.u8 1)) 5, type := 4, pos := "l16_chains.go:248", after := #[{ on := 8, ground := Ground.data }], guard := none }) (v := ?_) rfl (by kernel_rfl) (by kernel_rfl) (by kernel_rfl) (fun _ _ _ h => h) (Or.inl ⟨by rfl, ?hy⟩) hHeld ?_
    case hy => (intro w' hSw; (try dsimp only at hSw); go_simp; try with_reducible rfl)
    simp only [Act.put, List.setIfInBounds_toArray, List.set_cons_zero, List.set_cons_succ]
    refine wpAnyH_take (i := 10) (oi := { dst := some 22, op := Op.move (Operand.tmp 0), type := 9, pos := "l16_chains.go:248", after := #[], guard := none }) (v := ?_) rfl (by kernel_rfl) (by kernel_rfl) (by kernel_rfl) (fun _ _ _ h => h) (Or.inl ⟨by rfl, ?hy⟩) hHeld ?_
    case hy => (intro w' hSw; (try dsimp only at hSw); go_simp; try with_reducible rfl)
    simp only [Act.put, List.setIfInBounds_toArray, List.set_cons_zero, List.set_cons_succ]
    refine wpAnyH_take (i := 11) (oi := { dst := some 23, op := Op.index 9 (Operand.tmp 22) (Operand.const (Value.int IntKind.i64 11)), type := 5, pos := "l16_chains.go:248", after := #[{ on := 10, ground := Ground.data }], guard := none }) (v := ?_) rfl (by kernel_rfl) (by kernel_rfl) (by kernel_rfl) (fun _ _ _ h => h) (Or.inl ⟨by rfl, ?hy⟩) hHeld ?_
    case hy => (intro w' hSw; (try dsimp only at hSw); go_simp; try with_reducible rfl)
    simp only [Act.put, List.setIfInBounds_toArray, List.set_cons_zero, List.set_cons_succ]
    refine wpAnyH_take (i := 12) (oi := { dst := some 24, op := Op.binOp BinOp.eql 5 (Operand.tmp 23) (Operand.const (Value.int IntKind.u8 2)) 5, type := 4, pos := "l16_chains.go:248", after := #[{ on := 11, ground := Ground.data }], guard := none }) (v := ?_) rfl (by kernel_rfl) (by kernel_rfl) (by kernel_rfl) (fun _ _ _ h => h) (Or.inl ⟨by rfl, ?hy⟩) hHeld ?_
    case hy => (intro w' hSw; (try dsimp only at hSw); go_simp; try with_reducible rfl)
    simp only [Act.put, List.setIfInBounds_toArray, List.set_cons_zero, List.set_cons_succ]
    refine wpAnyH_ready (rs := [2, 14]) (by kernel_rfl) (by simp) ?_
    refine AllReadyH.cons (o := { dst := some 14, op := Op.call { callee := Callee.value (Operand.func 61), args := #[Operand.tmp 13, Operand.const (Value.string { data := #[0] })], argTypes := #[9, 9] }, type := 9, pos := "l16_chains.go:249", after := #[{ on := 1, ground := Ground.data }], guard := none }) rfl (fun K hK => ?_) (AllReadyH.cons (o := { dst := some 6, op := Op.alloc 45, type := 0, pos := "l16_chains.go:248", after := #[], guard := none }) rfl (fun K hK => ?_) AllReadyH.nil)
    · go_simp
      go_at_call 61; refine (TR.out _).mono ?_; rintro x w2 ⟨rfl, rfl⟩
      go_wp2_with fail
      refine hK.out _ _ (KS.out _ HC.out) (fun hHeld => ?_)
      clear hK K
      try simp only [Act.put, List.setIfInBounds_toArray, List.set_cons_zero, List.set_cons_succ]
      refine wpAnyH_take (i := 13) (oi := { dst := some 25, op := Op.build 45 #[(0, Operand.tmp 14), (1, Operand.tmp 17), (2, Operand.tmp 18), (3, Operand.tmp 21), (4, Operand.tmp 24)], type := 45, pos := "l16_chains.go:248", after := #[{ on := 2, ground := Ground.data }, { on := 5, ground := Ground.data }, { on := 6, ground := Ground.data }, { on := 9, ground := Ground.data }, { on := 12, ground := Ground.data }], guard := none }) (v := ?_) rfl (by kernel_rfl) (by kernel_rfl) (by kernel_rfl) (fun _ _ _ h => h) (Or.inl ⟨by rfl, ?hy⟩) hHeld ?_
      case hy => (intro w' hSw; (try dsimp only at hSw); go_simp; try with_reducible rfl)
      simp only [Act.put, List.setIfInBounds_toArray, List.set_cons_zero, List.set_cons_succ]
      refine wpAnyH_ready (rs := [14]) (by kernel_rfl) (by simp) ?_
      refine AllReadyH.cons (o := { dst := some 6, op := Op.alloc 45, type := 0, pos := "l16_chains.go:248", after := #[], guard := none }) rfl (fun K hK => ?_) AllReadyH.nil
      go_simp
      refine hK.out _ _ (KS.out _ HC.out) (fun hHeld => ?_)
      clear hK K
      try simp only [Act.put, List.setIfInBounds_toArray, List.set_cons_zero, List.set_cons_succ]
      refine wpAnyH_ready (rs := [15]) (by kernel_rfl) (by simp) ?_
      refine AllReadyH.cons (o := { dst := none, op := Op.store 45 (Operand.tmp 6) (Operand.tmp 25), type := 0, pos := "l16_chains.go:248", after := #[{ on := 14, ground := Ground.data }, { on := 13, ground := Ground.data }, { on := 2, ground := Ground.chain }, { on := 0, ground := Ground.phase }, { on := 1, ground := Ground.phase }, { on := 2, ground := Ground.phase }, { on := 3, ground := Ground.phase }, { on := 4, ground := Ground.phase }, { on := 5, ground := Ground.phase }, { on := 6, ground := Ground.phase }, { on := 7, ground := Ground.phase }, { on := 8, ground := Ground.phase }, { on := 9, ground := Ground.phase }, { on := 10, ground := Ground.phase }, { on := 11, ground := Ground.phase }, { on := 12, ground := Ground.phase }, { on := 13, ground := Ground.phase }, { on := 14, ground := Ground.phase }], guard := none }) rfl (fun K hK => ?_) AllReadyH.nil
      go_simp
      refine hK.out _ _ (KS.out _ HC.out) (fun hHeld => ?_)
      clear hK K
      try simp only [Act.put, List.setIfInBounds_toArray, List.set_cons_zero, List.set_cons_succ]
      refine wpAnyH_done (by kernel_rfl) ?_ _
      obtain ⟨i0, i1, i2, i3, i4⟩ := HE.out
      rw [i0, i1, i2, i3, i4]
      clear i0 i1 i2 i3 i4 q8
      have FW := Lib.hid (show Below w1.heap.size w1 (w1.alloc (.cells #[.string (entE l).f0, .int .i64 (entE l).f1, .int .i64 (entE l).f2, .bool (entE l).f3, .bool (entE l).f4] 45)).drew from ((Below.refl _ _).alloc (Nat.le_refl _) _).drew)
      have KB := Lib.hid (show BoxAt (w1.alloc (.cells #[.string (entE l).f0, .int .i64 (entE l).f1, .int .i64 (entE l).f2, .bool (entE l).f3, .bool (entE l).f4] 45)).drew w1.heap.size #[.string (entE l).f0, .int .i64 (entE l).f1, .int .i64 (entE l).f2, .bool (entE l).f3, .bool (entE l).f4] from BoxAt.new w1 #[.string (entE l).f0, .int .i64 (entE l).f1, .int .i64 (entE l).f2, .bool (entE l).f3, .bool (entE l).f4] 45 w1.heap.size rfl)
      replace R0 := Lib.hid (R0.out.below FW.out hlt)
      replace FB := Lib.hid (FB.out.trans (FW.out.mono FB.out.size))
      have hlt1 : w.heap.size < (w1.alloc (.cells #[.string (entE l).f0, .int .i64 (entE l).f1, .int .i64 (entE l).f2, .bool (entE l).f3, .bool (entE l).f4] 45)).drew.heap.size := by simp; omega
      have hlt2 : w1.heap.size < (w1.alloc (.cells #[.string (entE l).f0, .int .i64 (entE l).f1, .int .i64 (entE l).f2, .bool (entE l).f3, .bool (entE l).f4] 45)).drew.heap.size := by simp
      clear FW HC KS hlt
      generalize (w1.alloc (.cells #[.string (entE l).f0, .int .i64 (entE l).f1, .int .i64 (entE l).f2, .bool (entE l).f3, .bool (entE l).f4] 45)).drew = W at KB R0 FB hlt1 hlt2 ⊢
      generalize w1.heap.size = gb at KB hlt2 ⊢
      have k0 := KB.out 0 _ rfl
      have k1 := KB.out 1 _ rfl
      have k2 := KB.out 2 _ rfl
      have k3 := KB.out 3 _ rfl
      have k4 := KB.out 4 _ rfl
      go_wp2_with fail
      refine (VA.out _).mono ?_
      rintro x w3 ⟨rfl, hb3⟩
      replace R0 := Lib.hid (R0.out.below hb3 hlt1)
      replace KB := Lib.hid (KB.out.below hb3 hlt2)
      replace FB := Lib.hid (FB.out.trans (hb3.mono FB.out.size))
      replace hlt1 := Nat.lt_of_lt_of_le hlt1 hb3.size
      replace hlt2 := Nat.lt_of_lt_of_le hlt2 hb3.size
      clear hb3 k0 k1 k2 k3 k4
      have k0 := KB.out 0 _ rfl
      have k1 := KB.out 1 _ rfl
      have k2 := KB.out 2 _ rfl
      have k3 := KB.out 3 _ rfl
      have k4 := KB.out 4 _ rfl
      go_wp2_with fail
      refine (BY.out _).mono ?_
      rintro x w4 ⟨rfl, hb4⟩
      replace R0 := Lib.hid (R0.out.below hb4 hlt1)
      replace KB := Lib.hid (KB.out.below hb4 hlt2)
      replace FB := Lib.hid (FB.out.trans (hb4.mono FB.out.size))
      clear hb4 k0 k1 k2 k3 k4
      obtain ⟨a0, z0⟩ := R0.out 0 _ rfl
      obtain ⟨a1, z1⟩ := R0.out 1 _ rfl
      obtain ⟨a2, z2⟩ := R0.out 2 _ rfl
      obtain ⟨a3, z3⟩ := R0.out 3 _ rfl
      obtain ⟨a4, z4⟩ := R0.out 4 _ rfl
      have k0 := KB.out 0 _ rfl
      have k1 := KB.out 1 _ rfl
      have k2 := KB.out 2 _ rfl
      have k3 := KB.out 3 _ rfl
      have k4 := KB.out 4 _ rfl
      go_wp2
      refine bodyPost_ret (v := .tuple #[.agg #[.string (entE l).f0, .int .i64 (entE l).f1, .int .i64 (entE l).f2, .bool (entE l).f3, .bool (entE l).f4], .bool true]) (by simp [results, Tryz.results44, go_sem, a0, a1, a2, a3, a4]) rfl ⟨rfl, ?_⟩
      exact ((((FB.out.setCell (by simp) _).setCell (by simp) _).setCell (by simp) _).setCell (by simp) _).setCell (by simp) _
    · go_simp
      refine hK.out _ _ (KS.out _ HC.out) (fun hHeld => ?_)
      clear hK K
      try simp only [Act.put, List.setIfInBounds_toArray, List.set_cons_zero, List.set_cons_succ]
      refine wpAnyH_ready (rs := [2]) (by kernel_rfl) (by simp) ?_
      refine AllReadyH.cons (o := { dst := some 14, op := Op.call { callee := Callee.value (Operand.func 61), args := #[Operand.tmp 13, Operand.const (Value.string { data := #[0] })], argTypes := #[9, 9] }, type := 9, pos := "l16_chains.go:249", after := #[{ on := 1, ground := Ground.data }], guard := none }) rfl (fun K hK => ?_) AllReadyH.nil
      go_simp
      go_at_call 61; refine (TR.out _).mono ?_; rintro x w2 ⟨rfl, rfl⟩
      go_wp2_with fail
      refine hK.out _ _ (KS.out _ HC.out) (fun hHeld => ?_)
      clear hK K
      try simp only [Act.put, List.setIfInBounds_toArray, List.set_cons_zero, List.set_cons_succ]
      refine wpAnyH_take (i := 13) (oi := { dst := some 25, op := Op.build 45 #[(0, Operand.tmp 14), (1, Operand.tmp 17), (2, Operand.tmp 18), (3, Operand.tmp 21), (4, Operand.tmp 24)], type := 45, pos := "l16_chains.go:248", after := #[{ on := 2, ground := Ground.data }, { on := 5, ground := Ground.data }, { on := 6, ground := Ground.data }, { on := 9, ground := Ground.data }, { on := 12, ground := Ground.data }], guard := none }) (v := ?_) rfl (by kernel_rfl) (by kernel_rfl) (by kernel_rfl) (fun _ _ _ h => h) (Or.inl ⟨by rfl, ?hy⟩) hHeld ?_
      case hy => (intro w' hSw; (try dsimp only at hSw); go_simp; try with_reducible rfl)
      simp only [Act.put, List.setIfInBounds_toArray, List.set_cons_zero, List.set_cons_succ]
      refine wpAnyH_ready (rs := [15]) (by kernel_rfl) (by simp) ?_
      refine AllReadyH.cons (o := { dst := none, op := Op.store 45 (Operand.tmp 6) (Operand.tmp 25), type := 0, pos := "l16_chains.go:248", after := #[{ on := 14, ground := Ground.data }, { on := 13, ground := Ground.data }, { on := 2, ground := Ground.chain }, { on := 0, ground := Ground.phase }, { on := 1, ground := Ground.phase }, { on := 2, ground := Ground.phase }, { on := 3, ground := Ground.phase }, { on := 4, ground := Ground.phase }, { on := 5, ground := Ground.phase }, { on := 6, ground := Ground.phase }, { on := 7, ground := Ground.phase }, { on := 8, ground := Ground.phase }, { on := 9, ground := Ground.phase }, { on := 10, ground := Ground.phase }, { on := 11, ground := Ground.phase }, { on := 12, ground := Ground.phase }, { on := 13, ground := Ground.phase }, { on := 14, ground := Ground.phase }], guard := none }) rfl (fun K hK => ?_) AllReadyH.nil
      go_simp
      refine hK.out _ _ (KS.out _ HC.out) (fun hHeld => ?_)
      clear hK K
      try simp only [Act.put, List.setIfInBounds_toArray, List.set_cons_zero, List.set_cons_succ]
      refine wpAnyH_done (by kernel_rfl) ?_ _
      obtain ⟨i0, i1, i2, i3, i4⟩ := HE.out
      rw [i0, i1, i2, i3, i4]
      clear i0 i1 i2 i3 i4 q8
      have FW := Lib.hid (show Below w1.heap.size w1 (w1.alloc (.cells #[.string (entE l).f0, .int .i64 (entE l).f1, .int .i64 (entE l).f2, .bool (entE l).f3, .bool (entE l).f4] 45)).drew from ((Below.refl _ _).alloc (Nat.le_refl _) _).drew)
      have KB := Lib.hid (show BoxAt (w1.alloc (.cells #[.string (entE l).f0, .int .i64 (entE l).f1, .int .i64 (entE l).f2, .bool (entE l).f3, .bool (entE l).f4] 45)).drew w1.heap.size #[.string (entE l).f0, .int .i64 (entE l).f1, .int .i64 (entE l).f2, .bool (entE l).f3, .bool (entE l).f4] from BoxAt.new w1 #[.string (entE l).f0, .int .i64 (entE l).f1, .int .i64 (entE l).f2, .bool (entE l).f3, .bool (entE l).f4] 45 w1.heap.size rfl)
      replace R0 := Lib.hid (R0.out.below FW.out hlt)
      replace FB := Lib.hid (FB.out.trans (FW.out.mono FB.out.size))
      have hlt1 : w.heap.size < (w1.alloc (.cells #[.string (entE l).f0, .int .i64 (entE l).f1, .int .i64 (entE l).f2, .bool (entE l).f3, .bool (entE l).f4] 45)).drew.heap.size := by simp; omega
      have hlt2 : w1.heap.size < (w1.alloc (.cells #[.string (entE l).f0, .int .i64 (entE l).f1, .int .i64 (entE l).f2, .bool (entE l).f3, .bool (entE l).f4] 45)).drew.heap.size := by simp
      clear FW HC KS hlt
      generalize (w1.alloc (.cells #[.string (entE l).f0, .int .i64 (entE l).f1, .int .i64 (entE l).f2, .bool (entE l).f3, .bool (entE l).f4] 45)).drew = W at KB R0 FB hlt1 hlt2 ⊢
      generalize w1.heap.size = gb at KB hlt2 ⊢
      have k0 := KB.out 0 _ rfl
      have k1 := KB.out 1 _ rfl
      have k2 := KB.out 2 _ rfl
      have k3 := KB.out 3 _ rfl
      have k4 := KB.out 4 _ rfl
      go_wp2_with fail
      refine (VA.out _).mono ?_
      rintro x w3 ⟨rfl, hb3⟩
      replace R0 := Lib.hid (R0.out.below hb3 hlt1)
      replace KB := Lib.hid (KB.out.below hb3 hlt2)
      replace FB := Lib.hid (FB.out.trans (hb3.mono FB.out.size))
      replace hlt1 := Nat.lt_of_lt_of_le hlt1 hb3.size
      replace hlt2 := Nat.lt_of_lt_of_le hlt2 hb3.size
      clear hb3 k0 k1 k2 k3 k4
      have k0 := KB.out 0 _ rfl
      have k1 := KB.out 1 _ rfl
      have k2 := KB.out 2 _ rfl
      have k3 := KB.out 3 _ rfl
      have k4 := KB.out 4 _ rfl
      go_wp2_with fail
      refine (BY.out _).mono ?_
      rintro x w4 ⟨rfl, hb4⟩
      replace R0 := Lib.hid (R0.out.below hb4 hlt1)
      replace KB := Lib.hid (KB.out.below hb4 hlt2)
      replace FB := Lib.hid (FB.out.trans (hb4.mono FB.out.size))
      clear hb4 k0 k1 k2 k3 k4
      obtain ⟨a0, z0⟩ := R0.out 0 _ rfl
      obtain ⟨a1, z1⟩ := R0.out 1 _ rfl
      obtain ⟨a2, z2⟩ := R0.out 2 _ rfl
      obtain ⟨a3, z3⟩ := R0.out 3 _ rfl
      obtain ⟨a4, z4⟩ := R0.out 4 _ rfl
      have k0 := KB.out 0 _ rfl
      have k1 := KB.out 1 _ rfl
      have k2 := KB.out 2 _ rfl
      have k3 := KB.out 3 _ rfl
      have k4 := KB.out 4 _ rfl
      go_wp2
      refine bodyPost_ret (v := .tuple #[.agg #[.string (entE l).f0, .int .i64 (entE l).f1, .int .i64 (entE l).f2, .bool (entE l).f3, .bool (entE l).f4], .bool true]) (by simp [results, Tryz.results44, go_sem, a0, a1, a2, a3, a4]) rfl ⟨rfl, ?_⟩
      exact ((((FB.out.setCell (by simp) _).setCell (by simp) _).setCell (by simp) _).setCell (by simp) _).setCell (by simp) _
end Go.Proofs.YtpdodpnhohmjaaaGreatDoor
