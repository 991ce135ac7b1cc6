/- A known box whose cell is stored anew; a box that is kept beside another one's store. -/
import Derived.Test.YtpdodpnhohmjaaaGreatDoorPkGoneBlocksE
import Derived.Test.YtpdodpnhohmjaaaGreatDoorPkGoneBlocksB
import Derived.Test.YtpdodpnhohmjaaaGreatDoorPkGoneBlocksA
import Derived.Deep.QuietTactic
import Derived.BigQuiet
import Derived.Laws.BitsLemmas
import Derived.Test.YtpdodpnhohmjaaaGreatDoorPkGoneBlocksD
import Derived.Test.YtpdodpnhohmjaaaGreatDoorPkGoneBlocksC
import Derived.IntWalk
section
set_option linter.unusedVariables false
namespace Go.Proofs.YtpdodpnhohmjaaaGreatDoor
open Go.RowKit
set_option maxRecDepth 20000
theorem addr_neB {a b o o' : Nat} (h : a ≠ b) : (⟨a, o, none⟩ : Addr) ≠ ⟨b, o', none⟩ := fun e => h (congrArg Addr.block e)
theorem BoxF.kept {w w' : World} {p : Nat} {vs : Array Value} (h : BoxF w p vs) (hk : w'.heap[p]? = w.heap[p]?) : BoxF w' p vs := by
  intro i v hv
  obtain ⟨h1, h2⟩ := h i v hv
  refine ⟨by rw [World.cell?_of_block hk]; exact h1, ?_⟩
  simp only [World.frozen?] at h2 ⊢
  rw [hk]
  exact h2
theorem BoxF.put {w : World} {p : Nat} {vs : Array Value} (h : BoxF w p vs) (i : Nat) (v : Value) (hi : i < vs.size) : BoxF (w.setCell ⟨p, i, none⟩ v) p (vs.setIfInBounds i v) := by
  intro j u hu
  by_cases e : j = i
  · subst e
    rw [Array.getElem?_setIfInBounds_self_of_lt hi] at hu
    cases hu
    exact ⟨World.cell?_setCell_same _ _ v (h j vs[j] (Array.getElem?_eq_getElem hi)).1, by rw [World.frozen?_setCell]; exact (h j vs[j] (Array.getElem?_eq_getElem hi)).2⟩
  · rw [Array.getElem?_setIfInBounds_ne (Ne.symm e)] at hu
    obtain ⟨h1, h2⟩ := h j u hu
    exact ⟨by rw [World.cell?_setCell_other (h := fun e' => e (by cases e'; rfl))]; exact h1, by rw [World.frozen?_setCell]; exact h2⟩
theorem heap_setCell_ne (w : World) (p q i : Nat) (v : Value) (h : q ≠ p) : (w.setCell ⟨p, i, none⟩ v).heap[q]? = w.heap[q]? := by
  simp only [World.setCell, Array.getElem?_modify]
  rw [if_neg (fun e => h e.symm)]
end Go.Proofs.YtpdodpnhohmjaaaGreatDoor
end
section
set_option linter.unusedVariables false
namespace Go.Proofs.YtpdodpnhohmjaaaGreatDoor
open Go.RowKit
set_option maxRecDepth 20000
set_option linter.unusedVariables false
set_option linter.unusedSimpArgs false
set_option maxRecDepth 20000
theorem ent_facts {l : List UInt8} {s : ByteArray} (hs : s = ⟨l.toArray⟩) (hl : l.length = 12) (h8 : 8 < s.size) (h11 : 11 < s.size) :
    (⟨(Lib.trimRightB (List.take 8 s.data.toList) 0).toArray⟩ : ByteArray) = (entE l).f0 ∧ IntKind.i64.wrap ((s[8]'h8).toNat : Int) = (entE l).f1 ∧ word s 9 = (entE l).f2 ∧ (((s[11]'h11).toNat : Int) == 1) = (entE l).f3 ∧ (((s[11]'h11).toNat : Int) == 2) = (entE l).f4 := by
  subst hs
  have hg : ∀ (i : Nat) (hi : i < (⟨l.toArray⟩ : ByteArray).size), ((⟨l.toArray⟩ : ByteArray)[i]'hi).toNat = atE l i := by
    intro i hi
    have hi2 : i < l.length := by
      have h : (⟨l.toArray⟩ : ByteArray).size = l.length := by show l.toArray.size = _; simp
      omega
    unfold atE
    rw [List.getElem?_eq_getElem hi2]
    rfl
  have hq : ∀ (i : Nat), i < 12 → (((⟨l.toArray⟩ : ByteArray)[i]?.getD 0).toNat) = atE l i := by
    intro i hi
    have h : i < (⟨l.toArray⟩ : ByteArray).size := by show i < l.toArray.size; simp; omega
    rw [getElem?_pos (⟨l.toArray⟩ : ByteArray) i h]
    exact hg i h
  have a8 := atE_lt l 8
  refine ⟨rfl, ?_, ?_, ?_, ?_⟩
  · rw [hg 8 h8]
    show IntKind.i64.wrap (atE l 8 : Int) = (atE l 8 : Int)
    exact IntWalk.i64_in _ (by omega)
  · unfold word
    rw [hq 9 (by omega), hq 10 (by omega)]
    rfl
  · rw [hg 11 h11]
    show ((atE l 11 : Int) == 1) = decide (atE l 11 = 1)
    rw [Bool.eq_iff_iff]; simp; omega
  · rw [hg 11 h11]
    show ((atE l 11 : Int) == 2) = decide (atE l 11 = 2)
    rw [Bool.eq_iff_iff]; simp; omega
theorem entE_f0 {l : List UInt8} (hl : l.length = 12) : (entE l).f0.size ≤ 8 := by
  show (Lib.trimRightB (l.take 8) 0).toArray.size ≤ 8
  have h := congrArg List.length (trim_app (l.take 8))
  rw [List.length_append] at h
  have h8 : (l.take 8).length = 8 := by rw [List.length_take]; omega
  simp only [List.size_toArray]
  omega
set_option maxHeartbeats 8000000 in
theorem chainEntryOf_any (l : List UInt8) (hl : l.length = 12) (w : World) :
    Calls Tryz.prog 44 #[.string ⟨l.toArray⟩] w fun x w' => x = .returned (.tuple #[.agg #[.string (entR l).f0, .int .i64 (entR l).f1, .int .i64 (entR l).f2, .bool (entR l).f3, .bool (entR l).f4], .bool (entOk l)]) ∧ Below w.heap.size w w' := by
  obtain ⟨s, hs⟩ : ∃ s : ByteArray, s = ⟨l.toArray⟩ := ⟨_, rfl⟩
  have hsz : s.size = 12 := by rw [hs]; show l.toArray.size = 12; simp [hl]
  have hml : s.size ≤ maxLen := by unfold maxLen; omega
  have GW := Lib.hid (fun w => getWord_yes s 9 w hml (by omega))
  have hf0 := entE_f0 hl
  have VA := Lib.hid (fun w => entValid_any (entE l) (by unfold maxLen; omega) w)
  have q8n : 8 < s.size := by omega
  have q11n : 11 < s.size := by omega
  have HE := Lib.hid (ent_facts hs hl q8n q11n)
  have q8 : (8 : Int) ≤ (s.size : Int) := by omega
  have q8' : (8 : Int) < (s.size : Int) := by omega
  have q11 : (11 : Int) < (s.size : Int) := by omega
  have hex : (s.extract 0 8).size ≤ 9223372036854775807 := by rw [ByteArray.size_extract]; omega
  have TR := Lib.hid (fun w => Tryz.strings_TrimRight_one (s.extract 0 8) 0 (by decide) w hex)
  have hOK : entOk l = (validE (entE l) && decide (bytesE (entE l) = s)) := by rw [hs]; rfl
  have hR : entR l = if entOk l = true then entE l else zeroE := rfl
  rw [hR, hOK, ← hs]
  have R0 := Lib.hid (BoxF.new w #[.string ⟨#[]⟩, .int .i64 0, .int .i64 0, .bool false, .bool false] 45 _ rfl)
  clear hex hsz hml hs hOK hR hf0
  by_cases hv : validE (entE l) = true
  case neg =>
    have hf : validE (entE l) = false := by simpa using hv
    have hR2 : (if (validE (entE l) && decide (bytesE (entE l) = s)) = true then entE l else zeroE) = zeroE := by rw [hf]; rfl
    rw [hR2, hf, Bool.false_and]
    rw [hf] at VA
    show Calls _ _ _ _ fun x w' => x = .returned (.tuple #[.agg #[.string ⟨#[]⟩, .int .i64 0, .int .i64 0, .bool false, .bool false], .bool false]) ∧ _
    clear hv hf hR2
    go_enter Tryz.func44, Tryz.ntmps44
    go_wp2_with fail
    refine (GW.out _).mono ?_
    rintro x w1 ⟨rfl, hb1⟩
    replace R0 := Lib.hid (R0.out.below hb1 (by simp))
    have FB := Lib.hid (show Below w.heap.size w w1 from Below.trans (by go_grown) (hb1.mono (by simp)))
    have hlt : w.heap.size < w1.heap.size := by have := hb1.size; simp at this; omega
    clear hb1
    go_wp2
    have KS := Lib.hid (fun w' (hb : Below w1.heap.size w1 w') => (show True from trivial))
    have HC := Lib.hid (show Below w1.heap.size w1 w1.drew from (Below.refl _ _).drew)
    refine wp_region_held_drew (S := (fun w' => True)) (by kernel_rfl) (KS.out _ HC.out) (fun hHeld => ?_)
    refine wpAnyH_take (i := 0) (oi := { dst := some 12, op := Op.move (Operand.tmp 0), type := 9, pos := "l16_chains.go:248", after := #[], guard := none }) (v := ?_) rfl (by kernel_rfl) (by kernel_rfl) (by kernel_rfl) (fun _ _ _ h => h) (Or.inl ⟨by rfl, ?hy⟩) hHeld ?_
    case hy => (intro w' hSw; (try dsimp only at hSw); go_simp; try with_reducible rfl)
    simp only [Act.put, List.setIfInBounds_toArray, List.set_cons_zero, List.set_cons_succ]
    refine wpAnyH_take (i := 1) (oi := { dst := some 13, op := Op.slice 9 (Operand.tmp 12) none (some (Operand.const (Value.int IntKind.i64 8))) none, type := 9, pos := "l16_chains.go:248", after := #[{ on := 0, ground := Ground.data }], guard := none }) (v := ?_) rfl (by kernel_rfl) (by kernel_rfl) (by kernel_rfl) (fun _ _ _ h => h) (Or.inl ⟨by rfl, ?hy⟩) hHeld ?_
    case hy => (intro w' hSw; (try dsimp only at hSw); go_simp; try with_reducible rfl)
    simp only [Act.put, List.setIfInBounds_toArray, List.set_cons_zero, List.set_cons_succ]
    refine wpAnyH_take (i := 3) (oi := { dst := some 15, op := Op.move (Operand.tmp 0), type := 9, pos := "l16_chains.go:248", after := #[], guard := none }) (v := ?_) rfl (by kernel_rfl) (by kernel_rfl) (by kernel_rfl) (fun _ _ _ h => h) (Or.inl ⟨by rfl, ?hy⟩) hHeld ?_
    case hy => (intro w' hSw; (try dsimp only at hSw); go_simp; try with_reducible rfl)
    simp only [Act.put, List.setIfInBounds_toArray, List.set_cons_zero, List.set_cons_succ]
    refine wpAnyH_take (i := 4) (oi := { dst := some 16, op := Op.index 9 (Operand.tmp 15) (Operand.const (Value.int IntKind.i64 8)), type := 5, pos := "l16_chains.go:248", after := #[{ on := 3, ground := Ground.data }], guard := none }) (v := ?_) rfl (by kernel_rfl) (by kernel_rfl) (by kernel_rfl) (fun _ _ _ h => h) (Or.inl ⟨by rfl, ?hy⟩) hHeld ?_
    case hy => (intro w' hSw; (try dsimp only at hSw); go_simp; try with_reducible rfl)
    simp only [Act.put, List.setIfInBounds_toArray, List.set_cons_zero, List.set_cons_succ]
    refine wpAnyH_take (i := 5) (oi := { dst := some 17, op := Op.convert 5 2 (Operand.tmp 16), type := 2, pos := "l16_chains.go:248", after := #[{ on := 4, ground := Ground.data }], guard := none }) (v := ?_) rfl (by kernel_rfl) (by kernel_rfl) (by kernel_rfl) (fun _ _ _ h => h) (Or.inl ⟨by rfl, ?hy⟩) hHeld ?_
    case hy => (intro w' hSw; (try dsimp only at hSw); go_simp; try with_reducible rfl)
    simp only [Act.put, List.setIfInBounds_toArray, List.set_cons_zero, List.set_cons_succ]
    refine wpAnyH_take (i := 6) (oi := { dst := some 18, op := Op.move (Operand.tmp 4), type := 2, pos := "l16_chains.go:248", after := #[], guard := none }) (v := ?_) rfl (by kernel_rfl) (by kernel_rfl) (by kernel_rfl) (fun _ _ _ h => h) (Or.inl ⟨by rfl, ?hy⟩) hHeld ?_
    case hy => (intro w' hSw; (try dsimp only at hSw); go_simp; try with_reducible rfl)
    simp only [Act.put, List.setIfInBounds_toArray, List.set_cons_zero, List.set_cons_succ]
    refine wpAnyH_take (i := 7) (oi := { dst := some 19, op := Op.move (Operand.tmp 0), type := 9, pos := "l16_chains.go:248", after := #[], guard := none }) (v := ?_) rfl (by kernel_rfl) (by kernel_rfl) (by kernel_rfl) (fun _ _ _ h => h) (Or.inl ⟨by rfl, ?hy⟩) hHeld ?_
    case hy => (intro w' hSw; (try dsimp only at hSw); go_simp; try with_reducible rfl)
    simp only [Act.put, List.setIfInBounds_toArray, List.set_cons_zero, List.set_cons_succ]
    refine wpAnyH_take (i := 8) (oi := { dst := some 20, op := Op.index 9 (Operand.tmp 19) (Operand.const (Value.int IntKind.i64 11)), type := 5, pos := "l16_chains.go:248", after := #[{ on := 7, ground := Ground.data }], guard := none }) (v := ?_) rfl (by kernel_rfl) (by kernel_rfl) (by kernel_rfl) (fun _ _ _ h => h) (Or.inl ⟨by rfl, ?hy⟩) hHeld ?_
    case hy => (intro w' hSw; (try dsimp only at hSw); go_simp; try with_reducible rfl)
    simp only [Act.put, List.setIfInBounds_toArray, List.set_cons_zero, List.set_cons_succ]
    refine wpAnyH_take (i := 9) (oi := { dst := some 21, op := Op.binOp BinOp.eql 5 (Operand.tmp 20) (Operand.const (Value.int IntKind.u8 1)) 5, type := 4, pos := "l16_chains.go:248", after := #[{ on := 8, ground := Ground.data }], guard := none }) (v := ?_) rfl (by kernel_rfl) (by kernel_rfl) (by kernel_rfl) (fun _ _ _ h => h) (Or.inl ⟨by rfl, ?hy⟩) hHeld ?_
    case hy => (intro w' hSw; (try dsimp only at hSw); go_simp; try with_reducible rfl)
    simp only [Act.put, List.setIfInBounds_toArray, List.set_cons_zero, List.set_cons_succ]
    refine wpAnyH_take (i := 10) (oi := { dst := some 22, op := Op.move (Operand.tmp 0), type := 9, pos := "l16_chains.go:248", after := #[], guard := none }) (v := ?_) rfl (by kernel_rfl) (by kernel_rfl) (by kernel_rfl) (fun _ _ _ h => h) (Or.inl ⟨by rfl, ?hy⟩) hHeld ?_
    case hy => (intro w' hSw; (try dsimp only at hSw); go_simp; try with_reducible rfl)
    simp only [Act.put, List.setIfInBounds_toArray, List.set_cons_zero, List.set_cons_succ]
    refine wpAnyH_take (i := 11) (oi := { dst := some 23, op := Op.index 9 (Operand.tmp 22) (Operand.const (Value.int IntKind.i64 11)), type := 5, pos := "l16_chains.go:248", after := #[{ on := 10, ground := Ground.data }], guard := none }) (v := ?_) rfl (by kernel_rfl) (by kernel_rfl) (by kernel_rfl) (fun _ _ _ h => h) (Or.inl ⟨by rfl, ?hy⟩) hHeld ?_
    case hy => (intro w' hSw; (try dsimp only at hSw); go_simp; try with_reducible rfl)
    simp only [Act.put, List.setIfInBounds_toArray, List.set_cons_zero, List.set_cons_succ]
    refine wpAnyH_take (i := 12) (oi := { dst := some 24, op := Op.binOp BinOp.eql 5 (Operand.tmp 23) (Operand.const (Value.int IntKind.u8 2)) 5, type := 4, pos := "l16_chains.go:248", after := #[{ on := 11, ground := Ground.data }], guard := none }) (v := ?_) rfl (by kernel_rfl) (by kernel_rfl) (by kernel_rfl) (fun _ _ _ h => h) (Or.inl ⟨by rfl, ?hy⟩) hHeld ?_
    case hy => (intro w' hSw; (try dsimp only at hSw); go_simp; try with_reducible rfl)
    simp only [Act.put, List.setIfInBounds_toArray, List.set_cons_zero, List.set_cons_succ]
    refine wpAnyH_ready (rs := [2, 14]) (by kernel_rfl) (by simp) ?_
    refine AllReadyH.cons (o := { dst := some 14, op := Op.call { callee := Callee.value (Operand.func 61), args := #[Operand.tmp 13, Operand.const (Value.string { data := #[0] })], argTypes := #[9, 9] }, type := 9, pos := "l16_chains.go:249", after := #[{ on := 1, ground := Ground.data }], guard := none }) rfl (fun K hK => ?_) (AllReadyH.cons (o := { dst := some 6, op := Op.alloc 45, type := 0, pos := "l16_chains.go:248", after := #[], guard := none }) rfl (fun K hK => ?_) AllReadyH.nil)
    · go_simp
      go_at_call 61; refine (TR.out _).mono ?_; rintro x w2 ⟨rfl, rfl⟩
      go_wp2_with fail
      refine hK.out _ _ (KS.out _ HC.out) (fun hHeld => ?_)
      clear hK K
      try simp only [Act.put, List.setIfInBounds_toArray, List.set_cons_zero, List.set_cons_succ]
      refine wpAnyH_take (i := 13) (oi := { dst := some 25, op := Op.build 45 #[(0, Operand.tmp 14), (1, Operand.tmp 17), (2, Operand.tmp 18), (3, Operand.tmp 21), (4, Operand.tmp 24)], type := 45, pos := "l16_chains.go:248", after := #[{ on := 2, ground := Ground.data }, { on := 5, ground := Ground.data }, { on := 6, ground := Ground.data }, { on := 9, ground := Ground.data }, { on := 12, ground := Ground.data }], guard := none }) (v := ?_) rfl (by kernel_rfl) (by kernel_rfl) (by kernel_rfl) (fun _ _ _ h => h) (Or.inl ⟨by rfl, ?hy⟩) hHeld ?_
      case hy => (intro w' hSw; (try dsimp only at hSw); go_simp; try with_reducible rfl)
      simp only [Act.put, List.setIfInBounds_toArray, List.set_cons_zero, List.set_cons_succ]
      refine wpAnyH_ready (rs := [14]) (by kernel_rfl) (by simp) ?_
      refine AllReadyH.cons (o := { dst := some 6, op := Op.alloc 45, type := 0, pos := "l16_chains.go:248", after := #[], guard := none }) rfl (fun K hK => ?_) AllReadyH.nil
      go_simp
      refine hK.out _ _ (KS.out _ HC.out) (fun hHeld => ?_)
      clear hK K
      try simp only [Act.put, List.setIfInBounds_toArray, List.set_cons_zero, List.set_cons_succ]
      refine wpAnyH_ready (rs := [15]) (by kernel_rfl) (by simp) ?_
      refine AllReadyH.cons (o := { dst := none, op := Op.store 45 (Operand.tmp 6) (Operand.tmp 25), type := 0, pos := "l16_chains.go:248", after := #[{ on := 14, ground := Ground.data }, { on := 13, ground := Ground.data }, { on := 2, ground := Ground.chain }, { on := 0, ground := Ground.phase }, { on := 1, ground := Ground.phase }, { on := 2, ground := Ground.phase }, { on := 3, ground := Ground.phase }, { on := 4, ground := Ground.phase }, { on := 5, ground := Ground.phase }, { on := 6, ground := Ground.phase }, { on := 7, ground := Ground.phase }, { on := 8, ground := Ground.phase }, { on := 9, ground := Ground.phase }, { on := 10, ground := Ground.phase }, { on := 11, ground := Ground.phase }, { on := 12, ground := Ground.phase }, { on := 13, ground := Ground.phase }, { on := 14, ground := Ground.phase }], guard := none }) rfl (fun K hK => ?_) AllReadyH.nil
      go_simp
      refine hK.out _ _ (KS.out _ HC.out) (fun hHeld => ?_)
      clear hK K
      try simp only [Act.put, List.setIfInBounds_toArray, List.set_cons_zero, List.set_cons_succ]
      refine wpAnyH_done (by kernel_rfl) ?_ _
      obtain ⟨i0, i1, i2, i3, i4⟩ := HE.out
      rw [i0, i1, i2, i3, i4]
      clear i0 i1 i2 i3 i4 q8
      have FW := Lib.hid (show Below w1.heap.size w1 (w1.alloc (.cells #[.string (entE l).f0, .int .i64 (entE l).f1, .int .i64 (entE l).f2, .bool (entE l).f3, .bool (entE l).f4] 45)).drew from ((Below.refl _ _).alloc (Nat.le_refl _) _).drew)
      have KB := Lib.hid (show BoxAt (w1.alloc (.cells #[.string (entE l).f0, .int .i64 (entE l).f1, .int .i64 (entE l).f2, .bool (entE l).f3, .bool (entE l).f4] 45)).drew w1.heap.size #[.string (entE l).f0, .int .i64 (entE l).f1, .int .i64 (entE l).f2, .bool (entE l).f3, .bool (entE l).f4] from BoxAt.new w1 #[.string (entE l).f0, .int .i64 (entE l).f1, .int .i64 (entE l).f2, .bool (entE l).f3, .bool (entE l).f4] 45 w1.heap.size rfl)
      replace R0 := Lib.hid (R0.out.below FW.out hlt)
      replace FB := Lib.hid (FB.out.trans (FW.out.mono FB.out.size))
      have hlt1 : w.heap.size < (w1.alloc (.cells #[.string (entE l).f0, .int .i64 (entE l).f1, .int .i64 (entE l).f2, .bool (entE l).f3, .bool (entE l).f4] 45)).drew.heap.size := by simp; omega
      have hlt2 : w1.heap.size < (w1.alloc (.cells #[.string (entE l).f0, .int .i64 (entE l).f1, .int .i64 (entE l).f2, .bool (entE l).f3, .bool (entE l).f4] 45)).drew.heap.size := by simp
      clear FW HC KS hlt
      generalize (w1.alloc (.cells #[.string (entE l).f0, .int .i64 (entE l).f1, .int .i64 (entE l).f2, .bool (entE l).f3, .bool (entE l).f4] 45)).drew = W at KB R0 FB hlt1 hlt2 ⊢
      generalize w1.heap.size = gb at KB hlt2 ⊢
      have k0 := KB.out 0 _ rfl
      have k1 := KB.out 1 _ rfl
      have k2 := KB.out 2 _ rfl
      have k3 := KB.out 3 _ rfl
      have k4 := KB.out 4 _ rfl
      go_wp2_with fail
      refine (VA.out _).mono ?_
      rintro x w3 ⟨rfl, hb3⟩
      replace R0 := Lib.hid (R0.out.below hb3 hlt1)
      replace KB := Lib.hid (KB.out.below hb3 hlt2)
      replace FB := Lib.hid (FB.out.trans (hb3.mono FB.out.size))
      replace hlt1 := Nat.lt_of_lt_of_le hlt1 hb3.size
      replace hlt2 := Nat.lt_of_lt_of_le hlt2 hb3.size
      clear hb3 k0 k1 k2 k3 k4
      obtain ⟨a0, z0⟩ := R0.out 0 _ rfl
      obtain ⟨a1, z1⟩ := R0.out 1 _ rfl
      obtain ⟨a2, z2⟩ := R0.out 2 _ rfl
      obtain ⟨a3, z3⟩ := R0.out 3 _ rfl
      obtain ⟨a4, z4⟩ := R0.out 4 _ rfl
      go_wp2
      refine bodyPost_ret (v := .tuple #[.agg #[.string ⟨#[]⟩, .int .i64 0, .int .i64 0, .bool false, .bool false], .bool false]) (by simp [results, Tryz.results44, go_sem, a0, a1, a2, a3, a4]) rfl ⟨rfl, ?_⟩
      exact ((((FB.out.setCell (by simp) _).setCell (by simp) _).setCell (by simp) _).setCell (by simp) _).setCell (by simp) _
    · go_simp
      refine hK.out _ _ (KS.out _ HC.out) (fun hHeld => ?_)
      clear hK K
      try simp only [Act.put, List.setIfInBounds_toArray, List.set_cons_zero, List.set_cons_succ]
      refine wpAnyH_ready (rs := [2]) (by kernel_rfl) (by simp) ?_
      refine AllReadyH.cons (o := { dst := some 14, op := Op.call { callee := Callee.value (Operand.func 61), args := #[Operand.tmp 13, Operand.const (Value.string { data := #[0] })], argTypes := #[9, 9] }, type := 9, pos := "l16_chains.go:249", after := #[{ on := 1, ground := Ground.data }], guard := none }) rfl (fun K hK => ?_) AllReadyH.nil
      go_simp
      go_at_call 61; refine (TR.out _).mono ?_; rintro x w2 ⟨rfl, rfl⟩
      go_wp2_with fail
      refine hK.out _ _ (KS.out _ HC.out) (fun hHeld => ?_)
      clear hK K
      try simp only [Act.put, List.setIfInBounds_toArray, List.set_cons_zero, List.set_cons_succ]
      refine wpAnyH_take (i := 13) (oi := { dst := some 25, op := Op.build 45 #[(0, Operand.tmp 14), (1, Operand.tmp 17), (2, Operand.tmp 18), (3, Operand.tmp 21), (4, Operand.tmp 24)], type := 45, pos := "l16_chains.go:248", after := #[{ on := 2, ground := Ground.data }, { on := 5, ground := Ground.data }, { on := 6, ground := Ground.data }, { on := 9, ground := Ground.data }, { on := 12, ground := Ground.data }], guard := none }) (v := ?_) rfl (by kernel_rfl) (by kernel_rfl) (by kernel_rfl) (fun _ _ _ h => h) (Or.inl ⟨by rfl, ?hy⟩) hHeld ?_
      case hy => (intro w' hSw; (try dsimp only at hSw); go_simp; try with_reducible rfl)
      simp only [Act.put, List.setIfInBounds_toArray, List.set_cons_zero, List.set_cons_succ]
      refine wpAnyH_ready (rs := [15]) (by kernel_rfl) (by simp) ?_
      refine AllReadyH.cons (o := { dst := none, op := Op.store 45 (Operand.tmp 6) (Operand.tmp 25), type := 0, pos := "l16_chains.go:248", after := #[{ on := 14, ground := Ground.data }, { on := 13, ground := Ground.data }, { on := 2, ground := Ground.chain }, { on := 0, ground := Ground.phase }, { on := 1, ground := Ground.phase }, { on := 2, ground := Ground.phase }, { on := 3, ground := Ground.phase }, { on := 4, ground := Ground.phase }, { on := 5, ground := Ground.phase }, { on := 6, ground := Ground.phase }, { on := 7, ground := Ground.phase }, { on := 8, ground := Ground.phase }, { on := 9, ground := Ground.phase }, { on := 10, ground := Ground.phase }, { on := 11, ground := Ground.phase }, { on := 12, ground := Ground.phase }, { on := 13, ground := Ground.phase }, { on := 14, ground := Ground.phase }], guard := none }) rfl (fun K hK => ?_) AllReadyH.nil
      go_simp
      refine hK.out _ _ (KS.out _ HC.out) (fun hHeld => ?_)
      clear hK K
      try simp only [Act.put, List.setIfInBounds_toArray, List.set_cons_zero, List.set_cons_succ]
      refine wpAnyH_done (by kernel_rfl) ?_ _
      obtain ⟨i0, i1, i2, i3, i4⟩ := HE.out
      rw [i0, i1, i2, i3, i4]
      clear i0 i1 i2 i3 i4 q8
      have FW := Lib.hid (show Below w1.heap.size w1 (w1.alloc (.cells #[.string (entE l).f0, .int .i64 (entE l).f1, .int .i64 (entE l).f2, .bool (entE l).f3, .bool (entE l).f4] 45)).drew from ((Below.refl _ _).alloc (Nat.le_refl _) _).drew)
      have KB := Lib.hid (show BoxAt (w1.alloc (.cells #[.string (entE l).f0, .int .i64 (entE l).f1, .int .i64 (entE l).f2, .bool (entE l).f3, .bool (entE l).f4] 45)).drew w1.heap.size #[.string (entE l).f0, .int .i64 (entE l).f1, .int .i64 (entE l).f2, .bool (entE l).f3, .bool (entE l).f4] from BoxAt.new w1 #[.string (entE l).f0, .int .i64 (entE l).f1, .int .i64 (entE l).f2, .bool (entE l).f3, .bool (entE l).f4] 45 w1.heap.size rfl)
      replace R0 := Lib.hid (R0.out.below FW.out hlt)
      replace FB := Lib.hid (FB.out.trans (FW.out.mono FB.out.size))
      have hlt1 : w.heap.size < (w1.alloc (.cells #[.string (entE l).f0, .int .i64 (entE l).f1, .int .i64 (entE l).f2, .bool (entE l).f3, .bool (entE l).f4] 45)).drew.heap.size := by simp; omega
      have hlt2 : w1.heap.size < (w1.alloc (.cells #[.string (entE l).f0, .int .i64 (entE l).f1, .int .i64 (entE l).f2, .bool (entE l).f3, .bool (entE l).f4] 45)).drew.heap.size := by simp
      clear FW HC KS hlt
      generalize (w1.alloc (.cells #[.string (entE l).f0, .int .i64 (entE l).f1, .int .i64 (entE l).f2, .bool (entE l).f3, .bool (entE l).f4] 45)).drew = W at KB R0 FB hlt1 hlt2 ⊢
      generalize w1.heap.size = gb at KB hlt2 ⊢
      have k0 := KB.out 0 _ rfl
      have k1 := KB.out 1 _ rfl
      have k2 := KB.out 2 _ rfl
      have k3 := KB.out 3 _ rfl
      have k4 := KB.out 4 _ rfl
      go_wp2_with fail
      refine (VA.out _).mono ?_
      rintro x w3 ⟨rfl, hb3⟩
      replace R0 := Lib.hid (R0.out.below hb3 hlt1)
      replace KB := Lib.hid (KB.out.below hb3 hlt2)
      replace FB := Lib.hid (FB.out.trans (hb3.mono FB.out.size))
      replace hlt1 := Nat.lt_of_lt_of_le hlt1 hb3.size
      replace hlt2 := Nat.lt_of_lt_of_le hlt2 hb3.size
      clear hb3 k0 k1 k2 k3 k4
      obtain ⟨a0, z0⟩ := R0.out 0 _ rfl
      obtain ⟨a1, z1⟩ := R0.out 1 _ rfl
      obtain ⟨a2, z2⟩ := R0.out 2 _ rfl
      obtain ⟨a3, z3⟩ := R0.out 3 _ rfl
      obtain ⟨a4, z4⟩ := R0.out 4 _ rfl
      go_wp2
      refine bodyPost_ret (v := .tuple #[.agg #[.string ⟨#[]⟩, .int .i64 0, .int .i64 0, .bool false, .bool false], .bool false]) (by simp [results, Tryz.results44, go_sem, a0, a1, a2, a3, a4]) rfl ⟨rfl, ?_⟩
      exact ((((FB.out.setCell (by simp) _).setCell (by simp) _).setCell (by simp) _).setCell (by simp) _).setCell (by simp) _
  have BY := Lib.hid (fun w => entBytes_any (entE l) hv w)
  rw [hv] at VA
  by_cases hb : bytesE (entE l) = s
  case neg =>
    have hR2 : (if (validE (entE l) && decide (bytesE (entE l) = s)) = true then entE l else zeroE) = zeroE := by rw [hv, decide_eq_false hb]; rfl
    rw [hR2, hv, decide_eq_false hb, Bool.and_false]
    show Calls _ _ _ _ fun x w' => x = .returned (.tuple #[.agg #[.string ⟨#[]⟩, .int .i64 0, .int .i64 0, .bool false, .bool false], .bool false]) ∧ _
    have hne := toList_ne hb
    generalize bytesE (entE l) = m at *
    clear hv hR2 hb
    go_enter Tryz.func44, Tryz.ntmps44
    go_wp2_with fail
    refine (GW.out _).mono ?_
    rintro x w1 ⟨rfl, hb1⟩
    replace R0 := Lib.hid (R0.out.below hb1 (by simp))
    have FB := Lib.hid (show Below w.heap.size w w1 from Below.trans (by go_grown) (hb1.mono (by simp)))
    have hlt : w.heap.size < w1.heap.size := by have := hb1.size; simp at this; omega
    clear hb1
    go_wp2
    have KS := Lib.hid (fun w' (hb : Below w1.heap.size w1 w') => (show True from trivial))
    have HC := Lib.hid (show Below w1.heap.size w1 w1.drew from (Below.refl _ _).drew)
    refine wp_region_held_drew (S := (fun w' => True)) (by kernel_rfl) (KS.out _ HC.out) (fun hHeld => ?_)
    refine wpAnyH_take (i := 0) (oi := { dst := some 12, op := Op.move (Operand.tmp 0), type := 9, pos := "l16_chains.go:248", after := #[], guard := none }) (v := ?_) rfl (by kernel_rfl) (by kernel_rfl) (by kernel_rfl) (fun _ _ _ h => h) (Or.inl ⟨by rfl, ?hy⟩) hHeld ?_
    case hy => (intro w' hSw; (try dsimp only at hSw); go_simp; try with_reducible rfl)
    simp only [Act.put, List.setIfInBounds_toArray, List.set_cons_zero, List.set_cons_succ]
    refine wpAnyH_take (i := 1) (oi := { dst := some 13, op := Op.slice 9 (Operand.tmp 12) none (some (Operand.const (Value.int IntKind.i64 8))) none, type := 9, pos := "l16_chains.go:248", after := #[{ on := 0, ground := Ground.data }], guard := none }) (v := ?_) rfl (by kernel_rfl) (by kernel_rfl) (by kernel_rfl) (fun _ _ _ h => h) (Or.inl ⟨by rfl, ?hy⟩) hHeld ?_
    case hy => (intro w' hSw; (try dsimp only at hSw); go_simp; try with_reducible rfl)
    simp only [Act.put, List.setIfInBounds_toArray, List.set_cons_zero, List.set_cons_succ]
    refine wpAnyH_take (i := 3) (oi := { dst := some 15, op := Op.move (Operand.tmp 0), type := 9, pos := "l16_chains.go:248", after := #[], guard := none }) (v := ?_) rfl (by kernel_rfl) (by kernel_rfl) (by kernel_rfl) (fun _ _ _ h => h) (Or.inl ⟨by rfl, ?hy⟩) hHeld ?_
    case hy => (intro w' hSw; (try dsimp only at hSw); go_simp; try with_reducible rfl)
    simp only [Act.put, List.setIfInBounds_toArray, List.set_cons_zero, List.set_cons_succ]
    refine wpAnyH_take (i := 4) (oi := { dst := some 16, op := Op.index 9 (Operand.tmp 15) (Operand.const (Value.int IntKind.i64 8)), type := 5, pos := "l16_chains.go:248", after := #[{ on := 3, ground := Ground.data }], guard := none }) (v := ?_) rfl (by kernel_rfl) (by kernel_rfl) (by kernel_rfl) (fun _ _ _ h => h) (Or.inl ⟨by rfl, ?hy⟩) hHeld ?_
    case hy => (intro w' hSw; (try dsimp only at hSw); go_simp; try with_reducible rfl)
    simp only [Act.put, List.setIfInBounds_toArray, List.set_cons_zero, List.set_cons_succ]
    refine wpAnyH_take (i := 5) (oi := { dst := some 17, op := Op.convert 5 2 (Operand.tmp 16), type := 2, pos := "l16_chains.go:248", after := #[{ on := 4, ground := Ground.data }], guard := none }) (v := ?_) rfl (by kernel_rfl) (by kernel_rfl) (by kernel_rfl) (fun _ _ _ h => h) (Or.inl ⟨by rfl, ?hy⟩) hHeld ?_
    case hy => (intro w' hSw; (try dsimp only at hSw); go_simp; try with_reducible rfl)
    simp only [Act.put, List.setIfInBounds_toArray, List.set_cons_zero, List.set_cons_succ]
    refine wpAnyH_take (i := 6) (oi := { dst := some 18, op := Op.move (Operand.tmp 4), type := 2, pos := "l16_chains.go:248", after := #[], guard := none }) (v := ?_) rfl (by kernel_rfl) (by kernel_rfl) (by kernel_rfl) (fun _ _ _ h => h) (Or.inl ⟨by rfl, ?hy⟩) hHeld ?_
    case hy => (intro w' hSw; (try dsimp only at hSw); go_simp; try with_reducible rfl)
    simp only [Act.put, List.setIfInBounds_toArray, List.set_cons_zero, List.set_cons_succ]
    refine wpAnyH_take (i := 7) (oi := { dst := some 19, op := Op.move (Operand.tmp 0), type := 9, pos := "l16_chains.go:248", after := #[], guard := none }) (v := ?_) rfl (by kernel_rfl) (by kernel_rfl) (by kernel_rfl) (fun _ _ _ h => h) (Or.inl ⟨by rfl, ?hy⟩) hHeld ?_
    case hy => (intro w' hSw; (try dsimp only at hSw); go_simp; try with_reducible rfl)
    simp only [Act.put, List.setIfInBounds_toArray, List.set_cons_zero, List.set_cons_succ]
    refine wpAnyH_take (i := 8) (oi := { dst := some 20, op := Op.index 9 (Operand.tmp 19) (Operand.const (Value.int IntKind.i64 11)), type := 5, pos := "l16_chains.go:248", after := #[{ on := 7, ground := Ground.data }], guard := none }) (v := ?_) rfl (by kernel_rfl) (by kernel_rfl) (by kernel_rfl) (fun _ _ _ h => h) (Or.inl ⟨by rfl, ?hy⟩) hHeld ?_
    case hy => (intro w' hSw; (try dsimp only at hSw); go_simp; try with_reducible rfl)
    simp only [Act.put, List.setIfInBounds_toArray, List.set_cons_zero, List.set_cons_succ]
    refine wpAnyH_take (i := 9) (oi := { dst := some 21, op := Op.binOp BinOp.eql 5 (Operand.tmp 20) (Operand.const (Value.int IntKind.u8 1)) 5, type := 4, pos := "l16_chains.go:248", after := #[{ on := 8, ground := Ground.data }], guard := none }) (v := ?_) rfl (by kernel_rfl) (by kernel_rfl) (by kernel_rfl) (fun _ _ _ h => h) (Or.inl ⟨by rfl, ?hy⟩) hHeld ?_
    case hy => (intro w' hSw; (try dsimp only at hSw); go_simp; try with_reducible rfl)
    simp only [Act.put, List.setIfInBounds_toArray, List.set_cons_zero, List.set_cons_succ]
    refine wpAnyH_take (i := 10) (oi := { dst := some 22, op := Op.move (Operand.tmp 0), type := 9, pos := "l16_chains.go:248", after := #[], guard := none }) (v := ?_) rfl (by kernel_rfl) (by kernel_rfl) (by kernel_rfl) (fun _ _ _ h => h) (Or.inl ⟨by rfl, ?hy⟩) hHeld ?_
    case hy => (intro w' hSw; (try dsimp only at hSw); go_simp; try with_reducible rfl)
    simp only [Act.put, List.setIfInBounds_toArray, List.set_cons_zero, List.set_cons_succ]
    refine wpAnyH_take (i := 11) (oi := { dst := some 23, op := Op.index 9 (Operand.tmp 22) (Operand.const (Value.int IntKind.i64 11)), type := 5, pos := "l16_chains.go:248", after := #[{ on := 10, ground := Ground.data }], guard := none }) (v := ?_) rfl (by kernel_rfl) (by kernel_rfl) (by kernel_rfl) (fun _ _ _ h => h) (Or.inl ⟨by rfl, ?hy⟩) hHeld ?_
    case hy => (intro w' hSw; (try dsimp only at hSw); go_simp; try with_reducible rfl)
    simp only [Act.put, List.setIfInBounds_toArray, List.set_cons_zero, List.set_cons_succ]
    refine wpAnyH_take (i := 12) (oi := { dst := some 24, op := Op.binOp BinOp.eql 5 (Operand.tmp 23) (Operand.const (Value.int IntKind.u8 2)) 5, type := 4, pos := "l16_chains.go:248", after := #[{ on := 11, ground := Ground.data }], guard := none }) (v := ?_) rfl (by kernel_rfl) (by kernel_rfl) (by kernel_rfl) (fun _ _ _ h => h) (Or.inl ⟨by rfl, ?hy⟩) hHeld ?_
    case hy => (intro w' hSw; (try dsimp only at hSw); go_simp; try with_reducible rfl)
    simp only [Act.put, List.setIfInBounds_toArray, List.set_cons_zero, List.set_cons_succ]
    refine wpAnyH_ready (rs := [2, 14]) (by kernel_rfl) (by simp) ?_
    refine AllReadyH.cons (o := { dst := some 14, op := Op.call { callee := Callee.value (Operand.func 61), args := #[Operand.tmp 13, Operand.const (Value.string { data := #[0] })], argTypes := #[9, 9] }, type := 9, pos := "l16_chains.go:249", after := #[{ on := 1, ground := Ground.data }], guard := none }) rfl (fun K hK => ?_) (AllReadyH.cons (o := { dst := some 6, op := Op.alloc 45, type := 0, pos := "l16_chains.go:248", after := #[], guard := none }) rfl (fun K hK => ?_) AllReadyH.nil)
    · go_simp
      go_at_call 61; refine (TR.out _).mono ?_; rintro x w2 ⟨rfl, rfl⟩
      go_wp2_with fail
      refine hK.out _ _ (KS.out _ HC.out) (fun hHeld => ?_)
      clear hK K
      try simp only [Act.put, List.setIfInBounds_toArray, List.set_cons_zero, List.set_cons_succ]
      refine wpAnyH_take (i := 13) (oi := { dst := some 25, op := Op.build 45 #[(0, Operand.tmp 14), (1, Operand.tmp 17), (2, Operand.tmp 18), (3, Operand.tmp 21), (4, Operand.tmp 24)], type := 45, pos := "l16_chains.go:248", after := #[{ on := 2, ground := Ground.data }, { on := 5, ground := Ground.data }, { on := 6, ground := Ground.data }, { on := 9, ground := Ground.data }, { on := 12, ground := Ground.data }], guard := none }) (v := ?_) rfl (by kernel_rfl) (by kernel_rfl) (by kernel_rfl) (fun _ _ _ h => h) (Or.inl ⟨by rfl, ?hy⟩) hHeld ?_
      case hy => (intro w' hSw; (try dsimp only at hSw); go_simp; try with_reducible rfl)
      simp only [Act.put, List.setIfInBounds_toArray, List.set_cons_zero, List.set_cons_succ]
      refine wpAnyH_ready (rs := [14]) (by kernel_rfl) (by simp) ?_
      refine AllReadyH.cons (o := { dst := some 6, op := Op.alloc 45, type := 0, pos := "l16_chains.go:248", after := #[], guard := none }) rfl (fun K hK => ?_) AllReadyH.nil
      go_simp
      refine hK.out _ _ (KS.out _ HC.out) (fun hHeld => ?_)
      clear hK K
      try simp only [Act.put, List.setIfInBounds_toArray, List.set_cons_zero, List.set_cons_succ]
      refine wpAnyH_ready (rs := [15]) (by kernel_rfl) (by simp) ?_
      refine AllReadyH.cons (o := { dst := none, op := Op.store 45 (Operand.tmp 6) (Operand.tmp 25), type := 0, pos := "l16_chains.go:248", after := #[{ on := 14, ground := Ground.data }, { on := 13, ground := Ground.data }, { on := 2, ground := Ground.chain }, { on := 0, ground := Ground.phase }, { on := 1, ground := Ground.phase }, { on := 2, ground := Ground.phase }, { on := 3, ground := Ground.phase }, { on := 4, ground := Ground.phase }, { on := 5, ground := Ground.phase }, { on := 6, ground := Ground.phase }, { on := 7, ground := Ground.phase }, { on := 8, ground := Ground.phase }, { on := 9, ground := Ground.phase }, { on := 10, ground := Ground.phase }, { on := 11, ground := Ground.phase }, { on := 12, ground := Ground.phase }, { on := 13, ground := Ground.phase }, { on := 14, ground := Ground.phase }], guard := none }) rfl (fun K hK => ?_) AllReadyH.nil
      go_simp
      refine hK.out _ _ (KS.out _ HC.out) (fun hHeld => ?_)
      clear hK K
      try simp only [Act.put, List.setIfInBounds_toArray, List.set_cons_zero, List.set_cons_succ]
      refine wpAnyH_done (by kernel_rfl) ?_ _
      obtain ⟨i0, i1, i2, i3, i4⟩ := HE.out
      rw [i0, i1, i2, i3, i4]
      clear i0 i1 i2 i3 i4 q8
      have FW := Lib.hid (show Below w1.heap.size w1 (w1.alloc (.cells #[.string (entE l).f0, .int .i64 (entE l).f1, .int .i64 (entE l).f2, .bool (entE l).f3, .bool (entE l).f4] 45)).drew from ((Below.refl _ _).alloc (Nat.le_refl _) _).drew)
      have KB := Lib.hid (show BoxAt (w1.alloc (.cells #[.string (entE l).f0, .int .i64 (entE l).f1, .int .i64 (entE l).f2, .bool (entE l).f3, .bool (entE l).f4] 45)).drew w1.heap.size #[.string (entE l).f0, .int .i64 (entE l).f1, .int .i64 (entE l).f2, .bool (entE l).f3, .bool (entE l).f4] from BoxAt.new w1 #[.string (entE l).f0, .int .i64 (entE l).f1, .int .i64 (entE l).f2, .bool (entE l).f3, .bool (entE l).f4] 45 w1.heap.size rfl)
      replace R0 := Lib.hid (R0.out.below FW.out hlt)
      replace FB := Lib.hid (FB.out.trans (FW.out.mono FB.out.size))
      have hlt1 : w.heap.size < (w1.alloc (.cells #[.string (entE l).f0, .int .i64 (entE l).f1, .int .i64 (entE l).f2, .bool (entE l).f3, .bool (entE l).f4] 45)).drew.heap.size := by simp; omega
      have hlt2 : w1.heap.size < (w1.alloc (.cells #[.string (entE l).f0, .int .i64 (entE l).f1, .int .i64 (entE l).f2, .bool (entE l).f3, .bool (entE l).f4] 45)).drew.heap.size := by simp
      clear FW HC KS hlt
      generalize (w1.alloc (.cells #[.string (entE l).f0, .int .i64 (entE l).f1, .int .i64 (entE l).f2, .bool (entE l).f3, .bool (entE l).f4] 45)).drew = W at KB R0 FB hlt1 hlt2 ⊢
      generalize w1.heap.size = gb at KB hlt2 ⊢
      have k0 := KB.out 0 _ rfl
      have k1 := KB.out 1 _ rfl
      have k2 := KB.out 2 _ rfl
      have k3 := KB.out 3 _ rfl
      have k4 := KB.out 4 _ rfl
      go_wp2_with fail
      refine (VA.out _).mono ?_
      rintro x w3 ⟨rfl, hb3⟩
      replace R0 := Lib.hid (R0.out.below hb3 hlt1)
      replace KB := Lib.hid (KB.out.below hb3 hlt2)
      replace FB := Lib.hid (FB.out.trans (hb3.mono FB.out.size))
      replace hlt1 := Nat.lt_of_lt_of_le hlt1 hb3.size
      replace hlt2 := Nat.lt_of_lt_of_le hlt2 hb3.size
      clear hb3 k0 k1 k2 k3 k4
      have k0 := KB.out 0 _ rfl
      have k1 := KB.out 1 _ rfl
      have k2 := KB.out 2 _ rfl
      have k3 := KB.out 3 _ rfl
      have k4 := KB.out 4 _ rfl
      go_wp2_with fail
      refine (BY.out _).mono ?_
      rintro x w4 ⟨rfl, hb4⟩
      replace R0 := Lib.hid (R0.out.below hb4 hlt1)
      replace KB := Lib.hid (KB.out.below hb4 hlt2)
      replace FB := Lib.hid (FB.out.trans (hb4.mono FB.out.size))
      clear hb4 k0 k1 k2 k3 k4
      obtain ⟨a0, z0⟩ := R0.out 0 _ rfl
      obtain ⟨a1, z1⟩ := R0.out 1 _ rfl
      obtain ⟨a2, z2⟩ := R0.out 2 _ rfl
      obtain ⟨a3, z3⟩ := R0.out 3 _ rfl
      obtain ⟨a4, z4⟩ := R0.out 4 _ rfl
      go_wp2
      refine bodyPost_ret (v := .tuple #[.agg #[.string ⟨#[]⟩, .int .i64 0, .int .i64 0, .bool false, .bool false], .bool false]) (by simp [results, Tryz.results44, go_sem, a0, a1, a2, a3, a4]) rfl ⟨rfl, ?_⟩
      exact ((((FB.out.setCell (by simp) _).setCell (by simp) _).setCell (by simp) _).setCell (by simp) _).setCell (by simp) _
    · go_simp
      refine hK.out _ _ (KS.out _ HC.out) (fun hHeld => ?_)
      clear hK K
      try simp only [Act.put, List.setIfInBounds_toArray, List.set_cons_zero, List.set_cons_succ]
      refine wpAnyH_ready (rs := [2]) (by kernel_rfl) (by simp) ?_
      refine AllReadyH.cons (o := { dst := some 14, op := Op.call { callee := Callee.value (Operand.func 61), args := #[Operand.tmp 13, Operand.const (Value.string { data := #[0] })], argTypes := #[9, 9] }, type := 9, pos := "l16_chains.go:249", after := #[{ on := 1, ground := Ground.data }], guard := none }) rfl (fun K hK => ?_) AllReadyH.nil
      go_simp
      go_at_call 61; refine (TR.out _).mono ?_; rintro x w2 ⟨rfl, rfl⟩
      go_wp2_with fail
      refine hK.out _ _ (KS.out _ HC.out) (fun hHeld => ?_)
      clear hK K
      try simp only [Act.put, List.setIfInBounds_toArray, List.set_cons_zero, List.set_cons_succ]
      refine wpAnyH_take (i := 13) (oi := { dst := some 25, op := Op.build 45 #[(0, Operand.tmp 14), (1, Operand.tmp 17), (2, Operand.tmp 18), (3, Operand.tmp 21), (4, Operand.tmp 24)], type := 45, pos := "l16_chains.go:248", after := #[{ on := 2, ground := Ground.data }, { on := 5, ground := Ground.data }, { on := 6, ground := Ground.data }, { on := 9, ground := Ground.data }, { on := 12, ground := Ground.data }], guard := none }) (v := ?_) rfl (by kernel_rfl) (by kernel_rfl) (by kernel_rfl) (fun _ _ _ h => h) (Or.inl ⟨by rfl, ?hy⟩) hHeld ?_
      case hy => (intro w' hSw; (try dsimp only at hSw); go_simp; try with_reducible rfl)
      simp only [Act.put, List.setIfInBounds_toArray, List.set_cons_zero, List.set_cons_succ]
      refine wpAnyH_ready (rs := [15]) (by kernel_rfl) (by simp) ?_
      refine AllReadyH.cons (o := { dst := none, op := Op.store 45 (Operand.tmp 6) (Operand.tmp 25), type := 0, pos := "l16_chains.go:248", after := #[{ on := 14, ground := Ground.data }, { on := 13, ground := Ground.data }, { on := 2, ground := Ground.chain }, { on := 0, ground := Ground.phase }, { on := 1, ground := Ground.phase }, { on := 2, ground := Ground.phase }, { on := 3, ground := Ground.phase }, { on := 4, ground := Ground.phase }, { on := 5, ground := Ground.phase }, { on := 6, ground := Ground.phase }, { on := 7, ground := Ground.phase }, { on := 8, ground := Ground.phase }, { on := 9, ground := Ground.phase }, { on := 10, ground := Ground.phase }, { on := 11, ground := Ground.phase }, { on := 12, ground := Ground.phase }, { on := 13, ground := Ground.phase }, { on := 14, ground := Ground.phase }], guard := none }) rfl (fun K hK => ?_) AllReadyH.nil
      go_simp
      refine hK.out _ _ (KS.out _ HC.out) (fun hHeld => ?_)
      clear hK K
      try simp only [Act.put, List.setIfInBounds_toArray, List.set_cons_zero, List.set_cons_succ]
      refine wpAnyH_done (by kernel_rfl) ?_ _
      obtain ⟨i0, i1, i2, i3, i4⟩ := HE.out
      rw [i0, i1, i2, i3, i4]
      clear i0 i1 i2 i3 i4 q8
      have FW := Lib.hid (show Below w1.heap.size w1 (w1.alloc (.cells #[.string (entE l).f0, .int .i64 (entE l).f1, .int .i64 (entE l).f2, .bool (entE l).f3, .bool (entE l).f4] 45)).drew from ((Below.refl _ _).alloc (Nat.le_refl _) _).drew)
      have KB := Lib.hid (show BoxAt (w1.alloc (.cells #[.string (entE l).f0, .int .i64 (entE l).f1, .int .i64 (entE l).f2, .bool (entE l).f3, .bool (entE l).f4] 45)).drew w1.heap.size #[.string (entE l).f0, .int .i64 (entE l).f1, .int .i64 (entE l).f2, .bool (entE l).f3, .bool (entE l).f4] from BoxAt.new w1 #[.string (entE l).f0, .int .i64 (entE l).f1, .int .i64 (entE l).f2, .bool (entE l).f3, .bool (entE l).f4] 45 w1.heap.size rfl)
      replace R0 := Lib.hid (R0.out.below FW.out hlt)
      replace FB := Lib.hid (FB.out.trans (FW.out.mono FB.out.size))
      have hlt1 : w.heap.size < (w1.alloc (.cells #[.string (entE l).f0, .int .i64 (entE l).f1, .int .i64 (entE l).f2, .bool (entE l).f3, .bool (entE l).f4] 45)).drew.heap.size := by simp; omega
      have hlt2 : w1.heap.size < (w1.alloc (.cells #[.string (entE l).f0, .int .i64 (entE l).f1, .int .i64 (entE l).f2, .bool (entE l).f3, .bool (entE l).f4] 45)).drew.heap.size := by simp
      clear FW HC KS hlt
      generalize (w1.alloc (.cells #[.string (entE l).f0, .int .i64 (entE l).f1, .int .i64 (entE l).f2, .bool (entE l).f3, .bool (entE l).f4] 45)).drew = W at KB R0 FB hlt1 hlt2 ⊢
      generalize w1.heap.size = gb at KB hlt2 ⊢
      have k0 := KB.out 0 _ rfl
      have k1 := KB.out 1 _ rfl
      have k2 := KB.out 2 _ rfl
      have k3 := KB.out 3 _ rfl
      have k4 := KB.out 4 _ rfl
      go_wp2_with fail
      refine (VA.out _).mono ?_
      rintro x w3 ⟨rfl, hb3⟩
      replace R0 := Lib.hid (R0.out.below hb3 hlt1)
      replace KB := Lib.hid (KB.out.below hb3 hlt2)
      replace FB := Lib.hid (FB.out.trans (hb3.mono FB.out.size))
      replace hlt1 := Nat.lt_of_lt_of_le hlt1 hb3.size
      replace hlt2 := Nat.lt_of_lt_of_le hlt2 hb3.size
      clear hb3 k0 k1 k2 k3 k4
      have k0 := KB.out 0 _ rfl
      have k1 := KB.out 1 _ rfl
      have k2 := KB.out 2 _ rfl
      have k3 := KB.out 3 _ rfl
      have k4 := KB.out 4 _ rfl
      go_wp2_with fail
      refine (BY.out _).mono ?_
      rintro x w4 ⟨rfl, hb4⟩
      replace R0 := Lib.hid (R0.out.below hb4 hlt1)
      replace KB := Lib.hid (KB.out.below hb4 hlt2)
      replace FB := Lib.hid (FB.out.trans (hb4.mono FB.out.size))
      clear hb4 k0 k1 k2 k3 k4
      obtain ⟨a0, z0⟩ := R0.out 0 _ rfl
      obtain ⟨a1, z1⟩ := R0.out 1 _ rfl
      obtain ⟨a2, z2⟩ := R0.out 2 _ rfl
      obtain ⟨a3, z3⟩ := R0.out 3 _ rfl
      obtain ⟨a4, z4⟩ := R0.out 4 _ rfl
      go_wp2
      refine bodyPost_ret (v := .tuple #[.agg #[.string ⟨#[]⟩, .int .i64 0, .int .i64 0, .bool false, .bool false], .bool false]) (by simp [results, Tryz.results44, go_sem, a0, a1, a2, a3, a4]) rfl ⟨rfl, ?_⟩
      exact ((((FB.out.setCell (by simp) _).setCell (by simp) _).setCell (by simp) _).setCell (by simp) _).setCell (by simp) _
  case pos =>
    have hR2 : (if (validE (entE l) && decide (bytesE (entE l) = s)) = true then entE l else zeroE) = entE l := by rw [hv, decide_eq_true hb]; rfl
    rw [hR2, hv, decide_eq_true hb, Bool.and_true]
    rw [hb] at BY
    clear hv hR2 hb
    go_enter Tryz.func44, Tryz.ntmps44
    go_wp2_with fail
    refine (GW.out _).mono ?_
    rintro x w1 ⟨rfl, hb1⟩
    replace R0 := Lib.hid (R0.out.below hb1 (by simp))
    have FB := Lib.hid (show Below w.heap.size w w1 from Below.trans (by go_grown) (hb1.mono (by simp)))
    have hlt : w.heap.size < w1.heap.size := by have := hb1.size; simp at this; omega
    clear hb1
    go_wp2
    have KS := Lib.hid (fun w' (hb : Below w1.heap.size w1 w') => (show True from trivial))
    have HC := Lib.hid (show Below w1.heap.size w1 w1.drew from (Below.refl _ _).drew)
    refine wp_region_held_drew (S := (fun w' => True)) (by kernel_rfl) (KS.out _ HC.out) (fun hHeld => ?_)
    refine wpAnyH_take (i := 0) (oi := { dst := some 12, op := Op.move (Operand.tmp 0), type := 9, pos := "l16_chains.go:248", after := #[], guard := none }) (v := ?_) rfl (by kernel_rfl) (by kernel_rfl) (by kernel_rfl) (fun _ _ _ h => h) (Or.inl ⟨by rfl, ?hy⟩) hHeld ?_
    case hy => (intro w' hSw; (try dsimp only at hSw); go_simp; try with_reducible rfl)
    simp only [Act.put, List.setIfInBounds_toArray, List.set_cons_zero, List.set_cons_succ]
    refine wpAnyH_take (i := 1) (oi := { dst := some 13, op := Op.slice 9 (Operand.tmp 12) none (some (Operand.const (Value.int IntKind.i64 8))) none, type := 9, pos := "l16_chains.go:248", after := #[{ on := 0, ground := Ground.data }], guard := none }) (v := ?_) rfl (by kernel_rfl) (by kernel_rfl) (by kernel_rfl) (fun _ _ _ h => h) (Or.inl ⟨by rfl, ?hy⟩) hHeld ?_
    case hy => (intro w' hSw; (try dsimp only at hSw); go_simp; try with_reducible rfl)
    simp only [Act.put, List.setIfInBounds_toArray, List.set_cons_zero, List.set_cons_succ]
    refine wpAnyH_take (i := 3) (oi := { dst := some 15, op := Op.move (Operand.tmp 0), type := 9, pos := "l16_chains.go:248", after := #[], guard := none }) (v := ?_) rfl (by kernel_rfl) (by kernel_rfl) (by kernel_rfl) (fun _ _ _ h => h) (Or.inl ⟨by rfl, ?hy⟩) hHeld ?_
    case hy => (intro w' hSw; (try dsimp only at hSw); go_simp; try with_reducible rfl)
    simp only [Act.put, List.setIfInBounds_toArray, List.set_cons_zero, List.set_cons_succ]
    refine wpAnyH_take (i := 4) (oi := { dst := some 16, op := Op.index 9 (Operand.tmp 15) (Operand.const (Value.int IntKind.i64 8)), type := 5, pos := "l16_chains.go:248", after := #[{ on := 3, ground := Ground.data }], guard := none }) (v := ?_) rfl (by kernel_rfl) (by kernel_rfl) (by kernel_rfl) (fun _ _ _ h => h) (Or.inl ⟨by rfl, ?hy⟩) hHeld ?_
    case hy => (intro w' hSw; (try dsimp only at hSw); go_simp; try with_reducible rfl)
    simp only [Act.put, List.setIfInBounds_toArray, List.set_cons_zero, List.set_cons_succ]
    refine wpAnyH_take (i := 5) (oi := { dst := some 17, op := Op.convert 5 2 (Operand.tmp 16), type := 2, pos := "l16_chains.go:248", after := #[{ on := 4, ground := Ground.data }], guard := none }) (v := ?_) rfl (by kernel_rfl) (by kernel_rfl) (by kernel_rfl) (fun _ _ _ h => h) (Or.inl ⟨by rfl, ?hy⟩) hHeld ?_
    case hy => (intro w' hSw; (try dsimp only at hSw); go_simp; try with_reducible rfl)
    simp only [Act.put, List.setIfInBounds_toArray, List.set_cons_zero, List.set_cons_succ]
    refine wpAnyH_take (i := 6) (oi := { dst := some 18, op := Op.move (Operand.tmp 4), type := 2, pos := "l16_chains.go:248", after := #[], guard := none }) (v := ?_) rfl (by kernel_rfl) (by kernel_rfl) (by kernel_rfl) (fun _ _ _ h => h) (Or.inl ⟨by rfl, ?hy⟩) hHeld ?_
    case hy => (intro w' hSw; (try dsimp only at hSw); go_simp; try with_reducible rfl)
    simp only [Act.put, List.setIfInBounds_toArray, List.set_cons_zero, List.set_cons_succ]
    refine wpAnyH_take (i := 7) (oi := { dst := some 19, op := Op.move (Operand.tmp 0), type := 9, pos := "l16_chains.go:248", after := #[], guard := none }) (v := ?_) rfl (by kernel_rfl) (by kernel_rfl) (by kernel_rfl) (fun _ _ _ h => h) (Or.inl ⟨by rfl, ?hy⟩) hHeld ?_
    case hy => (intro w' hSw; (try dsimp only at hSw); go_simp; try with_reducible rfl)
    simp only [Act.put, List.setIfInBounds_toArray, List.set_cons_zero, List.set_cons_succ]
    refine wpAnyH_take (i := 8) (oi := { dst := some 20, op := Op.index 9 (Operand.tmp 19) (Operand.const (Value.int IntKind.i64 11)), type := 5, pos := "l16_chains.go:248", after := #[{ on := 7, ground := Ground.data }], guard := none }) (v := ?_) rfl (by kernel_rfl) (by kernel_rfl) (by kernel_rfl) (fun _ _ _ h => h) (Or.inl ⟨by rfl, ?hy⟩) hHeld ?_
    case hy => (intro w' hSw; (try dsimp only at hSw); go_simp; try with_reducible rfl)
    simp only [Act.put, List.setIfInBounds_toArray, List.set_cons_zero, List.set_cons_succ]
    refine wpAnyH_take (i := 9) (oi := { dst := some 21, op := Op.binOp BinOp.eql 5 (Operand.tmp 20) (Operand.const (Value.int IntKind.u8 1)) 5, type := 4, pos := "l16_chains.go:248", after := #[{ on := 8, ground := Ground.data }], guard := none }) (v := ?_) rfl (by kernel_rfl) (by kernel_rfl) (by kernel_rfl) (fun _ _ _ h => h) (Or.inl ⟨by rfl, ?hy⟩) hHeld ?_
    case hy => (intro w' hSw; (try dsimp only at hSw); go_simp; try with_reducible rfl)
    simp only [Act.put, List.setIfInBounds_toArray, List.set_cons_zero, List.set_cons_succ]
    refine wpAnyH_take (i := 10) (oi := { dst := some 22, op := Op.move (Operand.tmp 0), type := 9, pos := "l16_chains.go:248", after := #[], guard := none }) (v := ?_) rfl (by kernel_rfl) (by kernel_rfl) (by kernel_rfl) (fun _ _ _ h => h) (Or.inl ⟨by rfl, ?hy⟩) hHeld ?_
    case hy => (intro w' hSw; (try dsimp only at hSw); go_simp; try with_reducible rfl)
    simp only [Act.put, List.setIfInBounds_toArray, List.set_cons_zero, List.set_cons_succ]
    refine wpAnyH_take (i := 11) (oi := { dst := some 23, op := Op.index 9 (Operand.tmp 22) (Operand.const (Value.int IntKind.i64 11)), type := 5, pos := "l16_chains.go:248", after := #[{ on := 10, ground := Ground.data }], guard := none }) (v := ?_) rfl (by kernel_rfl) (by kernel_rfl) (by kernel_rfl) (fun _ _ _ h => h) (Or.inl ⟨by rfl, ?hy⟩) hHeld ?_
    case hy => (intro w' hSw; (try dsimp only at hSw); go_simp; try with_reducible rfl)
    simp only [Act.put, List.setIfInBounds_toArray, List.set_cons_zero, List.set_cons_succ]
    refine wpAnyH_take (i := 12) (oi := { dst := some 24, op := Op.binOp BinOp.eql 5 (Operand.tmp 23) (Operand.const (Value.int IntKind.u8 2)) 5, type := 4, pos := "l16_chains.go:248", after := #[{ on := 11, ground := Ground.data }], guard := none }) (v := ?_) rfl (by kernel_rfl) (by kernel_rfl) (by kernel_rfl) (fun _ _ _ h => h) (Or.inl ⟨by rfl, ?hy⟩) hHeld ?_
    case hy => (intro w' hSw; (try dsimp only at hSw); go_simp; try with_reducible rfl)
    simp only [Act.put, List.setIfInBounds_toArray, List.set_cons_zero, List.set_cons_succ]
    refine wpAnyH_ready (rs := [2, 14]) (by kernel_rfl) (by simp) ?_
    refine AllReadyH.cons (o := { dst := some 14, op := Op.call { callee := Callee.value (Operand.func 61), args := #[Operand.tmp 13, Operand.const (Value.string { data := #[0] })], argTypes := #[9, 9] }, type := 9, pos := "l16_chains.go:249", after := #[{ on := 1, ground := Ground.data }], guard := none }) rfl (fun K hK => ?_) (AllReadyH.cons (o := { dst := some 6, op := Op.alloc 45, type := 0, pos := "l16_chains.go:248", after := #[], guard := none }) rfl (fun K hK => ?_) AllReadyH.nil)
    · go_simp
      go_at_call 61; refine (TR.out _).mono ?_; rintro x w2 ⟨rfl, rfl⟩
      go_wp2_with fail
      refine hK.out _ _ (KS.out _ HC.out) (fun hHeld => ?_)
      clear hK K
      try simp only [Act.put, List.setIfInBounds_toArray, List.set_cons_zero, List.set_cons_succ]
      refine wpAnyH_take (i := 13) (oi := { dst := some 25, op := Op.build 45 #[(0, Operand.tmp 14), (1, Operand.tmp 17), (2, Operand.tmp 18), (3, Operand.tmp 21), (4, Operand.tmp 24)], type := 45, pos := "l16_chains.go:248", after := #[{ on := 2, ground := Ground.data }, { on := 5, ground := Ground.data }, { on := 6, ground := Ground.data }, { on := 9, ground := Ground.data }, { on := 12, ground := Ground.data }], guard := none }) (v := ?_) rfl (by kernel_rfl) (by kernel_rfl) (by kernel_rfl) (fun _ _ _ h => h) (Or.inl ⟨by rfl, ?hy⟩) hHeld ?_
      case hy => (intro w' hSw; (try dsimp only at hSw); go_simp; try with_reducible rfl)
      simp only [Act.put, List.setIfInBounds_toArray, List.set_cons_zero, List.set_cons_succ]
      refine wpAnyH_ready (rs := [14]) (by kernel_rfl) (by simp) ?_
      refine AllReadyH.cons (o := { dst := some 6, op := Op.alloc 45, type := 0, pos := "l16_chains.go:248", after := #[], guard := none }) rfl (fun K hK => ?_) AllReadyH.nil
      go_simp
      refine hK.out _ _ (KS.out _ HC.out) (fun hHeld => ?_)
      clear hK K
      try simp only [Act.put, List.setIfInBounds_toArray, List.set_cons_zero, List.set_cons_succ]
      refine wpAnyH_ready (rs := [15]) (by kernel_rfl) (by simp) ?_
      refine AllReadyH.cons (o := { dst := none, op := Op.store 45 (Operand.tmp 6) (Operand.tmp 25), type := 0, pos := "l16_chains.go:248", after := #[{ on := 14, ground := Ground.data }, { on := 13, ground := Ground.data }, { on := 2, ground := Ground.chain }, { on := 0, ground := Ground.phase }, { on := 1, ground := Ground.phase }, { on := 2, ground := Ground.phase }, { on := 3, ground := Ground.phase }, { on := 4, ground := Ground.phase }, { on := 5, ground := Ground.phase }, { on := 6, ground := Ground.phase }, { on := 7, ground := Ground.phase }, { on := 8, ground := Ground.phase }, { on := 9, ground := Ground.phase }, { on := 10, ground := Ground.phase }, { on := 11, ground := Ground.phase }, { on := 12, ground := Ground.phase }, { on := 13, ground := Ground.phase }, { on := 14, ground := Ground.phase }], guard := none }) rfl (fun K hK => ?_) AllReadyH.nil
      go_simp
      refine hK.out _ _ (KS.out _ HC.out) (fun hHeld => ?_)
      clear hK K
      try simp only [Act.put, List.setIfInBounds_toArray, List.set_cons_zero, List.set_cons_succ]
      refine wpAnyH_done (by kernel_rfl) ?_ _
      obtain ⟨i0, i1, i2, i3, i4⟩ := HE.out
      rw [i0, i1, i2, i3, i4]
      clear i0 i1 i2 i3 i4 q8
      have FW := Lib.hid (show Below w1.heap.size w1 (w1.alloc (.cells #[.string (entE l).f0, .int .i64 (entE l).f1, .int .i64 (entE l).f2, .bool (entE l).f3, .bool (entE l).f4] 45)).drew from ((Below.refl _ _).alloc (Nat.le_refl _) _).drew)
      have KB := Lib.hid (show BoxAt (w1.alloc (.cells #[.string (entE l).f0, .int .i64 (entE l).f1, .int .i64 (entE l).f2, .bool (entE l).f3, .bool (entE l).f4] 45)).drew w1.heap.size #[.string (entE l).f0, .int .i64 (entE l).f1, .int .i64 (entE l).f2, .bool (entE l).f3, .bool (entE l).f4] from BoxAt.new w1 #[.string (entE l).f0, .int .i64 (entE l).f1, .int .i64 (entE l).f2, .bool (entE l).f3, .bool (entE l).f4] 45 w1.heap.size rfl)
      replace R0 := Lib.hid (R0.out.below FW.out hlt)
      replace FB := Lib.hid (FB.out.trans (FW.out.mono FB.out.size))
      have hlt1 : w.heap.size < (w1.alloc (.cells #[.string (entE l).f0, .int .i64 (entE l).f1, .int .i64 (entE l).f2, .bool (entE l).f3, .bool (entE l).f4] 45)).drew.heap.size := by simp; omega
      have hlt2 : w1.heap.size < (w1.alloc (.cells #[.string (entE l).f0, .int .i64 (entE l).f1, .int .i64 (entE l).f2, .bool (entE l).f3, .bool (entE l).f4] 45)).drew.heap.size := by simp
      clear FW HC KS hlt
      generalize (w1.alloc (.cells #[.string (entE l).f0, .int .i64 (entE l).f1, .int .i64 (entE l).f2, .bool (entE l).f3, .bool (entE l).f4] 45)).drew = W at KB R0 FB hlt1 hlt2 ⊢
      generalize w1.heap.size = gb at KB hlt2 ⊢
      have k0 := KB.out 0 _ rfl
      have k1 := KB.out 1 _ rfl
      have k2 := KB.out 2 _ rfl
      have k3 := KB.out 3 _ rfl
      have k4 := KB.out 4 _ rfl
      go_wp2_with fail
      refine (VA.out _).mono ?_
      rintro x w3 ⟨rfl, hb3⟩
      replace R0 := Lib.hid (R0.out.below hb3 hlt1)
      replace KB := Lib.hid (KB.out.below hb3 hlt2)
      replace FB := Lib.hid (FB.out.trans (hb3.mono FB.out.size))
      replace hlt1 := Nat.lt_of_lt_of_le hlt1 hb3.size
      replace hlt2 := Nat.lt_of_lt_of_le hlt2 hb3.size
      clear hb3 k0 k1 k2 k3 k4
      have k0 := KB.out 0 _ rfl
      have k1 := KB.out 1 _ rfl
      have k2 := KB.out 2 _ rfl
      have k3 := KB.out 3 _ rfl
      have k4 := KB.out 4 _ rfl
      go_wp2_with fail
      refine (BY.out _).mono ?_
      rintro x w4 ⟨rfl, hb4⟩
      replace R0 := Lib.hid (R0.out.below hb4 hlt1)
      replace KB := Lib.hid (KB.out.below hb4 hlt2)
      replace FB := Lib.hid (FB.out.trans (hb4.mono FB.out.size))
      clear hb4 k0 k1 k2 k3 k4
      obtain ⟨a0, z0⟩ := R0.out 0 _ rfl
      obtain ⟨a1, z1⟩ := R0.out 1 _ rfl
      obtain ⟨a2, z2⟩ := R0.out 2 _ rfl
      obtain ⟨a3, z3⟩ := R0.out 3 _ rfl
      obtain ⟨a4, z4⟩ := R0.out 4 _ rfl
      have k0 := KB.out 0 _ rfl
      have k1 := KB.out 1 _ rfl
      have k2 := KB.out 2 _ rfl
      have k3 := KB.out 3 _ rfl
      have k4 := KB.out 4 _ rfl
      go_wp2
      refine bodyPost_ret (v := .tuple #[.agg #[.string (entE l).f0, .int .i64 (entE l).f1, .int .i64 (entE l).f2, .bool (entE l).f3, .bool (entE l).f4], .bool true]) (by simp [results, Tryz.results44, go_sem, a0, a1, a2, a3, a4]) rfl ⟨rfl, ?_⟩
      exact ((((FB.out.setCell (by simp) _).setCell (by simp) _).setCell (by simp) _).setCell (by simp) _).setCell (by simp) _
    · go_simp
      refine hK.out _ _ (KS.out _ HC.out) (fun hHeld => ?_)
      clear hK K
      try simp only [Act.put, List.setIfInBounds_toArray, List.set_cons_zero, List.set_cons_succ]
      refine wpAnyH_ready (rs := [2]) (by kernel_rfl) (by simp) ?_
      refine AllReadyH.cons (o := { dst := some 14, op := Op.call { callee := Callee.value (Operand.func 61), args := #[Operand.tmp 13, Operand.const (Value.string { data := #[0] })], argTypes := #[9, 9] }, type := 9, pos := "l16_chains.go:249", after := #[{ on := 1, ground := Ground.data }], guard := none }) rfl (fun K hK => ?_) AllReadyH.nil
      go_simp
      go_at_call 61; refine (TR.out _).mono ?_; rintro x w2 ⟨rfl, rfl⟩
      go_wp2_with fail
      refine hK.out _ _ (KS.out _ HC.out) (fun hHeld => ?_)
      clear hK K
      try simp only [Act.put, List.setIfInBounds_toArray, List.set_cons_zero, List.set_cons_succ]
      refine wpAnyH_take (i := 13) (oi := { dst := some 25, op := Op.build 45 #[(0, Operand.tmp 14), (1, Operand.tmp 17), (2, Operand.tmp 18), (3, Operand.tmp 21), (4, Operand.tmp 24)], type := 45, pos := "l16_chains.go:248", after := #[{ on := 2, ground := Ground.data }, { on := 5, ground := Ground.data }, { on := 6, ground := Ground.data }, { on := 9, ground := Ground.data }, { on := 12, ground := Ground.data }], guard := none }) (v := ?_) rfl (by kernel_rfl) (by kernel_rfl) (by kernel_rfl) (fun _ _ _ h => h) (Or.inl ⟨by rfl, ?hy⟩) hHeld ?_
      case hy => (intro w' hSw; (try dsimp only at hSw); go_simp; try with_reducible rfl)
      simp only [Act.put, List.setIfInBounds_toArray, List.set_cons_zero, List.set_cons_succ]
      refine wpAnyH_ready (rs := [15]) (by kernel_rfl) (by simp) ?_
      refine AllReadyH.cons (o := { dst := none, op := Op.store 45 (Operand.tmp 6) (Operand.tmp 25), type := 0, pos := "l16_chains.go:248", after := #[{ on := 14, ground := Ground.data }, { on := 13, ground := Ground.data }, { on := 2, ground := Ground.chain }, { on := 0, ground := Ground.phase }, { on := 1, ground := Ground.phase }, { on := 2, ground := Ground.phase }, { on := 3, ground := Ground.phase }, { on := 4, ground := Ground.phase }, { on := 5, ground := Ground.phase }, { on := 6, ground := Ground.phase }, { on := 7, ground := Ground.phase }, { on := 8, ground := Ground.phase }, { on := 9, ground := Ground.phase }, { on := 10, ground := Ground.phase }, { on := 11, ground := Ground.phase }, { on := 12, ground := Ground.phase }, { on := 13, ground := Ground.phase }, { on := 14, ground := Ground.phase }], guard := none }) rfl (fun K hK => ?_) AllReadyH.nil
      go_simp
      refine hK.out _ _ (KS.out _ HC.out) (fun hHeld => ?_)
      clear hK K
      try simp only [Act.put, List.setIfInBounds_toArray, List.set_cons_zero, List.set_cons_succ]
      refine wpAnyH_done (by kernel_rfl) ?_ _
      obtain ⟨i0, i1, i2, i3, i4⟩ := HE.out
      rw [i0, i1, i2, i3, i4]
      clear i0 i1 i2 i3 i4 q8
      have FW := Lib.hid (show Below w1.heap.size w1 (w1.alloc (.cells #[.string (entE l).f0, .int .i64 (entE l).f1, .int .i64 (entE l).f2, .bool (entE l).f3, .bool (entE l).f4] 45)).drew from ((Below.refl _ _).alloc (Nat.le_refl _) _).drew)
      have KB := Lib.hid (show BoxAt (w1.alloc (.cells #[.string (entE l).f0, .int .i64 (entE l).f1, .int .i64 (entE l).f2, .bool (entE l).f3, .bool (entE l).f4] 45)).drew w1.heap.size #[.string (entE l).f0, .int .i64 (entE l).f1, .int .i64 (entE l).f2, .bool (entE l).f3, .bool (entE l).f4] from BoxAt.new w1 #[.string (entE l).f0, .int .i64 (entE l).f1, .int .i64 (entE l).f2, .bool (entE l).f3, .bool (entE l).f4] 45 w1.heap.size rfl)
      replace R0 := Lib.hid (R0.out.below FW.out hlt)
      replace FB := Lib.hid (FB.out.trans (FW.out.mono FB.out.size))
      have hlt1 : w.heap.size < (w1.alloc (.cells #[.string (entE l).f0, .int .i64 (entE l).f1, .int .i64 (entE l).f2, .bool (entE l).f3, .bool (entE l).f4] 45)).drew.heap.size := by simp; omega
      have hlt2 : w1.heap.size < (w1.alloc (.cells #[.string (entE l).f0, .int .i64 (entE l).f1, .int .i64 (entE l).f2, .bool (entE l).f3, .bool (entE l).f4] 45)).drew.heap.size := by simp
      clear FW HC KS hlt
      generalize (w1.alloc (.cells #[.string (entE l).f0, .int .i64 (entE l).f1, .int .i64 (entE l).f2, .bool (entE l).f3, .bool (entE l).f4] 45)).drew = W at KB R0 FB hlt1 hlt2 ⊢
      generalize w1.heap.size = gb at KB hlt2 ⊢
      have k0 := KB.out 0 _ rfl
      have k1 := KB.out 1 _ rfl
      have k2 := KB.out 2 _ rfl
      have k3 := KB.out 3 _ rfl
      have k4 := KB.out 4 _ rfl
      go_wp2_with fail
      refine (VA.out _).mono ?_
      rintro x w3 ⟨rfl, hb3⟩
      replace R0 := Lib.hid (R0.out.below hb3 hlt1)
      replace KB := Lib.hid (KB.out.below hb3 hlt2)
      replace FB := Lib.hid (FB.out.trans (hb3.mono FB.out.size))
      replace hlt1 := Nat.lt_of_lt_of_le hlt1 hb3.size
      replace hlt2 := Nat.lt_of_lt_of_le hlt2 hb3.size
      clear hb3 k0 k1 k2 k3 k4
      have k0 := KB.out 0 _ rfl
      have k1 := KB.out 1 _ rfl
      have k2 := KB.out 2 _ rfl
      have k3 := KB.out 3 _ rfl
      have k4 := KB.out 4 _ rfl
      go_wp2_with fail
      refine (BY.out _).mono ?_
      rintro x w4 ⟨rfl, hb4⟩
      replace R0 := Lib.hid (R0.out.below hb4 hlt1)
      replace KB := Lib.hid (KB.out.below hb4 hlt2)
      replace FB := Lib.hid (FB.out.trans (hb4.mono FB.out.size))
      clear hb4 k0 k1 k2 k3 k4
      obtain ⟨a0, z0⟩ := R0.out 0 _ rfl
      obtain ⟨a1, z1⟩ := R0.out 1 _ rfl
      obtain ⟨a2, z2⟩ := R0.out 2 _ rfl
      obtain ⟨a3, z3⟩ := R0.out 3 _ rfl
      obtain ⟨a4, z4⟩ := R0.out 4 _ rfl
      have k0 := KB.out 0 _ rfl
      have k1 := KB.out 1 _ rfl
      have k2 := KB.out 2 _ rfl
      have k3 := KB.out 3 _ rfl
      have k4 := KB.out 4 _ rfl
      go_wp2
      refine bodyPost_ret (v := .tuple #[.agg #[.string (entE l).f0, .int .i64 (entE l).f1, .int .i64 (entE l).f2, .bool (entE l).f3, .bool (entE l).f4], .bool true]) (by simp [results, Tryz.results44, go_sem, a0, a1, a2, a3, a4]) rfl ⟨rfl, ?_⟩
      exact ((((FB.out.setCell (by simp) _).setCell (by simp) _).setCell (by simp) _).setCell (by simp) _).setCell (by simp) _
end Go.Proofs.YtpdodpnhohmjaaaGreatDoor
end
section
set_option linter.unusedVariables false
namespace Go.Proofs.YtpdodpnhohmjaaaGreatDoor
open Go.RowKit Go.ChangeShapes Go.WideShapes Go.ChangeAt Go.Joins Go.Deep
set_option linter.unusedVariables false
set_option linter.unusedSimpArgs false
set_option maxRecDepth 20000
structure ChainLayoutV where
  f0 : Int
  f1 : Int
  f2 : Int
  f3 : Int
  f4 : Int
def rowChainLayout (e : ChainLayoutV) : List Value := [.int .i64 e.f0, .int .i64 e.f1, .int .i64 e.f2, .int .i64 e.f3, .int .i64 e.f4]
def zeroChainLayout : List Value := [.int .i64 0, .int .i64 0, .int .i64 0, .int .i64 0, .int .i64 0]
theorem rowChainLayout_len (e : ChainLayoutV) : (rowChainLayout e).length = 5 := rfl
theorem infoChainLayout : (Tryz.prog.info? 40).map (fun i => (i.zero, i.size, i.bytes)) = some (some (.agg zeroChainLayout.toArray), 5, 40) := by kernel_rfl
def wtChainLayout (es : List ChainLayoutV) : Nat := es.length
theorem wtChainLayout_len (es : List ChainLayoutV) : es.length ≤ wtChainLayout es := Nat.le_refl _
def sameChainLayout (x y : ChainLayoutV) : Bool := (x.f0 == y.f0) && (x.f1 == y.f1) && (x.f2 == y.f2) && (x.f3 == y.f3) && (x.f4 == y.f4)
theorem sameChainLayout_iff {x y : ChainLayoutV} : sameChainLayout x y = true ↔ x = y := by
  cases x; cases y
  simp [sameChainLayout, and_assoc]
end Go.Proofs.YtpdodpnhohmjaaaGreatDoor
end
section
set_option linter.unusedVariables false
namespace Go.Proofs.YtpdodpnhohmjaaaGreatDoor
open Go.RowKit
set_option maxRecDepth 20000
def nibS (v n : Nat) : Nat := (16 * v % 65536) ^^^ ((v / 4096 ^^^ n) * 4129)
def bitS (v b : Nat) : Nat := if v / 32768 % 2 = b then 2 * v % 65536 else (2 * v % 65536) ^^^ 4129
def bits4 (v n : Nat) : Nat := bitS (bitS (bitS (bitS v (n / 8 % 2)) (n / 4 % 2)) (n / 2 % 2)) (n % 2)
theorem dbl_xor (a b : Nat) : 2 * (a ^^^ b) = 2 * a ^^^ 2 * b := by
  have h := @Nat.shiftLeft_xor_distrib 1 a b
  simpa [Nat.shiftLeft_eq, Nat.mul_comm] using h
theorem mod_xor (a b : Nat) : (a ^^^ b) % 65536 = a % 65536 ^^^ b % 65536 := by
  have h := @Nat.xor_mod_two_pow a b 16
  simpa using h
theorem bitS_lin (u x b : Nat) (hx : x < 32768) (hd : (u ^^^ x) / 32768 % 2 = u / 32768 % 2) : bitS (u ^^^ x) b = bitS u b ^^^ 2 * x := by
  have h2 : 2 * (u ^^^ x) % 65536 = (2 * u % 65536) ^^^ 2 * x := by rw [dbl_xor, mod_xor, Nat.mod_eq_of_lt (show 2 * x < 65536 by omega)]
  unfold bitS
  rw [hd, h2]
  split
  · rfl
  · rw [Nat.xor_assoc, Nat.xor_assoc, Nat.xor_comm (2 * x) 4129]
theorem bit15_xor (u x : Nat) (hx : x < 32768) : (u ^^^ x) / 32768 % 2 = u / 32768 % 2 := by
  have h := @Nat.testBit_xor u x 15
  have hx2 : x.testBit 15 = false := Nat.testBit_lt_two_pow (by omega)
  rw [hx2, Bool.xor_false] at h
  simp only [Nat.testBit_eq_decide_div_mod_eq] at h
  have e : (2 : Nat) ^ 15 = 32768 := by decide
  rw [e] at h
  have := decide_eq_decide.1 h
  omega
theorem bits4_hi : ∀ h, h < 16 → ∀ n, n < 16 → bits4 (h * 4096) n = (h ^^^ n) * 4129 := by decide +kernel
theorem split16 (v : Nat) : v = (v / 4096 * 4096) ^^^ (v % 4096) := by
  have h := Nat.two_pow_add_eq_or_of_lt (i := 12) (b := v % 4096) (by omega) (v / 4096)
  have hx : (v / 4096 * 4096) ^^^ (v % 4096) = (v / 4096 * 4096) ||| (v % 4096) := by
    apply Nat.eq_of_testBit_eq
    intro i
    rw [Nat.testBit_xor, Nat.testBit_or]
    by_cases hi : i < 12
    · have h1 : (v / 4096 * 4096).testBit i = false := by
        rw [show v / 4096 * 4096 = 2 ^ 12 * (v / 4096) by omega, Nat.testBit_two_pow_mul]
        simp; omega
      rw [h1]; simp
    · have h1 : (v % 4096).testBit i = false := Nat.testBit_lt_two_pow (Nat.lt_of_lt_of_le (show v % 4096 < 2 ^ 12 by omega) (Nat.pow_le_pow_right (by decide) (by omega)))
      rw [h1]; simp
  rw [hx, show v / 4096 * 4096 = 2 ^ 12 * (v / 4096) by omega, ← h]
  omega
theorem bits4_lin (u x n : Nat) (hx : x < 4096) : bits4 (u ^^^ x) n = bits4 u n ^^^ 2 * (2 * (2 * (2 * x))) := by
  unfold bits4
  rw [bitS_lin u x _ (by omega) (bit15_xor u x (by omega)), bitS_lin _ (2 * x) _ (by omega) (bit15_xor _ _ (by omega)), bitS_lin _ (2 * (2 * x)) _ (by omega) (bit15_xor _ _ (by omega)), bitS_lin _ (2 * (2 * (2 * x))) _ (by omega) (bit15_xor _ _ (by omega))]
theorem bits4_nib (v n : Nat) (hv : v < 65536) (hn : n < 16) : bits4 v n = nibS v n := by
  have hs := congrArg (fun y => bits4 y n) (split16 v)
  have hb := bits4_hi (v / 4096) (by omega) n hn
  have e1 : 16 * v % 65536 = 2 * (2 * (2 * (2 * (v % 4096)))) := by omega
  have h2 := bits4_lin (v / 4096 * 4096) (v % 4096) n (by omega)
  have h3 : bits4 v n = bits4 (v / 4096 * 4096) n ^^^ 2 * (2 * (2 * (2 * (v % 4096)))) := Eq.trans hs h2
  rw [h3, hb]
  unfold nibS
  rw [e1]
  exact Nat.xor_comm _ _
theorem nibS_bd (v n : Nat) (hv : v < 65536) (hn : n < 16) : nibS v n < 65536 := by
  have h1 : (v / 4096 ^^^ n) < 2 ^ 4 := Nat.xor_lt_two_pow (by omega) (by omega)
  have h2 : nibS v n < 2 ^ 16 := Nat.xor_lt_two_pow (by omega) (by omega)
  omega
/-- The check value behind k bytes. -/
def crcT (s : ByteArray) (v : Nat) : Nat → Nat
  | 0 => v
  | k + 1 => nibS (nibS (crcT s v k) ((s[k]?.getD 0).toNat / 16)) ((s[k]?.getD 0).toNat % 16)
theorem crcT_succ (s : ByteArray) (v k : Nat) (h : k < s.size) : crcT s v (k + 1) = nibS (nibS (crcT s v k) (s[k].toNat / 16)) (s[k].toNat % 16) := by
  have e : s[k]?.getD 0 = s[k] := by rw [getElem?_pos s k h]; rfl
  show nibS (nibS (crcT s v k) ((s[k]?.getD 0).toNat / 16)) ((s[k]?.getD 0).toNat % 16) = _
  rw [e]
theorem crcT_bd (s : ByteArray) (v k : Nat) (hv : v < 65536) : crcT s v k < 65536 := by
  induction k with
  | zero => exact hv
  | succ k ih =>
    have hx := (s[k]?.getD 0).toNat_lt
    exact nibS_bd _ _ (nibS_bd _ _ ih (by omega)) (by omega)
def crcV (s : ByteArray) (n : Int) : Int := if inB 0 65535 n = true then (crcT s n.toNat s.size : Int) else -1
theorem i64_small (n : Int) (h0 : 0 ≤ n) (h1 : n < 2 ^ 40) : IntKind.i64.wrap n = n := by rw [IntKind.wrap_i64]; omega
theorem i64_xor (a b : Nat) (ha : a < 4294967296) (hb : b < 4294967296) : bits .xor .i64 (a : Int) (b : Int) = ((a ^^^ b : Nat) : Int) := by
  have hx : a ^^^ b < 2 ^ 32 := Nat.xor_lt_two_pow (by omega) (by omega)
  have h1 : (BitVec.ofInt 64 (a : Int)).toNat = a := by
    rw [BitVec.ofInt_natCast, BitVec.toNat_ofNat]; exact Nat.mod_eq_of_lt (by omega)
  have h2 : (BitVec.ofInt 64 (b : Int)).toNat = b := by
    rw [BitVec.ofInt_natCast, BitVec.toNat_ofNat]; exact Nat.mod_eq_of_lt (by omega)
  show IntKind.i64.wrap ((BitVec.ofInt 64 (a : Int) ^^^ BitVec.ofInt 64 (b : Int)).toNat : Int) = _
  rw [BitVec.toNat_xor, h1, h2]
  exact i64_small _ (by omega) (by omega)
theorem i64_and16 (x : Int) (h0 : 0 ≤ x) (h1 : x < 1099511627776) : bits .and .i64 x 65535 = x % 65536 := bits_mask .i64 40 (by decide) i64_small 16 (by decide) x h0 h1
theorem i64_and1 (x : Int) (h0 : 0 ≤ x) (h1 : x < 1099511627776) : bits .and .i64 x 1 = x % 2 := bits_mask .i64 40 (by decide) i64_small 1 (by decide) x h0 h1
theorem checkOfBits_any (n C : Nat) (h : n < 16) (hC : n * 4129 = C) (w : World) : Calls Tryz.prog 111 #[.int .i64 (n : Int)] w fun e w' => e = .returned (.int .i64 (C : Int)) ∧ w = w' := by
  have h2 : (n : Int) < 16 := by omega
  have e : (n : Int) * 4129 = (C : Int) := by omega
  have e2 : C < 70000 := by omega
  clear hC
  go_enter Tryz.func111, Tryz.ntmps111
  go_wp2
  go_ret
  exact ⟨by first | rfl | rw [e], rfl⟩
/-- What one step of four bits reckons. -/
theorem nib_facts (cur n : Nat) (hc : cur < 65536) (hn : n < 16) : ∃ A B C : Nat, bits .and .i64 ((cur : Int) * 16) 65535 = (A : Int) ∧ bits .xor .i64 ((cur : Int) / 4096) (n : Int) = (B : Int) ∧ B < 16 ∧ B * 4129 = C ∧ bits .xor .i64 (A : Int) (C : Int) = (nibS cur n : Int) := by
  refine ⟨16 * cur % 65536, cur / 4096 ^^^ n, (cur / 4096 ^^^ n) * 4129, ?_, ?_, ?_, rfl, ?_⟩
  · rw [i64_and16 _ (by omega) (by omega)]; omega
  · have h := i64_xor (cur / 4096) n (by omega) (by omega)
    simpa using h
  · have h1 : (cur / 4096 ^^^ n) < 2 ^ 4 := Nat.xor_lt_two_pow (by omega) (by omega)
    omega
  · have h1 : (cur / 4096 ^^^ n) < 2 ^ 4 := Nat.xor_lt_two_pow (by omega) (by omega)
    exact i64_xor _ _ (by omega) (by omega)
set_option maxHeartbeats 4000000 in
theorem continueCheck_any (s : ByteArray) (v : Nat) (hv : v < 65536) (hs : s.size ≤ 4096) (w : World) :
    Calls Tryz.prog 109 #[.string s, .int .i64 (v : Int), .func (.func 111) #[] #[]] w fun e w' => e = .returned (.int .i64 (crcT s v s.size : Int)) ∧ Below w.heap.size w w' := by
  have CH := Lib.hid (fun n C h hC w => checkOfBits_any n C h hC w)
  go_enter Tryz.func109, Tryz.ntmps109
  go_wp2
  go_loopw [1, 7, 9, 12, 24] (fun q _ _ i _ wr => ∃ k : Nat, k ≤ s.size ∧ i = .int .i64 k ∧ q = .int .i64 (crcT s v k : Int) ∧ Below w.heap.size w wr) (fun _ _ _ i _ _ => s.size - (intOf i).toNat)
  case atStart => exact ⟨0, Nat.zero_le _, rfl, rfl, Below.refl _ _⟩
  case round =>
    obtain ⟨k, hk, rfl, rfl, hb⟩ := hrel
    by_cases hlt : k < s.size
    · have e0 : (k : Int) < s.size := by omega
      have hx := s[k].toNat_lt
      have HST := Lib.hid (crcT_succ s v k hlt)
      have hcb := crcT_bd s v k hv
      generalize crcT s v k = cur at *
      obtain ⟨n0, hn0⟩ : ∃ n, s[k].toNat / 16 = n := ⟨_, rfl⟩
      obtain ⟨n1, hn1⟩ : ∃ n, s[k].toNat % 16 = n := ⟨_, rfl⟩
      rw [hn0, hn1] at HST
      have hb0 : n0 < 16 := by omega
      have hb1 : n1 < 16 := by omega
      have hbi0 : (n0 : Int) < 16 := by omega
      have hbi1 : (n1 : Int) < 16 := by omega
      have hq0 : (s[k].toNat : Int) / 16 = (n0 : Int) := by omega
      have hq1 : bits .and .u8 (s[k].toNat : Int) 15 = (n1 : Int) := by rw [u8_and15 _ (by omega) (by omega)]; omega
      clear hn0 hn1
      have hv2 : (cur : Int) < 65536 := by omega
      have i0 : ∀ w, (Instr.index 171 (.agg #[.int .u8 (n0 : Int), .int .u8 (n1 : Int)]) (.int .i64 0)).run Tryz.prog w = .ok (.int .u8 (n0 : Int)) w := fun _ => rfl
      have i1 : ∀ w, (Instr.index 171 (.agg #[.int .u8 (n0 : Int), .int .u8 (n1 : Int)]) (.int .i64 1)).run Tryz.prog w = .ok (.int .u8 (n1 : Int)) w := fun _ => rfl
      have hc1 := nibS_bd cur n0 hcb hb0
      obtain ⟨A0, B0, C0, x1, x2, x3, x4, x5⟩ := nib_facts cur n0 hcb hb0
      generalize nibS cur n0 = c1 at *
      obtain ⟨A1, B1, C1, y1, y2, y3, y4, y5⟩ := nib_facts c1 n1 hc1 hb1
      have hc2 := nibS_bd c1 n1 hc1 hb1
      generalize nibS c1 n1 = c2 at *
      have CH0 := Lib.hid (fun w => CH.out B0 C0 x3 x4 w)
      have CH1 := Lib.hid (fun w => CH.out B1 C1 y3 y4 w)
      have z1 : (c1 : Int) < 65536 := by omega
      have z2 : (c2 : Int) < 65536 := by omega
      clear x3 x4 y3 y4
      go_wp2
      go_quiet (fail)
      rename_i nq
      have hbq := below_drewN hb nq
      generalize wr.drewN nq = wq at hbq ⊢
      clear hb
      go_wp2
      refine wp_loop_rounds 3 ?_
      rw [rounds_succ]
      go_wp2_with (go_at_call 111; refine (CH0.out _).mono ?_; rintro e w2 ⟨rfl, rfl⟩)
      rw [rounds_succ]
      go_wp2_with (go_at_call 111; refine (CH1.out _).mono ?_; rintro e w3 ⟨rfl, rfl⟩)
      rw [rounds_succ]
      go_wp2
      go_roundw
      case rel => exact ⟨k + 1, by omega, by go_num, by rw [HST.out], hbq⟩
      case measure => simp [intOf]; omega
    · obtain rfl : k = s.size := by omega
      go_wp2
      go_ret
      exact ⟨rfl, hb⟩
set_option maxHeartbeats 1000000 in
theorem crc16_any (s : ByteArray) (n : Int) (hs : s.size ≤ 4096) (w : World) :
    Calls Tryz.prog 87 #[.string s, .int .i64 n] w fun e w' => e = .returned (.int .i64 (crcV s n)) ∧ Below w.heap.size w w' := by
  have HT := Lib.hid (fun w b hb => within_b 0 65535 n w 2 b hb)
  by_cases h : inB 0 65535 n = true
  · obtain ⟨n0, n1⟩ := inB_iff.1 h
    obtain ⟨v, rfl⟩ : ∃ v : Nat, n = v := ⟨n.toNat, by omega⟩
    have e : crcV s v = (crcT s v s.size : Int) := by unfold crcV; rw [if_pos h, Int.toNat_natCast]
    rw [e]
    rw [h] at HT
    have HC := Lib.hid (fun w => continueCheck_any s v (by omega) hs w)
    generalize crcT s v s.size = r at *
    clear e h
    go_enter Tryz.func87, Tryz.ntmps87
    go_wp2_with (first | (go_at_call 57; refine (HT.out _ _ (by simp)).mono ?_; rintro e w1 ⟨rfl, hb1⟩) | (go_at_call 109; refine (HC.out _).mono ?_; rintro e w2 ⟨rfl, hb2⟩))
    go_ret
    exact ⟨rfl, hb1.trans (hb2.mono hb1.size)⟩
  · have h0 : inB 0 65535 n = false := by simpa using h
    have e : crcV s n = -1 := by unfold crcV; rw [if_neg h]
    rw [e]
    rw [h0] at HT
    clear e h h0
    go_enter Tryz.func87, Tryz.ntmps87
    go_wp2_with (go_at_call 57; refine (HT.out _ _ (by simp)).mono ?_; rintro e w1 ⟨rfl, hb1⟩)
    go_ret
    exact ⟨rfl, hb1⟩
/-- t bits of a byte. -/
def bitT (v c : Nat) : Nat → Nat
  | 0 => v
  | t + 1 => bitS (bitT v c t) (c / 2 ^ (7 - t) % 2)
theorem bitS_bd (v b : Nat) : bitS v b < 65536 := by
  unfold bitS
  split
  · omega
  · have h : (2 * v % 65536) ^^^ 4129 < 2 ^ 16 := Nat.xor_lt_two_pow (by omega) (by omega)
    omega
theorem bitT_bd (v c t : Nat) (hv : v < 65536) : bitT v c t < 65536 := by
  cases t with
  | zero => exact hv
  | succ t => exact bitS_bd _ _
theorem bitT_8 (v c : Nat) (hv : v < 65536) (hc : c < 256) : bitT v c 8 = nibS (nibS v (c / 16)) (c % 16) := by
  have h1 : bitT v c 4 = bits4 v (c / 16) := by
    show bitS (bitS (bitS (bitS v (c / 128 % 2)) (c / 64 % 2)) (c / 32 % 2)) (c / 16 % 2) = bits4 v (c / 16)
    unfold bits4
    rw [show c / 16 / 8 % 2 = c / 128 % 2 by omega, show c / 16 / 4 % 2 = c / 64 % 2 by omega, show c / 16 / 2 % 2 = c / 32 % 2 by omega]
  have h2 : bitT v c 8 = bits4 (bitT v c 4) (c % 16) := by
    show bitS (bitS (bitS (bitS (bitT v c 4) (c / 8 % 2)) (c / 4 % 2)) (c / 2 % 2)) (c / 1 % 2) = bits4 (bitT v c 4) (c % 16)
    unfold bits4
    rw [show c % 16 / 8 % 2 = c / 8 % 2 by omega, show c % 16 / 4 % 2 = c / 4 % 2 by omega, show c % 16 / 2 % 2 = c / 2 % 2 by omega, show c % 16 % 2 = c / 1 % 2 by omega]
  rw [h2, h1, bits4_nib v _ hv (by omega), bits4_nib _ _ (nibS_bd _ _ hv (by omega)) (by omega)]
/-- What one step of one bit reckons. -/
theorem bit_facts (cur c q : Nat) (hc : cur < 65536) (hx : c < 256) : ∃ L B D X : Nat, bits .and .i64 ((cur : Int) / 32768) 1 = (L : Int) ∧ bits .and .i64 (wrap64 ((c : Int) / 2 ^ q)) 1 = (B : Int) ∧ bits .and .i64 ((cur : Int) * 2) 65535 = (D : Int) ∧ bits .xor .i64 (D : Int) 4129 = (X : Int) ∧ D < 65536 ∧ X < 65536 ∧ (L = B → bitS cur (c / 2 ^ q % 2) = D) ∧ (¬ L = B → bitS cur (c / 2 ^ q % 2) = X) := by
  refine ⟨cur / 32768 % 2, c / 2 ^ q % 2, 2 * cur % 65536, (2 * cur % 65536) ^^^ 4129, ?_, ?_, ?_, ?_, by omega, ?_, ?_, ?_⟩
  · rw [i64_and1 _ (by omega) (by omega)]; omega
  · have h8 : ((c : Int) / 2 ^ q) = ((c / 2 ^ q : Nat) : Int) := by simp
    have h9 : c / 2 ^ q ≤ c := Nat.div_le_self _ _
    rw [h8]
    generalize c / 2 ^ q = x at h9 ⊢
    rw [show wrap64 (x : Int) = (x : Int) by unfold wrap64; omega, i64_and1 _ (by omega) (by omega)]; omega
  · rw [i64_and16 _ (by omega) (by omega)]; omega
  · exact i64_xor _ 4129 (by omega) (by omega)
  · have h : (2 * cur % 65536) ^^^ 4129 < 2 ^ 16 := Nat.xor_lt_two_pow (by omega) (by omega)
    omega
  · intro h; unfold bitS; rw [if_pos h]
  · intro h; unfold bitS; rw [if_neg h]
set_option maxHeartbeats 8000000 in
theorem l01Crc_any (s : ByteArray) (v : Nat) (hv : v < 65536) (hs : s.size ≤ 1048576) (w : World) :
    Calls Tryz.prog 79 #[.string s, .int .i64 (v : Int)] w fun e w' => e = .returned (.int .i64 (crcT s v s.size : Int)) ∧ w = w' := by
  go_enter Tryz.func79, Tryz.ntmps79
  go_wp2
  go_loopw [5, 6, 7, 8, 9] (fun q i _ _ _ wr => ∃ k : Nat, k ≤ s.size ∧ i = .int .i64 k ∧ q = .int .i64 (crcT s v k : Int) ∧ wr = w) (fun _ i _ _ _ _ => s.size - (intOf i).toNat)
  case atStart => exact ⟨0, Nat.zero_le _, rfl, rfl, rfl⟩
  case round =>
    obtain ⟨k, hk, rfl, rfl, rfl⟩ := hrel
    by_cases hlt : k < s.size
    · have e0 : (k : Int) < s.size := by omega
      have hx := s[k].toNat_lt
      have hcb := crcT_bd s v k hv
      have HST := Lib.hid ((crcT_succ s v k hlt).trans (bitT_8 (crcT s v k) s[k].toNat hcb hx).symm)
      generalize crcT s v k = cur at *
      have HTB := Lib.hid (fun t => bitT_bd cur s[k].toNat t hcb)
      go_wp2
      go_hide hQ
      obtain ⟨wo, rfl⟩ : ∃ wo : World, wo = wr := ⟨_, rfl⟩
      go_loopw [5, 7, 8, 9] (fun q k2 _ _ wr2 => ∃ t : Nat, t ≤ 8 ∧ k2 = .int .i64 (7 - (t : Int)) ∧ q = .int .i64 (bitT cur s[k].toNat t : Int) ∧ wr2 = wo) (fun _ k2 _ _ _ => (intOf k2 + 1).toNat)
      case atStart => exact ⟨0, Nat.zero_le _, rfl, rfl, rfl⟩
      case round =>
        obtain ⟨t, ht, rfl, rfl, rfl⟩ := hrel
        by_cases ht8 : t < 8
        · obtain ⟨q, hq⟩ : ∃ q : Nat, q + t = 7 := ⟨7 - t, by omega⟩
          have eq : (7 - (t : Int)) = (q : Int) := by omega
          rw [eq]
          have hq0 : (0 : Int) ≤ (q : Int) := by omega
          have hq1 : q < 8 := by omega
          have hbt := HTB.out t
          have HSS := Lib.hid (show bitT cur s[k].toNat (t + 1) = bitS (bitT cur s[k].toNat t) (s[k].toNat / 2 ^ (7 - t) % 2) from rfl)
          have e7 : 7 - t = q := by omega
          rw [e7] at HSS
          generalize bitT cur s[k].toNat t = c1 at *
          obtain ⟨L, B, D, X, x1, x2, x3, x4, x5, x6, x7, x8⟩ := bit_facts c1 s[k].toNat q hbt hx
          have HQ := Lib.hid (And.intro hq eq); clear hq eq e7
          by_cases hLB : L = B
          · have r := x7 hLB
            have HR := Lib.hid (HSS.out.trans r)
            have hne : ((L : Int) != (B : Int)) = false := by simp [hLB]
            clear x7 x8 r
            have HLB := Lib.hid hLB; clear hLB
            go_wp2
            go_roundw
            case rel =>
              have hq2 := HQ.out
              exact ⟨t + 1, by omega, by rw [show (7 - ((t + 1 : Nat) : Int)) = (q : Int) - 1 by omega], by rw [HR.out], trivial⟩
            case measure => simp [intOf] <;> omega
          · have r := x8 hLB
            have HR := Lib.hid (HSS.out.trans r)
            have hne : ((L : Int) != (B : Int)) = true := by simp; omega
            clear x7 x8 r
            have HLB := Lib.hid hLB; clear hLB
            go_wp2
            go_roundw
            case rel =>
              have hq2 := HQ.out
              exact ⟨t + 1, by omega, by rw [show (7 - ((t + 1 : Nat) : Int)) = (q : Int) - 1 by omega], by rw [HR.out], trivial⟩
            case measure => simp [intOf] <;> omega
        · obtain rfl : t = 8 := by omega
          subst hQ
          go_wp2
          go_roundw
          case rel => exact ⟨k + 1, by omega, by go_num, by rw [HST.out], trivial⟩
          case measure => simp [intOf]; omega
    · obtain rfl : k = s.size := by omega
      go_wp2
      go_ret
      exact ⟨rfl, rfl⟩
set_option maxHeartbeats 1000000 in
theorem specCrc16_any (s : ByteArray) (n : Int) (hs : s.size ≤ 1048576) (w : World) :
    Calls Tryz.prog 52 #[.string s, .int .i64 n] w fun e w' => e = .returned (.int .i64 (crcV s n)) ∧ w = w' := by
  have HT := Lib.hid (fun w => l00In_any n 0 65535 w)
  by_cases h : inB 0 65535 n = true
  · obtain ⟨n0, n1⟩ := inB_iff.1 h
    obtain ⟨v, rfl⟩ : ∃ v : Nat, n = v := ⟨n.toNat, by omega⟩
    have e : crcV s v = (crcT s v s.size : Int) := by unfold crcV; rw [if_pos h, Int.toNat_natCast]
    rw [e]
    rw [h] at HT
    have HC := Lib.hid (fun w => l01Crc_any s v (by omega) hs w)
    generalize crcT s v s.size = r at *
    clear e h
    go_enter Tryz.func52, Tryz.ntmps52
    go_wp2_with (first | (go_at_call 38; refine (HT.out _).mono ?_; rintro e w1 ⟨rfl, rfl⟩) | (go_at_call 79; refine (HC.out _).mono ?_; rintro e w2 ⟨rfl, rfl⟩))
    go_ret
    exact ⟨rfl, rfl⟩
  · have h0 : inB 0 65535 n = false := by simpa using h
    have e : crcV s n = -1 := by unfold crcV; rw [if_neg h]
    rw [e]
    rw [h0] at HT
    clear e h h0
    go_enter Tryz.func52, Tryz.ntmps52
    go_wp2_with (go_at_call 38; refine (HT.out _).mono ?_; rintro e w1 ⟨rfl, rfl⟩)
    go_ret
    exact ⟨rfl, rfl⟩
end Go.Proofs.YtpdodpnhohmjaaaGreatDoor
end
section
set_option linter.unusedVariables false
namespace Go.Proofs.YtpdodpnhohmjaaaGreatDoor
open Go.RowKit
set_option maxRecDepth 20000
set_option linter.unusedVariables false
def chDir (n z : Nat) : Nat := 1 + (n + z - 1) / z
def chData (n z : Nat) : Nat := chDir n z + (n / 8 * 12 + z - 1) / z
def chStart (n : Nat) : ByteArray := ⟨#[67, 72, n.toUInt8, (n / 8).toUInt8]⟩
def chTop (n : Nat) : ByteArray := chStart n ++ wordBytes (crcV (chStart n) 65535)
def chHead (n z : Nat) : ByteArray := padB (chTop n) z 0
theorem chCrc_bd (s : ByteArray) : 0 ≤ crcV s 65535 ∧ crcV s 65535 ≤ 65535 := by
  have h := crcT_bd s 65535 s.size (by omega)
  unfold crcV
  rw [if_pos (inB_iff.2 (by omega))]
  have e : (65535 : Int).toNat = 65535 := rfl
  rw [e]
  omega
theorem chTop_size (n : Nat) : (chTop n).size = 6 := by
  unfold chTop
  rw [ByteArray.size_append]
  rfl
theorem chHead_size {n z : Nat} (h : z = 8 ∨ z = 16 ∨ z = 32) : (chHead n z).size = z := by
  unfold chHead
  apply padB_size
  rw [chTop_size]
  omega
def chCode (es : List StringV) : Int := if diskB es = true then (if blkAt es 0 = chHead es.length (len0 es) then 0 else 7) else 1
def chLay (n z : Nat) : ChainLayoutV := ⟨(n : Int), (z : Int), ((n / 8 : Nat) : Int), (chDir n z : Int), (chData n z : Int)⟩
def chL (es : List StringV) : ChainLayoutV := if chCode es = 0 then chLay es.length (len0 es) else ⟨0, 0, 0, 0, 0⟩
theorem chCode_facts {es : List StringV} (h : chCode es = 0) : diskB es = true ∧ blkAt es 0 = chHead es.length (len0 es) := by
  unfold chCode at h
  split at h
  case isFalse => omega
  rename_i h1
  split at h
  case isFalse => omega
  rename_i h2
  exact ⟨h1, h2⟩
theorem chDir_bd {n z : Nat} (hn : n ≤ 128) (hz : z = 8 ∨ z = 16 ∨ z = 32) : chDir n z ≤ 17 ∧ 1 ≤ chDir n z ∧ chDir n z ≤ chData n z ∧ chData n z ≤ 41 := by
  unfold chData chDir
  rcases hz with rfl | rfl | rfl <;> omega
end Go.Proofs.YtpdodpnhohmjaaaGreatDoor
end
section
set_option linter.unusedVariables false
namespace Go.Proofs.YtpdodpnhohmjaaaGreatDoor
open Go.RowKit
set_option maxRecDepth 20000
set_option linter.unusedVariables false
set_option linter.unusedSimpArgs false
set_option maxRecDepth 20000
theorem blocksFor_any (n z : Nat) (w : World) (hz : 0 < z) (hz2 : z ≤ 1000000) (hn : n ≤ 1000000) :
    Calls Tryz.prog 41 #[.int .i64 (n : Int), .int .i64 (z : Int)] w fun e w' => e = .returned (.int .i64 (((n + z - 1) / z : Nat) : Int)) ∧ w = w' := by
  have e1 : (n : Int) + (z : Int) - 1 = ((n + z - 1 : Nat) : Int) := by omega
  have e2 : ¬ (z : Int) = 0 := by omega
  have e3 : ((z : Int) == 0) = false := by simp; omega
  have e4 : Int.tdiv ((n + z - 1 : Nat) : Int) (z : Int) = (((n + z - 1) / z : Nat) : Int) := by rw [Int.tdiv_eq_ediv_of_nonneg (by omega)]; exact (Int.natCast_ediv _ _).symm
  have e5 : (n + z - 1) / z ≤ n + z - 1 := Nat.div_le_self _ _
  generalize (n + z - 1) / z = q at *
  have e6 : wrap64 (q : Int) = (q : Int) := by unfold wrap64; omega
  have e7 : IntKind.i64.wrap (q : Int) = (q : Int) := IntWalk.i64_in _ (by omega)
  go_enter Tryz.func41, Tryz.ntmps41
  go_wp2
  go_ret
  exact ⟨rfl, rfl⟩
theorem byteT_any (n : Nat) (h : n < 256) (w : World) :
    Calls Tryz.prog 84 #[.int .i64 (n : Int)] w fun e w' => e = .returned (.string ⟨#[n.toUInt8]⟩) ∧ Below w.heap.size w w' := by
  have hcv := conv_new1 w (n : Int) (by omega) (by omega)
  rw [Int.toNat_natCast] at hcv
  have h2 : (n : Int) < 256 := by omega
  go_enter Tryz.func84, Tryz.ntmps84
  go_wp2
  go_ret
  exact ⟨rfl, (Below.refl _ _).alloc (Nat.le_refl _) _⟩
theorem head_lit (a b c : UInt8) : (⟨#[69, 88]⟩ : ByteArray) ++ ⟨#[a]⟩ ++ ⟨#[b]⟩ ++ ⟨#[c]⟩ = ⟨#[69, 88, a, b, c]⟩ := by
  apply ByteArray.ext
  simp
/-- The answer of ExtentsOn. -/
def ExRes (l : ExtentLayoutV) (c : Int) (w : World) (e : Ending) (w' : World) : Prop :=
  e = .returned (.tuple #[.agg #[.int .i64 l.f0, .int .i64 l.f1, .int .i64 l.f2, .int .i64 l.f3], .int .i64 c]) ∧ Below w.heap.size w w'
end Go.Proofs.YtpdodpnhohmjaaaGreatDoor
end
section
set_option linter.unusedVariables false
namespace Go.Proofs.YtpdodpnhohmjaaaGreatDoor
open Go.RowKit
set_option maxRecDepth 20000
set_option linter.unusedVariables false
set_option linter.unusedSimpArgs false
set_option maxRecDepth 20000
set_option maxHeartbeats 2000000 in
theorem chainLayout_any (n z : Nat) (w : World) (hz : 0 < z) (hz2 : z ≤ 1000) (hn : n ≤ 128) :
    Calls Tryz.prog 55 #[.int .i64 (n : Int), .int .i64 (z : Int)] w fun e w' => e = .returned (.agg #[.int .i64 (n : Int), .int .i64 (z : Int), .int .i64 ((n / 8 : Nat) : Int), .int .i64 (chDir n z : Int), .int .i64 (chData n z : Int)]) ∧ Below w.heap.size w w' := by
  have BF := Lib.hid (fun w => blocksFor_any n z w hz (by omega) (by omega))
  have BF2 := Lib.hid (fun w => blocksFor_any (n / 8 * 12) z w hz (by omega) (by omega))
  have hq : (n + z - 1) / z ≤ n + z - 1 := Nat.div_le_self _ _
  have hq2 : (n / 8 * 12 + z - 1) / z ≤ n / 8 * 12 + z - 1 := Nat.div_le_self _ _
  have e0 : Int.tdiv (n : Int) 8 = ((n / 8 : Nat) : Int) := by rw [Int.tdiv_eq_ediv_of_nonneg (by omega)]; rfl
  have e4 : (1 : Int) + (((n + z - 1) / z : Nat) : Int) = (chDir n z : Int) := by unfold chDir; omega
  have e5 : (chDir n z : Int) + (((n / 8 * 12 + z - 1) / z : Nat) : Int) = (chData n z : Int) := by unfold chData; omega
  have hd : chDir n z ≤ 2001 := by unfold chDir; omega
  have hd2 : chData n z ≤ 10001 := by unfold chData; omega
  have hq8 : n / 8 ≤ 16 := by omega
  have e3 : ((n / 8 : Nat) : Int) * 12 = ((n / 8 * 12 : Nat) : Int) := by omega
  generalize (n + z - 1) / z = q1 at *
  generalize (n / 8 * 12 + z - 1) / z = q2 at *
  generalize n / 8 * 12 = r at *
  generalize n / 8 = e at *
  generalize chDir n z = d at *
  generalize chData n z = dd at *
  have hm1 : min (16 : Int) (e : Int) = (e : Int) := by omega
  go_enter Tryz.func55, Tryz.ntmps55
  go_wp2_with fail
  refine (BF.out _).mono ?_
  rintro e w1 ⟨rfl, rfl⟩
  go_upto_region 3 with (fail)
  have R1 := Lib.hid ((BoxF.new w #[.int .i64 0, .int .i64 0, .int .i64 0, .int .i64 0, .int .i64 0] 40 _ rfl).below ((Below.refl (w.alloc (.cells #[.int .i64 0, .int .i64 0, .int .i64 0, .int .i64 0, .int .i64 0] 40)).heap.size (w.alloc (.cells #[.int .i64 0, .int .i64 0, .int .i64 0, .int .i64 0, .int .i64 0] 40))).alloc (Nat.le_refl _) (.cells #[.int .i64 (n : Int), .int .i64 (z : Int), .int .i64 (e : Int), .int .i64 (d : Int), .int .i64 0] 40)) (by simp))
  have R2 := Lib.hid (BoxF.new (w.alloc (.cells #[.int .i64 0, .int .i64 0, .int .i64 0, .int .i64 0, .int .i64 0] 40)) #[.int .i64 (n : Int), .int .i64 (z : Int), .int .i64 (e : Int), .int .i64 (d : Int), .int .i64 0] 40 (w.heap.size + 1) (by simp))
  have FB := Lib.hid (((Below.refl w.heap.size w).alloc (Nat.le_refl _) (.cells #[.int .i64 0, .int .i64 0, .int .i64 0, .int .i64 0, .int .i64 0] 40)).alloc (by simp) (.cells #[.int .i64 (n : Int), .int .i64 (z : Int), .int .i64 (e : Int), .int .i64 (d : Int), .int .i64 0] 40))
  have hlt : w.heap.size + 1 < ((w.alloc (.cells #[.int .i64 0, .int .i64 0, .int .i64 0, .int .i64 0, .int .i64 0] 40)).alloc (.cells #[.int .i64 (n : Int), .int .i64 (z : Int), .int .i64 (e : Int), .int .i64 (d : Int), .int .i64 0] 40)).heap.size := by simp
  generalize (w.alloc (.cells #[.int .i64 0, .int .i64 0, .int .i64 0, .int .i64 0, .int .i64 0] 40)).alloc (.cells #[.int .i64 (n : Int), .int .i64 (z : Int), .int .i64 (e : Int), .int .i64 (d : Int), .int .i64 0] 40) = W at *
  have hwr : IntKind.i64.wrap (r : Int) = (r : Int) := IntWalk.i64_in _ (by omega)
  have hwd : IntKind.i64.wrap (dd : Int) = (dd : Int) := IntWalk.i64_in _ (by omega)
  have HBX := Lib.hid (fun w' (hb : Below W.heap.size W w') => R2.out.below hb hlt)
  have HC := Lib.hid (show Below W.heap.size W W.drew from (Below.refl _ _).drew)
  refine wp_region_held_drew (S := (fun w' => w'.cell? ⟨w.heap.size + 1, 2, none⟩ = some (.int .i64 (e : Int)) ∧ w'.cell? ⟨w.heap.size + 1, 3, none⟩ = some (.int .i64 (d : Int)))) (by kernel_rfl) ⟨(HBX.out _ HC.out 2 _ rfl).1, (HBX.out _ HC.out 3 _ rfl).1⟩ (fun hHeld => ?_)
  refine wpAnyH_take (i := 0) (oi := { dst := some 17, op := Op.fieldAddr 40 (Operand.tmp 5) 3, type := 0, pos := "l16_chains.go:214", after := #[], guard := none }) (v := ?_) rfl (by kernel_rfl) (by kernel_rfl) (by kernel_rfl) (fun _ _ _ h => h) (Or.inl ⟨by rfl, ?hy⟩) hHeld ?_
  case hy => (intro w' hSw; (try dsimp only at hSw); go_simp; try with_reducible rfl)
  simp only [Act.put, List.setIfInBounds_toArray, List.set_cons_zero, List.set_cons_succ]
  refine wpAnyH_take (i := 1) (oi := { dst := some 18, op := Op.load 2 (Operand.tmp 17), type := 2, pos := "l16_chains.go:214", after := #[{ on := 0, ground := Ground.data }], guard := none }) (v := ?_) rfl (by kernel_rfl) (by kernel_rfl) (by kernel_rfl) (fun _ _ _ h => h) (Or.inl ⟨by rfl, ?hy⟩) hHeld ?_
  case hy => (intro w' hSw; (try dsimp only at hSw); go_simp; try with_reducible rfl)
  simp only [Act.put, List.setIfInBounds_toArray, List.set_cons_zero, List.set_cons_succ]
  refine wpAnyH_take (i := 2) (oi := { dst := some 19, op := Op.fieldAddr 40 (Operand.tmp 5) 2, type := 0, pos := "l16_chains.go:214", after := #[], guard := none }) (v := ?_) rfl (by kernel_rfl) (by kernel_rfl) (by kernel_rfl) (fun _ _ _ h => h) (Or.inl ⟨by rfl, ?hy⟩) hHeld ?_
  case hy => (intro w' hSw; (try dsimp only at hSw); go_simp; try with_reducible rfl)
  simp only [Act.put, List.setIfInBounds_toArray, List.set_cons_zero, List.set_cons_succ]
  refine wpAnyH_take (i := 3) (oi := { dst := some 20, op := Op.load 2 (Operand.tmp 19), type := 2, pos := "l16_chains.go:214", after := #[{ on := 2, ground := Ground.data }], guard := none }) (v := ?_) rfl (by kernel_rfl) (by kernel_rfl) (by kernel_rfl) (fun _ _ _ h => h) (Or.inl ⟨by rfl, ?hy⟩) hHeld ?_
  case hy => (intro w' hSw; (try dsimp only at hSw); go_simp; try with_reducible rfl)
  simp only [Act.put, List.setIfInBounds_toArray, List.set_cons_zero, List.set_cons_succ]
  refine wpAnyH_take (i := 4) (oi := { dst := some 21, op := Op.binOp BinOp.mul 2 (Operand.tmp 20) (Operand.const (Value.int IntKind.i64 12)) 2, type := 2, pos := "l16_chains.go:214", after := #[{ on := 3, ground := Ground.data }], guard := none }) (v := ?_) rfl (by kernel_rfl) (by kernel_rfl) (by kernel_rfl) (fun _ _ _ h => h) (Or.inl ⟨by rfl, ?hy⟩) hHeld ?_
  case hy => (intro w' hSw; (try dsimp only at hSw); go_simp; try with_reducible rfl)
  simp only [Act.put, List.setIfInBounds_toArray, List.set_cons_zero, List.set_cons_succ]
  refine wpAnyH_take (i := 5) (oi := { dst := some 22, op := Op.move (Operand.tmp 1), type := 2, pos := "l16_chains.go:214", after := #[], guard := none }) (v := ?_) rfl (by kernel_rfl) (by kernel_rfl) (by kernel_rfl) (fun _ _ _ h => h) (Or.inl ⟨by rfl, ?hy⟩) hHeld ?_
  case hy => (intro w' hSw; (try dsimp only at hSw); go_simp; try with_reducible rfl)
  simp only [Act.put, List.setIfInBounds_toArray, List.set_cons_zero, List.set_cons_succ]
  refine wpAnyH_ready (rs := [6]) (by kernel_rfl) (by simp) ?_
  refine AllReadyH.cons (o := { dst := some 23, op := Op.call { callee := Callee.value (Operand.func 41), args := #[Operand.tmp 21, Operand.tmp 22], argTypes := #[2, 2] }, type := 2, pos := "l16_chains.go:214", after := #[{ on := 4, ground := Ground.data }, { on := 5, ground := Ground.data }], guard := none }) rfl (fun K hK => ?_) AllReadyH.nil
  go_simp
  go_at_call 41; refine (BF2.out _).mono ?_; rintro e wk1 ⟨rfl, rfl⟩
  go_wp2_with fail
  refine hK.out _ _ ⟨(HBX.out _ HC.out 2 _ rfl).1, (HBX.out _ HC.out 3 _ rfl).1⟩ (fun hHeld => ?_)
  clear hK K
  try simp only [Act.put, List.setIfInBounds_toArray, List.set_cons_zero, List.set_cons_succ]
  refine wpAnyH_take (i := 7) (oi := { dst := some 24, op := Op.binOp BinOp.add 2 (Operand.tmp 18) (Operand.tmp 23) 2, type := 2, pos := "l16_chains.go:214", after := #[{ on := 1, ground := Ground.data }, { on := 6, ground := Ground.data }], guard := none }) (v := ?_) rfl (by kernel_rfl) (by kernel_rfl) (by kernel_rfl) (fun _ _ _ h => h) (Or.inl ⟨by rfl, ?hy⟩) hHeld ?_
  case hy => (intro w' hSw; (try dsimp only at hSw); go_simp; try with_reducible rfl)
  simp only [Act.put, List.setIfInBounds_toArray, List.set_cons_zero, List.set_cons_succ]
  refine wpAnyH_take (i := 8) (oi := { dst := some 25, op := Op.fieldAddr 40 (Operand.tmp 5) 4, type := 0, pos := "l16_chains.go:214", after := #[{ on := 0, ground := Ground.phase }, { on := 1, ground := Ground.phase }, { on := 2, ground := Ground.phase }, { on := 3, ground := Ground.phase }, { on := 4, ground := Ground.phase }, { on := 5, ground := Ground.phase }, { on := 6, ground := Ground.phase }, { on := 7, ground := Ground.phase }], guard := none }) (v := ?_) rfl (by kernel_rfl) (by kernel_rfl) (by kernel_rfl) (fun _ _ _ h => h) (Or.inl ⟨by rfl, ?hy⟩) hHeld ?_
  case hy => (intro w' hSw; (try dsimp only at hSw); go_simp; try with_reducible rfl)
  simp only [Act.put, List.setIfInBounds_toArray, List.set_cons_zero, List.set_cons_succ]
  refine wpAnyH_ready (rs := [9]) (by kernel_rfl) (by simp) ?_
  refine AllReadyH.cons (o := { dst := none, op := Op.store 2 (Operand.tmp 25) (Operand.tmp 24), type := 0, pos := "l16_chains.go:214", after := #[{ on := 8, ground := Ground.data }, { on := 7, ground := Ground.data }, { on := 6, ground := Ground.chain }, { on := 0, ground := Ground.phase }, { on := 1, ground := Ground.phase }, { on := 2, ground := Ground.phase }, { on := 3, ground := Ground.phase }, { on := 4, ground := Ground.phase }, { on := 5, ground := Ground.phase }, { on := 6, ground := Ground.phase }, { on := 7, ground := Ground.phase }], guard := none }) rfl (fun K hK => ?_) AllReadyH.nil
  obtain ⟨a4, z4⟩ := HBX.out _ HC.out 4 _ rfl
  go_simp
  refine hK.out _ _ ⟨((HBX.out _ HC.out).put 4 (.int .i64 (dd : Int)) (by simp) 2 _ rfl).1, ((HBX.out _ HC.out).put 4 (.int .i64 (dd : Int)) (by simp) 3 _ rfl).1⟩ (fun hHeld => ?_)
  clear hK K
  try simp only [Act.put, List.setIfInBounds_toArray, List.set_cons_zero, List.set_cons_succ]
  refine wpAnyH_done (by kernel_rfl) ?_ _
  have R3 : BoxF (W.setCell ⟨w.heap.size + 1, 4, none⟩ (.int .i64 (dd : Int))).drew (w.heap.size + 1) #[.int .i64 (n : Int), .int .i64 (z : Int), .int .i64 (e : Int), .int .i64 (d : Int), .int .i64 (dd : Int)] := (HBX.out _ HC.out).put 4 (.int .i64 (dd : Int)) (by simp)
  have R4 : BoxF (W.setCell ⟨w.heap.size + 1, 4, none⟩ (.int .i64 (dd : Int))).drew w.heap.size #[.int .i64 0, .int .i64 0, .int .i64 0, .int .i64 0, .int .i64 0] := R1.out.kept (heap_setCell_ne _ _ _ _ _ (by omega))
  replace FB := Lib.hid (show Below w.heap.size w (W.setCell ⟨w.heap.size + 1, 4, none⟩ (.int .i64 (dd : Int))).drew from (FB.out.setCell (p := ⟨w.heap.size + 1, 4, none⟩) (show w.heap.size ≤ w.heap.size + 1 by omega) _).drew)
  clear HBX HC R1 R2 hHeld
  try clear a4 z4
  try clear LD a2 z2 a3 z3
  generalize (W.setCell ⟨w.heap.size + 1, 4, none⟩ (.int .i64 (dd : Int))).drew = W2 at *
  obtain ⟨x0, _⟩ := R3 0 _ rfl; obtain ⟨x1, _⟩ := R3 1 _ rfl; obtain ⟨x2, _⟩ := R3 2 _ rfl; obtain ⟨x3, _⟩ := R3 3 _ rfl; obtain ⟨x4, _⟩ := R3 4 _ rfl
  obtain ⟨a0, z0⟩ := R4 0 _ rfl; obtain ⟨a1, z1⟩ := R4 1 _ rfl; obtain ⟨a2, z2⟩ := R4 2 _ rfl; obtain ⟨a3, z3⟩ := R4 3 _ rfl; obtain ⟨a4, z4⟩ := R4 4 _ rfl
  go_wp2
  refine bodyPost_ret (v := .agg #[.int .i64 (n : Int), .int .i64 (z : Int), .int .i64 (e : Int), .int .i64 (d : Int), .int .i64 (dd : Int)]) (by simp [results, Tryz.results55, go_sem, a0, a1, a2, a3, a4]) rfl ⟨rfl, ?_⟩
  exact ((((FB.out.setCell (by simp) _).setCell (by simp) _).setCell (by simp) _).setCell (by simp) _).setCell (by simp) _
theorem chStart_lit (a b : UInt8) : (⟨#[67, 72]⟩ : ByteArray) ++ ⟨#[a]⟩ ++ ⟨#[b]⟩ = ⟨#[67, 72, a, b]⟩ := by
  apply ByteArray.ext
  simp
set_option maxHeartbeats 2000000 in
theorem chHeader_any (n z : Nat) (d d2 : Int) (w : World) (hz : z = 8 ∨ z = 16 ∨ z = 32) (hn : n ≤ 128) :
    Calls Tryz.prog 56 #[.agg #[.int .i64 (n : Int), .int .i64 (z : Int), .int .i64 ((n / 8 : Nat) : Int), .int .i64 d, .int .i64 d2]] w fun e w' => e = .returned (.string (chHead n z)) ∧ Below w.heap.size w w' := by
  have B1 := Lib.hid (fun w => byteT_any n (by omega) w)
  have B3 := Lib.hid (fun w => byteT_any (n / 8) (by omega) w)
  have hcb := chCrc_bd (chStart n)
  have CR := Lib.hid (fun w => crc16_any (chStart n) 65535 (by show 4 ≤ 4096; omega) w)
  have PW := Lib.hid (fun w => putWord_yes (crcV (chStart n) 65535) w hcb.1 hcb.2)
  have PD := Lib.hid (fun w => padded_any (chTop n) z 0 w (by rw [chTop_size]; omega) (by omega))
  have HL := Lib.hid (show (⟨#[67, 72]⟩ : ByteArray) ++ ⟨#[n.toUInt8]⟩ ++ ⟨#[(n / 8).toUInt8]⟩ = chStart n from chStart_lit _ _)
  have HT := Lib.hid (show chStart n ++ wordBytes (crcV (chStart n) 65535) = chTop n from rfl)
  have s4 : (chStart n).size = 4 := rfl
  have sw : (wordBytes (crcV (chStart n) 65535)).size = 2 := rfl
  unfold chHead
  generalize chTop n = top at *
  generalize chStart n = st at *
  generalize crcV st 65535 = cv at *
  generalize wordBytes cv = wb at *
  generalize n.toUInt8 = u1 at *
  generalize n / 8 = q8 at *
  generalize q8.toUInt8 = u3 at *
  have s1 : (⟨#[67, 72]⟩ : ByteArray).size = 2 := rfl
  have s2 : ((⟨#[67, 72]⟩ : ByteArray) ++ ⟨#[u1]⟩).size = 3 := by rw [ByteArray.size_append]; rfl
  have f1 : (9223372036854775807 < (⟨#[67, 72]⟩ : ByteArray).size + (⟨#[u1]⟩ : ByteArray).size) = False := by rw [s1]; simp [show (⟨#[u1]⟩ : ByteArray).size = 1 from rfl]
  have f2 : (9223372036854775807 < ((⟨#[67, 72]⟩ : ByteArray) ++ ⟨#[u1]⟩).size + (⟨#[u3]⟩ : ByteArray).size) = False := by rw [s2]; simp [show (⟨#[u3]⟩ : ByteArray).size = 1 from rfl]
  have f3 : (9223372036854775807 < st.size + wb.size) = False := by rw [s4, sw]; simp
  clear s1 s2 s4 sw hcb
  go_enter Tryz.func56, Tryz.ntmps56
  go_wp2
  have BX := BoxAt.new w #[.int .i64 (n : Int), .int .i64 (z : Int), .int .i64 (q8 : Int), .int .i64 d, .int .i64 d2] 40 _ rfl
  generalize hW : w.alloc (.cells #[.int .i64 (n : Int), .int .i64 (z : Int), .int .i64 (q8 : Int), .int .i64 d, .int .i64 d2] 40) = W at *
  have FB := Lib.hid (show Below w.heap.size w W by rw [← hW]; exact (Below.refl _ _).alloc (Nat.le_refl _) _)
  have hlt : w.heap.size < W.heap.size := by rw [← hW]; simp
  clear hW
  have KS := Lib.hid (fun w' (hb : Below W.heap.size W w') => (show w'.cell? ⟨w.heap.size, 0, none⟩ = some (.int .i64 (n : Int)) ∧ w'.cell? ⟨w.heap.size, 1, none⟩ = some (.int .i64 (z : Int)) ∧ w'.cell? ⟨w.heap.size, 2, none⟩ = some (.int .i64 (q8 : Int)) ∧ w'.cell? ⟨w.heap.size, 3, none⟩ = some (.int .i64 d) ∧ w'.cell? ⟨w.heap.size, 4, none⟩ = some (.int .i64 d2) from ⟨(BX.below hb hlt) 0 _ rfl, (BX.below hb hlt) 1 _ rfl, (BX.below hb hlt) 2 _ rfl, (BX.below hb hlt) 3 _ rfl, (BX.below hb hlt) 4 _ rfl⟩))
  have HC := Lib.hid (show Below W.heap.size W W.drew from (Below.refl _ _).drew)
  refine wp_region_held_drew (S := (fun w' => w'.cell? ⟨w.heap.size, 0, none⟩ = some (.int .i64 (n : Int)) ∧ w'.cell? ⟨w.heap.size, 1, none⟩ = some (.int .i64 (z : Int)) ∧ w'.cell? ⟨w.heap.size, 2, none⟩ = some (.int .i64 (q8 : Int)) ∧ w'.cell? ⟨w.heap.size, 3, none⟩ = some (.int .i64 d) ∧ w'.cell? ⟨w.heap.size, 4, none⟩ = some (.int .i64 d2))) (by kernel_rfl) (KS.out _ HC.out) (fun hHeld => ?_)
  refine wpAnyH_take (i := 0) (oi := { dst := some 4, op := Op.fieldAddr 40 (Operand.tmp 1) 0, type := 0, pos := "l16_chains.go:219", after := #[], guard := none }) (v := ?_) rfl (by kernel_rfl) (by kernel_rfl) (by kernel_rfl) (fun _ _ _ h => h) (Or.inl ⟨by rfl, ?hy⟩) hHeld ?_
  case hy => (intro w' hSw; (try dsimp only at hSw); go_simp; try with_reducible rfl)
  simp only [Act.put, List.setIfInBounds_toArray, List.set_cons_zero, List.set_cons_succ]
  refine wpAnyH_take (i := 1) (oi := { dst := some 5, op := Op.load 2 (Operand.tmp 4), type := 2, pos := "l16_chains.go:219", after := #[{ on := 0, ground := Ground.data }], guard := none }) (v := ?_) rfl (by kernel_rfl) (by kernel_rfl) (by kernel_rfl) (fun _ _ _ h => h) (Or.inl ⟨by rfl, ?hy⟩) hHeld ?_
  case hy => (intro w' hSw; (try dsimp only at hSw); go_simp; try with_reducible rfl)
  simp only [Act.put, List.setIfInBounds_toArray, List.set_cons_zero, List.set_cons_succ]
  refine wpAnyH_take (i := 4) (oi := { dst := some 8, op := Op.fieldAddr 40 (Operand.tmp 1) 2, type := 0, pos := "l16_chains.go:219", after := #[], guard := none }) (v := ?_) rfl (by kernel_rfl) (by kernel_rfl) (by kernel_rfl) (fun _ _ _ h => h) (Or.inl ⟨by rfl, ?hy⟩) hHeld ?_
  case hy => (intro w' hSw; (try dsimp only at hSw); go_simp; try with_reducible rfl)
  simp only [Act.put, List.setIfInBounds_toArray, List.set_cons_zero, List.set_cons_succ]
  refine wpAnyH_take (i := 5) (oi := { dst := some 9, op := Op.load 2 (Operand.tmp 8), type := 2, pos := "l16_chains.go:219", after := #[{ on := 4, ground := Ground.data }], guard := none }) (v := ?_) rfl (by kernel_rfl) (by kernel_rfl) (by kernel_rfl) (fun _ _ _ h => h) (Or.inl ⟨by rfl, ?hy⟩) hHeld ?_
  case hy => (intro w' hSw; (try dsimp only at hSw); go_simp; try with_reducible rfl)
  simp only [Act.put, List.setIfInBounds_toArray, List.set_cons_zero, List.set_cons_succ]
  refine wpAnyH_ready (rs := [2]) (by kernel_rfl) (by simp) ?_
  refine AllReadyH.cons (o := { dst := some 6, op := Op.call { callee := Callee.value (Operand.func 84), args := #[Operand.tmp 5], argTypes := #[2] }, type := 9, pos := "l16_chains.go:219", after := #[{ on := 1, ground := Ground.data }], guard := none }) rfl (fun K hK => ?_) AllReadyH.nil
  go_simp
  go_at_call 84; refine (B1.out _).mono ?_; rintro e wk1 ⟨rfl, hb1⟩; replace HC := Lib.hid (HC.out.trans (hb1.mono HC.out.size))
  go_wp2_with fail
  refine hK.out _ _ (KS.out _ HC.out) (fun hHeld => ?_)
  clear hK K
  try simp only [Act.put, List.setIfInBounds_toArray, List.set_cons_zero, List.set_cons_succ]
  refine wpAnyH_take (i := 3) (oi := { dst := some 7, op := Op.binOp BinOp.add 9 (Operand.const (Value.string { data := #[67, 72] })) (Operand.tmp 6) 9, type := 9, pos := "l16_chains.go:219", after := #[{ on := 2, ground := Ground.data }], guard := none }) (v := ?_) rfl (by kernel_rfl) (by kernel_rfl) (by kernel_rfl) (fun _ _ _ h => h) (Or.inl ⟨by rfl, ?hy⟩) hHeld ?_
  case hy => (intro w' hSw; (try dsimp only at hSw); go_simp; try with_reducible rfl)
  simp only [Act.put, List.setIfInBounds_toArray, List.set_cons_zero, List.set_cons_succ]
  refine wpAnyH_ready (rs := [6]) (by kernel_rfl) (by simp) ?_
  refine AllReadyH.cons (o := { dst := some 10, op := Op.call { callee := Callee.value (Operand.func 84), args := #[Operand.tmp 9], argTypes := #[2] }, type := 9, pos := "l16_chains.go:219", after := #[{ on := 5, ground := Ground.data }, { on := 2, ground := Ground.chain }], guard := none }) rfl (fun K hK => ?_) AllReadyH.nil
  go_simp
  go_at_call 84; refine (B3.out _).mono ?_; rintro e wk2 ⟨rfl, hb2⟩; replace HC := Lib.hid (HC.out.trans (hb2.mono HC.out.size))
  go_wp2_with fail
  refine hK.out _ _ (KS.out _ HC.out) (fun hHeld => ?_)
  clear hK K
  try simp only [Act.put, List.setIfInBounds_toArray, List.set_cons_zero, List.set_cons_succ]
  refine wpAnyH_take (i := 7) (oi := { dst := some 11, op := Op.binOp BinOp.add 9 (Operand.tmp 7) (Operand.tmp 10) 9, type := 9, pos := "l16_chains.go:219", after := #[{ on := 3, ground := Ground.data }, { on := 6, ground := Ground.data }], guard := none }) (v := ?_) rfl (by kernel_rfl) (by kernel_rfl) (by kernel_rfl) (fun _ _ _ h => h) (Or.inl ⟨by rfl, ?hy⟩) hHeld ?_
  case hy => (intro w' hSw; (try dsimp only at hSw); go_simp; try with_reducible rfl)
  simp only [Act.put, List.setIfInBounds_toArray, List.set_cons_zero, List.set_cons_succ]
  refine wpAnyH_take (i := 8) (oi := { dst := some 3, op := Op.assign (Operand.tmp 11), type := 9, pos := "l16_chains.go:219", after := #[{ on := 7, ground := Ground.data }, { on := 6, ground := Ground.chain }, { on := 0, ground := Ground.phase }, { on := 1, ground := Ground.phase }, { on := 2, ground := Ground.phase }, { on := 3, ground := Ground.phase }, { on := 4, ground := Ground.phase }, { on := 5, ground := Ground.phase }, { on := 6, ground := Ground.phase }, { on := 7, ground := Ground.phase }], guard := none }) (v := ?_) rfl (by kernel_rfl) (by kernel_rfl) (by kernel_rfl) (fun _ _ _ h => h) (Or.inl ⟨by rfl, ?hy⟩) hHeld ?_
  case hy => (intro w' hSw; (try dsimp only at hSw); go_simp; try with_reducible rfl)
  simp only [Act.put, List.setIfInBounds_toArray, List.set_cons_zero, List.set_cons_succ]
  refine wpAnyH_done (by kernel_rfl) ?_ _
  have hzz := HC.out.size
  replace BX := BX.below HC.out hlt
  replace FB := Lib.hid (FB.out.trans (HC.out.mono FB.out.size))
  have hlt2 : w.heap.size < wk2.heap.size := by omega
  clear HC KS hHeld hzz
  rw [HL.out]
  clear f1 f2
  go_upto_region 2 with (fail)
  have KS := Lib.hid (fun w' (hb : Below wk2.heap.size wk2 w') => (show w'.cell? ⟨w.heap.size, 0, none⟩ = some (.int .i64 (n : Int)) ∧ w'.cell? ⟨w.heap.size, 1, none⟩ = some (.int .i64 (z : Int)) ∧ w'.cell? ⟨w.heap.size, 2, none⟩ = some (.int .i64 (q8 : Int)) ∧ w'.cell? ⟨w.heap.size, 3, none⟩ = some (.int .i64 d) ∧ w'.cell? ⟨w.heap.size, 4, none⟩ = some (.int .i64 d2) from ⟨(BX.below hb hlt2) 0 _ rfl, (BX.below hb hlt2) 1 _ rfl, (BX.below hb hlt2) 2 _ rfl, (BX.below hb hlt2) 3 _ rfl, (BX.below hb hlt2) 4 _ rfl⟩))
  have HC := Lib.hid (show Below wk2.heap.size wk2 wk2.drew from (Below.refl _ _).drew)
  refine wp_region_held_drew (S := (fun w' => w'.cell? ⟨w.heap.size, 0, none⟩ = some (.int .i64 (n : Int)) ∧ w'.cell? ⟨w.heap.size, 1, none⟩ = some (.int .i64 (z : Int)) ∧ w'.cell? ⟨w.heap.size, 2, none⟩ = some (.int .i64 (q8 : Int)) ∧ w'.cell? ⟨w.heap.size, 3, none⟩ = some (.int .i64 d) ∧ w'.cell? ⟨w.heap.size, 4, none⟩ = some (.int .i64 d2))) (by kernel_rfl) (KS.out _ HC.out) (fun hHeld => ?_)
  refine wpAnyH_take (i := 0) (oi := { dst := some 12, op := Op.move (Operand.tmp 3), type := 9, pos := "l16_chains.go:220", after := #[], guard := none }) (v := ?_) rfl (by kernel_rfl) (by kernel_rfl) (by kernel_rfl) (fun _ _ _ h => h) (Or.inl ⟨by rfl, ?hy⟩) hHeld ?_
  case hy => (intro w' hSw; (try dsimp only at hSw); go_simp; try with_reducible rfl)
  simp only [Act.put, List.setIfInBounds_toArray, List.set_cons_zero, List.set_cons_succ]
  refine wpAnyH_take (i := 1) (oi := { dst := some 13, op := Op.move (Operand.tmp 3), type := 9, pos := "l16_chains.go:220", after := #[], guard := none }) (v := ?_) rfl (by kernel_rfl) (by kernel_rfl) (by kernel_rfl) (fun _ _ _ h => h) (Or.inl ⟨by rfl, ?hy⟩) hHeld ?_
  case hy => (intro w' hSw; (try dsimp only at hSw); go_simp; try with_reducible rfl)
  simp only [Act.put, List.setIfInBounds_toArray, List.set_cons_zero, List.set_cons_succ]
  refine wpAnyH_take (i := 5) (oi := { dst := some 17, op := Op.fieldAddr 40 (Operand.tmp 1) 1, type := 0, pos := "l16_chains.go:220", after := #[], guard := none }) (v := ?_) rfl (by kernel_rfl) (by kernel_rfl) (by kernel_rfl) (fun _ _ _ h => h) (Or.inl ⟨by rfl, ?hy⟩) hHeld ?_
  case hy => (intro w' hSw; (try dsimp only at hSw); go_simp; try with_reducible rfl)
  simp only [Act.put, List.setIfInBounds_toArray, List.set_cons_zero, List.set_cons_succ]
  refine wpAnyH_take (i := 6) (oi := { dst := some 18, op := Op.load 2 (Operand.tmp 17), type := 2, pos := "l16_chains.go:220", after := #[{ on := 5, ground := Ground.data }], guard := none }) (v := ?_) rfl (by kernel_rfl) (by kernel_rfl) (by kernel_rfl) (fun _ _ _ h => h) (Or.inl ⟨by rfl, ?hy⟩) hHeld ?_
  case hy => (intro w' hSw; (try dsimp only at hSw); go_simp; try with_reducible rfl)
  simp only [Act.put, List.setIfInBounds_toArray, List.set_cons_zero, List.set_cons_succ]
  refine wpAnyH_ready (rs := [2]) (by kernel_rfl) (by simp) ?_
  refine AllReadyH.cons (o := { dst := some 14, op := Op.call { callee := Callee.value (Operand.func 87), args := #[Operand.tmp 13, Operand.const (Value.int IntKind.i64 65535)], argTypes := #[9, 2] }, type := 2, pos := "l16_chains.go:220", after := #[{ on := 1, ground := Ground.data }], guard := none }) rfl (fun K hK => ?_) AllReadyH.nil
  go_simp
  go_at_call 87; refine (CR.out _).mono ?_; rintro e wk1 ⟨rfl, hb1⟩; replace HC := Lib.hid (HC.out.trans (hb1.mono HC.out.size))
  go_wp2_with fail
  refine hK.out _ _ (KS.out _ HC.out) (fun hHeld => ?_)
  clear hK K
  try simp only [Act.put, List.setIfInBounds_toArray, List.set_cons_zero, List.set_cons_succ]
  refine wpAnyH_ready (rs := [3]) (by kernel_rfl) (by simp) ?_
  refine AllReadyH.cons (o := { dst := some 15, op := Op.call { callee := Callee.value (Operand.func 86), args := #[Operand.tmp 14], argTypes := #[2] }, type := 9, pos := "l16_chains.go:220", after := #[{ on := 2, ground := Ground.data }, { on := 2, ground := Ground.chain }], guard := none }) rfl (fun K hK => ?_) AllReadyH.nil
  go_simp
  go_at_call 86; refine (PW.out _).mono ?_; rintro e wk2 ⟨rfl, hb2⟩; replace HC := Lib.hid (HC.out.trans (hb2.mono HC.out.size))
  go_wp2_with fail
  refine hK.out _ _ (KS.out _ HC.out) (fun hHeld => ?_)
  clear hK K
  try simp only [Act.put, List.setIfInBounds_toArray, List.set_cons_zero, List.set_cons_succ]
  refine wpAnyH_take (i := 4) (oi := { dst := some 16, op := Op.binOp BinOp.add 9 (Operand.tmp 12) (Operand.tmp 15) 9, type := 9, pos := "l16_chains.go:220", after := #[{ on := 0, ground := Ground.data }, { on := 3, ground := Ground.data }], guard := none }) (v := ?_) rfl (by kernel_rfl) (by kernel_rfl) (by kernel_rfl) (fun _ _ _ h => h) (Or.inl ⟨by rfl, ?hy⟩) hHeld ?_
  case hy => (intro w' hSw; (try dsimp only at hSw); go_simp; try with_reducible rfl)
  simp only [Act.put, List.setIfInBounds_toArray, List.set_cons_zero, List.set_cons_succ]
  refine wpAnyH_ready (rs := [7]) (by kernel_rfl) (by simp) ?_
  refine AllReadyH.cons (o := { dst := some 19, op := Op.call { callee := Callee.value (Operand.func 85), args := #[Operand.tmp 16, Operand.tmp 18, Operand.const (Value.string { data := #[0] })], argTypes := #[9, 2, 9] }, type := 9, pos := "l16_chains.go:220", after := #[{ on := 4, ground := Ground.data }, { on := 6, ground := Ground.data }, { on := 3, ground := Ground.chain }], guard := none }) rfl (fun K hK => ?_) AllReadyH.nil
  rw [HT.out]
  go_simp
  go_at_call 85; refine (PD.out _).mono ?_; rintro e wk3 ⟨rfl, hb3⟩; replace HC := Lib.hid (HC.out.trans (hb3.mono HC.out.size))
  go_wp2_with fail
  refine hK.out _ _ (KS.out _ HC.out) (fun hHeld => ?_)
  clear hK K
  try simp only [Act.put, List.setIfInBounds_toArray, List.set_cons_zero, List.set_cons_succ]
  refine wpAnyH_take (i := 8) (oi := { dst := some 2, op := Op.assign (Operand.tmp 19), type := 9, pos := "l16_chains.go:220", after := #[{ on := 7, ground := Ground.data }, { on := 7, ground := Ground.chain }, { on := 0, ground := Ground.phase }, { on := 1, ground := Ground.phase }, { on := 2, ground := Ground.phase }, { on := 3, ground := Ground.phase }, { on := 4, ground := Ground.phase }, { on := 5, ground := Ground.phase }, { on := 6, ground := Ground.phase }, { on := 7, ground := Ground.phase }], guard := none }) (v := ?_) rfl (by kernel_rfl) (by kernel_rfl) (by kernel_rfl) (fun _ _ _ h => h) (Or.inl ⟨by rfl, ?hy⟩) hHeld ?_
  case hy => (intro w' hSw; (try dsimp only at hSw); go_simp; try with_reducible rfl)
  simp only [Act.put, List.setIfInBounds_toArray, List.set_cons_zero, List.set_cons_succ]
  refine wpAnyH_done (by kernel_rfl) ?_ _
  go_wp2
  go_ret
  exact ⟨rfl, FB.out.trans (HC.out.mono FB.out.size)⟩
end Go.Proofs.YtpdodpnhohmjaaaGreatDoor
end
section
set_option linter.unusedVariables false
namespace Go.Proofs.YtpdodpnhohmjaaaGreatDoor
open Go.RowKit
set_option maxRecDepth 20000
set_option maxHeartbeats 400000 in
theorem l01Word_any (n : Int) (w : World) (h0 : 0 ≤ n) (h1 : n ≤ 65535) :
    Calls Tryz.prog 78 #[.int .i64 n] w fun e w' => e = .returned (.string (wordBytes n)) ∧ Below w.heap.size w w' := by
  have hcv := conv_new2 w (n / 256) (n % 256) (by omega) (by omega) (by omega) (by omega)
  go_enter Tryz.func78, Tryz.ntmps78
  go_wp2
  go_ret
  exact ⟨rfl, (Below.refl _ _).alloc (Nat.le_refl _) _⟩
set_option maxHeartbeats 400000 in
theorem specPutWord_yes (n : Int) (w : World) (h0 : 0 ≤ n) (h1 : n ≤ 65535) :
    Calls Tryz.prog 51 #[.int .i64 n] w fun e w' => e = .returned (.string (wordBytes n)) ∧ Below w.heap.size w w' := by
  have hin : inB 0 65535 n = true := by rw [inB_iff]; omega
  go_enter Tryz.func51, Tryz.ntmps51
  go_wp2_with (first | (go_at_call 38; refine (l00In_any _ _ _ _).mono ?_; rintro e w' ⟨rfl, rfl⟩) | (go_at_call 78; refine (l01Word_any _ _ h0 h1).mono ?_; rintro e w1 ⟨rfl, hb⟩))
  go_ret
  exact ⟨rfl, hb⟩
set_option maxHeartbeats 400000 in
theorem specPutWord_no (n : Int) (w : World) (h : inB 0 65535 n = false) :
    Calls Tryz.prog 51 #[.int .i64 n] w fun e w' => e = .returned (.string ⟨#[]⟩) ∧ Below w.heap.size w w' := by
  go_enter Tryz.func51, Tryz.ntmps51
  go_wp2_with (go_at_call 38; refine (l00In_any _ _ _ _).mono ?_; rintro e w' ⟨rfl, rfl⟩)
  go_ret
  exact ⟨rfl, Below.refl _ _⟩
end Go.Proofs.YtpdodpnhohmjaaaGreatDoor
end
