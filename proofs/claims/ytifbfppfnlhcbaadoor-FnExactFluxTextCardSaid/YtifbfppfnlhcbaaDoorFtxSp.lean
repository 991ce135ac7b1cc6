/- spec.l02Text, spec.FluxText -/
import Derived.Test.YtifbfppfnlhcbaaDoorSpecDec1
import Derived.Test.YtifbfppfnlhcbaaDoorOwnU
import Derived.Test.YtifbfppfnlhcbaaDoorSpecOk
import Derived.Test.YtifbfppfnlhcbaaDoorBoxF
namespace Go.Proofs.YtifbfppfnlhcbaaDoor
open Go.RowKit
set_option linter.unusedVariables false
set_option linter.unusedSimpArgs false
set_option maxRecDepth 20000
def fluxT (c f : Int) (zs : List Int) : ByteArray := if fluxOk c f zs = true then ⟨(joinK (c :: f :: zs) (zs.length + 2)).toArray⟩ else ⟨#[]⟩
theorem fluxOk_bds {c f : Int} {zs : List Int} (h : fluxOk c f zs = true) : ∀ x ∈ (c :: f :: zs), 0 ≤ x ∧ x < 10000000 := by
  obtain ⟨hc, ⟨hn1, hn2⟩, ha, hs, hf⟩ := fluxOk_iff.1 h
  have hall : ∀ x ∈ zs, 1 ≤ x ∧ x ≤ 2000000 := fun x hx => inB_iff.1 (List.all_eq_true.1 ha x hx)
  intro x hx
  simp only [List.mem_cons] at hx
  rcases hx with rfl | rfl | hx
  · omega
  · have hlast : (zs[zs.length - 1]?.getD 0) ≤ 2000000 := by
      cases hh : zs[zs.length - 1]? with
      | none => show (0 : Int) ≤ _; omega
      | some y => exact (hall y (List.mem_of_getElem? hh)).2
    omega
  · have := hall x hx; omega
set_option maxHeartbeats 8000000 in
theorem l02Text_any (c f : Int) (a : Option Addr) (zs : List Int) (cap p : Nat) (hv : fluxOk c f zs = true) (w : World) (hp : BoxAt w p #[.int .i64 c, .int .i64 f, .slice a zs.length cap]) (h : SlA w a zs) :
    Calls Tryd.prog 27 #[.pointer (some ⟨p, 0, none⟩)] w fun e w' => e = .returned (.string ⟨(joinK (c :: f :: zs) (zs.length + 2)).toArray⟩) ∧ Below w.heap.size w w' := by
  have hx := fluxOk_bds hv
  obtain ⟨_, ⟨hn1, hn2⟩, _⟩ := fluxOk_iff.1 hv
  have hplt := hp.lt (by simp)
  have hc := hx c (by simp)
  have hf := hx f (by simp)
  obtain ⟨n0, rfl⟩ : ∃ n : Nat, c = n := ⟨c.toNat, by omega⟩
  obtain ⟨n1, rfl⟩ : ∃ n : Nat, f = n := ⟨f.toNat, by omega⟩
  have D0 := Lib.hid (fun w => l01Dec_any n0 (by omega) w)
  have D1 := Lib.hid (fun w => l01Dec_any n1 (by omega) w)
  have s0 := decT_size8 (n := (n0 : Int)) (by omega) (by omega)
  have s1 := decT_size8 (n := (n1 : Int)) (by omega) (by omega)
  have HLN := Lib.hid (fun k => joinK_len8 hx k)
  have HXZ := Lib.hid (fun x (hm : x ∈ zs) => hx x (by simp [hm]))
  have hJ2 : joinK ((n0 : Int) :: (n1 : Int) :: zs) 2 = (decT (n0 : Int) ++ ⟨#[32]⟩ ++ decT (n1 : Int)).data.toList := by
    rw [joinK_succ (k := 1) (x := (n1 : Int)) rfl (by omega), joinK_one (x := (n0 : Int)) rfl]
    simp [ByteArray.data_append]
  have HJ := Lib.hid (show ∀ k x, zs[k]? = some x → joinK ((n0 : Int) :: (n1 : Int) :: zs) (k + 1 + 2) = (joinK ((n0 : Int) :: (n1 : Int) :: zs) (k + 2) ++ [32]) ++ (decT x).data.toList from fun k x hk => joinK_succ (k := k + 2) (xs := (n0 : Int) :: (n1 : Int) :: zs) (by simpa using hk) (by omega))
  have HCV := fun w s => run_bytes_of_string (P := Tryd.prog) w 9 35 5 s Tryd.underlying9 Tryd.underlying35 Tryd.underlying5
  have HJ2 := Lib.hid hJ2
  have HXX := Lib.hid hx
  have HPP := Lib.hid hp
  obtain ⟨b, off, rfl, hbw, hints⟩ : ∃ b off, a = some ⟨b, off, none⟩ ∧ b < w.heap.size ∧ Ints w b off zs := by
    rcases h with rfl | h
    · simp at hn1
    · exact h
  have HI := Lib.hid hints
  clear hv hJ2 hx hc hf hp hints
  generalize decT (n0 : Int) = t0 at *
  generalize decT (n1 : Int) = t1 at *
  have g1 : (9223372036854775807 < t0.size + 1) = False := by simp; omega
  have g2 : (9223372036854775807 < t0.size + 1 + t1.size) = False := by simp; omega
  go_enter Tryd.func27, Tryd.ntmps27
  go_wp2
  have KS := Lib.hid (fun w' (hb : Below w.heap.size w w') => (show w'.cell? ⟨p, 0, none⟩ = some (.int .i64 (n0 : Int)) ∧ w'.cell? ⟨p, 1, none⟩ = some (.int .i64 (n1 : Int)) ∧ w'.cell? ⟨p, 2, none⟩ = some (.slice (some ⟨b, off, none⟩) zs.length cap) from ⟨(HPP.out.below hb hplt) 0 _ rfl, (HPP.out.below hb hplt) 1 _ rfl, (HPP.out.below hb hplt) 2 _ rfl⟩))
  have HC := Lib.hid (show Below w.heap.size w w.drew from (Below.refl _ _).drew)
  refine wp_region_held_drew (S := (fun w' => w'.cell? ⟨p, 0, none⟩ = some (.int .i64 (n0 : Int)) ∧ w'.cell? ⟨p, 1, none⟩ = some (.int .i64 (n1 : Int)) ∧ w'.cell? ⟨p, 2, none⟩ = some (.slice (some ⟨b, off, none⟩) zs.length cap))) (by kernel_rfl) (KS.out _ HC.out) (fun hHeld => ?_)
  refine wpAnyH_take (i := 0) (oi := { dst := some 5, op := Op.move (Operand.tmp 0), type := 51, pos := "l02_flux.go:185", after := #[], guard := none }) (v := ?_) rfl (by kernel_rfl) (by kernel_rfl) (by kernel_rfl) (fun _ _ _ h => h) (Or.inl ⟨by rfl, ?hy⟩) hHeld ?_
  case hy => (intro w' hSw; (try dsimp only at hSw); go_simp; try with_reducible rfl)
  simp only [Act.put, List.setIfInBounds_toArray, List.set_cons_zero, List.set_cons_succ]
  refine wpAnyH_take (i := 1) (oi := { dst := some 6, op := Op.nilCheck (Operand.tmp 5), type := 0, pos := "l02_flux.go:185", after := #[{ on := 0, ground := Ground.data }], guard := none }) (v := ?_) rfl (by kernel_rfl) (by kernel_rfl) (by kernel_rfl) (fun _ _ _ h => h) (Or.inl ⟨by rfl, ?hy⟩) hHeld ?_
  case hy => (intro w' hSw; (try dsimp only at hSw); go_simp; try with_reducible rfl)
  simp only [Act.put, List.setIfInBounds_toArray, List.set_cons_zero, List.set_cons_succ]
  refine wpAnyH_take (i := 2) (oi := { dst := some 7, op := Op.fieldAddr 27 (Operand.tmp 6) 0, type := 0, pos := "l02_flux.go:185", after := #[{ on := 1, ground := Ground.data }], guard := none }) (v := ?_) rfl (by kernel_rfl) (by kernel_rfl) (by kernel_rfl) (fun _ _ _ h => h) (Or.inl ⟨by rfl, ?hy⟩) hHeld ?_
  case hy => (intro w' hSw; (try dsimp only at hSw); go_simp; try with_reducible rfl)
  simp only [Act.put, List.setIfInBounds_toArray, List.set_cons_zero, List.set_cons_succ]
  refine wpAnyH_take (i := 3) (oi := { dst := some 8, op := Op.load 2 (Operand.tmp 7), type := 2, pos := "l02_flux.go:185", after := #[{ on := 2, ground := Ground.data }], guard := none }) (v := ?_) rfl (by kernel_rfl) (by kernel_rfl) (by kernel_rfl) (fun _ _ _ h => h) (Or.inl ⟨by rfl, ?hy⟩) hHeld ?_
  case hy => (intro w' hSw; (try dsimp only at hSw); go_simp; try with_reducible rfl)
  simp only [Act.put, List.setIfInBounds_toArray, List.set_cons_zero, List.set_cons_succ]
  refine wpAnyH_take (i := 6) (oi := { dst := some 11, op := Op.move (Operand.tmp 0), type := 51, pos := "l02_flux.go:185", after := #[], guard := none }) (v := ?_) rfl (by kernel_rfl) (by kernel_rfl) (by kernel_rfl) (fun _ _ _ h => h) (Or.inl ⟨by rfl, ?hy⟩) hHeld ?_
  case hy => (intro w' hSw; (try dsimp only at hSw); go_simp; try with_reducible rfl)
  simp only [Act.put, List.setIfInBounds_toArray, List.set_cons_zero, List.set_cons_succ]
  refine wpAnyH_take (i := 7) (oi := { dst := some 12, op := Op.nilCheck (Operand.tmp 11), type := 0, pos := "l02_flux.go:185", after := #[{ on := 6, ground := Ground.data }], guard := none }) (v := ?_) rfl (by kernel_rfl) (by kernel_rfl) (by kernel_rfl) (fun _ _ _ h => h) (Or.inl ⟨by rfl, ?hy⟩) hHeld ?_
  case hy => (intro w' hSw; (try dsimp only at hSw); go_simp; try with_reducible rfl)
  simp only [Act.put, List.setIfInBounds_toArray, List.set_cons_zero, List.set_cons_succ]
  refine wpAnyH_take (i := 8) (oi := { dst := some 13, op := Op.fieldAddr 27 (Operand.tmp 12) 1, type := 0, pos := "l02_flux.go:185", after := #[{ on := 7, ground := Ground.data }], guard := none }) (v := ?_) rfl (by kernel_rfl) (by kernel_rfl) (by kernel_rfl) (fun _ _ _ h => h) (Or.inl ⟨by rfl, ?hy⟩) hHeld ?_
  case hy => (intro w' hSw; (try dsimp only at hSw); go_simp; try with_reducible rfl)
  simp only [Act.put, List.setIfInBounds_toArray, List.set_cons_zero, List.set_cons_succ]
  refine wpAnyH_take (i := 9) (oi := { dst := some 14, op := Op.load 2 (Operand.tmp 13), type := 2, pos := "l02_flux.go:185", after := #[{ on := 8, ground := Ground.data }], guard := none }) (v := ?_) rfl (by kernel_rfl) (by kernel_rfl) (by kernel_rfl) (fun _ _ _ h => h) (Or.inl ⟨by rfl, ?hy⟩) hHeld ?_
  case hy => (intro w' hSw; (try dsimp only at hSw); go_simp; try with_reducible rfl)
  simp only [Act.put, List.setIfInBounds_toArray, List.set_cons_zero, List.set_cons_succ]
  refine wpAnyH_ready (rs := [4]) (by kernel_rfl) (by simp) ?_
  refine AllReadyH.cons (o := { dst := some 9, op := Op.call { callee := Callee.value (Operand.func 49), args := #[Operand.tmp 8], argTypes := #[2] }, type := 9, pos := "l02_flux.go:185", after := #[{ on := 3, ground := Ground.data }], guard := none }) rfl (fun K hK => ?_) AllReadyH.nil
  go_simp
  go_at_call 49; refine (D0.out _).mono ?_; rintro e wk1 ⟨rfl, hb1⟩; replace HC := Lib.hid (HC.out.trans (hb1.mono HC.out.size))
  go_wp2_with fail
  refine hK.out _ _ (KS.out _ HC.out) (fun hHeld => ?_)
  clear hK K
  try simp only [Act.put, List.setIfInBounds_toArray, List.set_cons_zero, List.set_cons_succ]
  refine wpAnyH_take (i := 5) (oi := { dst := some 10, op := Op.binOp BinOp.add 9 (Operand.tmp 9) (Operand.const (Value.string { data := #[32] })) 9, type := 9, pos := "l02_flux.go:185", after := #[{ on := 4, ground := Ground.data }], guard := none }) (v := ?_) rfl (by kernel_rfl) (by kernel_rfl) (by kernel_rfl) (fun _ _ _ h => h) (Or.inl ⟨by rfl, ?hy⟩) hHeld ?_
  case hy => (intro w' hSw; (try dsimp only at hSw); go_simp; try with_reducible rfl)
  simp only [Act.put, List.setIfInBounds_toArray, List.set_cons_zero, List.set_cons_succ]
  refine wpAnyH_ready (rs := [10]) (by kernel_rfl) (by simp) ?_
  refine AllReadyH.cons (o := { dst := some 15, op := Op.call { callee := Callee.value (Operand.func 49), args := #[Operand.tmp 14], argTypes := #[2] }, type := 9, pos := "l02_flux.go:185", after := #[{ on := 9, ground := Ground.data }, { on := 4, ground := Ground.chain }], guard := none }) rfl (fun K hK => ?_) AllReadyH.nil
  go_simp
  go_at_call 49; refine (D1.out _).mono ?_; rintro e wk2 ⟨rfl, hb2⟩; replace HC := Lib.hid (HC.out.trans (hb2.mono HC.out.size))
  go_wp2_with fail
  refine hK.out _ _ (KS.out _ HC.out) (fun hHeld => ?_)
  clear hK K
  try simp only [Act.put, List.setIfInBounds_toArray, List.set_cons_zero, List.set_cons_succ]
  refine wpAnyH_take (i := 11) (oi := { dst := some 16, op := Op.binOp BinOp.add 9 (Operand.tmp 10) (Operand.tmp 15) 9, type := 9, pos := "l02_flux.go:185", after := #[{ on := 5, ground := Ground.data }, { on := 10, ground := Ground.data }], guard := none }) (v := ?_) rfl (by kernel_rfl) (by kernel_rfl) (by kernel_rfl) (fun _ _ _ h => h) (Or.inl ⟨by rfl, ?hy⟩) hHeld ?_
  case hy => (intro w' hSw; (try dsimp only at hSw); go_simp; try with_reducible rfl)
  simp only [Act.put, List.setIfInBounds_toArray, List.set_cons_zero, List.set_cons_succ]
  refine wpAnyH_ready (rs := [12]) (by kernel_rfl) (by simp) ?_
  refine AllReadyH.cons (o := { dst := some 17, op := Op.convert 9 35 (Operand.tmp 16), type := 35, pos := "l02_flux.go:185", after := #[{ on := 11, ground := Ground.data }], guard := none }) rfl (fun K hK => ?_) AllReadyH.nil
  have hTs : (t0 ++ (⟨#[32]⟩ : ByteArray) ++ t1).size = t0.size + 1 + t1.size := by rw [ByteArray.size_append, ByteArray.size_append]; rfl
  go_simp
  (have hge := grownCap_ge wk2 (t0.size + 1 + t1.size) 0 5; have hcm := grownCap_le_maxLen wk2 (t0.size + 1 + t1.size) 0 5 (by unfold maxLen; omega); obtain ⟨cap2, hcap2⟩ : ∃ c, grownCap wk2 (t0.size + 1 + t1.size) 0 5 = c := ⟨_, rfl⟩; rw [hcap2] at hge hcm ⊢; clear hcap2; have hR : (bytesRow (t0 ++ (⟨#[32]⟩ : ByteArray) ++ t1) cap2).size = cap2 := (by (have e : (t0 ++ (⟨#[32]⟩ : ByteArray) ++ t1).data.size = t0.size + 1 + t1.size := hTs); simp only [bytesRow, Array.size_append, Array.size_map, Array.size_replicate, e]; omega); rw [hR]; have OU := Lib.hid (OwnU.made wk2 w.heap.size (t0 ++ (⟨#[32]⟩ : ByteArray) ++ t1) cap2 HC.out.size (by omega) hcm); rw [hTs] at OU; replace HC := Lib.hid ((HC.out.alloc HC.out.size (.cells (bytesRow (t0 ++ (⟨#[32]⟩ : ByteArray) ++ t1) cap2) 5 (cap2, cap2 + 1))).drew); have OU2 := Lib.hid (show OwnU (wk2.alloc (.cells (bytesRow (t0 ++ (⟨#[32]⟩ : ByteArray) ++ t1) cap2) 5 (cap2, cap2 + 1))).drew w.heap.size _ _ from OU.out); clear OU; generalize (wk2.alloc (.cells (bytesRow (t0 ++ (⟨#[32]⟩ : ByteArray) ++ t1) cap2) 5 (cap2, cap2 + 1))).drew = W at HC OU2 ⊢)
  go_wp2_with fail
  refine hK.out _ _ (KS.out _ HC.out) (fun hHeld => ?_)
  clear hK K
  try simp only [Act.put, List.setIfInBounds_toArray, List.set_cons_zero, List.set_cons_succ]
  refine wpAnyH_take (i := 13) (oi := { dst := some 3, op := Op.assign (Operand.tmp 17), type := 35, pos := "l02_flux.go:185", after := #[{ on := 12, ground := Ground.data }, { on := 10, ground := Ground.chain }, { on := 0, ground := Ground.phase }, { on := 1, ground := Ground.phase }, { on := 2, ground := Ground.phase }, { on := 3, ground := Ground.phase }, { on := 4, ground := Ground.phase }, { on := 5, ground := Ground.phase }, { on := 6, ground := Ground.phase }, { on := 7, ground := Ground.phase }, { on := 8, ground := Ground.phase }, { on := 9, ground := Ground.phase }, { on := 10, ground := Ground.phase }, { on := 11, ground := Ground.phase }, { on := 12, ground := Ground.phase }], guard := none }) (v := ?_) rfl (by kernel_rfl) (by kernel_rfl) (by kernel_rfl) (fun _ _ _ h => h) (Or.inl ⟨by rfl, ?hy⟩) hHeld ?_
  case hy => (intro w' hSw; (try dsimp only at hSw); go_simp; try with_reducible rfl)
  simp only [Act.put, List.setIfInBounds_toArray, List.set_cons_zero, List.set_cons_succ]
  refine wpAnyH_done (by kernel_rfl) ?_ _
  rw [← HJ2.out] at OU2
  have hlen2 : (joinK ((n0 : Int) :: (n1 : Int) :: zs) 2).length = t0.size + 1 + t1.size := by
    rw [HJ2.out]
    show (t0 ++ (⟨#[32]⟩ : ByteArray) ++ t1).data.toList.length = _
    rw [← hTs]
    have e32 : (⟨#[32]⟩ : ByteArray).size = 1 := rfl
    simp
    omega
  clear g1 g2 hge hcm hR hTs
  generalize wk2.heap.size = gb at OU2 ⊢
  go_wp2
  go_loopw [3, 4] (fun v i wr => ∃ k : Nat, k ≤ zs.length ∧ i = .int .i64 k ∧ (∃ l : List UInt8, Hid (l = joinK ((n0 : Int) :: (n1 : Int) :: zs) (k + 2)) ∧ OwnU wr w.heap.size v l) ∧ Below w.heap.size w wr) (fun _ i _ => zs.length - (intOf i).toNat)
  case atStart => exact ⟨0, Nat.zero_le _, rfl, ⟨_, by unfold Hid; rfl, OU2.out⟩, HC.out⟩
  case round =>
    obtain ⟨k, hk, rfl, ⟨l, hL, hB⟩, hbr⟩ := hrel
    have q2 := (HPP.out.below hbr hplt) 2 _ rfl
    have hll : l.length ≤ 8 * (k + 2) := by rw [hL.out]; exact HLN.out (k + 2)
    by_cases hlt : k < zs.length
    · obtain ⟨x, hxk⟩ := getOf hlt
      have cx := (HI.out.below hbr hbw) k x hxk
      have HXK := Lib.hid hxk
      have hx := HXZ.out x (List.mem_of_getElem? hxk)
      obtain ⟨y, rfl⟩ : ∃ y : Nat, x = y := ⟨x.toNat, by omega⟩
      have DY := Lib.hid (fun w => l01Dec_any y (by omega) w)
      have zy := decT_size8 (n := (y : Int)) (by omega) (by omega)
      have HN := Lib.hid (HJ.out k (y : Int) hxk)
      have HBR := Lib.hid hbr
      have HBO := Lib.hid hB
      have hsz := hbr.size
      clear hbr hB hxk hx
      generalize decT (y : Int) = ty at *
      go_wp2_with (at_builtin; refine wpList_appendUB rfl _ _ rfl (B := w.heap.size) rfl (HBO.out.below (fun j _ hj => Below.heap_alloc wr _ j hj)) 32 ⟨wr.heap.size, 0, none⟩ 1 rfl ?c1 ?c2 ?c3 ?_)
      case c1 => simp only [World.cell?, heap_alloc_new]; rfl
      case c2 => omega
      case c3 => simp; omega
      intro v1 w1 hO1 hb1
      have F1 := Lib.hid ((HBR.out.alloc hsz (.cells #[.int .u8 32] 5)).trans hb1)
      have HO1 := Lib.hid hO1
      have hz1 := F1.out.size
      clear q2 cx hO1 hb1
      have q2 := (HPP.out.below F1.out hplt) 2 _ rfl
      have cx := (HI.out.below F1.out hbw) k (y : Int) HXK.out
      go_wp2_with fail
      refine (DY.out _).mono ?_
      rintro e_ w2 ⟨rfl, hb2⟩
      have F2 := Lib.hid (F1.out.trans (hb2.mono hz1))
      have HO2 := Lib.hid (HO1.out.below (fun j _ hj => hb2.block j hj))
      have hz2 := F2.out.size
      clear hb2 q2 cx HO1
      go_wp2_with (at_builtin; refine wpList_appendUS rfl _ _ rfl (B := w.heap.size) rfl HO2.out ty rfl ?c1 ?c2 ?_)
      case c1 => simp; omega
      case c2 => exact hz2
      intro v3 w3 hO3 hb3
      have F3 := Lib.hid (F2.out.trans hb3)
      have HO3 := Lib.hid hO3
      clear hO3 hb3
      go_wp2
      go_roundw
      case rel => exact ⟨k + 1, by omega, by go_num, ⟨_, by unfold Hid; rw [HN.out, ← hL.out]; simp, HO3.out⟩, F3.out⟩
      case measure => simp [intOf]; omega
    · obtain rfl : k = zs.length := by omega
      have hcv := hB.conv
      have HE := Lib.hid hL.out
      have F9 := Lib.hid hbr
      clear hbr hB
      go_wp2
      go_ret
      exact ⟨by rw [← HE.out]; rfl, F9.out⟩
set_option maxHeartbeats 4000000 in
theorem specFluxText_any (c f : Int) (a : Option Addr) (cap : Nat) (zs : List Int) (hl : zs.length ≤ 1048576) (w : World) (h : SlA w a zs) :
    Calls Tryd.prog 7 #[.agg #[.int .i64 c, .int .i64 f, .slice a zs.length cap]] w fun e w' => e = .returned (.string (fluxT c f zs)) ∧ Below w.heap.size w w' := by
  have c1 := fun w' (hb : Below w.heap.size w w') (hf : FluxAt w' w.heap.size c f a zs.length cap) => l02Ok_any w.heap.size c f a zs cap w' hl hf (h.below hb (Nat.le_refl _))
  have BX := Lib.hid (BoxAt.new w #[.int .i64 c, .int .i64 f, .slice a zs.length cap] 27 w.heap.size rfl)
  have FX := Lib.hid (FluxAt.new w c f a zs.length cap 27 w.heap.size rfl)
  unfold fluxT
  by_cases hv : fluxOk c f zs = true
  case neg =>
    have hvf : fluxOk c f zs = false := by simpa using hv
    rw [if_neg hv]
    rw [hvf] at c1
    have C1 := Lib.hid c1
    clear c1 hv hvf h
    go_enter Tryd.func7, Tryd.ntmps7
    go_wp2_with fail
    refine (C1.out _ ((Below.refl _ _).alloc (Nat.le_refl _) _) FX.out).mono ?_
    rintro e w1 ⟨rfl, hb1⟩
    go_wp2
    go_ret
    exact ⟨rfl, Below.trans ((Below.refl _ _).alloc (Nat.le_refl _) _) (hb1.mono (by simp))⟩
  case pos =>
    rw [if_pos hv]
    rw [hv] at c1
    have C1 := Lib.hid c1
    have LT := Lib.hid (fun w' (hb : Below w.heap.size w w') hp => l02Text_any c f a zs cap w.heap.size hv w' hp (h.below hb (Nat.le_refl _)))
    clear c1 hv h
    go_enter Tryd.func7, Tryd.ntmps7
    go_wp2_with fail
    refine (C1.out _ ((Below.refl _ _).alloc (Nat.le_refl _) _) FX.out).mono ?_
    rintro e w1 ⟨rfl, hb1⟩
    have F1 := Lib.hid (show Below w.heap.size w w1 from Below.trans ((Below.refl _ _).alloc (Nat.le_refl _) _) (hb1.mono (by simp)))
    replace BX := Lib.hid (BX.out.below hb1 (by simp))
    clear hb1
    go_wp2_with fail
    refine (LT.out _ F1.out BX.out).mono ?_
    rintro e w2 ⟨rfl, hb2⟩
    have F2 := Lib.hid (F1.out.trans (hb2.mono F1.out.size))
    clear hb2
    go_wp2
    go_ret
    exact ⟨rfl, F2.out⟩
end Go.Proofs.YtifbfppfnlhcbaaDoor
