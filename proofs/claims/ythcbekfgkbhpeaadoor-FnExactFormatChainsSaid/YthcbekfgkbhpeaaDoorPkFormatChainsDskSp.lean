/- spec: a link is set; the blocks of a disk -/
import Derived.Test.YthcbekfgkbhpeaaDoorPkFormatChainsFreeSp
import Derived.Test.YthcbekfgkbhpeaaDoorPkFormatChainsE
import Derived.Test.YthcbekfgkbhpeaaDoorPkFormatChainsDiskRd
import Derived.Test.YthcbekfgkbhpeaaDoorPkFormatChainsOwnR
namespace Go.Proofs.YthcbekfgkbhpeaaDoor
open Go.RowKit
set_option maxRecDepth 20000
set_option linter.unusedVariables false
set_option linter.unusedSimpArgs false
set_option maxRecDepth 20000
theorem byteV (n : Nat) (h : n < 256) : ((n.toUInt8).toNat : Int) = (n : Int) := by
  have : n.toUInt8.toNat = n % 256 := by simp
  omega
theorem wrapU8 (v : Nat) (h : v < 256) : IntKind.u8.wrap (v : Int) = (v : Int) := by
  have := IntKind.wrap_u8 (v : Int)
  rw [this]
  omega
/-- Only block g may differ, and no block has come. -/
def OnlyAt (g : Nat) (w w' : World) : Prop := w'.heap.size = w.heap.size ∧ (∀ q, q ≠ g → w'.heap[q]? = w.heap[q]?) ∧ Below g w w'
theorem DAt.d04 {w : World} {p g cap n z : Nat} {bs : List UInt8} (h : DAt w p g cap (chLay n z) bs) : w.cell? ⟨p, 0, none⟩ = some (.int .i64 (n : Int)) ∧ w.cell? ⟨p, 4, none⟩ = some (.int .i64 (chData n z : Int)) := ⟨(h.1 0 _ rfl).1, (h.1 4 _ rfl).1⟩
theorem DAt.c15 {w : World} {p g cap n z : Nat} {bs : List UInt8} (h : DAt w p g cap (chLay n z) bs) : w.cell? ⟨p, 1, none⟩ = some (.int .i64 (z : Int)) ∧ w.cell? ⟨p, 5, none⟩ = some (.slice (some ⟨g, 0, none⟩) bs.length cap) := ⟨(h.1 1 _ rfl).1, (h.1 5 _ rfl).1⟩
set_option maxHeartbeats 2000000 in
theorem dSetLink_any (p g cap k v n z : Nat) (bs : List UInt8) (w : World) (h : DAt w p g cap (chLay n z) bs) (hpg : p ≠ g) (hk : z + k < bs.length) (hb : bs.length ≤ 100000) (hv : v < 256) :
    Calls Tryd.prog 50 #[.pointer (some ⟨p, 0, none⟩), .int .i64 (k : Int), .int .i64 (v : Int)] w fun e w' => e = .returned (.tuple #[]) ∧ DAt w' p g cap (chLay n z) (bs.set (z + k) v.toUInt8) ∧ OnlyAt g w w' := by
  obtain ⟨x1, x5⟩ := h.c15
  obtain ⟨hbx, cur, hg, hrow⟩ := h
  have hcell := hrow.cell hg (z + k) hk
  have hz0 : w.frozen? ⟨g, z + k, none⟩ = false := by simp [World.frozen?, hg]
  have hrs := hrow.set (z + k) v.toUInt8 hk
  have hv2 : (v.toUInt8.toNat : Int) = (v : Int) := byteV v hv
  rw [hv2] at hrs
  have hv3 : (v : Int) < 256 := by omega
  have e1 : (z : Int) + (k : Int) < (bs.length : Int) := by omega
  have hcap := hrow.2.1
  have hws := wrap_add (show z + k ≤ 1000000 by omega)
  have e0 : (0 : Int) ≤ (z : Int) + (k : Int) := by omega
  have hw8 : IntKind.u8.wrap (v : Int) = (v : Int) := wrapU8 v hv
  have e9 : ((z : Int) + (k : Int)).toNat = z + k := by omega
  have HBX := Lib.hid hbx; have HG := Lib.hid hg; have HRS := Lib.hid hrs
  have HLN := Lib.hid (show (bs.set (z + k) v.toUInt8).length = bs.length by simp)
  clear hbx hg hrow hrs hv2
  generalize bs[z + k].toNat = ov at *
  obtain ⟨m, hm⟩ : ∃ m, bs.length = m := ⟨_, rfl⟩
  have HM := Lib.hid hm
  rw [hm] at x5 e1 hk hb hcap
  clear hm
  go_enter Tryd.func50, Tryd.ntmps50
  go_upto_region 0 with (fail)
  refine wp_region_held_drew (S := (fun w' => w'.cell? ⟨p, 1, none⟩ = some (.int .i64 (z : Int)) ∧ w'.cell? ⟨p, 5, none⟩ = some (.slice (some ⟨g, 0, none⟩) m cap))) (by kernel_rfl) ⟨x1, x5⟩ (fun hHeld => ?_)
  refine wpAnyH_take (i := 0) (oi := { dst := some 6, op := Op.move (Operand.tmp 0), type := 46, pos := "l16_chains.go:68", after := #[], guard := none }) (v := ?_) rfl (by kernel_rfl) (by kernel_rfl) (by kernel_rfl) (fun _ _ _ h => h) (Or.inl ⟨by rfl, ?hy⟩) hHeld ?_
  case hy => (intro w' hSw; (try dsimp only at hSw); go_simp; try with_reducible rfl)
  simp only [Act.put, List.setIfInBounds_toArray, List.set_cons_zero, List.set_cons_succ]
  refine wpAnyH_take (i := 1) (oi := { dst := some 7, op := Op.nilCheck (Operand.tmp 6), type := 0, pos := "l16_chains.go:68", after := #[{ on := 0, ground := Ground.data }], guard := none }) (v := ?_) rfl (by kernel_rfl) (by kernel_rfl) (by kernel_rfl) (fun _ _ _ h => h) (Or.inl ⟨by rfl, ?hy⟩) hHeld ?_
  case hy => (intro w' hSw; (try dsimp only at hSw); go_simp; try with_reducible rfl)
  simp only [Act.put, List.setIfInBounds_toArray, List.set_cons_zero, List.set_cons_succ]
  refine wpAnyH_take (i := 2) (oi := { dst := some 8, op := Op.fieldAddr 51 (Operand.tmp 7) 1, type := 0, pos := "l16_chains.go:68", after := #[{ on := 1, ground := Ground.data }], guard := none }) (v := ?_) rfl (by kernel_rfl) (by kernel_rfl) (by kernel_rfl) (fun _ _ _ h => h) (Or.inl ⟨by rfl, ?hy⟩) hHeld ?_
  case hy => (intro w' hSw; (try dsimp only at hSw); go_simp; try with_reducible rfl)
  simp only [Act.put, List.setIfInBounds_toArray, List.set_cons_zero, List.set_cons_succ]
  refine wpAnyH_take (i := 3) (oi := { dst := some 9, op := Op.load 49 (Operand.tmp 8), type := 49, pos := "l16_chains.go:68", after := #[{ on := 2, ground := Ground.data }], guard := none }) (v := ?_) rfl (by kernel_rfl) (by kernel_rfl) (by kernel_rfl) (fun _ _ _ h => h) (Or.inl ⟨by rfl, ?hy⟩) hHeld ?_
  case hy => (intro w' hSw; (try dsimp only at hSw); go_simp; try with_reducible rfl)
  simp only [Act.put, List.setIfInBounds_toArray, List.set_cons_zero, List.set_cons_succ]
  refine wpAnyH_take (i := 4) (oi := { dst := some 10, op := Op.move (Operand.tmp 0), type := 46, pos := "l16_chains.go:68", after := #[], guard := none }) (v := ?_) rfl (by kernel_rfl) (by kernel_rfl) (by kernel_rfl) (fun _ _ _ h => h) (Or.inl ⟨by rfl, ?hy⟩) hHeld ?_
  case hy => (intro w' hSw; (try dsimp only at hSw); go_simp; try with_reducible rfl)
  simp only [Act.put, List.setIfInBounds_toArray, List.set_cons_zero, List.set_cons_succ]
  refine wpAnyH_take (i := 5) (oi := { dst := some 11, op := Op.nilCheck (Operand.tmp 10), type := 0, pos := "l16_chains.go:68", after := #[{ on := 4, ground := Ground.data }], guard := none }) (v := ?_) rfl (by kernel_rfl) (by kernel_rfl) (by kernel_rfl) (fun _ _ _ h => h) (Or.inl ⟨by rfl, ?hy⟩) hHeld ?_
  case hy => (intro w' hSw; (try dsimp only at hSw); go_simp; try with_reducible rfl)
  simp only [Act.put, List.setIfInBounds_toArray, List.set_cons_zero, List.set_cons_succ]
  refine wpAnyH_take (i := 6) (oi := { dst := some 12, op := Op.fieldAddr 51 (Operand.tmp 11) 0, type := 0, pos := "l16_chains.go:68", after := #[{ on := 5, ground := Ground.data }], guard := none }) (v := ?_) rfl (by kernel_rfl) (by kernel_rfl) (by kernel_rfl) (fun _ _ _ h => h) (Or.inl ⟨by rfl, ?hy⟩) hHeld ?_
  case hy => (intro w' hSw; (try dsimp only at hSw); go_simp; try with_reducible rfl)
  simp only [Act.put, List.setIfInBounds_toArray, List.set_cons_zero, List.set_cons_succ]
  refine wpAnyH_take (i := 7) (oi := { dst := some 13, op := Op.fieldAddr 25 (Operand.tmp 12) 1, type := 0, pos := "l16_chains.go:68", after := #[{ on := 6, ground := Ground.data }], guard := none }) (v := ?_) rfl (by kernel_rfl) (by kernel_rfl) (by kernel_rfl) (fun _ _ _ h => h) (Or.inl ⟨by rfl, ?hy⟩) hHeld ?_
  case hy => (intro w' hSw; (try dsimp only at hSw); go_simp; try with_reducible rfl)
  simp only [Act.put, List.setIfInBounds_toArray, List.set_cons_zero, List.set_cons_succ]
  refine wpAnyH_take (i := 8) (oi := { dst := some 14, op := Op.load 2 (Operand.tmp 13), type := 2, pos := "l16_chains.go:68", after := #[{ on := 7, ground := Ground.data }], guard := none }) (v := ?_) rfl (by kernel_rfl) (by kernel_rfl) (by kernel_rfl) (fun _ _ _ h => h) (Or.inl ⟨by rfl, ?hy⟩) hHeld ?_
  case hy => (intro w' hSw; (try dsimp only at hSw); go_simp; try with_reducible rfl)
  simp only [Act.put, List.setIfInBounds_toArray, List.set_cons_zero, List.set_cons_succ]
  refine wpAnyH_take (i := 9) (oi := { dst := some 15, op := Op.move (Operand.tmp 1), type := 2, pos := "l16_chains.go:68", after := #[], guard := none }) (v := ?_) rfl (by kernel_rfl) (by kernel_rfl) (by kernel_rfl) (fun _ _ _ h => h) (Or.inl ⟨by rfl, ?hy⟩) hHeld ?_
  case hy => (intro w' hSw; (try dsimp only at hSw); go_simp; try with_reducible rfl)
  simp only [Act.put, List.setIfInBounds_toArray, List.set_cons_zero, List.set_cons_succ]
  refine wpAnyH_take (i := 10) (oi := { dst := some 16, op := Op.binOp BinOp.add 2 (Operand.tmp 14) (Operand.tmp 15) 2, type := 2, pos := "l16_chains.go:68", after := #[{ on := 8, ground := Ground.data }, { on := 9, ground := Ground.data }], guard := none }) (v := ?_) rfl (by kernel_rfl) (by kernel_rfl) (by kernel_rfl) (fun _ _ _ h => h) (Or.inl ⟨by rfl, ?hy⟩) hHeld ?_
  case hy => (intro w' hSw; (try dsimp only at hSw); go_simp; try with_reducible rfl)
  simp only [Act.put, List.setIfInBounds_toArray, List.set_cons_zero, List.set_cons_succ]
  refine wpAnyH_take (i := 11) (oi := { dst := some 17, op := Op.move (Operand.tmp 2), type := 2, pos := "l16_chains.go:68", after := #[], guard := none }) (v := ?_) rfl (by kernel_rfl) (by kernel_rfl) (by kernel_rfl) (fun _ _ _ h => h) (Or.inl ⟨by rfl, ?hy⟩) hHeld ?_
  case hy => (intro w' hSw; (try dsimp only at hSw); go_simp; try with_reducible rfl)
  simp only [Act.put, List.setIfInBounds_toArray, List.set_cons_zero, List.set_cons_succ]
  refine wpAnyH_take (i := 12) (oi := { dst := some 18, op := Op.convert 2 5 (Operand.tmp 17), type := 5, pos := "l16_chains.go:68", after := #[{ on := 11, ground := Ground.data }], guard := none }) (v := ?_) rfl (by kernel_rfl) (by kernel_rfl) (by kernel_rfl) (fun _ _ _ h => h) (Or.inl ⟨by rfl, ?hy⟩) hHeld ?_
  case hy => (intro w' hSw; (try dsimp only at hSw); go_simp; try with_reducible rfl)
  simp only [Act.put, List.setIfInBounds_toArray, List.set_cons_zero, List.set_cons_succ]
  refine wpAnyH_take (i := 13) (oi := { dst := some 19, op := Op.indexAddr 49 (Operand.tmp 9) (Operand.tmp 16), type := 0, pos := "l16_chains.go:68", after := #[{ on := 3, ground := Ground.data }, { on := 10, ground := Ground.data }, { on := 0, ground := Ground.phase }, { on := 1, ground := Ground.phase }, { on := 2, ground := Ground.phase }, { on := 3, ground := Ground.phase }, { on := 4, ground := Ground.phase }, { on := 5, ground := Ground.phase }, { on := 6, ground := Ground.phase }, { on := 7, ground := Ground.phase }, { on := 8, ground := Ground.phase }, { on := 9, ground := Ground.phase }, { on := 10, ground := Ground.phase }, { on := 11, ground := Ground.phase }, { on := 12, ground := Ground.phase }], guard := none }) (v := ?_) rfl (by kernel_rfl) (by kernel_rfl) (by kernel_rfl) (fun _ _ _ h => h) (Or.inl ⟨by rfl, ?hy⟩) hHeld ?_
  case hy => (intro w' hSw; (try dsimp only at hSw); go_simp; try with_reducible rfl)
  simp only [Act.put, List.setIfInBounds_toArray, List.set_cons_zero, List.set_cons_succ]
  refine wpAnyH_ready (rs := [14]) (by kernel_rfl) (by simp) ?_
  refine AllReadyH.cons (o := { dst := none, op := Op.store 5 (Operand.tmp 19) (Operand.tmp 18), type := 0, pos := "l16_chains.go:68", after := #[{ on := 13, ground := Ground.data }, { on := 12, ground := Ground.data }, { on := 0, ground := Ground.phase }, { on := 1, ground := Ground.phase }, { on := 2, ground := Ground.phase }, { on := 3, ground := Ground.phase }, { on := 4, ground := Ground.phase }, { on := 5, ground := Ground.phase }, { on := 6, ground := Ground.phase }, { on := 7, ground := Ground.phase }, { on := 8, ground := Ground.phase }, { on := 9, ground := Ground.phase }, { on := 10, ground := Ground.phase }, { on := 11, ground := Ground.phase }, { on := 12, ground := Ground.phase }], guard := none }) rfl (fun K hK => ?_) AllReadyH.nil
  have hc9 : w.drew.cell? ⟨g, 0 + (z + k), none⟩ = some (.int .u8 (ov : Int)) := by rw [Nat.zero_add]; exact hcell
  have hf9 : w.drew.frozen? ⟨g, 0 + (z + k), none⟩ = false := by rw [Nat.zero_add]; exact hz0
  go_simp
  refine hK.out _ _ ⟨by rw [World.cell?_of_block (w := w) (by exact heap_setCell_ne _ _ _ _ _ hpg)]; exact x1, by rw [World.cell?_of_block (w := w) (by exact heap_setCell_ne _ _ _ _ _ hpg)]; exact x5⟩ (fun hHeld => ?_)
  clear hK K
  try simp only [Act.put, List.setIfInBounds_toArray, List.set_cons_zero, List.set_cons_succ]
  refine wpAnyH_done (by kernel_rfl) ?_ _
  go_end0
  have HS := heap_set_marked w g (z + k) cur 5 (0, 0) (.int .u8 (v : Int)) HG.out
  refine ⟨rfl, ⟨?_, _, HS, HRS.out⟩, by simp [World.setCell], fun q hq => heap_setCell_ne _ _ _ _ _ hq, ((Below.refl g w).setCell (p := ⟨g, z + k, none⟩) (Nat.le_refl _) _).drew⟩
  rw [HLN.out]
  exact BoxF.kept (w := w) HBX.out (heap_setCell_ne _ _ _ _ _ hpg)
/-- The blocks of a disk from its bytes. -/
def unflatL (bs : List UInt8) (n z : Nat) : List StringV := (List.range n).map fun i : Nat => (⟨⟨(cutL bs (i * z) z).toArray⟩⟩ : StringV)
theorem unflatL_snoc (bs : List UInt8) (n z : Nat) : unflatL bs (n + 1) z = unflatL bs n z ++ [⟨⟨(cutL bs (n * z) z).toArray⟩⟩] := by
  unfold unflatL
  rw [List.range_succ, List.map_append]
  rfl
theorem unflatL_len (bs : List UInt8) (n z : Nat) : (unflatL bs n z).length = n := by unfold unflatL; simp
theorem wp_appendS {w : World} {o : Oper} {a : Act} {K : Act → World → Prop} {Q : Exit → Act → World → Prop} (s x : Operand)
    (ho : o.op = .call { callee := .builtin .append, args := #[s, x], argTypes := #[22, 22] })
    {B : Nat} {v : Value} {es : List StringV} (hs : a.eval s = v) (hown : OwnR rowString 9 1 w B v es) (y : ByteArray) (ad : Addr) (c : Nat) (hx : a.eval x = .slice (some ad) 1 c)
    (hc : ∀ j u, (rowString ⟨y⟩)[j]? = some u → w.cell? (ad.add j) = some u) (hl : es.length < 1073741824) (hB : B ≤ w.heap.size)
    (h : ∀ g cap w', OwnR rowString 9 1 w' B (.slice (some ⟨g, 0, none⟩) (es.length + 1) cap) (es ++ [⟨y⟩]) → Below B w w' → K (a.put o.dst (.slice (some ⟨g, 0, none⟩) (es.length + 1) cap)) w') : o.wp Tryd.prog a w K Q := by
  obtain ⟨i0, hi, hz0, hz1, hz2⟩ := info_parts infoString
  refine wp_append_lies w s x 22 ho B 9 i0 (.string ByteArray.empty) 1 16 Tryd.underlying22 hi hz0 hz1 hz2 rfl (by decide) v es.length (es.map rowString).flatten hs hown ad 1 c (rowString ⟨y⟩) hx rfl hc (by intro u hu; simp only [rowString, List.mem_singleton] at hu; subst hu; rfl) (by decide) (by unfold maxLen; omega) (by omega) hB _ rfl ?_
  intro g cap w' h2 h3 h4 _
  refine h g cap w' ?_ (ownsRow_belowOf hown hB h3)
  unfold OwnR
  simpa using h2
set_option maxHeartbeats 8000000 in
theorem dDisk_any (p g cap n z : Nat) (bs : List UInt8) (w : World) (h : DAt w p g cap (chLay n z) bs) (hl : bs.length = n * z) (hn : n ≤ 128) (hz : z ≤ 32) (hz0 : 0 < z) :
    Calls Tryd.prog 36 #[.pointer (some ⟨p, 0, none⟩)] w (RecRes rowString 9 (unflatL bs n z) w) := by
  have hlt0 := h.lt
  have HD := Lib.hid (fun w' (hb : Below w.heap.size w w') => h.below hb hlt0.1 hlt0.2)
  have UN := Lib.hid (fun k => unflatL_snoc bs k z)
  have UL := Lib.hid (fun k => unflatL_len bs k z)
  have hnz : n * z ≤ 4096 := Nat.le_trans (Nat.mul_le_mul hn hz) (by omega)
  have x00 := (h.below ((Below.refl w.heap.size w).alloc (Nat.le_refl _) (.cells #[] 9)) hlt0.1 hlt0.2).d04.1
  clear h
  go_enter Tryd.func36, Tryd.ntmps36
  go_wp2
  clear x00
  go_loopw [3, 4] (fun v i wr => ∃ k : Nat, k ≤ n ∧ i = .int .i64 k ∧ OwnR rowString 9 1 wr w.heap.size v (unflatL bs k z) ∧ Below w.heap.size w wr) (fun _ i _ => n - (intOf i).toNat)
  case atStart => exact ⟨0, Nat.zero_le _, rfl, OwnR.empty w _ (Nat.le_refl _), (Below.refl _ _).alloc (Nat.le_refl _) _⟩
  case round =>
    obtain ⟨k, hk, rfl, hown, hb⟩ := hrel
    have hd := HD.out _ hb
    obtain ⟨x0, _⟩ := hd.d04
    by_cases hlt : k < n
    · obtain ⟨x1, x5⟩ := hd.c15
      obtain ⟨_, cur, hg, hrow⟩ := hd
      have hcap := hrow.2.1
      have hA2 : (k + 1) * z ≤ n * z := Nat.mul_le_mul (by omega) (Nat.le_refl z)
      have hAz : (k + 1) * z = k * z + z := by rw [Nat.add_mul]; omega
      have hcl := cutL_len (bs := bs) (k := k * z) (n := z) (by omega)
      have hcv : ∀ w' : World, w'.heap[g]? = some (.cells cur 5 (0, 0)) → (convert 49 9 (.slice (some ⟨g, k * z, none⟩) z (cap - k * z))).run Tryd.prog w' = .ok (.string ⟨(cutL bs (k * z) z).toArray⟩) w' := fun w' hw' => by
        have hh := conv_of w' ⟨g, k * z, none⟩ (cap - k * z) (cutL bs (k * z) z) (by
          intro j hj
          rw [hcl] at hj
          have hlt9 : k * z + j < bs.length := by omega
          have hc9 := hrow.cell hw' (k * z + j) hlt9
          have e : ((⟨g, k * z, none⟩ : Addr).add j) = ⟨g, k * z + j, none⟩ := by simp [Addr.add]
          rw [e, hc9]
          have e2 : (cutL bs (k * z) z)[j]'(by rw [hcl]; exact hj) = bs[k * z + j] := by
            unfold cutL
            rw [List.getElem_take, List.getElem_drop]
          rw [e2])
        rw [hcl] at hh
        exact hh
      have e1 : (k : Int) < (n : Int) := by omega
      have HU := Lib.hid (UN.out k)
      have HUL := Lib.hid (UL.out k)
      have hll : (unflatL bs k z).length < 1073741824 := by rw [UL.out]; omega
      have m1 : (k : Int) * (z : Int) = ((k * z : Nat) : Int) := by rw [Int.natCast_mul]
      have m2 : ((k : Int) + 1) * (z : Int) = (((k + 1) * z : Nat) : Int) := by rw [Int.natCast_mul]; rfl
      rw [hAz] at m2
      generalize cutL bs (k * z) z = cl at *
      generalize unflatL bs k z = ul at *
      have hA3 : k * z + z ≤ cap := by omega
      have hA4 : k * z ≤ 100000 := by omega
      clear hA2 hAz hcl
      generalize k * z = A at *
      have w1 := (wrap_nat (show A ≤ 1000000 by omega)).1
      have w2 := wrap_add (show A + z ≤ 1000000 by omega)
      have w3 : IntKind.i64.wrap ((k : Int) + 1) = (k : Int) + 1 := IntWalk.i64_in _ (by omega)
      rw [Int.natCast_add] at m2
      have p1 : (0 : Int) ≤ (A : Int) + (z : Int) := by omega
      have p2 : (A : Int) + (z : Int) ≤ (cap : Int) := by omega
      have p3 : ((A : Int) + (z : Int)).toNat = A + z := by omega
      have p4 : ¬ cap = A := by omega
      have HB := Lib.hid hb
      have CV := Lib.hid hcv
      have hpw := hlt0
      obtain ⟨mm, hmm⟩ : ∃ mm, bs.length = mm := ⟨_, rfl⟩
      rw [hmm] at x5
      have KS := Lib.hid (fun w' (hb' : Below w.heap.size wr w') => (show w'.cell? ⟨p, 1, none⟩ = some (.int .i64 (z : Int)) ∧ w'.cell? ⟨p, 5, none⟩ = some (.slice (some ⟨g, 0, none⟩) mm cap) ∧ w'.heap[g]? = some (.cells cur 5 (0, 0)) from ⟨by rw [hb'.cell (p := ⟨p, 1, none⟩) hpw.1]; exact x1, by rw [hb'.cell (p := ⟨p, 5, none⟩) hpw.1]; exact x5, by rw [hb'.block g hpw.2]; exact hg⟩))
      have hl9 : bs.length = n * z := hl
      clear hb hcv hrow hcap x1 x5 hg
      have HN := Lib.hid (heap_alloc_new wr (.cells #[.string ⟨cl.toArray⟩] 9))
      have HO := Lib.hid (OwnR.alloc hown (.cells #[.string ⟨cl.toArray⟩] 9))
      have hbz := HB.out.size
      clear hown
      go_wp2_with fail
      refine wp_region_held_drew (S := (fun w' => w'.cell? ⟨p, 1, none⟩ = some (.int .i64 (z : Int)) ∧ w'.cell? ⟨p, 5, none⟩ = some (.slice (some ⟨g, 0, none⟩) mm cap) ∧ w'.heap[g]? = some (.cells cur 5 (0, 0)))) (by kernel_rfl) (KS.out _ (Below.refl _ _).drew) (fun hHeld => ?_)
      refine wpAnyH_take (i := 0) (oi := { dst := some 15, op := Op.move (Operand.tmp 3), type := 22, pos := "l16_chains.go:61", after := #[], guard := none }) (v := ?_) rfl (by kernel_rfl) (by kernel_rfl) (by kernel_rfl) (fun _ _ _ h => h) (Or.inl ⟨by rfl, ?hy⟩) hHeld ?_
      case hy => (intro w' hSw; (try dsimp only at hSw); go_simp; try with_reducible rfl)
      simp only [Act.put, List.setIfInBounds_toArray, List.set_cons_zero, List.set_cons_succ]
      refine wpAnyH_take (i := 1) (oi := { dst := some 16, op := Op.move (Operand.tmp 0), type := 46, pos := "l16_chains.go:61", after := #[], guard := none }) (v := ?_) rfl (by kernel_rfl) (by kernel_rfl) (by kernel_rfl) (fun _ _ _ h => h) (Or.inl ⟨by rfl, ?hy⟩) hHeld ?_
      case hy => (intro w' hSw; (try dsimp only at hSw); go_simp; try with_reducible rfl)
      simp only [Act.put, List.setIfInBounds_toArray, List.set_cons_zero, List.set_cons_succ]
      refine wpAnyH_take (i := 2) (oi := { dst := some 17, op := Op.nilCheck (Operand.tmp 16), type := 0, pos := "l16_chains.go:61", after := #[{ on := 1, ground := Ground.data }], guard := none }) (v := ?_) rfl (by kernel_rfl) (by kernel_rfl) (by kernel_rfl) (fun _ _ _ h => h) (Or.inl ⟨by rfl, ?hy⟩) hHeld ?_
      case hy => (intro w' hSw; (try dsimp only at hSw); go_simp; try with_reducible rfl)
      simp only [Act.put, List.setIfInBounds_toArray, List.set_cons_zero, List.set_cons_succ]
      refine wpAnyH_take (i := 3) (oi := { dst := some 18, op := Op.fieldAddr 51 (Operand.tmp 17) 1, type := 0, pos := "l16_chains.go:61", after := #[{ on := 2, ground := Ground.data }], guard := none }) (v := ?_) rfl (by kernel_rfl) (by kernel_rfl) (by kernel_rfl) (fun _ _ _ h => h) (Or.inl ⟨by rfl, ?hy⟩) hHeld ?_
      case hy => (intro w' hSw; (try dsimp only at hSw); go_simp; try with_reducible rfl)
      simp only [Act.put, List.setIfInBounds_toArray, List.set_cons_zero, List.set_cons_succ]
      refine wpAnyH_take (i := 4) (oi := { dst := some 19, op := Op.load 49 (Operand.tmp 18), type := 49, pos := "l16_chains.go:61", after := #[{ on := 3, ground := Ground.data }], guard := none }) (v := ?_) rfl (by kernel_rfl) (by kernel_rfl) (by kernel_rfl) (fun _ _ _ h => h) (Or.inl ⟨by rfl, ?hy⟩) hHeld ?_
      case hy => (intro w' hSw; (try dsimp only at hSw); go_simp; try with_reducible rfl)
      simp only [Act.put, List.setIfInBounds_toArray, List.set_cons_zero, List.set_cons_succ]
      refine wpAnyH_take (i := 5) (oi := { dst := some 20, op := Op.move (Operand.tmp 4), type := 2, pos := "l16_chains.go:61", after := #[], guard := none }) (v := ?_) rfl (by kernel_rfl) (by kernel_rfl) (by kernel_rfl) (fun _ _ _ h => h) (Or.inl ⟨by rfl, ?hy⟩) hHeld ?_
      case hy => (intro w' hSw; (try dsimp only at hSw); go_simp; try with_reducible rfl)
      simp only [Act.put, List.setIfInBounds_toArray, List.set_cons_zero, List.set_cons_succ]
      refine wpAnyH_take (i := 6) (oi := { dst := some 21, op := Op.move (Operand.tmp 0), type := 46, pos := "l16_chains.go:61", after := #[], guard := none }) (v := ?_) rfl (by kernel_rfl) (by kernel_rfl) (by kernel_rfl) (fun _ _ _ h => h) (Or.inl ⟨by rfl, ?hy⟩) hHeld ?_
      case hy => (intro w' hSw; (try dsimp only at hSw); go_simp; try with_reducible rfl)
      simp only [Act.put, List.setIfInBounds_toArray, List.set_cons_zero, List.set_cons_succ]
      refine wpAnyH_take (i := 7) (oi := { dst := some 22, op := Op.nilCheck (Operand.tmp 21), type := 0, pos := "l16_chains.go:61", after := #[{ on := 6, ground := Ground.data }], guard := none }) (v := ?_) rfl (by kernel_rfl) (by kernel_rfl) (by kernel_rfl) (fun _ _ _ h => h) (Or.inl ⟨by rfl, ?hy⟩) hHeld ?_
      case hy => (intro w' hSw; (try dsimp only at hSw); go_simp; try with_reducible rfl)
      simp only [Act.put, List.setIfInBounds_toArray, List.set_cons_zero, List.set_cons_succ]
      refine wpAnyH_take (i := 8) (oi := { dst := some 23, op := Op.fieldAddr 51 (Operand.tmp 22) 0, type := 0, pos := "l16_chains.go:61", after := #[{ on := 7, ground := Ground.data }], guard := none }) (v := ?_) rfl (by kernel_rfl) (by kernel_rfl) (by kernel_rfl) (fun _ _ _ h => h) (Or.inl ⟨by rfl, ?hy⟩) hHeld ?_
      case hy => (intro w' hSw; (try dsimp only at hSw); go_simp; try with_reducible rfl)
      simp only [Act.put, List.setIfInBounds_toArray, List.set_cons_zero, List.set_cons_succ]
      refine wpAnyH_take (i := 9) (oi := { dst := some 24, op := Op.fieldAddr 25 (Operand.tmp 23) 1, type := 0, pos := "l16_chains.go:61", after := #[{ on := 8, ground := Ground.data }], guard := none }) (v := ?_) rfl (by kernel_rfl) (by kernel_rfl) (by kernel_rfl) (fun _ _ _ h => h) (Or.inl ⟨by rfl, ?hy⟩) hHeld ?_
      case hy => (intro w' hSw; (try dsimp only at hSw); go_simp; try with_reducible rfl)
      simp only [Act.put, List.setIfInBounds_toArray, List.set_cons_zero, List.set_cons_succ]
      refine wpAnyH_take (i := 10) (oi := { dst := some 25, op := Op.load 2 (Operand.tmp 24), type := 2, pos := "l16_chains.go:61", after := #[{ on := 9, ground := Ground.data }], guard := none }) (v := ?_) rfl (by kernel_rfl) (by kernel_rfl) (by kernel_rfl) (fun _ _ _ h => h) (Or.inl ⟨by rfl, ?hy⟩) hHeld ?_
      case hy => (intro w' hSw; (try dsimp only at hSw); go_simp; try with_reducible rfl)
      simp only [Act.put, List.setIfInBounds_toArray, List.set_cons_zero, List.set_cons_succ]
      refine wpAnyH_take (i := 11) (oi := { dst := some 26, op := Op.binOp BinOp.mul 2 (Operand.tmp 20) (Operand.tmp 25) 2, type := 2, pos := "l16_chains.go:61", after := #[{ on := 5, ground := Ground.data }, { on := 10, ground := Ground.data }], guard := none }) (v := ?_) rfl (by kernel_rfl) (by kernel_rfl) (by kernel_rfl) (fun _ _ _ h => h) (Or.inl ⟨by rfl, ?hy⟩) hHeld ?_
      case hy => (intro w' hSw; (try dsimp only at hSw); go_simp; try with_reducible rfl)
      simp only [Act.put, List.setIfInBounds_toArray, List.set_cons_zero, List.set_cons_succ]
      refine wpAnyH_take (i := 12) (oi := { dst := some 27, op := Op.move (Operand.tmp 4), type := 2, pos := "l16_chains.go:61", after := #[], guard := none }) (v := ?_) rfl (by kernel_rfl) (by kernel_rfl) (by kernel_rfl) (fun _ _ _ h => h) (Or.inl ⟨by rfl, ?hy⟩) hHeld ?_
      case hy => (intro w' hSw; (try dsimp only at hSw); go_simp; try with_reducible rfl)
      simp only [Act.put, List.setIfInBounds_toArray, List.set_cons_zero, List.set_cons_succ]
      refine wpAnyH_take (i := 13) (oi := { dst := some 28, op := Op.binOp BinOp.add 2 (Operand.tmp 27) (Operand.const (Value.int IntKind.i64 1)) 2, type := 2, pos := "l16_chains.go:61", after := #[{ on := 12, ground := Ground.data }], guard := none }) (v := ?_) rfl (by kernel_rfl) (by kernel_rfl) (by kernel_rfl) (fun _ _ _ h => h) (Or.inl ⟨by rfl, ?hy⟩) hHeld ?_
      case hy => (intro w' hSw; (try dsimp only at hSw); go_simp; try with_reducible rfl)
      simp only [Act.put, List.setIfInBounds_toArray, List.set_cons_zero, List.set_cons_succ]
      refine wpAnyH_take (i := 14) (oi := { dst := some 29, op := Op.move (Operand.tmp 0), type := 46, pos := "l16_chains.go:61", after := #[], guard := none }) (v := ?_) rfl (by kernel_rfl) (by kernel_rfl) (by kernel_rfl) (fun _ _ _ h => h) (Or.inl ⟨by rfl, ?hy⟩) hHeld ?_
      case hy => (intro w' hSw; (try dsimp only at hSw); go_simp; try with_reducible rfl)
      simp only [Act.put, List.setIfInBounds_toArray, List.set_cons_zero, List.set_cons_succ]
      refine wpAnyH_take (i := 15) (oi := { dst := some 30, op := Op.nilCheck (Operand.tmp 29), type := 0, pos := "l16_chains.go:61", after := #[{ on := 14, ground := Ground.data }], guard := none }) (v := ?_) rfl (by kernel_rfl) (by kernel_rfl) (by kernel_rfl) (fun _ _ _ h => h) (Or.inl ⟨by rfl, ?hy⟩) hHeld ?_
      case hy => (intro w' hSw; (try dsimp only at hSw); go_simp; try with_reducible rfl)
      simp only [Act.put, List.setIfInBounds_toArray, List.set_cons_zero, List.set_cons_succ]
      refine wpAnyH_take (i := 16) (oi := { dst := some 31, op := Op.fieldAddr 51 (Operand.tmp 30) 0, type := 0, pos := "l16_chains.go:61", after := #[{ on := 15, ground := Ground.data }], guard := none }) (v := ?_) rfl (by kernel_rfl) (by kernel_rfl) (by kernel_rfl) (fun _ _ _ h => h) (Or.inl ⟨by rfl, ?hy⟩) hHeld ?_
      case hy => (intro w' hSw; (try dsimp only at hSw); go_simp; try with_reducible rfl)
      simp only [Act.put, List.setIfInBounds_toArray, List.set_cons_zero, List.set_cons_succ]
      refine wpAnyH_take (i := 17) (oi := { dst := some 32, op := Op.fieldAddr 25 (Operand.tmp 31) 1, type := 0, pos := "l16_chains.go:61", after := #[{ on := 16, ground := Ground.data }], guard := none }) (v := ?_) rfl (by kernel_rfl) (by kernel_rfl) (by kernel_rfl) (fun _ _ _ h => h) (Or.inl ⟨by rfl, ?hy⟩) hHeld ?_
      case hy => (intro w' hSw; (try dsimp only at hSw); go_simp; try with_reducible rfl)
      simp only [Act.put, List.setIfInBounds_toArray, List.set_cons_zero, List.set_cons_succ]
      refine wpAnyH_take (i := 18) (oi := { dst := some 33, op := Op.load 2 (Operand.tmp 32), type := 2, pos := "l16_chains.go:61", after := #[{ on := 17, ground := Ground.data }], guard := none }) (v := ?_) rfl (by kernel_rfl) (by kernel_rfl) (by kernel_rfl) (fun _ _ _ h => h) (Or.inl ⟨by rfl, ?hy⟩) hHeld ?_
      case hy => (intro w' hSw; (try dsimp only at hSw); go_simp; try with_reducible rfl)
      simp only [Act.put, List.setIfInBounds_toArray, List.set_cons_zero, List.set_cons_succ]
      refine wpAnyH_take (i := 19) (oi := { dst := some 34, op := Op.binOp BinOp.mul 2 (Operand.tmp 28) (Operand.tmp 33) 2, type := 2, pos := "l16_chains.go:61", after := #[{ on := 13, ground := Ground.data }, { on := 18, ground := Ground.data }], guard := none }) (v := ?_) rfl (by kernel_rfl) (by kernel_rfl) (by kernel_rfl) (fun _ _ _ h => h) (Or.inl ⟨by rfl, ?hy⟩) hHeld ?_
      case hy => (intro w' hSw; (try dsimp only at hSw); go_simp; try with_reducible rfl)
      simp only [Act.put, List.setIfInBounds_toArray, List.set_cons_zero, List.set_cons_succ]
      refine wpAnyH_take (i := 20) (oi := { dst := some 35, op := Op.slice 49 (Operand.tmp 19) (some (Operand.tmp 26)) (some (Operand.tmp 34)) none, type := 49, pos := "l16_chains.go:61", after := #[{ on := 4, ground := Ground.data }, { on := 11, ground := Ground.data }, { on := 19, ground := Ground.data }], guard := none }) (v := ?_) rfl (by kernel_rfl) (by kernel_rfl) (by kernel_rfl) (fun _ _ _ h => h) (Or.inl ⟨by rfl, ?hy⟩) hHeld ?_
      case hy => (intro w' hSw; (try dsimp only at hSw); go_simp; try with_reducible rfl)
      simp only [Act.put, List.setIfInBounds_toArray, List.set_cons_zero, List.set_cons_succ]
      refine wpAnyH_take (i := 21) (oi := { dst := some 36, op := Op.convert 49 9 (Operand.tmp 35), type := 9, pos := "l16_chains.go:61", after := #[{ on := 20, ground := Ground.data }], guard := none }) (v := ?_) rfl (by kernel_rfl) (by kernel_rfl) (by kernel_rfl) (fun _ _ _ h => h) (Or.inl ⟨by rfl, ?hy⟩) hHeld ?_
      case hy => (intro w' hSw; (try dsimp only at hSw); have hq := CV.out w' hSw.2.2; go_simp; try (with_reducible rfl))
      simp only [Act.put, List.setIfInBounds_toArray, List.set_cons_zero, List.set_cons_succ]
      refine wpAnyH_ready (rs := [22]) (by kernel_rfl) (by simp) ?_
      refine AllReadyH.cons (o := { dst := some 37, op := Op.buildSlice 22 1 #[(0, Operand.tmp 36)], type := 22, pos := "l16_chains.go:61", after := #[{ on := 21, ground := Ground.data }], guard := none }) rfl (fun K hK => ?_) AllReadyH.nil
      go_simp
      refine hK.out _ _ (KS.out _ ((Below.refl w.heap.size wr).alloc hbz (.cells #[.string ⟨cl.toArray⟩] 9)).drew) (fun hHeld => ?_)
      clear hK K
      try simp only [Act.put, List.setIfInBounds_toArray, List.set_cons_zero, List.set_cons_succ]
      refine wpAnyH_ready (rs := [23]) (by kernel_rfl) (by simp) ?_
      refine AllReadyH.cons (o := { dst := some 38, op := Op.call { callee := Callee.builtin Builtin.append, args := #[Operand.tmp 15, Operand.tmp 37], argTypes := #[22, 22] }, type := 22, pos := "l16_chains.go:61", after := #[{ on := 0, ground := Ground.data }, { on := 22, ground := Ground.data }], guard := none }) rfl (fun K hK => ?_) AllReadyH.nil
      refine wp_appendS _ _ rfl rfl HO.out ⟨cl.toArray⟩ ⟨wr.heap.size, 0, none⟩ 1 rfl (World.news_of_block (cs := #[.string ⟨cl.toArray⟩]) (t := 9) (fr := (0, 0)) HN.out) hll (show w.heap.size ≤ (wr.alloc _).heap.size by simp; omega) ?_
      intro g4 cap4 w4 hown4 hb4
      have HB4 := Lib.hid (HB.out.trans (Below.trans (((Below.refl w.heap.size wr).alloc hbz (.cells #[.string ⟨cl.toArray⟩] 9)).drew) hb4))
      have HK4 := Lib.hid (Below.trans (((Below.refl w.heap.size wr).alloc hbz (.cells #[.string ⟨cl.toArray⟩] 9)).drew) hb4)
      have HO4 := Lib.hid hown4
      clear hown4 hb4
      go_simp
      skip
      go_wp2_with fail
      refine hK.out _ _ (KS.out _ HK4.out) (fun hHeld => ?_)
      clear hK K
      try simp only [Act.put, List.setIfInBounds_toArray, List.set_cons_zero, List.set_cons_succ]
      refine wpAnyH_take (i := 24) (oi := { dst := some 3, op := Op.assign (Operand.tmp 38), type := 22, pos := "l16_chains.go:61", after := #[{ on := 23, ground := Ground.data }, { on := 23, ground := Ground.chain }, { on := 0, ground := Ground.phase }, { on := 1, ground := Ground.phase }, { on := 2, ground := Ground.phase }, { on := 3, ground := Ground.phase }, { on := 4, ground := Ground.phase }, { on := 5, ground := Ground.phase }, { on := 6, ground := Ground.phase }, { on := 7, ground := Ground.phase }, { on := 8, ground := Ground.phase }, { on := 9, ground := Ground.phase }, { on := 10, ground := Ground.phase }, { on := 11, ground := Ground.phase }, { on := 12, ground := Ground.phase }, { on := 13, ground := Ground.phase }, { on := 14, ground := Ground.phase }, { on := 15, ground := Ground.phase }, { on := 16, ground := Ground.phase }, { on := 17, ground := Ground.phase }, { on := 18, ground := Ground.phase }, { on := 19, ground := Ground.phase }, { on := 20, ground := Ground.phase }, { on := 21, ground := Ground.phase }, { on := 22, ground := Ground.phase }, { on := 23, ground := Ground.phase }], guard := none }) (v := ?_) rfl (by kernel_rfl) (by kernel_rfl) (by kernel_rfl) (fun _ _ _ h => h) (Or.inl ⟨by rfl, ?hy⟩) hHeld ?_
      case hy => (intro w' hSw; (try dsimp only at hSw); go_simp; try with_reducible rfl)
      simp only [Act.put, List.setIfInBounds_toArray, List.set_cons_zero, List.set_cons_succ]
      refine wpAnyH_done (by kernel_rfl) ?_ _
      clear hHeld KS CV HN HO HK4
      clear m1 m2 w1 w2 w3 p1 p2 p3 p4
      go_wp2
      go_roundw
      case rel => exact ⟨k + 1, by omega, by go_num, by rw [HU.out]; exact HO4.out, HB4.out⟩
      case measure => simp [intOf]; omega
    · obtain rfl : k = n := by omega
      have e1 : ¬ (k : Int) < (k : Int) := by omega
      have HB := Lib.hid hb
      clear hb hd
      go_wp2
      go_ret
      exact RecRes.of hown HB.out
end Go.Proofs.YthcbekfgkbhpeaaDoor
