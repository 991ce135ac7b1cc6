/- impl.DecodeGcr -/
import Derived.Test.YtkdhhkoablmbbabDoorGroupsIn
import Derived.Test.YtkdhhkoablmbbabDoorBuilderKept
import Derived.Test.YtkdhhkoablmbbabDoorSpecDecGcr
import Derived.Test.YtkdhhkoablmbbabDoorRoundDig
import Derived.Test.YtkdhhkoablmbbabDoorBuilderStr
import Derived.Test.YtkdhhkoablmbbabDoorDecode
namespace Go.Proofs.YtkdhhkoablmbbabDoor
open Go.RowKit
set_option linter.unusedVariables false
open Go.Shelf
attribute [local go_sem] Oper.semAt_some
/-- The digits of some groups. -/
def hexL (s : ByteArray) {N : Nat} (ys : List (Fin N)) : List UInt8 := ys.map fun x => hexd (gd s x.val).toNat
theorem hexL_snoc (s : ByteArray) {N : Nat} (pre : List (Fin N)) (x : Fin N) : hexL s (pre ++ [x]) = hexL s pre ++ [hexd (gd s x.val).toNat] := by simp [hexL]
theorem hexL_len (s : ByteArray) {N : Nat} (pre : List (Fin N)) : (hexL s pre).length = pre.length := by simp [hexL]
theorem rndsG_all (N : Nat) : rndsG N N = List.finRange N := by unfold rndsG; rw [List.take_of_length_le (by simp)]
theorem hexL_digAt (s : ByteArray) (N : Nat) (hN : s.size = 5 * N) (hok : gdOk s N = true) (k : Nat) : digAt dig4 ⟨(hexL s (rndsG N N)).toArray⟩ k = gd s k := by
  by_cases hk : k < N
  · have hz : k < (⟨(hexL s (rndsG N N)).toArray⟩ : ByteArray).size := by show k < (hexL s (rndsG N N)).toArray.size; rw [List.size_toArray, hexL_len, rndsG_length (Nat.le_refl _)]; exact hk
    rw [digAt_eq _ _ _ hz]
    have e : (⟨(hexL s (rndsG N N)).toArray⟩ : ByteArray)[k] = hexd (gd s k).toNat := by
      show (hexL s (rndsG N N)).toArray[k] = _
      simp [hexL, rndsG_all]
    rw [e]
    unfold gdOk at hok
    rw [List.all_eq_true] at hok
    have h0 := hok k (List.mem_range.2 hk)
    have h0' : 0 ≤ gd s k := by simpa using h0
    have hb := gd_bd s k
    have := dig4_hexd ⟨(gd s k).toNat, by omega⟩
    rw [this]
    show ((gd s k).toNat : Int) = _
    omega
  · have e1 : digAt dig4 ⟨(hexL s (rndsG N N)).toArray⟩ k = -1 := by
      unfold digAt
      have hz : ¬ k < (⟨(hexL s (rndsG N N)).toArray⟩ : ByteArray).size := by show ¬ k < (hexL s (rndsG N N)).toArray.size; rw [List.size_toArray, hexL_len, rndsG_length (Nat.le_refl _)]; exact hk
      rw [getElem?_neg _ k hz]; rfl
    rw [e1]
    unfold gd gcrVV
    rw [if_neg]
    intro h
    unfold grpOk at h
    simp only [Bool.and_eq_true, decide_eq_true_eq] at h
    have := h.1
    unfold subS at this
    rw [ByteArray.size_extract] at this
    omega
theorem hexL_all (s : ByteArray) (N : Nat) (hN : s.size = 5 * N) (h16 : N ≤ 8192) (hc : cellStr s = true) (hok : ∀ x ∈ rndsG N N, 0 ≤ gd s x.val) : ofDig 16 2 dig4 ⟨(hexL s (rndsG N N)).toArray⟩ = dgV s := by
  have hk : gdOk s N = true := by
    unfold gdOk
    rw [List.all_eq_true]
    intro j hj
    have hj2 := List.mem_range.1 hj
    have := hok ⟨j, hj2⟩ (by rw [rndsG_all]; simp)
    simpa using this
  have hfun : digAt dig4 ⟨(hexL s (rndsG N N)).toArray⟩ = gd s := funext (hexL_digAt s N hN hk)
  have hsz : (⟨(hexL s (rndsG N N)).toArray⟩ : ByteArray).size = N := by show (hexL s (rndsG N N)).toArray.size = _; rw [List.size_toArray, hexL_len, rndsG_length (Nat.le_refl _)]
  unfold ofDig dgV
  rw [hsz]
  have hq : s.size / 5 = N := by omega
  rw [hq]
  by_cases h2 : N % 2 = 0
  · have : digOk dig4 ⟨(hexL s (rndsG N N)).toArray⟩ N = true := by unfold digOk; rw [hfun]; exact hk
    rw [if_pos ⟨h2, by omega⟩, if_pos this, hfun, if_pos ⟨hc, by omega⟩, if_pos hk]
  · rw [if_neg (fun h => h2 h.1), if_neg (fun h => by have := h.2; omega)]
theorem dgV_bad (s : ByteArray) (N k : Nat) (hN : s.size = 5 * N) (hk : k < N) (h : gd s k < 0) : dgV s = none := by
  unfold dgV
  have hq : s.size / 5 = N := by omega
  rw [hq, gdOk_no s N k hk h]
  split <;> rfl
theorem results_cell2 {fn : Func} {p q : Tmp} {ty ty2 : TypeId} (h : fn.results = #[.cell p ty, .cell q ty2]) (tmps : Array Value) (w : World) (g1 g2 : Nat) (t1 t2 : TypeId) (u v : Value)
    (hp : tmps.getD p undef = .pointer (some ⟨g1, 0, none⟩)) (hq : tmps.getD q undef = .pointer (some ⟨g2, 0, none⟩)) (h1 : w.heap[g1]? = some (.cells #[u] t1 (0, 0))) (h2 : w.heap[g2]? = some (.cells #[v] t2 (0, 0)))
    {d1 d2 : TypeDesc} (hu1 : Tryd.prog.underlying ty = some d1) (hu2 : Tryd.prog.underlying ty2 = some d2) (ha1 : (match d1 with | .struct _ | .array _ _ => true | _ => false) = false := by rfl) (ha2 : (match d2 with | .struct _ | .array _ _ => true | _ => false) = false := by rfl) :
    (results fn tmps).run Tryd.prog w = .ok (.tuple #[u, v]) w := by
  have hp' : tmps[p]?.getD undef = .pointer (some ⟨g1, 0, none⟩) := by simpa using hp
  have hq' : tmps[q]?.getD undef = .pointer (some ⟨g2, 0, none⟩) := by simpa using hq
  have a1 : (isAgg ty).run Tryd.prog w = .ok false w := by
    unfold isAgg
    rw [Sem.run_bind, run_underlying hu1 w]
    simp only [Result.andThen_ok]
    cases d1 <;> first | rfl | cases ha1
  have a2 : (isAgg ty2).run Tryd.prog w = .ok false w := by
    unfold isAgg
    rw [Sem.run_bind, run_underlying hu2 w]
    simp only [Result.andThen_ok]
    cases d2 <;> first | rfl | cases ha2
  have c1 : w.cell? ⟨g1, 0, none⟩ = some u := by simp [World.cell?, h1]
  have c2 : w.cell? ⟨g2, 0, none⟩ = some v := by simp [World.cell?, h2]
  simp [results, h, hp', hq', asAddr, loadVar, Sem.run_bind, a1, a2, c1, c2, go_sem]
theorem ownFrom_const {β : Type} {B : Nat} (p : β → Prop) : OwnFrom B (fun (s : β) (_ : World) => p s) := fun _ _ _ _ hs _ _ => hs
set_option maxRecDepth 100000 in
set_option maxHeartbeats 4000000 in
theorem decodeGcr_in (s : ByteArray) (h : s.size ≤ 1048576) (hc : cellStr s = true) (h5 : s.size % 5 = 0) (w : World) (hw : 0 < w.heap.size) (ht : GrpTab w) :
    CallsIn Fence.wide 3 Tryd.prog 19 #[.string s] w fun e w' => e = .returned (ofDigText (dgV s)) ∧ Below w.heap.size w w' := by
  have hgs := fun w => isGroupString_any s h w
  have e : (cellStr s && decide (s.size % 5 = 0)) = true := by simp [hc, h5]
  rw [e] at hgs
  have hs8 := cellStr_size hc
  obtain ⟨N, hN⟩ : ∃ N, s.size / 5 = N := ⟨_, rfl⟩
  have hN5 : s.size = 5 * N := by omega
  have HC := Lib.hid (And.intro hc hN5)
  have HS := Lib.hid hs8
  have HGS := Lib.hid hgs
  have HT := Lib.hid ht
  clear hgs e hc h5 hN hN5 ht
  refine callsIn_of_wp_marks Tryd.func19 rfl trivial ?_ rfl
  simp only [Tryd.ntmps19, List.size_toArray, List.length_cons, List.length_nil, Nat.reduceAdd, Nat.reduceSub, Array.replicate_succ, Array.replicate_zero, List.push_toArray, List.append_toArray, List.nil_append, List.cons_append]
  gi_wp2_with fail
  refine ⟨trivial, (callsIn_wide.2 (HGS.out _)).mono ?_⟩
  rintro e w1 ⟨rfl, hb1⟩
  have R0 := (Boxed.new w 9 (.string ⟨#[]⟩)).alloc (.cells #[.bool false] 4)
  have R1 := Boxed.new (w.alloc (.cells #[.string ⟨#[]⟩] 9)) 4 (.bool false)
  rw [World.size_alloc] at R1
  have hb0 : Below w.heap.size w ((w.alloc (.cells #[.string ⟨#[]⟩] 9)).alloc (.cells #[.bool false] 4)) := ((Below.refl _ w).alloc (Nat.le_refl _) _).alloc (by simp) _
  have hz0 : ((w.alloc (.cells #[.string ⟨#[]⟩] 9)).alloc (.cells #[.bool false] 4)).heap.size = w.heap.size + 2 := by simp
  have hbt1 := hb0.trans (hb1.mono (by omega))
  gi_wp2_with fail
  refine ⟨trivial, (callsIn_wide.2 (groupValues_any w1 (Nat.lt_of_lt_of_le hw hbt1.size) (HT.out.below hbt1 hw))).mono ?_⟩
  rintro e w2 ⟨rfl, hb2⟩
  have hs1 := hb1.size
  have hs2 := hb2.size
  have P0 : Boxed w2 w.heap.size 9 (.string ⟨#[]⟩) := ((hb2.block _ (by omega)).trans (hb1.block _ (by omega))).trans R0
  have P1 : Boxed w2 (w.heap.size + 1) 4 (.bool false) := ((hb2.block _ (by omega)).trans (hb1.block _ (by omega))).trans R1
  have h12 := hbt1.trans (hb2.mono hbt1.size)
  have hsz2 : w.heap.size + 2 ≤ w2.heap.size := by omega
  clear R0 R1 hb0 hz0 hbt1 hb1 hb2 hs1 hs2
  have HV0 := Lib.hid (heap_alloc_new w2 (.cells z32 46))
  gi_wp2_with (refine wpListIn_store_rowTo _ rfl 46 _ _ rfl rfl w2.heap.size valsV rfl rfl 46 z32 HV0.out (by kernel_rfl) (by rw [zero32]; rfl) vals_one ?_)
  clear HV0
  refine ⟨trivial, (groupsIn_in _ s _).mono ?_⟩
  rintro e w3 ⟨rfl, rfl⟩
  gi_wp2
  obtain ⟨i0, hi, hz0, hz1, hz2⟩ := info_parts i64info
  have bA0 := cellsAt_row32 w2
  have hsz0 : ((w2.alloc (.cells z32 46)).setRow w2.heap.size valsV).heap.size = w2.heap.size + 1 := by rw [size_setRow, World.size_alloc]
  have hB00 : Below w2.heap.size w2 ((w2.alloc (.cells z32 46)).setRow w2.heap.size valsV) := below_setRow ((Below.refl _ w2).alloc (Nat.le_refl _) _) (Nat.le_refl _) _
  show Code.wpIn _ _ _ _ _ _ ((((w2.alloc (.cells z32 46)).setRow w2.heap.size valsV).alloc (.cells #[.pointer none, .slice none 0 0] 51)).alloc (.cells #[.string s] 9))
  generalize (w2.alloc (.cells z32 46)).setRow w2.heap.size valsV = WA at *
  have bO1 := Bld.fresh WA
  have bN := Boxed.new (WA.alloc (.cells #[.pointer none, .slice none 0 0] 51)) 9 (.string s)
  rw [World.size_alloc, hsz0] at bN
  rw [hsz0] at bO1
  have bO : Bld (w2.heap.size + 1) (w2.heap.size + 1) [] ((WA.alloc (.cells #[.pointer none, .slice none 0 0] 51)).alloc (.cells #[.string s] 9)) := bO1.same (fun k _ hk => Below.heap_alloc _ _ _ hk)
  have bA : ((WA.alloc (.cells #[.pointer none, .slice none 0 0] 51)).alloc (.cells #[.string s] 9)).heap[w2.heap.size]? = some (.cells valsV 46 (0, 0)) := by
    rw [Below.heap_alloc _ _ _ (by rw [World.size_alloc]; omega), Below.heap_alloc _ _ _ (by omega)]; exact bA0
  have hB0 : Below w2.heap.size w2 ((WA.alloc (.cells #[.pointer none, .slice none 0 0] 51)).alloc (.cells #[.string s] 9)) := (hB00.alloc hB00.size _).alloc (by rw [World.size_alloc]; have := hB00.size; omega) _
  have hszW : ((WA.alloc (.cells #[.pointer none, .slice none 0 0] 51)).alloc (.cells #[.string s] 9)).heap.size = w2.heap.size + 3 := by rw [World.size_alloc, World.size_alloc, hsz0]
  generalize (WA.alloc (.cells #[.pointer none, .slice none 0 0] 51)).alloc (.cells #[.string s] 9) = W0 at *
  clear bO1 bA0 hsz0 hB00 WA
  refine wpIn_rangeFunc_ownG rfl (by decide) (gf := 60) (lb := #[.pointer (some ⟨w2.heap.size + 1 + 1, 0, none⟩)]) rfl trivial (enters_of Tryd.func60 (by kernel_rfl) rfl)
    (groups_stops 2 (w2.heap.size + 1 + 1) s N HC.out.1 HC.out.2 W0 bN) KB.trans (kb_obj bN.lt) (Below.refl _ _) (fun _ => rfl)
    (fun pre W => (∀ x ∈ pre, 0 ≤ gd s x.val) ∧ Bld (w2.heap.size + 1) (w2.heap.size + 1) (hexL s pre) W ∧ cellsG W w2.heap.size valsV 46 ∧ cellsG W (w2.heap.size + 1 + 1) #[.string s] 9 ∧ Below w2.heap.size w2 W)
    (fun c pre W => c = .ret ∧ (∃ k, k < N ∧ gd s k < 0) ∧ cellsG W w.heap.size #[.string ⟨#[]⟩] 9 ∧ cellsG W (w.heap.size + 1) #[.bool false] 4 ∧ Below w.heap.size w W)
    (OwnFrom.and (ownFrom_const _) (OwnFrom.and (Bld.own _ _ (fun pre => hexL s pre) _)
      (OwnFrom.and (Own.from (cellsG_own (fun _ => _) _ _) _) (OwnFrom.and (Own.from (cellsG_own (fun _ => _) _ _) _) (ownFrom_below (Nat.le_refl _) (by omega))))))
    (fun c => OwnFrom.and (ownFrom_const (fun _ => c = .ret)) (OwnFrom.and (ownFrom_const (fun _ => _))
      (OwnFrom.and (Own.from (cellsG_own (fun _ => _) _ _) _) (OwnFrom.and (Own.from (cellsG_own (fun _ => _) _ _) _) (ownFrom_below (Nat.le_refl _) (by omega))))))
    ⟨fun x hx => absurd hx (List.not_mem_nil), bO, bA, bN, hB0⟩
    (fun x => { tmps := #[.string s, undef, .pointer (some ⟨w.heap.size, 0, none⟩), .pointer (some ⟨w.heap.size + 1, 0, none⟩), .pointer (some ⟨w2.heap.size, 0, none⟩), .pointer (some ⟨w2.heap.size + 1, 0, none⟩), undef, .int .u8 (gP (subS s x.val) 5), .string s, .bool true, .bool false, .agg valsV, .string s, .func (.func 60) #[] #[.pointer (some ⟨w2.heap.size + 1 + 1, 0, none⟩)], .int .i64 (x.val : Int), .int .u8 (gP (subS s x.val) 5), undef, undef, undef, undef, undef, undef, undef, undef, undef, undef, undef, undef, undef], defers := [] }) ?assign ?body ?done ?stop
  case assign =>
    intro l x W K hK
    dsimp only [grpEnc]
    gi_wp2
    exact hK
  case body =>
    rintro l pre x W ⟨hok, hbd, hA, hN, hB⟩ hlt
    have hxl := x.isLt
    have hk5 : 5 * x.val + 5 ≤ s.size := by have := HC.out.2; omega
    obtain ⟨y, hy, eg, ev⟩ := gcrVV_of (subS_ok HC.out.1 x.val hk5)
    have hbnd := valN_bd y hy
    have HE := Lib.hid (show gd s x.val = valN y from ev)
    rw [eg]
    clear eg ev hk5
    have hN8 : N ≤ 1000000 := by have := HC.out.2; omega
    have hpl : (hexL s pre).length < 1000000 := by rw [hexL_len]; omega
    have hcy : W.cell? ⟨w2.heap.size, y, none⟩ = some (.int .i64 (valN y)) := by
      simp only [World.cell?]; rw [show W.heap[w2.heap.size]? = _ from hA]; exact vals_at y hy
    have HAN := Lib.hid (And.intro hA (And.intro hN hok)); clear hA hN hok
    have Q0 : Boxed W w.heap.size 9 (.string ⟨#[]⟩) := (hB.block _ (by omega)).trans P0
    have Q1 : Boxed W (w.heap.size + 1) 4 (.bool false) := (hB.block _ (by omega)).trans P1
    have hszB := hB.size
    generalize valN y = z at *
    by_cases hz : z < 0
    · have k0 := Q0.cell
      have k1 := Q0.frozen
      have k2 := Q1.cell
      have k3 := Q1.frozen
      have HQ := Lib.hid (And.intro Q0 Q1); clear Q0 Q1
      have HB := Lib.hid (And.intro hbd hB); clear hbd hB
      gi_wp2
      have q0 := HQ.out.1.set (.string ⟨#[]⟩)
      have q1 := (show Boxed (W.setCell ⟨w.heap.size, 0, none⟩ (.string ⟨#[]⟩)) (w.heap.size + 1) 4 (.bool false) from (Below.heap_setCell _ _ _ _ (by simp)).trans HQ.out.2).set (.bool false)
      have q0' := (show Boxed ((W.setCell ⟨w.heap.size, 0, none⟩ (.string ⟨#[]⟩)).setCell ⟨w.heap.size + 1, 0, none⟩ (.bool false)) w.heap.size 9 (.string ⟨#[]⟩) from (Below.heap_setCell _ _ _ _ (by simp)).trans q0)
      exact ⟨((KeepsOthers.setCell _ _ _).trans (KeepsOthers.setCell _ _ _)).from _, rfl, ⟨x.val, hxl, by rw [HE.out]; exact hz⟩, q0', q1, ((h12.trans (HB.out.2.mono (by omega))).setCell (p := ⟨w.heap.size, 0, none⟩) (Nat.le_refl _) _).setCell (p := ⟨w.heap.size + 1, 0, none⟩) (Nat.le_succ _) _⟩
    · obtain ⟨m, rfl⟩ : ∃ m : Nat, z = (m : Int) := ⟨z.toNat, by omega⟩
      have hm : m < 16 := by omega
      have hmi : (m : Int) < 16 := by omega
      have hd := hexd_at hm
      have bd := byte_bd (hexd m)
      have hbm : ¬ (m : Int) < 0 := by omega
      clear Q0 Q1
      have HB := Lib.hid hB; clear hB
      have HD := Lib.hid hbd; clear hbd
      gi_wp2_with fail
      refine ⟨trivial, (callsIn_wide.2 (writeByteK_any (w2.heap.size + 1) (w2.heap.size + 1) (hexL s pre) ((hexd m).toNat : Int) W bd.1 bd.2 HD.out (by omega) (by have := (Array.getElem?_eq_some_iff.1 HAN.out.2.1).1; omega))).mono ?_⟩
      rintro e w3 ⟨rfl, hB3, hb3, hk3⟩
      rw [byte_back] at hB3
      gi_wp2
      have hx0 : gd s x.val = (m : Int) := HE.out
      have nA : ∀ (c : Array Value) (fz : Nat × Nat), Obj.cells valsV 46 (0, 0) ≠ .cells c 5 fz := by intro c fz h; injection h with _ h2 _; exact absurd h2 (by decide)
      have nS : ∀ (c : Array Value) (fz : Nat × Nat), Obj.cells #[.string s] 9 (0, 0) ≠ .cells c 5 fz := by intro c fz h; injection h with _ h2 _; exact absurd h2 (by decide)
      have hA3 : cellsG w3 w2.heap.size valsV 46 := hk3 _ _ HAN.out.1 (by simp) nA
      have hN3 : cellsG w3 (w2.heap.size + 1 + 1) #[.string s] 9 := hk3 _ _ HAN.out.2.1 (by simp) nS
      refine ⟨⟨hb3.size, fun k o hk ho hnc => hk3 k o ho (fun e => by have := Option.some.inj e; have := hszW; omega) (fun c fz e => by subst e; cases hnc)⟩, Eq.trans hN3 (Eq.symm HAN.out.2.1), ?_, ?_, hA3, hN3, HB.out.trans (hb3.mono (Nat.le_succ _))⟩
      · intro x' hx'
        rcases List.mem_append.1 hx' with h1 | h1
        · exact HAN.out.2.2 x' h1
        · rw [List.mem_singleton.1 h1, hx0]; omega
      · rw [hexL_snoc, hx0, Int.toNat_natCast]; exact hB3
  case done =>
    rintro D ys W hD rfl ⟨hok, hbd, hA, hN, hB⟩ hK
    have hN16 : N ≤ 8192 := by have := HC.out.2; have := HS.out; omega
    have hall := hexL_all s N HC.out.2 hN16 HC.out.1 hok
    have HR := fun w => readHex_any (⟨(hexL s (rndsG N N)).toArray⟩ : ByteArray) w
    rw [hall] at HR
    obtain ⟨t, b, ht⟩ := ofDigText_parts (dgV s)
    rw [ht] at HR
    have HTT := Lib.hid ht
    have Q0 : Boxed W w.heap.size 9 (.string ⟨#[]⟩) := (hB.block _ (by omega)).trans P0
    have Q1 : Boxed W (w.heap.size + 1) 4 (.bool false) := (hB.block _ (by omega)).trans P1
    have hszB := hB.size
    have hszN := (Array.getElem?_eq_some_iff.1 hN).1
    have HRR := Lib.hid HR
    clear HR hall ht hA hN hok
    gi_wp2_with fail
    refine ⟨trivial, (callsIn_wide.2 (Tryd.Builder_String_any_k (w2.heap.size + 1) (w2.heap.size + 1) (hexL s (rndsG N N)) W (Lib.IsBuilderF.of hbd) (by omega))).mono ?_⟩
    rintro e w3 ⟨rfl, -, hb3, hk3⟩
    have hD3 : w3.heap[D]? = some (.deferred (some [])) := hk3 _ _ hK (by simp; omega) (fun c fz e => by cases e)
    gi_wp2_with fail
    refine ⟨trivial, (callsIn_wide.2 (HRR.out w3)).mono ?_⟩
    rintro e w4 ⟨rfl, hb4⟩
    have hs3 := hb3.size
    have hD4 : w4.heap[D]? = some (.deferred (some [])) := (hb4.block _ (Array.getElem?_eq_some_iff.1 hD3).1).trans hD3
    have R0 : Boxed w4 w.heap.size 9 (.string ⟨#[]⟩) := ((hb4.block _ (by omega)).trans (hb3.block _ (by omega))).trans Q0
    have R1 : Boxed w4 (w.heap.size + 1) 4 (.bool false) := ((hb4.block _ (by omega)).trans (hb3.block _ (by omega))).trans Q1
    have k0 := R0.cell
    have k1 := R0.frozen
    have k2 := R1.cell
    have k3 := R1.frozen
    gi_wp2
    have hD5 := (show ((w4.setCell ⟨w.heap.size, 0, none⟩ (.string t)).setCell ⟨w.heap.size + 1, 0, none⟩ (.bool b)).heap[D]? = some (.deferred (some [])) from (Below.heap_setCell _ _ _ _ (by simp; omega)).trans ((Below.heap_setCell _ _ _ _ (by simp; omega)).trans hD4))
    refine ⟨by simp, .inl ⟨_, _, rfl, run_takeDeferred hD5, ?_⟩⟩
    have q0 := R0.set (.string t)
    have q1 := (show Boxed (w4.setCell ⟨w.heap.size, 0, none⟩ (.string t)) (w.heap.size + 1) 4 (.bool false) from (Below.heap_setCell _ _ _ _ (by simp)).trans R1).set (.bool b)
    have q0' := (show Boxed ((w4.setCell ⟨w.heap.size, 0, none⟩ (.string t)).setCell ⟨w.heap.size + 1, 0, none⟩ (.bool b)) w.heap.size 9 (.string t) from (Below.heap_setCell _ _ _ _ (by simp)).trans q0)
    refine ⟨_, results_cell2 rfl _ _ w.heap.size (w.heap.size + 1) 9 4 _ _ rfl rfl ((World.putObj_heap_other (by omega)).trans q0') ((World.putObj_heap_other (by omega)).trans q1) Tryd.underlying9 Tryd.underlying4, ?_⟩
    refine ⟨by rw [HTT.out], ?_⟩
    have hW4 := (h12.trans (hB.mono (by omega))).trans ((hb3.mono (by omega)).trans (hb4.mono (by omega)))
    have hW5 := (hW4.setCell (p := ⟨w.heap.size, 0, none⟩) (Nat.le_refl _) (.string t)).setCell (p := ⟨w.heap.size + 1, 0, none⟩) (Nat.le_succ _) (.bool b)
    exact hW5.trans (belowK_b (w := w) (Nat.le_refl _) _ D _ _ (by omega) hD5 rfl rfl)
  case stop =>
    rintro D c pre W hD _ ⟨rfl, ⟨k, hk, hg⟩, hR0, hR1, hB⟩ hK
    have hnone := dgV_bad s N k HC.out.2 hk hg
    have hne : D ≠ w.heap.size ∧ D ≠ w.heap.size + 1 ∧ w.heap.size ≤ D := by have := hszW; omega
    gi_wp2
    refine ⟨by simp, .inl ⟨_, _, rfl, run_takeDeferred hK, ?_⟩⟩
    refine ⟨_, results_cell2 rfl _ _ w.heap.size (w.heap.size + 1) 9 4 _ _ rfl rfl ((World.putObj_heap_other (by omega)).trans hR0) ((World.putObj_heap_other (by omega)).trans hR1) Tryd.underlying9 Tryd.underlying4, ?_⟩
    exact ⟨by rw [hnone]; rfl, hB.trans (belowK_b (w := w) (Nat.le_refl _) W D _ _ (by omega) hK rfl rfl)⟩
set_option maxHeartbeats 1000000 in
theorem decodeGcr_v (s : ByteArray) (h : s.size ≤ 1048576) (w : World) (hw : 0 < w.heap.size) (ht : GrpTab w) :
    Calls Tryd.prog 19 #[.string s] w fun e w' => e = .returned (ofDigText (dgV s)) ∧ Below w.heap.size w w' := by
  have hg := fun w => isGroupString_any s h w
  obtain ⟨ok, hok⟩ : ∃ ok, (cellStr s && decide (s.size % 5 = 0)) = ok := ⟨_, rfl⟩
  rw [hok] at hg
  have HG := Lib.hid hg; clear hg
  cases ok with
  | false =>
    have hn : dgV s = none := by
      refine dgV_none fun h2 => ?_
      have h5 : s.size % 5 = 0 := by omega
      rw [h2.1] at hok
      simp [h5] at hok
    clear hok ht
    go_enter Tryd.func19, Tryd.ntmps19
    go_wp2_with fail
    refine (HG.out _).mono ?_
    rintro e w1 ⟨rfl, hb⟩
    have R0 := (Boxed.new w 9 (.string ⟨#[]⟩)).alloc (.cells #[.bool false] 4)
    have R1 := Boxed.new (w.alloc (.cells #[.string ⟨#[]⟩] 9)) 4 (.bool false)
    rw [World.size_alloc] at R1
    have hb0 : Below w.heap.size w ((w.alloc (.cells #[.string ⟨#[]⟩] 9)).alloc (.cells #[.bool false] 4)) := ((Below.refl _ w).alloc (Nat.le_refl _) _).alloc (by simp) _
    have hz0 : ((w.alloc (.cells #[.string ⟨#[]⟩] 9)).alloc (.cells #[.bool false] 4)).heap.size = w.heap.size + 2 := by simp
    have P0 : Boxed w1 w.heap.size 9 (.string ⟨#[]⟩) := (hb.block _ (by omega)).trans R0
    have P1 : Boxed w1 (w.heap.size + 1) 4 (.bool false) := (hb.block _ (by omega)).trans R1
    have hbt := hb0.trans (hb.mono (by omega))
    clear R0 R1 hb0 hz0 hb
    have k0 := P0.cell
    have k1 := P0.frozen
    have k2 := P1.cell
    have k3 := P1.frozen
    go_wp2
    have q0 := P0.set (.string ⟨#[]⟩)
    have q1 := (show Boxed (w1.setCell ⟨w.heap.size, 0, none⟩ (.string ⟨#[]⟩)) (w.heap.size + 1) 4 (.bool false) from (Below.heap_setCell _ _ _ _ (by simp)).trans P1).set (.bool false)
    have q0' := (show Boxed ((w1.setCell ⟨w.heap.size, 0, none⟩ (.string ⟨#[]⟩)).setCell ⟨w.heap.size + 1, 0, none⟩ (.bool false)) w.heap.size 9 (.string ⟨#[]⟩) from (Below.heap_setCell _ _ _ _ (by simp)).trans q0)
    refine bodyPost_ret (results_cell2 rfl _ _ w.heap.size (w.heap.size + 1) 9 4 _ _ rfl rfl q0' q1 Tryd.underlying9 Tryd.underlying4) rfl ?_
    exact ⟨by rw [hn]; rfl, (hbt.setCell (p := ⟨w.heap.size, 0, none⟩) (Nat.le_refl _) _).setCell (p := ⟨w.heap.size + 1, 0, none⟩) (Nat.le_succ _) _⟩
  | true =>
    simp only [Bool.and_eq_true, decide_eq_true_eq] at hok
    obtain ⟨hc, h5⟩ := hok
    exact callsIn_wide.1 (decodeGcr_in s h hc h5 w hw ht)
end Go.Proofs.YtkdhhkoablmbbabDoor
