/- impl.groupDigits, impl.DecodeGcr -/
import Derived.Test.YtffefhgemmjkoaaDoorGroupsIn
import Derived.Test.YtffefhgemmjkoaaDoorBuilderKept
import Derived.Test.YtffefhgemmjkoaaDoorSpecDecGcr
import Derived.Test.YtffefhgemmjkoaaDoorRoundDig
import Derived.Test.YtffefhgemmjkoaaDoorBuilderStr
import Derived.Test.YtffefhgemmjkoaaDoorDecode
import Derived.Deep.RegionHeld3
import Derived.ControlIn
namespace Go.Proofs.YtffefhgemmjkoaaDoor
open Go.RowKit
set_option maxRecDepth 20000
set_option linter.unusedVariables false
open Go.Shelf
attribute [local go_sem] Oper.semAt_some
/-- The digits of some groups. -/
def hexL (s : ByteArray) {N : Nat} (ys : List (Fin N)) : List UInt8 := ys.map fun x => hexd (gd s x.val).toNat
theorem hexL_snoc (s : ByteArray) {N : Nat} (pre : List (Fin N)) (x : Fin N) : hexL s (pre ++ [x]) = hexL s pre ++ [hexd (gd s x.val).toNat] := by simp [hexL]
theorem hexL_len (s : ByteArray) {N : Nat} (pre : List (Fin N)) : (hexL s pre).length = pre.length := by simp [hexL]
theorem rndsG_all (N : Nat) : rndsG N N = List.finRange N := by unfold rndsG; rw [List.take_of_length_le (by simp)]
theorem hexL_digAt (s : ByteArray) (N : Nat) (hN : s.size = 5 * N) (hok : gdOk s N = true) (k : Nat) : digAt dig4 ⟨(hexL s (rndsG N N)).toArray⟩ k = gd s k := by
  by_cases hk : k < N
  · have hz : k < (⟨(hexL s (rndsG N N)).toArray⟩ : ByteArray).size := by show k < (hexL s (rndsG N N)).toArray.size; rw [List.size_toArray, hexL_len, rndsG_length (Nat.le_refl _)]; exact hk
    rw [digAt_eq _ _ _ hz]
    have e : (⟨(hexL s (rndsG N N)).toArray⟩ : ByteArray)[k] = hexd (gd s k).toNat := by
      show (hexL s (rndsG N N)).toArray[k] = _
      simp [hexL, rndsG_all]
    rw [e]
    unfold gdOk at hok
    rw [List.all_eq_true] at hok
    have h0 := hok k (List.mem_range.2 hk)
    have h0' : 0 ≤ gd s k := by simpa using h0
    have hb := gd_bd s k
    have := dig4_hexd ⟨(gd s k).toNat, by omega⟩
    rw [this]
    show ((gd s k).toNat : Int) = _
    omega
  · have e1 : digAt dig4 ⟨(hexL s (rndsG N N)).toArray⟩ k = -1 := by
      unfold digAt
      have hz : ¬ k < (⟨(hexL s (rndsG N N)).toArray⟩ : ByteArray).size := by show ¬ k < (hexL s (rndsG N N)).toArray.size; rw [List.size_toArray, hexL_len, rndsG_length (Nat.le_refl _)]; exact hk
      rw [getElem?_neg _ k hz]; rfl
    rw [e1]
    unfold gd gcrVV
    rw [if_neg]
    intro h
    unfold grpOk at h
    simp only [Bool.and_eq_true, decide_eq_true_eq] at h
    have := h.1
    unfold subS at this
    rw [ByteArray.size_extract] at this
    omega
theorem hexL_all (s : ByteArray) (N : Nat) (hN : s.size = 5 * N) (h16 : N ≤ 8192) (hc : cellStr s = true) (hok : ∀ x ∈ rndsG N N, 0 ≤ gd s x.val) : ofDig 16 2 dig4 ⟨(hexL s (rndsG N N)).toArray⟩ = dgV s := by
  have hk : gdOk s N = true := by
    unfold gdOk
    rw [List.all_eq_true]
    intro j hj
    have hj2 := List.mem_range.1 hj
    have := hok ⟨j, hj2⟩ (by rw [rndsG_all]; simp)
    simpa using this
  have hfun : digAt dig4 ⟨(hexL s (rndsG N N)).toArray⟩ = gd s := funext (hexL_digAt s N hN hk)
  have hsz : (⟨(hexL s (rndsG N N)).toArray⟩ : ByteArray).size = N := by show (hexL s (rndsG N N)).toArray.size = _; rw [List.size_toArray, hexL_len, rndsG_length (Nat.le_refl _)]
  unfold ofDig dgV
  rw [hsz]
  have hq : s.size / 5 = N := by omega
  rw [hq]
  by_cases h2 : N % 2 = 0
  · have : digOk dig4 ⟨(hexL s (rndsG N N)).toArray⟩ N = true := by unfold digOk; rw [hfun]; exact hk
    rw [if_pos ⟨h2, by omega⟩, if_pos this, hfun, if_pos ⟨hc, by omega⟩, if_pos hk]
  · rw [if_neg (fun h => h2 h.1), if_neg (fun h => by have := h.2; omega)]
theorem dgV_bad (s : ByteArray) (N k : Nat) (hN : s.size = 5 * N) (hk : k < N) (h : gd s k < 0) : dgV s = none := by
  unfold dgV
  have hq : s.size / 5 = N := by omega
  rw [hq, gdOk_no s N k hk h]
  split <;> rfl
theorem ownFrom_const {β : Type} {B : Nat} (p : β → Prop) : OwnFrom B (fun (s : β) (_ : World) => p s) := fun _ _ _ _ hs _ _ => hs
/-- Are some groups codes? -/
def okL (s : ByteArray) {N : Nat} (ys : List (Fin N)) : Bool := ys.all fun x => decide (0 ≤ gd s x.val)
theorem okL_snoc (s : ByteArray) {N : Nat} (pre : List (Fin N)) (x : Fin N) : okL s (pre ++ [x]) = (okL s pre && decide (0 ≤ gd s x.val)) := by simp [okL]
theorem okL_all (s : ByteArray) (N : Nat) : okL s (rndsG N N) = gdOk s N := by
  rw [rndsG_all]
  unfold okL gdOk
  rw [Bool.eq_iff_iff, List.all_eq_true, List.all_eq_true]
  constructor
  · intro h j hj
    exact h ⟨j, List.mem_range.1 hj⟩ (List.mem_finRange _)
  · intro h x _
    exact h x.val (List.mem_range.2 x.isLt)
/-- What groupDigits answers. -/
def grpDig (s : ByteArray) (N : Nat) : ByteArray := ⟨(hexL s (rndsG N N)).toArray⟩
set_option maxRecDepth 100000 in
set_option maxHeartbeats 4000000 in
theorem groupDigits_in (s : ByteArray) (h : s.size ≤ 1048576) (hc : cellStr s = true) (h5 : s.size % 5 = 0) (w : World) (hw : 0 < w.heap.size) (ht : GrpTab w) :
    CallsIn Fence.wide 3 Tryd.prog 50 #[.string s] w fun e w' => e = .returned (.tuple #[.string (grpDig s (s.size / 5)), .bool (gdOk s (s.size / 5))]) ∧ Below w.heap.size w w' := by
  have hs8 := cellStr_size hc
  obtain ⟨N, hN⟩ : ∃ N, s.size / 5 = N := ⟨_, rfl⟩
  have hN5 : s.size = 5 * N := by omega
  rw [hN]
  have HC := Lib.hid (And.intro hc hN5)
  have HS := Lib.hid hs8
  have HT := Lib.hid ht
  clear hc h5 hN hN5 ht
  refine callsIn_of_wp_marks Tryd.func50 rfl trivial ?_ rfl
  simp only [Tryd.ntmps50, List.size_toArray, List.length_cons, List.length_nil, Nat.reduceAdd, Nat.reduceSub, Array.replicate_succ, Array.replicate_zero, List.push_toArray, List.append_toArray, List.nil_append, List.cons_append]
  gi_wp2_with fail
  refine ⟨trivial, (callsIn_wide.2 (groupValues_any w hw HT.out)).mono ?_⟩
  rintro e w2 ⟨rfl, h12⟩
  have hsz2 := h12.size
  have HV0 := Lib.hid (heap_alloc_new w2 (.cells z32 71))
  gi_wp2_with (refine wpListIn_store_rowTo _ rfl 71 _ _ rfl rfl w2.heap.size valsV rfl rfl 71 z32 HV0.out (by kernel_rfl) (by rw [zero32]; rfl) vals_one ?_)
  clear HV0
  refine ⟨trivial, (groupsIn_in _ s _).mono ?_⟩
  rintro e w3 ⟨rfl, rfl⟩
  gi_wp2
  have bA0 := cellsAt_row32 w2
  have hsz0 : ((w2.alloc (.cells z32 71)).setRow w2.heap.size valsV).heap.size = w2.heap.size + 1 := by rw [size_setRow, World.size_alloc]
  have hB00 : Below w2.heap.size w2 ((w2.alloc (.cells z32 71)).setRow w2.heap.size valsV) := below_setRow ((Below.refl _ w2).alloc (Nat.le_refl _) _) (Nat.le_refl _) _
  show Code.wpIn _ _ _ _ _ _ (((((w2.alloc (.cells z32 71)).setRow w2.heap.size valsV).alloc (.cells #[.bool true] 4)).alloc (.cells #[.pointer none, .slice none 0 0] 62)).alloc (.cells #[.string s] 9))
  generalize (w2.alloc (.cells z32 71)).setRow w2.heap.size valsV = WA at *
  have bK1 := Boxed.new WA 4 (.bool true)
  have hsz1 : (WA.alloc (.cells #[.bool true] 4)).heap.size = w2.heap.size + 1 + 1 := by rw [World.size_alloc, hsz0]
  have hsz2' : ((WA.alloc (.cells #[.bool true] 4)).alloc (.cells #[.pointer none, .slice none 0 0] 62)).heap.size = w2.heap.size + 1 + 1 + 1 := by rw [World.size_alloc, hsz1]
  have bO1 := Bld.fresh (WA.alloc (.cells #[.bool true] 4))
  have bN := Boxed.new ((WA.alloc (.cells #[.bool true] 4)).alloc (.cells #[.pointer none, .slice none 0 0] 62)) 9 (.string s)
  rw [hsz0] at bK1
  rw [hsz1] at bO1
  rw [hsz2'] at bN
  have bK := (bK1.alloc (.cells #[.pointer none, .slice none 0 0] 62)).alloc (.cells #[.string s] 9)
  have bO : Bld (w2.heap.size + 1 + 1) (w2.heap.size + 1 + 1) [] (((WA.alloc (.cells #[.bool true] 4)).alloc (.cells #[.pointer none, .slice none 0 0] 62)).alloc (.cells #[.string s] 9)) := bO1.same (fun k _ hk => Below.heap_alloc _ _ _ hk)
  have bA : (((WA.alloc (.cells #[.bool true] 4)).alloc (.cells #[.pointer none, .slice none 0 0] 62)).alloc (.cells #[.string s] 9)).heap[w2.heap.size]? = some (.cells valsV 71 (0, 0)) := by
    rw [Below.heap_alloc _ _ _ (by omega), Below.heap_alloc _ _ _ (by omega), Below.heap_alloc _ _ _ (by omega)]; exact bA0
  have hB0 : Below w2.heap.size w2 (((WA.alloc (.cells #[.bool true] 4)).alloc (.cells #[.pointer none, .slice none 0 0] 62)).alloc (.cells #[.string s] 9)) := ((hB00.alloc hB00.size _).alloc (by omega) _).alloc (by omega) _
  have hszW : (((WA.alloc (.cells #[.bool true] 4)).alloc (.cells #[.pointer none, .slice none 0 0] 62)).alloc (.cells #[.string s] 9)).heap.size = w2.heap.size + 1 + 1 + 1 + 1 := by rw [World.size_alloc, hsz2']
  generalize ((WA.alloc (.cells #[.bool true] 4)).alloc (.cells #[.pointer none, .slice none 0 0] 62)).alloc (.cells #[.string s] 9) = W0 at *
  clear bO1 bA0 hsz0 hsz1 hsz2' hB00 bK1 WA
  refine wpIn_rangeFunc_ownG rfl (by decide) (gf := 102) (lb := #[.pointer (some ⟨w2.heap.size + 1 + 1 + 1, 0, none⟩)]) rfl trivial (enters_of Tryd.func102 (by kernel_rfl) rfl)
    (groups_stops 2 (w2.heap.size + 1 + 1 + 1) s N HC.out.1 HC.out.2 W0 bN) KB.trans (kb_obj bN.lt) (Below.refl _ _) (fun _ => rfl)
    (fun pre W => Bld (w2.heap.size + 1 + 1) (w2.heap.size + 1 + 1) (hexL s pre) W ∧ cellsG W w2.heap.size valsV 71 ∧ cellsG W (w2.heap.size + 1) #[.bool (okL s pre)] 4 ∧ cellsG W (w2.heap.size + 1 + 1 + 1) #[.string s] 9 ∧ Below w2.heap.size w2 W)
    (fun _ _ _ => False)
    (OwnFrom.and (Bld.own _ _ (fun pre => hexL s pre) _)
      (OwnFrom.and (Own.from (cellsG_own (fun _ => _) _ _) _) (OwnFrom.and (Own.from (cellsG_own (fun pre => #[.bool (okL s pre)]) _ _) _) (OwnFrom.and (Own.from (cellsG_own (fun _ => _) _ _) _) (ownFrom_below (Nat.le_refl _) (by omega))))))
    (fun _ _ _ _ _ hs _ _ => hs)
    ⟨bO, bA, bK, bN, hB0⟩
    (fun x => { tmps := #[.string s, undef, .string ⟨#[]⟩, .bool false, .pointer (some ⟨w2.heap.size, 0, none⟩), .pointer (some ⟨w2.heap.size + 1, 0, none⟩), .pointer (some ⟨w2.heap.size + 1 + 1, 0, none⟩), undef, .int .u8 (gP (subS s x.val) 5), undef, .agg valsV, .string s, .func (.func 102) #[] #[.pointer (some ⟨w2.heap.size + 1 + 1 + 1, 0, none⟩)], .int .i64 (x.val : Int), .int .u8 (gP (subS s x.val) 5), undef, undef, undef, undef, undef, undef, undef, undef, undef, undef], defers := [] }) ?assign ?body ?done ?stop
  case assign =>
    intro l x W K hK
    dsimp only [grpEnc]
    gi_wp2
    exact hK
  case body =>
    rintro l pre x W ⟨hbd, hA, hK, hN, hB⟩ hlt
    have hxl := x.isLt
    have hk5 : 5 * x.val + 5 ≤ s.size := by have := HC.out.2; omega
    obtain ⟨y, hy, eg, ev⟩ := gcrVV_of (subS_ok HC.out.1 x.val hk5)
    have hbnd := valN_bd y hy
    have HE := Lib.hid (show gd s x.val = valN y from ev)
    rw [eg]
    clear eg ev hk5
    have hN8 : N ≤ 1000000 := by have := HC.out.2; have := HS.out; omega
    have hpl : (hexL s pre).length < 1000000 := by rw [hexL_len]; omega
    have hcy : W.cell? ⟨w2.heap.size, y, none⟩ = some (.int .i64 (valN y)) := by
      simp only [World.cell?]; rw [show W.heap[w2.heap.size]? = _ from hA]; exact vals_at y hy
    have nA : ∀ (c : Array Value) (fz : Nat × Nat), Obj.cells valsV 71 (0, 0) ≠ .cells c 5 fz := by intro c fz h; injection h with _ h2 _; exact absurd h2 (by decide)
    have nS : ∀ (c : Array Value) (fz : Nat × Nat), Obj.cells #[.string s] 9 (0, 0) ≠ .cells c 5 fz := by intro c fz h; injection h with _ h2 _; exact absurd h2 (by decide)
    have nK : ∀ (v : Value) (c : Array Value) (fz : Nat × Nat), Obj.cells #[v] 4 (0, 0) ≠ .cells c 5 fz := by intro v c fz h; injection h with _ h2 _; exact absurd h2 (by decide)
    have QK : Boxed W (w2.heap.size + 1) 4 (.bool (okL s pre)) := hK
    have k0 := QK.cell
    have k1 := QK.frozen
    have HAN := Lib.hid (And.intro hA (And.intro hN QK)); clear hA hN hK QK
    have NN := Lib.hid (And.intro nA (And.intro nS nK)); clear nA nS nK
    have HB := Lib.hid hB; clear hB
    have HD := Lib.hid hbd; clear hbd
    generalize valN y = z at *
    by_cases hz : z < 0
    · have A1 : cellsG (W.setCell ⟨w2.heap.size + 1, 0, none⟩ (.bool false)) w2.heap.size valsV 71 := (Below.heap_setCell _ _ _ _ (by simp)).trans HAN.out.1
      have N1 : cellsG (W.setCell ⟨w2.heap.size + 1, 0, none⟩ (.bool false)) (w2.heap.size + 1 + 1 + 1) #[.string s] 9 := (Below.heap_setCell _ _ _ _ (by simp; omega)).trans HAN.out.2.1
      have K1 := HAN.out.2.2.set (.bool false)
      have D1 : Bld (w2.heap.size + 1 + 1) (w2.heap.size + 1 + 1) (hexL s pre) (W.setCell ⟨w2.heap.size + 1, 0, none⟩ (.bool false)) := HD.out.same (fun k hk _ => Below.heap_setCell _ _ _ _ (by simp; omega))
      have B1 := HB.out.setCell (p := ⟨w2.heap.size + 1, 0, none⟩) (Nat.le_succ _) (.bool false)
      have ALL := Lib.hid (And.intro A1 (And.intro N1 (And.intro K1 (And.intro D1 B1)))); clear A1 N1 K1 D1 B1
      gi_wp2_with fail
      refine ⟨trivial, (callsIn_wide.2 (writeByteK_any (w2.heap.size + 1 + 1) (w2.heap.size + 1 + 1) (hexL s pre) 48 _ (by omega) (by omega) ALL.out.2.2.2.1 (by omega) (by have := (Array.getElem?_eq_some_iff.1 ALL.out.2.1).1; omega))).mono ?_⟩
      rintro e w3 ⟨rfl, hB3, hb3, hk3⟩
      gi_wp2
      have hx0 : hexd (gd s x.val).toNat = (48 : Int).toNat.toUInt8 := by rw [HE.out, Int.toNat_of_nonpos (by omega)]; decide
      have hA3 : cellsG w3 w2.heap.size valsV 71 := hk3 _ _ ALL.out.1 (fun e => by have := Option.some.inj e; omega) NN.out.1
      have hN3 : cellsG w3 (w2.heap.size + 1 + 1 + 1) #[.string s] 9 := hk3 _ _ ALL.out.2.1 (fun e => by have := Option.some.inj e; omega) NN.out.2.1
      have hK3 : cellsG w3 (w2.heap.size + 1) #[.bool false] 4 := hk3 _ _ ALL.out.2.2.1 (fun e => by have := Option.some.inj e; omega) (NN.out.2.2 _)
      refine ⟨((KeepsOthers.setCell _ _ _).from _).trans ⟨hb3.size, fun k o hk ho hnc => hk3 k o ho (fun e => by have := Option.some.inj e; have := hszW; omega) (fun c fz e => by subst e; cases hnc)⟩, Eq.trans hN3 (Eq.symm HAN.out.2.1), ?_, hA3, ?_, hN3, ALL.out.2.2.2.2.trans (hb3.mono (by omega))⟩
      · rw [hexL_snoc, hx0]; exact hB3
      · rw [okL_snoc, HE.out, decide_eq_false (by omega), Bool.and_false]; exact hK3
    · obtain ⟨m, rfl⟩ : ∃ m : Nat, z = (m : Int) := ⟨z.toNat, by omega⟩
      have hm : m < 16 := by omega
      have hmi : (m : Int) < 16 := by omega
      have hd := hexd_at hm
      have bd := byte_bd (hexd m)
      have hbm : ¬ (m : Int) < 0 := by omega
      gi_wp2_with fail
      refine ⟨trivial, (callsIn_wide.2 (writeByteK_any (w2.heap.size + 1 + 1) (w2.heap.size + 1 + 1) (hexL s pre) ((hexd m).toNat : Int) W bd.1 bd.2 HD.out (by omega) (by have := (Array.getElem?_eq_some_iff.1 HAN.out.2.1).1; omega))).mono ?_⟩
      rintro e w3 ⟨rfl, hB3, hb3, hk3⟩
      rw [byte_back] at hB3
      gi_wp2
      have hx0 : gd s x.val = (m : Int) := HE.out
      have hA3 : cellsG w3 w2.heap.size valsV 71 := hk3 _ _ HAN.out.1 (fun e => by have := Option.some.inj e; omega) NN.out.1
      have hN3 : cellsG w3 (w2.heap.size + 1 + 1 + 1) #[.string s] 9 := hk3 _ _ HAN.out.2.1 (fun e => by have := Option.some.inj e; omega) NN.out.2.1
      have hK3 : cellsG w3 (w2.heap.size + 1) #[.bool (okL s pre)] 4 := hk3 _ _ HAN.out.2.2 (fun e => by have := Option.some.inj e; omega) (NN.out.2.2 _)
      refine ⟨⟨hb3.size, fun k o hk ho hnc => hk3 k o ho (fun e => by have := Option.some.inj e; have := hszW; omega) (fun c fz e => by subst e; cases hnc)⟩, Eq.trans hN3 (Eq.symm HAN.out.2.1), ?_, hA3, ?_, hN3, HB.out.trans (hb3.mono (by omega))⟩
      · rw [hexL_snoc, hx0, Int.toNat_natCast]; exact hB3
      · rw [okL_snoc, hx0, decide_eq_true (by omega), Bool.and_true]; exact hK3
  case done =>
    rintro D ys W hD rfl ⟨hbd, hA, hK, hN, hB⟩ hKD
    have hszB := hB.size
    have hszN := (Array.getElem?_eq_some_iff.1 hN).1
    have QK : Boxed W (w2.heap.size + 1) 4 (.bool (okL s (rndsG N N))) := hK
    rw [okL_all] at QK
    have hgd : grpDig s N = ⟨(hexL s (rndsG N N)).toArray⟩ := rfl
    obtain ⟨q, hq⟩ : ∃ q, gdOk s N = q := ⟨_, rfl⟩
    rw [hq] at QK
    obtain ⟨REST, hREST⟩ : ∃ R : World → Prop, R = fun W' => Lib.IsBuilderF 62 5 (w2.heap.size + 1 + 1) (w2.heap.size + 1 + 1) (Lib.byteCells (hexL s (rndsG N N))) W' ∧ W'.heap[D]? = some (.deferred (some [])) ∧ Boxed W' (w2.heap.size + 1) 4 (.bool q) ∧ Below w2.heap.size w2 W' ∧ w2.heap.size + 1 + 1 ≤ W'.heap.size := ⟨_, rfl⟩
    have R0 : (W.drew).cell? ⟨w2.heap.size + 1, 0, none⟩ = some (.bool q) ∧ REST W.drew := ⟨QK.cell, by rw [hREST]; exact ⟨Lib.IsBuilderF.of hbd, hKD, QK, hB.drew, (by omega : w2.heap.size + 1 + 1 ≤ W.heap.size)⟩⟩
    have CS := Lib.hid (fun W' (h : W'.cell? ⟨w2.heap.size + 1, 0, none⟩ = some (.bool q) ∧ REST W') => (show Calls Tryd.prog 56 #[.pointer (some ⟨w2.heap.size + 1 + 1, 0, none⟩)] W' fun e w' => e = .returned (.string ⟨(hexL s (rndsG N N)).toArray⟩) ∧ (w'.cell? ⟨w2.heap.size + 1, 0, none⟩ = some (.bool q) ∧ REST w') from by
      rw [hREST] at h
      obtain ⟨-, h1, h2, h3, h4, h5⟩ := h
      refine (Tryd.Builder_String_any_k (w2.heap.size + 1 + 1) (w2.heap.size + 1 + 1) (hexL s (rndsG N N)) W' h1 h5).mono ?_
      rintro e w' ⟨rfl, hi, hb3, hk3⟩
      have nK : ∀ (c : Array Value) (fz : Nat × Nat), Obj.cells #[.bool q] 4 (0, 0) ≠ .cells c 5 fz := by intro c fz h; injection h with _ h2 _; exact absurd h2 (by decide)
      have q3 : Boxed w' (w2.heap.size + 1) 4 (.bool q) := hk3 _ _ h3 (fun e => by have := Option.some.inj e; omega) nK
      exact ⟨rfl, q3.cell, by rw [hREST]; exact ⟨hi, hk3 _ _ h2 (fun e => by have := Option.some.inj e; omega) (fun c fz e => by cases e), q3, h4.trans (hb3.mono (by omega)), Nat.le_trans h5 hb3.size⟩⟩))
    have RR := Lib.hid hREST
    have HR0 := Lib.hid R0; clear R0
    have HQ := Lib.hid hq
    clear hbd hA hK hN hKD QK hgd hREST hq
    gi_wp2
    refine wpIn_wide.2 ?_
    go_region_held3 (fun W' => W'.cell? ⟨w2.heap.size + 1, 0, none⟩ = some (.bool q) ∧ REST W')
      (first | (with_reducible exact HR0.out) | fail)
      (first | (go_at_call 56; refine (CS.out _ HR0.out).mono ?_; rintro e w5 ⟨rfl, hS5⟩; replace HR0 := Lib.hid hS5; clear hS5) | fail)
    gi_wp2
    have hR := HR0.out.2
    rw [RR.out] at hR
    obtain ⟨-, hD5, -, hB5, -⟩ := hR
    refine ⟨by simp, .inl ⟨_, _, rfl, run_takeDeferred hD5, ?_⟩⟩
    refine ⟨.tuple #[.string (grpDig s N), .bool q], ?_, ?_⟩
    · simp [results, Tryd.results50, go_sem, grpDig]
    · exact ⟨by rw [HQ.out], (h12.trans (hB5.mono hsz2)).trans (belowK_b (w := w) (Nat.le_refl _) w5 D _ _ (by omega) hD5 rfl rfl)⟩
  case stop =>
    rintro D c pre W _ _ h _
    exact h.elim
set_option maxHeartbeats 1000000 in
theorem decodeGcr_v (s : ByteArray) (h : s.size ≤ 1048576) (w : World) (hw : 0 < w.heap.size) (ht : GrpTab w) :
    Calls Tryd.prog 19 #[.string s] w fun e w' => e = .returned (ofDigText (dgV s)) ∧ Below w.heap.size w w' := by
  have hg := fun w => isGroupString_any s h w
  obtain ⟨ok, hok⟩ : ∃ ok, (cellStr s && decide (s.size % 5 = 0)) = ok := ⟨_, rfl⟩
  rw [hok] at hg
  have HG := Lib.hid hg; clear hg
  cases ok with
  | false =>
    have hn : dgV s = none := by
      refine dgV_none fun h2 => ?_
      have h5 : s.size % 5 = 0 := by omega
      rw [h2.1] at hok
      simp [h5] at hok
    rw [hn]
    clear hok ht hn
    go_enter Tryd.func19, Tryd.ntmps19
    go_wp2_with fail
    refine (HG.out _).mono ?_
    rintro e w1 ⟨rfl, hb⟩
    go_wp2
    go_ret2
    exact ⟨rfl, hb⟩
  | true =>
    simp only [Bool.and_eq_true, decide_eq_true_eq] at hok
    obtain ⟨hc, h5⟩ := hok
    have hs8 := cellStr_size hc
    obtain ⟨N, hN⟩ : ∃ N, s.size / 5 = N := ⟨_, rfl⟩
    have hN5 : s.size = 5 * N := by omega
    have hgd := fun w' (hb : Below w.heap.size w w') => callsIn_wide.1 (groupDigits_in s h hc h5 w' (Nat.lt_of_lt_of_le hw hb.size) (ht.below hb hw))
    rw [hN] at hgd
    obtain ⟨q, hq⟩ : ∃ q, gdOk s N = q := ⟨_, rfl⟩
    rw [hq] at hgd
    have HGD := Lib.hid hgd; clear hgd ht
    cases q with
    | false =>
      have hn : dgV s = none := by unfold dgV; rw [hN, hq]; split <;> rfl
      rw [hn]
      clear hn hq
      go_enter Tryd.func19, Tryd.ntmps19
      go_wp2_with fail
      refine (HG.out _).mono ?_
      rintro e w1 ⟨rfl, hb⟩
      go_wp2_with fail
      refine (HGD.out _ hb).mono ?_
      rintro e w2 ⟨rfl, hb2⟩
      go_wp2
      go_ret2
      exact ⟨rfl, hb.trans (hb2.mono hb.size)⟩
    | true =>
      have hall := hexL_all s N hN5 (by omega) hc (by
        intro x _
        have := List.all_eq_true.1 (show gdOk s N = true from hq) x.val (List.mem_range.2 x.isLt)
        simpa using this)
      have HR := fun w => readHex_any (grpDig s N) w
      unfold grpDig at HR HGD
      rw [hall] at HR
      obtain ⟨t, b, ht⟩ := ofDigText_parts (dgV s)
      rw [ht] at HR ⊢
      have HRR := Lib.hid HR; clear HR hall ht hq
      go_enter Tryd.func19, Tryd.ntmps19
      go_wp2_with fail
      refine (HG.out _).mono ?_
      rintro e w1 ⟨rfl, hb⟩
      go_wp2_with fail
      refine (HGD.out _ hb).mono ?_
      rintro e w2 ⟨rfl, hb2⟩
      go_wp2_with fail
      refine (HRR.out _).mono ?_
      rintro e w3 ⟨rfl, hb3⟩
      go_wp2
      go_ret2
      have hb12 := hb.trans (hb2.mono hb.size)
      exact ⟨rfl, hb12.trans (hb3.mono hb12.size)⟩
end Go.Proofs.YtffefhgemmjkoaaDoor
