/- impl.putPlain -/
import Derived.Test.YtogoklgppepbjaaChunkIt
import Derived.Test.YtogoklgppepbjaaPkEq
import Derived.Test.YtogoklgppepbjaaDigitsOf
import Derived.ControlIn
namespace Go.Proofs.Ytogoklgppepbjaa
open Go.RowKit
open Go.Shelf
set_option linter.unusedVariables false
set_option linter.unusedSimpArgs false
attribute [local go_sem] Oper.semAt_some
/-- Part x of t, as it is written. -/
def chL (t : ByteArray) {N : Nat} (x : Fin N) : List UInt8 := [(min 64 (t.size - 64 * x.val) - 1).toUInt8] ++ (t.extract (64 * x.val) (64 * x.val + min 64 (t.size - 64 * x.val))).data.toList
def ckL (t : ByteArray) {N : Nat} (pre : List (Fin N)) : List UInt8 := (pre.map (chL t)).flatten
theorem ckL_snoc (t : ByteArray) {N : Nat} (pre : List (Fin N)) (x : Fin N) : ckL t (pre ++ [x]) = ckL t pre ++ chL t x := by simp [ckL]
theorem chL_len (t : ByteArray) {N : Nat} (x : Fin N) : (chL t x).length ≤ 65 := by
  unfold chL
  have : (t.extract (64 * x.val) (64 * x.val + min 64 (t.size - 64 * x.val))).size ≤ 64 := by rw [ByteArray.size_extract]; omega
  simp only [List.length_append, List.length_cons, List.length_nil]
  have e : (t.extract (64 * x.val) (64 * x.val + min 64 (t.size - 64 * x.val))).data.toList.length = (t.extract (64 * x.val) (64 * x.val + min 64 (t.size - 64 * x.val))).size := by rw [Array.length_toList]; rfl
  omega
theorem ckL_len (t : ByteArray) {N : Nat} (pre : List (Fin N)) : (ckL t pre).length ≤ 65 * pre.length := by
  induction pre with
  | nil => simp [ckL]
  | cons x xs ih =>
    have := chL_len t x
    unfold ckL at *
    simp only [List.map_cons, List.flatten_cons, List.length_append, List.length_cons]
    omega
theorem ckL_plV (s : ByteArray) (i e N : Nat) (hie : i ≤ e) (he : e ≤ s.size) (hN : N = (e - i + 63) / 64) : ∀ k, k ≤ N → ckL (s.extract i e) (rndsC N k) ++ plV s (i + 64 * k) e = plV s i e := by
  have hsz : (s.extract i e).size = e - i := by rw [ByteArray.size_extract]; omega
  intro k
  induction k with
  | zero => intro _; simp [rndsC, ckL]
  | succ k ih =>
    intro hk
    have hlt : k < N := by omega
    rw [rndsC_succ hlt, ckL_snoc, ← ih (by omega), List.append_assoc]
    congr 1
    have h1 : i + 64 * k < e := by omega
    rw [plV_step h1]
    have e1 : e - (i + 64 * k) = e - i - 64 * k := by omega
    unfold chL
    dsimp only
    rw [hsz, e1]
    congr 1
    · congr 1
      rw [ByteArray.extract_extract]
      have e2 : min (i + (64 * k + min 64 (e - i - 64 * k))) e = i + 64 * k + min 64 (e - i - 64 * k) := by omega
      rw [e2]
    · by_cases h : i + 64 * (k + 1) ≤ e
      · have e3 : i + 64 * k + min 64 (e - i - 64 * k) = i + 64 * (k + 1) := by omega
        rw [e3]
      · rw [plV_end (by omega), plV_end (by omega)]
theorem ckL_all (s : ByteArray) (i e N : Nat) (hie : i ≤ e) (he : e ≤ s.size) (hN : N = (e - i + 63) / 64) : ckL (s.extract i e) (rndsC N N) = plV s i e := by
  have := ckL_plV s i e N hie he hN N (Nat.le_refl _)
  rw [plV_end (by omega), List.append_nil] at this
  exact this
theorem Bld.lt {B b : Nat} {l : List UInt8} {w : World} (h : Bld B b l w) : b < w.heap.size := by
  rcases h with h | h <;> (obtain ⟨_, v, hbk, _⟩ := h; exact (Array.getElem?_eq_some_iff.1 hbk).1)
/-- A block that bears a mark. -/
def cellsM (W : World) (g : Nat) (C : Array Value) (T : TypeId) (fr : Nat × Nat) : Prop := W.heap[g]? = some (.cells C T fr)
theorem cellsM_own {β : Type} (C : Array Value) (g : Nat) (T : TypeId) (fr : Nat × Nat) : Own (fun (_ : β) W => cellsM W g C T fr) := fun s W W' row hs hg hr => (grownBy_keeps_cells hg hr hs rfl).trans hs
set_option maxRecDepth 100000 in
set_option maxHeartbeats 4000000 in
theorem putPlain_in (s : ByteArray) (i e B b : Nat) (l : List UInt8) (w : World) (hie : i ≤ e) (he : e ≤ s.size) (hs : s.size ≤ 4096) (hl : l.length ≤ 100000) (hb : Bld B b l w) (hB : B ≤ w.heap.size) :
    CallsIn Fence.wide 3 Try.prog 74 #[.pointer (some ⟨b, 0, none⟩), .string (s.extract i e), .int .i64 64] w fun x w' => x = .returned (.tuple #[]) ∧ Bld B b (l ++ plV s i e) w' ∧ Below B w w' := by
  obtain ⟨N, hN⟩ : ∃ N, N = (e - i + 63) / 64 := ⟨_, rfl⟩
  rw [← ckL_all s i e N hie he hN]
  have hsz : (s.extract i e).size = e - i := by rw [ByteArray.size_extract]; omega
  have hN2 : N = ((s.extract i e).size + 63) / 64 := by omega
  have hN3 : N ≤ 64 := by omega
  have hts : (s.extract i e).size ≤ 4096 := by omega
  clear hN hsz he hie
  generalize s.extract i e = t at *
  have hbl := hb.lt
  refine callsIn_of_wp_marks Try.func74 rfl trivial ?_ rfl
  simp only [Try.ntmps74, List.size_toArray, List.length_cons, List.length_nil, Nat.reduceAdd, Nat.reduceSub, Array.replicate_succ, Array.replicate_zero, List.push_toArray, List.append_toArray, List.nil_append, List.cons_append]
  gi_wp2
  rw [run_bytes_of_string _ _ _ _ _ Try.underlying9 Try.underlying65 Try.underlying5]
  have hW1s : (w.alloc (Obj.cells #[Value.pointer (some { block := b, off := 0 })] 87)).heap.size = w.heap.size + 1 := by rw [World.size_alloc]
  have bP0 := Boxed.new w 87 (.pointer (some ⟨b, 0, none⟩))
  have hb1 : Bld B b l (w.alloc (Obj.cells #[Value.pointer (some { block := b, off := 0 })] 87)) := hb.same (fun k _ hk => Below.heap_alloc _ _ _ hk)
  have hB1 : Below B w (w.alloc (Obj.cells #[Value.pointer (some { block := b, off := 0 })] 87)) := (Below.refl _ w).alloc hB _
  generalize w.alloc (Obj.cells #[Value.pointer (some { block := b, off := 0 })] 87) = W1 at *
  have hcap := grownCap_ge W1 t.size 0 5
  generalize grownCap W1 t.size 0 5 = cap at *
  gi_wp2_with fail
  obtain ⟨R, hR⟩ : ∃ R, (bytesRow t cap).size = R := ⟨_, rfl⟩
  rw [hR]
  have HR := Lib.hid hR; clear hR
  have hW2s : (W1.alloc (Obj.cells (bytesRow t cap) 5 (R, R + 1))).drew.heap.size = w.heap.size + 1 + 1 := by show (W1.alloc _).heap.size = _; rw [World.size_alloc, hW1s]
  have bR2 : cellsM (W1.alloc (Obj.cells (bytesRow t cap) 5 (R, R + 1))).drew (w.heap.size + 1) (bytesRow t cap) 5 (R, R + 1) := by have := heap_alloc_new W1 (Obj.cells (bytesRow t cap) 5 (R, R + 1)); rw [hW1s] at this; exact this
  have bP2 : cellsM (W1.alloc (Obj.cells (bytesRow t cap) 5 (R, R + 1))).drew w.heap.size #[.pointer (some ⟨b, 0, none⟩)] 87 (0, 0) := (bP0.alloc _)
  have hb2 : Bld B b l (W1.alloc (Obj.cells (bytesRow t cap) 5 (R, R + 1))).drew := hb1.same (fun k _ hk => Below.heap_alloc _ _ _ hk)
  have hB2 : Below B w (W1.alloc (Obj.cells (bytesRow t cap) 5 (R, R + 1))).drew := (hB1.alloc (by omega) _).drew
  generalize (W1.alloc (Obj.cells (bytesRow t cap) 5 (R, R + 1))).drew = W2 at *
  clear bP0 hb1 hB1 hW1s
  refine ⟨trivial, (chunk_in _ _ _ _ _).mono ?_⟩
  rintro e w3 ⟨rfl, rfl⟩
  have hW3s : (W2.alloc (.cells #[.slice (some ⟨w.heap.size + 1, 0, none⟩) t.size cap] 65)).heap.size = w.heap.size + 1 + 1 + 1 := by rw [World.size_alloc, hW2s]
  have bS3 := Boxed.new W2 65 (.slice (some ⟨w.heap.size + 1, 0, none⟩) t.size cap)
  rw [hW2s] at bS3
  have bN3 := Boxed.new (W2.alloc (.cells #[.slice (some ⟨w.heap.size + 1, 0, none⟩) t.size cap] 65)) 3 (.int .i64 64)
  rw [hW3s] at bN3
  have bS4 := bS3.alloc (.cells #[.int .i64 64] 3)
  have hb4 : Bld B b l ((W2.alloc (.cells #[.slice (some ⟨w.heap.size + 1, 0, none⟩) t.size cap] 65)).alloc (.cells #[.int .i64 64] 3)) := hb2.same (fun k _ hk => by rw [Below.heap_alloc _ _ _ (by rw [World.size_alloc]; omega), Below.heap_alloc _ _ _ hk])
  have bR4 : cellsM ((W2.alloc (.cells #[.slice (some ⟨w.heap.size + 1, 0, none⟩) t.size cap] 65)).alloc (.cells #[.int .i64 64] 3)) (w.heap.size + 1) (bytesRow t cap) 5 (R, R + 1) := by unfold cellsM; rw [Below.heap_alloc _ _ _ (by omega), Below.heap_alloc _ _ _ (by omega)]; exact bR2
  have bP4 : cellsM ((W2.alloc (.cells #[.slice (some ⟨w.heap.size + 1, 0, none⟩) t.size cap] 65)).alloc (.cells #[.int .i64 64] 3)) w.heap.size #[.pointer (some ⟨b, 0, none⟩)] 87 (0, 0) := by unfold cellsM; rw [Below.heap_alloc _ _ _ (by omega), Below.heap_alloc _ _ _ (by omega)]; exact bP2
  have hB4 : Below B w ((W2.alloc (.cells #[.slice (some ⟨w.heap.size + 1, 0, none⟩) t.size cap] 65)).alloc (.cells #[.int .i64 64] 3)) := (hB2.alloc (by omega) _).alloc (by omega) _
  have hW4s : ((W2.alloc (.cells #[.slice (some ⟨w.heap.size + 1, 0, none⟩) t.size cap] 65)).alloc (.cells #[.int .i64 64] 3)).heap.size = w.heap.size + 1 + 1 + 1 + 1 := by rw [World.size_alloc, hW3s]
  gi_wp2
  generalize (W2.alloc (.cells #[.slice (some ⟨w.heap.size + 1, 0, none⟩) t.size cap] 65)).alloc (.cells #[.int .i64 64] 3) = W4 at *
  clear bS3 hW3s hb2 bR2 bP2 hB2 hW2s W2
  refine wpIn_rangeFunc_ownG rfl (by decide) (gf := 101) (lb := #[.pointer (some ⟨w.heap.size + 1 + 1, 0, none⟩), .pointer (some ⟨w.heap.size + 1 + 1 + 1, 0, none⟩)]) rfl trivial (enters_of Try.func101 (by kernel_rfl) rfl)
    (chunk_stops 2 (w.heap.size + 1 + 1) (w.heap.size + 1) t.size cap N hN2 (by omega) hcap W4 bS4 bN3) KB2.trans (kb2_obj (by omega)) (Below.refl _ _) (fun _ => rfl)
    (fun pre W => Bld B b (l ++ ckL t pre) W ∧ cellsM W (w.heap.size + 1) (bytesRow t cap) 5 (R, R + 1) ∧ cellsM W w.heap.size #[.pointer (some ⟨b, 0, none⟩)] 87 (0, 0) ∧ cellsM W (w.heap.size + 1 + 1) #[.slice (some ⟨w.heap.size + 1, 0, none⟩) t.size cap] 65 (0, 0) ∧ cellsM W (w.heap.size + 1 + 1 + 1) #[.int .i64 64] 3 (0, 0) ∧ Below B w W)
    (fun _ _ _ => False)
    (OwnFrom.and (Bld.own _ _ (fun pre => l ++ ckL t pre) _)
      (OwnFrom.and (Own.from (cellsM_own _ _ _ _) _) (OwnFrom.and (Own.from (cellsM_own _ _ _ _) _) (OwnFrom.and (Own.from (cellsM_own _ _ _ _) _) (OwnFrom.and (Own.from (cellsM_own _ _ _ _) _) (ownFrom_below hB (by omega)))))))
    (fun _ _ _ _ _ hs _ _ => hs)
    ⟨by simpa [ckL] using hb4, bR4, bP4, bS4, bN3, hB4⟩
    (fun x => { tmps := #[.pointer (some ⟨b, 0, none⟩), .string t, .int .i64 64, .pointer (some ⟨w.heap.size, 0, none⟩), undef, undef, .slice (some ⟨w.heap.size + 1, 64 * x.val, none⟩) (min 64 (t.size - 64 * x.val)) (min 64 (t.size - 64 * x.val)), .string t, .slice (some ⟨w.heap.size + 1, 0, none⟩) t.size cap, .int .i64 64, .func (.func 101) #[] #[.pointer (some ⟨w.heap.size + 1 + 1, 0, none⟩), .pointer (some ⟨w.heap.size + 1 + 1 + 1, 0, none⟩)], .slice (some ⟨w.heap.size + 1, 64 * x.val, none⟩) (min 64 (t.size - 64 * x.val)) (min 64 (t.size - 64 * x.val)), undef, undef, undef, undef, undef, undef, undef, undef, undef], defers := [] }) ?assign ?body ?done ?stop
  case assign =>
    intro l x W K hK
    dsimp only [ckEnc]
    gi_wp2
    exact hK
  case body =>
    rintro l' pre x W ⟨hbd, hR, hP, hS, hNn, hB⟩ hlt
    have hxl := x.isLt
    obtain ⟨p, hp⟩ : ∃ p, min 64 (t.size - 64 * x.val) = p := ⟨_, rfl⟩
    have hp1 : 1 ≤ p := by omega
    have hp2 : p ≤ 64 := by omega
    have hp3 : 64 * x.val + p ≤ t.size := by omega
    have hq1 : 0 ≤ (p : Int) - 1 := by omega
    have hq2 : (p : Int) - 1 < 256 := by omega
    have hlen := ckL_len t pre
    have hpre : pre.length < 64 := by omega
    have k0 : W.cell? ⟨w.heap.size, 0, none⟩ = some (.pointer (some ⟨b, 0, none⟩)) := by simp only [World.cell?]; rw [show W.heap[w.heap.size]? = _ from hP]; rfl
    rw [hp]
    have HX := Lib.hid hp; clear hp
    have HA := Lib.hid (And.intro hbd (And.intro hR (And.intro hP (And.intro hS (And.intro hNn hB))))); clear hbd hR hP hS hNn hB
    gi_wp2_with fail
    refine ⟨trivial, (callsIn_wide.2 (writeByteM_any B b (l ++ ckL t pre) ((p : Int) - 1) W hq1 hq2 HA.out.1 (by rw [List.length_append]; omega) (Nat.le_trans hB HA.out.2.2.2.2.2.size))).mono ?_⟩
    rintro e w3 ⟨rfl, hB3, hb3, hm3⟩
    have nP : ∀ (C : Array Value), Obj.cells #[Value.pointer (some ⟨b, 0, none⟩)] 87 (0, 0) ≠ .cells C 5 (0, 0) := by intro C h; injection h with _ h2 _; exact absurd h2 (by decide)
    have nS : ∀ (C : Array Value), Obj.cells #[Value.slice (some ⟨w.heap.size + 1, 0, none⟩) t.size cap] 65 (0, 0) ≠ .cells C 5 (0, 0) := by intro C h; injection h with _ h2 _; exact absurd h2 (by decide)
    have nN : ∀ (C : Array Value), Obj.cells #[Value.int .i64 64] 3 (0, 0) ≠ .cells C 5 (0, 0) := by intro C h; injection h with _ h2 _; exact absurd h2 (by decide)
    have nR : ∀ (C : Array Value), Obj.cells (bytesRow t cap) 5 (R, R + 1) ≠ .cells C 5 (0, 0) := by intro C h; injection h with _ _ h2; exact absurd (congrArg Prod.snd h2) (by simp)
    have hP3 := hm3.2 _ _ HA.out.2.2.1 (by omega) nP
    have hR3 := hm3.2 _ _ HA.out.2.1 (by omega) nR
    have k3 : w3.cell? ⟨w.heap.size, 0, none⟩ = some (.pointer (some ⟨b, 0, none⟩)) := by simp only [World.cell?]; rw [hP3]; rfl
    have hmk : Marks w3 (w.heap.size + 1) := ⟨_, _, _, hR3, by intro h; exact absurd (congrArg Prod.snd h) (by simp)⟩
    have ecs : ((t.extract (64 * x.val) (64 * x.val + p)).data.toList).length = p := by
      rw [Array.length_toList]; show (t.extract (64 * x.val) (64 * x.val + p)).size = p; rw [ByteArray.size_extract]; omega
    have hcs : ∀ (j : Nat) (u : Value), (Lib.byteCells (t.extract (64 * x.val) (64 * x.val + p)).data.toList)[j]? = some u → w3.cell? ⟨w.heap.size + 1, 64 * x.val + j, none⟩ = some u := by
      intro j u hu
      simp only [World.cell?]
      rw [hR3]
      have hj : j < p := by
        have := (List.getElem?_eq_some_iff.1 hu).1
        rw [Lib.byteCells_length, ecs] at this; exact this
      have hbr := bytesRow_at t cap (64 * x.val + j) (by show _ < t.size; omega)
      simp only [Option.bind_some]
      rw [hbr, ← hu]
      unfold Lib.byteCells
      rw [List.getElem?_map, List.getElem?_eq_getElem (by rw [ecs]; exact hj)]
      simp only [Option.map_some]
      congr 3
      simp
    have HW := Lib.hid (And.intro hB3 (And.intro hb3 (And.intro hm3 (And.intro hmk hcs)))); clear hB3 hb3 hm3 hmk hcs hP3 hR3
    have NN := Lib.hid (And.intro nP (And.intro nS (And.intro nN nR))); clear nP nS nN nR
    have WR := writeM_any B b (w.heap.size + 1) (l ++ ckL t pre ++ [((p : Int) - 1).toNat.toUInt8]) (t.extract (64 * x.val) (64 * x.val + p)).data.toList (64 * x.val) p w3 HW.out.1 (by omega) (by simp only [List.length_append, List.length_cons, List.length_nil]; omega) (Nat.le_trans hB (Nat.le_trans HA.out.2.2.2.2.2.size HW.out.2.1.size)) HW.out.2.2.2.1 (by omega) HW.out.2.2.2.2
    rw [ecs] at WR
    have HWR := Lib.hid WR; clear WR
    gi_wp2_with fail
    refine ⟨trivial, (callsIn_wide.2 HWR.out).mono ?_⟩
    rintro e w5 ⟨rfl, hB5, hb5, hm5⟩
    have M := HW.out.2.2.1.trans hm5
    have hP5 := M.2 _ _ HA.out.2.2.1 (by omega) NN.out.1
    have hR5 := M.2 _ _ HA.out.2.1 (by omega) NN.out.2.2.2
    have hS5 := M.2 _ _ HA.out.2.2.2.1 (by omega) NN.out.2.1
    have hN5 := M.2 _ _ HA.out.2.2.2.2.1 (by omega) NN.out.2.2.1
    have hBB : Bld B b (l ++ ckL t (pre ++ [x])) w5 := by
      rw [ckL_snoc]
      unfold chL
      rw [HX.out]
      have e1 : ((p : Int) - 1).toNat = p - 1 := by omega
      rw [e1] at hB5
      simpa [List.append_assoc] using hB5
    have hbe := HA.out.2.2.2.2.2.trans (HW.out.2.1.trans hb5)
    have HF := Lib.hid (And.intro hP5 (And.intro hR5 (And.intro hS5 (And.intro hN5 (And.intro hBB (And.intro hbe M)))))); clear hP5 hR5 hS5 hN5 hBB hbe M hB5
    gi_wp2
    exact ⟨⟨HF.out.2.2.2.2.2.2.1, fun k o hk ho hnc => HF.out.2.2.2.2.2.2.2 k o ho (by omega) (fun C e => by subst e; cases hnc)⟩, ⟨HF.out.2.2.1.trans HA.out.2.2.2.1.symm, HF.out.2.2.2.1.trans HA.out.2.2.2.2.1.symm⟩, HF.out.2.2.2.2.1, HF.out.2.1, HF.out.1, HF.out.2.2.1, HF.out.2.2.2.1, HF.out.2.2.2.2.2.1⟩
  case done =>
    rintro D ys W hD rfl ⟨hbd, hR, hP, hS, hNn, hBw⟩ hKD
    have hOwn := (Bld.own (β := Unit) B b (fun _ => l ++ ckL t (rndsC N N)) W4.heap.size)
    have HH := Lib.hid (And.intro hbd (And.intro hBw (And.intro hKD hOwn))); clear hbd hR hP hS hNn hBw hKD hOwn
    gi_wp2
    refine ⟨by simp, .inl ⟨_, _, rfl, run_takeDeferred HH.out.2.2.1, ?_⟩⟩
    refine ⟨.tuple #[], ?_, ?_⟩
    · simp [results, Try.results74, go_sem]
    · exact ⟨rfl, HH.out.2.2.2.putObj (s := ()) _ HH.out.1 hD HH.out.2.2.1 rfl, HH.out.2.1.trans (belowK_b (w := w) hB W D _ _ (by omega) HH.out.2.2.1 rfl rfl)⟩
  case stop =>
    rintro D c pre W _ _ h _
    exact h.elim
theorem putPlain_any (s : ByteArray) (i e B b : Nat) (l : List UInt8) (w : World) (hie : i ≤ e) (he : e ≤ s.size) (hs : s.size ≤ 4096) (hl : l.length ≤ 100000) (hb : Bld B b l w) (hB : B ≤ w.heap.size) :
    Calls Try.prog 74 #[.pointer (some ⟨b, 0, none⟩), .string (s.extract i e), .int .i64 64] w fun x w' => x = .returned (.tuple #[]) ∧ Bld B b (l ++ plV s i e) w' ∧ Below B w w' :=
  callsIn_wide.1 (putPlain_in s i e B b l w hie he hs hl hb hB)
end Go.Proofs.Ytogoklgppepbjaa
