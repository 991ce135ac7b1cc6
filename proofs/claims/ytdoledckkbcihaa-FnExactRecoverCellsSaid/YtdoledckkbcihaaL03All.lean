/- spec.l03All -/
import Derived.Test.YtdoledckkbcihaaClkVal
import Derived.Test.YtdoledckkbcihaaStepSp
import Derived.Test.YtdoledckkbcihaaStartClock
import Derived.Test.YtdoledckkbcihaaBoxF
import Derived.Test.YtdoledckkbcihaaSm
import Derived.Test.YtdoledckkbcihaaOwnI
import Derived.Test.YtdoledckkbcihaaSlRes
import Derived.Test.YtdoledckkbcihaaStepRun
import Derived.Test.YtdoledckkbcihaaMadeAt
import Derived.Deep.DeepCutAuto
namespace Go.Proofs.Ytdoledckkbcihaa
open Go.RowKit
set_option linter.unusedVariables false
set_option linter.unusedSimpArgs false
set_option maxRecDepth 20000
def Apart (u v : Value) : Prop := ∀ g, u.ownBlock = some g → v.ownBlock ≠ some g
theorem OwnI.keptA {w w' : World} {B : Nat} {u v : Value} {l : List Int} (h : OwnI w B u l) (ha : Apart u v) (hg : w.grownBy w' v.ownBlock) : OwnI w' B u l := by
  refine ⟨h.1, ?_⟩
  rcases h.2 with h2 | ⟨g, cap, cur, rfl, hgb, hh, r⟩
  · exact .inl h2
  · refine .inr ⟨g, cap, cur, rfl, hgb, ?_, r⟩
    rw [hg.block g (Array.getElem?_eq_some_iff.1 hh).1 (fun e => ha g rfl e.symm)]
    exact hh
theorem OwnI.blk {w : World} {B : Nat} {u : Value} {l : List Int} (h : OwnI w B u l) {g : Nat} (hg : u.ownBlock = some g) : g < w.heap.size := by
  rcases h.2 with ⟨rfl, _⟩ | ⟨g', cap, cur, rfl, hgb, hh, r⟩
  · simp [Value.ownBlock] at hg
  · have : g' = g := by simpa [Value.ownBlock] using hg
    subst this
    exact (Array.getElem?_eq_some_iff.1 hh).1
theorem Apart.left {w : World} {B g c n : Nat} {u v : Value} {l : List Int} (ha : Apart u v) (hv : OwnI w B v l) (h4 : u.ownBlock = some g ∨ g = w.heap.size) : Apart (.slice (some ⟨g, 0, none⟩) n c) v := by
  intro g' he hv'
  have e : g = g' := by simpa [Value.ownBlock] using he
  subst e
  rcases h4 with h4 | h4
  · exact ha g h4 hv'
  · have := hv.blk hv'; omega
theorem Apart.symm {u v : Value} (h : Apart u v) : Apart v u := fun g h1 h2 => h g h2 h1
section
variable {ops : Array Oper} {o : Oper} {a : Act} {Q : Exit → Act → World → Prop} {w : World}
theorem wpList_appendI2 {rest : List Oper} (T : TypeId) (hT : Try.prog.underlying T = some (.slice 2)) (hgd : o.guard = none) (s x : Operand) (ho : o.op = .call { callee := .builtin .append, args := #[s, x], argTypes := #[T, T] })
    {B : Nat} {v : Value} {l : List Int} (hs : a.eval s = v) (hown : OwnI w B v l) (n : Int) (ad : Addr) (c : Nat) (hx : a.eval x = .slice (some ad) 1 c)
    (hc : ∀ j u, [Value.int .i64 n][j]? = some u → w.cell? (ad.add j) = some u) (hl : l.length < 1073741824) (hB : B ≤ w.heap.size)
    (h : ∀ g cap w', OwnI w' B (.slice (some ⟨g, 0, none⟩) (l.length + 1) cap) (l ++ [n]) → w.grownBy w' v.ownBlock → Below B w w' → (v.ownBlock = some g ∨ g = w.heap.size) → wpList Try.prog ops Q rest (a.put o.dst (.slice (some ⟨g, 0, none⟩) (l.length + 1) cap)) w') : wpList Try.prog ops Q (o :: rest) a w := by
  obtain ⟨i0, hi, hz0, hz1, hz2⟩ := info_parts i64info
  refine wpList_append_lies w hgd s x T ho B 2 i0 (.int .i64 0) 1 8 hT hi hz0 hz1 hz2 rfl (by decide) v l.length (l.map (Value.int .i64)) hs hown ad 1 c [.int .i64 n] hx rfl hc (by simp [Value.oneCell']) (by decide) (by unfold maxLen; omega) (by omega) hB _ rfl ?_
  intro g cap w' h2 h3 h4 _
  exact h g cap w' (OwnI.snoc h2) h3 (hown.belowOf hB h3) h4
end
/-- Block X is a state of the clock. -/
def LK (w : World) (X : Nat) (P o : Int) : Prop := w.heap[X]? = some (.cells #[.int .i64 P, .int .i64 o] 166 (0, 0))
theorem LK.lt {w : World} {X : Nat} {P o : Int} (h : LK w X P o) : X < w.heap.size := (Array.getElem?_eq_some_iff.1 h).1
theorem LK.box {w : World} {X : Nat} {P o : Int} (h : LK w X P o) : BoxF w X #[.int .i64 P, .int .i64 o] := by
  unfold LK at h
  exact boxF2 ⟨by simp [World.cell?, h], by simp [World.frozen?, h]⟩ ⟨by simp [World.cell?, h], by simp [World.frozen?, h]⟩
theorem LK.below {w w' : World} {B X : Nat} {P o : Int} (h : LK w X P o) (hb : Below B w w') (hX : X < B) : LK w' X P o := by unfold LK; rw [hb.block X hX]; exact h
theorem LK.ne {w : World} {X B : Nat} {P o : Int} {u : Value} {l : List Int} (h : LK w X P o) (hu : OwnI w B u l) : u.ownBlock ≠ some X := by
  intro e
  rcases hu.2 with ⟨rfl, _⟩ | ⟨g, cap, cur, rfl, hgb, hh, r⟩
  · simp [Value.ownBlock] at e
  · have e2 : g = X := by simpa [Value.ownBlock] using e
    subst e2
    unfold LK at h
    rw [hh] at h
    simp at h
theorem LK.grown {w w' : World} {X : Nat} {P o : Int} {b : Option Nat} (h : LK w X P o) (hg : w.grownBy w' b) (hb : b ≠ some X) : LK w' X P o := by
  unfold LK; rw [hg.block X h.lt (fun e => hb e.symm)]; exact h
theorem OwnI.set {w : World} {B X i : Nat} {u v : Value} {l : List Int} (h : OwnI w B u l) (hX : u.ownBlock ≠ some X) : OwnI (w.setCell ⟨X, i, none⟩ v) B u l := by
  refine ⟨h.1, ?_⟩
  rcases h.2 with h2 | ⟨g, cap, cur, rfl, hgb, hh, r⟩
  · exact .inl h2
  · refine .inr ⟨g, cap, cur, rfl, hgb, ?_, r⟩
    rw [Below.heap_setCell _ _ _ _ (fun e => hX (by simp [Value.ownBlock, e]))]
    exact hh
theorem LK.put {w : World} {X : Nat} {P o P' o' : Int} (h : LK w X P o) : LK ((w.setCell ⟨X, 0, none⟩ (.int .i64 P')).setCell ⟨X, 1, none⟩ (.int .i64 o')) X P' o' := by
  unfold LK
  rw [heap_setCell_same _ X 1 #[.int .i64 P', .int .i64 o] _ _ (by rw [heap_setCell_same w X 0 _ _ _ h]; rfl)]
  rfl
theorem BoxF.grown {w w' : World} {X : Nat} {vs : Array Value} {b : Option Nat} (h : BoxF w X vs) (hX : X < w.heap.size) (hg : w.grownBy w' b) (hb : b ≠ some X) : BoxF w' X vs := by
  intro i v hv
  rw [World.cell?_of_block (a := ⟨X, i, none⟩) (hg.block X hX (fun e => hb e.symm)), World.frozen?_of_block (a := ⟨X, i, none⟩) (hg.block X hX (fun e => hb e.symm))]
  exact h i v hv
theorem OwnI.notBlk {w : World} {B X : Nat} {u : Value} {l : List Int} (h : OwnI w B u l) (hX : w.heap.size ≤ X) : u.ownBlock ≠ some X := fun e => by have := h.blk e; omega
/-- What spec.l03All answers. -/
def AllRes (ns es : List Int) (ok : Bool) (w : World) (e : Ending) (w' : World) : Prop :=
  ∃ a1 c1 a2 c2, e = .returned (.tuple #[.slice a1 ns.length c1, .slice a2 es.length c2, .bool ok]) ∧ SlO w' w.heap.size a1 ns ∧ SlO w' w.heap.size a2 es ∧ Below w.heap.size w w'
set_option maxHeartbeats 16000000 in
theorem l03All_0 (b0 : Nat) (cl f : Int) (a : Option Addr) (cap : Nat) (zs : List Int) (c l h p s : Int) (hv : fluxOk cl f zs = true) (hcl : clockOk c l h p s = true) (w : World) (hF : FluxAt w b0 cl f a zs.length cap) (hs : SlA w a zs)
    (W : World) (hW : ((w.alloc (.cells #[.int .i64 c, .int .i64 l, .int .i64 h, .int .i64 p, .int .i64 s] 59)).alloc (.cells #[] 2)).alloc (.cells #[] 2) = W) :
    Calls Try.prog 77 #[.pointer (some ⟨b0, 0, none⟩), .agg #[.int .i64 c, .int .i64 l, .int .i64 h, .int .i64 p, .int .i64 s]] w (AllRes (if ckOk c l h p s f zs zs.length = true then ckNs c l h p s f zs zs.length else []) (if ckOk c l h p s f zs zs.length = true then ckEs c l h p s f zs zs.length else []) (ckOk c l h p s f zs zs.length) w) := by
  obtain ⟨_, ⟨hn1, hn2⟩, hz, hsum, hf0, hf1⟩ := fluxOk_iff.1 hv
  have hf2 : f ≤ 2000000 := by
    obtain ⟨x, hx⟩ := getOf (zs := zs) (k := zs.length - 1) (by omega)
    have h9 := inB_iff.1 (List.all_eq_true.1 hz x (List.mem_of_getElem? hx))
    rw [hx] at hf1
    simp at hf1
    omega
  obtain ⟨a1, a2, a3, a4, a5⟩ := clockOk_iff.1 hcl
  have ST := Lib.hid (fun w' => l03Start_any c l h p s w' a1.1 a1.2)
  have hb0 := hF.lt
  have R0 := Lib.hid (fun (h1 : ckOk c l h p s f zs zs.length = true) => (show (if ckOk c l h p s f zs zs.length = true then ckNs c l h p s f zs zs.length else []) = ckNs c l h p s f zs zs.length ∧ (if ckOk c l h p s f zs zs.length = true then ckEs c l h p s f zs zs.length else []) = ckEs c l h p s f zs zs.length ∧ ckOk c l h p s f zs zs.length = true from ⟨if_pos h1, if_pos h1, h1⟩))
  have R1 := Lib.hid (fun (h1 : ckOk c l h p s f zs zs.length = false) => (show (if ckOk c l h p s f zs zs.length = true then ckNs c l h p s f zs zs.length else []) = [] ∧ (if ckOk c l h p s f zs zs.length = true then ckEs c l h p s f zs zs.length else []) = [] ∧ ckOk c l h p s f zs zs.length = false from ⟨by rw [h1]; rfl, by rw [h1]; rfl, h1⟩))
  generalize (if ckOk c l h p s f zs zs.length = true then ckNs c l h p s f zs zs.length else []) = rn at R0 R1 ⊢
  generalize (if ckOk c l h p s f zs zs.length = true then ckEs c l h p s f zs zs.length else []) = re at R0 R1 ⊢
  obtain ⟨ok, hok0⟩ : ∃ ok, ckOk c l h p s f zs zs.length = ok := ⟨_, rfl⟩
  have R2 := Lib.hid hok0
  rw [hok0]
  have HCK := Lib.hid (And.intro hv (And.intro hcl hz))
  have KF := Lib.hid (fun w' (hb : Below w.heap.size w w') => hF.below hb hb0)
  have KZ := Lib.hid (fun w' (hb : Below w.heap.size w w') => hs.below hb (Nat.le_refl _))
  have hWs : W.heap.size = w.heap.size + 3 := by rw [← hW]; simp
  have hWB : Below w.heap.size w W := by rw [← hW]; go_grown
  have hWC : BoxF W w.heap.size #[.int .i64 c, .int .i64 l, .int .i64 h, .int .i64 p, .int .i64 s] := by
    rw [← hW]
    exact ((BoxF.new w _ 59 _ rfl).below ((Below.refl _ _).alloc (Nat.le_refl _) _) (by simp)).below ((Below.refl _ _).alloc (Nat.le_refl _) _) (by simp; omega)
  have hW1 : OwnI W (w.heap.size + 1) (.slice (some ⟨w.heap.size + 1, 0, none⟩) 0 0) [] := by
    rw [← hW]
    have h9 := OwnI.empty (w.alloc (.cells #[.int .i64 c, .int .i64 l, .int .i64 h, .int .i64 p, .int .i64 s] 59)) (w.heap.size + 1) (by simp)
    simp only [World.size_alloc] at h9
    exact h9.alloc _
  have hW2 : OwnI W (w.heap.size + 1) (.slice (some ⟨w.heap.size + 2, 0, none⟩) 0 0) [] := by
    rw [← hW]
    have h9 := OwnI.empty ((w.alloc (.cells #[.int .i64 c, .int .i64 l, .int .i64 h, .int .i64 p, .int .i64 s] 59)).alloc (.cells #[] 2)) (w.heap.size + 1) (by simp)
    simp only [World.size_alloc] at h9
    exact h9
  have x0 := (hWC 0 _ rfl).1
  have x1 := (hWC 1 _ rfl).1
  have x2 := (hWC 2 _ rfl).1
  have x3 := (hWC 3 _ rfl).1
  have x4 := (hWC 4 _ rfl).1
  clear hok0 hv hcl hz hsum hf1 hF hs
  go_enter Try.func77, Try.ntmps77
  go_wp2_with fail
  clear x0 x1 x2 x3 x4
  refine (ST.out _).mono ?_
  rintro e w1 ⟨rfl, hb1⟩
  have hz1 := hb1.size
  have KC := Lib.hid (fun w' (hb : Below (w.heap.size + 1) w1 w') => (hWC.below hb1 (by omega)).below hb (by omega))
  have HB1 := Lib.hid (hWB.trans (hb1.mono (by omega)))
  have O1 := Lib.hid (hW1.below' hb1)
  have O2 := Lib.hid (hW2.below' hb1)
  clear hb1 hWC hWB hW1 hW2 hW
  have ⟨y3, _⟩ := (KC.out _ (Below.refl _ _)) 3 _ rfl
  have ⟨y0, _⟩ := (KC.out _ (Below.refl _ _)) 0 _ rfl
  have yF := (KF.out _ HB1.out).2.1
  have q1 : w.heap.size < w1.heap.size := by omega
  have q2 : ¬ w.heap.size = w1.heap.size := by omega
  have q3 : ¬ w1.heap.size = w.heap.size := by omega
  have q4 : b0 < w1.heap.size := by omega
  have q5 : ¬ b0 = w1.heap.size := by omega
  have q6 : ¬ w1.heap.size = b0 := by omega
  have e1 : f.tmod c = f % c := Int.tmod_eq_emod_of_nonneg hf0
  have e2 : c.tdiv 2 = c / 2 := Int.tdiv_eq_ediv_of_nonneg (by omega)
  have h1 := Int.emod_nonneg f (show c ≠ 0 by omega)
  have h2 := Int.emod_lt_of_pos f (show 0 < c by omega)
  have hc0 : ¬ c = 0 := by omega
  have HOF := Lib.hid (show off0 c p f = if p = 0 then (f % c - c / 2) * 64 else 0 by unfold off0; rw [e1, e2]; split <;> omega)
  obtain ⟨r, hr⟩ : ∃ r, f % c = r := ⟨_, rfl⟩
  rw [hr] at e1 h1 h2 HOF
  have hw1 : IntKind.i64.wrap (r - c / 2) = r - c / 2 := IntWalk.i64_in _ (by omega)
  have hw2 : IntKind.i64.wrap ((r - c / 2) * 64) = (r - c / 2) * 64 := IntWalk.i64_in _ (by omega)
  clear hr
  have HC1 := Lib.hid (show Below w1.heap.size w1 (w1.alloc (.cells #[.int .i64 (c * 64), .int .i64 0] 166)) from (Below.refl _ _).alloc (Nat.le_refl _) _)
  cases hq : (p == 0) with
  | false =>
    have hpn : ¬ p = 0 := by simpa using hq
    have HOFF := Lib.hid (show off0 c p f = 0 by rw [HOF.out, if_neg hpn])
    clear HOF
    go_wp2
    have BW := Lib.hid (show Below w1.heap.size w1 (w1.alloc (.cells #[.int .i64 (c * 64), .int .i64 0] 166)) from (Below.refl _ _).alloc (Nat.le_refl _) _)
    go_loopw [7, 8, 10, 11, 12, 13] (fun v7 v8 i _ _ _ wr => ∃ k : Nat, k ≤ zs.length ∧ i = .int .i64 k ∧ Hid (ckOk c l h p s f zs k = true) ∧ Hid (OwnI wr (w.heap.size + 1) v7 (ckNs c l h p s f zs k)) ∧ Hid (OwnI wr (w.heap.size + 1) v8 (ckEs c l h p s f zs k)) ∧ Hid (Apart v7 v8) ∧ Hid (LK wr w1.heap.size (ckSt c l h p s f zs k).1 (ckSt c l h p s f zs k).2) ∧ Below (w.heap.size + 1) w1 wr ∧ w1.heap.size < wr.heap.size) (fun _ _ i _ _ _ _ => zs.length - (intOf i).toNat)
    case atStart =>
      refine ⟨0, Nat.zero_le _, rfl, by unfold Hid; rfl, Lib.hid (O1.out.below' BW.out), Lib.hid (O2.out.below' BW.out), Lib.hid (fun g h1 h2 => by simp [Value.ownBlock] at h1 h2; omega), ?_, BW.out.mono (by omega), by simp⟩
      have e9 : (ckSt c l h p s f zs 0).2 = 0 := HOFF.out
      rw [show (ckSt c l h p s f zs 0).1 = c * 64 from rfl, e9]
      exact Lib.hid (heap_alloc_new w1 _)
    case round =>
      obtain ⟨k, hk, rfl, hG, hO1, hO2, hA, hL, hb, hgt⟩ := hrel
      have HBW := HB1.out.trans (hb.mono (by omega))
      have yFr := (KF.out _ HBW).2.2
      by_cases hlt : k < zs.length
      · obtain ⟨x, hx⟩ := getOf hlt
        obtain ⟨b, off, rfl, hc⟩ := (KZ.out _ HBW).cell hx
        have hcx := HCK.out
        have hx0 := inB_iff.1 (List.all_eq_true.1 hcx.2.2 x (List.mem_of_getElem? hx))
        have hgx : zs.getD k 0 = x := by rw [List.getD_eq_getElem?_getD, hx]; rfl
        have hbd := ckSt_w (zs := zs) hcx.2.1 hf0 k
        have hbd2 := ckSt_bd (zs := zs) hcx.2.1 hf0 k
        have hN0 := ckN_bd (zs := zs) hcx.2.1 hf0 hx hx0.1 hx0.2
        have hst : ckSt c l h p s f zs (k + 1) = (stPer l h s (ckSt c l h p s f zs k).1 (ckSt c l h p s f zs k).2 x, stOff l h p s (ckSt c l h p s f zs k).1 (ckSt c l h p s f zs k).2 x) := by rw [ckSt, hgx]
        have hok : ckOk c l h p s f zs (k + 1) = decide (ckN c l h p s f zs k ≤ 100) := by rw [ckOk, hG.out, Bool.true_and]
        have hNe : stN (ckSt c l h p s f zs k).1 (ckSt c l h p s f zs k).2 x = ckN c l h p s f zs k := by unfold ckN; rw [hgx]
        have hEe : stE (ckSt c l h p s f zs k).1 (ckSt c l h p s f zs k).2 x = ckE c l h p s f zs k := by unfold ckE; rw [hgx]
        have hsN := ckNs_succ c l h p s f zs k
        have hsE := ckEs_succ c l h p s f zs k
        have hlN := ckNs_len c l h p s f zs k
        have hlE := ckEs_len c l h p s f zs k
        generalize (ckSt c l h p s f zs k).1 = P at *
        generalize (ckSt c l h p s f zs k).2 = o at *
        have SP := Lib.hid (fun w' => l03Step_any c l h p s P o x w' (by omega) (by omega) (by omega) (by omega) hbd.1 hbd.2.1 hbd.2.2.1 hbd.2.2.2 hx0.1 hx0.2 hbd2.1.1 hbd2.1.2)
        rw [hNe, hEe] at SP
        generalize ckN c l h p s f zs k = N at *
        generalize ckE c l h p s f zs k = E at *
        generalize ckNs c l h p s f zs k = Ns at *
        generalize ckEs c l h p s f zs k = Es at *
        generalize stPer l h s P o x = P' at *
        generalize stOff l h p s P o x = o' at *
        have HX := Lib.hid (And.intro hst (And.intro hok (And.intro hsN (And.intro hsE hx))))
        have KCk := Lib.hid (fun w' (hb9 : Below wr.heap.size wr w') => (KC.out _ (hb.trans (hb9.mono (by omega)))).box)
        have KLk := Lib.hid (fun w' (hb9 : Below wr.heap.size wr w') => (hL.out.below hb9 hgt).box.box)
        have KFk := Lib.hid (fun w' (hb9 : Below wr.heap.size wr w') => (KF.out _ (HBW.trans (hb9.mono HBW.size))).2.2)
        have KZk := Lib.hid (fun w' (hb9 : Below wr.heap.size wr w') => (show w'.cell? ⟨b, off + k, none⟩ = some (.int .i64 x) from by
          obtain ⟨b', off', e9, h9⟩ := (KZ.out _ (HBW.trans (hb9.mono HBW.size))).cell hx
          cases e9
          exact h9))
        have HC := Lib.hid (Below.refl wr.heap.size wr)
        have l1 : b < wr.heap.size := World.block_lt_of_cell? _ _ hc
        have l2 : w.heap.size < wr.heap.size := by omega
        have l3 : b0 < wr.heap.size := by omega
        have l4 : ¬ b = wr.heap.size := by omega
        have l5 : ¬ w.heap.size = wr.heap.size := by omega
        have l6 : ¬ b0 = wr.heap.size := by omega
        have l7 : ¬ w1.heap.size = wr.heap.size := by omega
        clear hst hok hsN hsE hx hgx hNe hEe hbd hbd2 hcx
        have k0 := KCk.out _ HC.out 0 _ rfl
        have k1 := KCk.out _ HC.out 1 _ rfl
        have k2 := KCk.out _ HC.out 2 _ rfl
        have k3 := KCk.out _ HC.out 3 _ rfl
        have k4 := KCk.out _ HC.out 4 _ rfl
        have j0 := KLk.out _ HC.out 0 _ rfl
        have j1 := KLk.out _ HC.out 1 _ rfl
        go_wp2
        go_cut [11, 12, 13] (fun v11 v12 v13 wx => Hid (v11 = .int .i64 N ∧ v12 = .int .i64 E ∧ OneIn2 (.int .i64 P') (.int .i64 o') wr wx v13 ∧ Below wr.heap.size wr wx))
        case first =>
          have KS := Lib.hid (fun w' (hb : Below wr.heap.size wr w') => (show w'.cell? ⟨w.heap.size, 0, none⟩ = some (.int .i64 c) ∧ w'.cell? ⟨w.heap.size, 1, none⟩ = some (.int .i64 l) ∧ w'.cell? ⟨w.heap.size, 2, none⟩ = some (.int .i64 h) ∧ w'.cell? ⟨w.heap.size, 3, none⟩ = some (.int .i64 p) ∧ w'.cell? ⟨w.heap.size, 4, none⟩ = some (.int .i64 s) ∧ w'.cell? ⟨w1.heap.size, 0, none⟩ = some (.int .i64 P) ∧ w'.cell? ⟨w1.heap.size, 1, none⟩ = some (.int .i64 o) ∧ w'.cell? ⟨b0, 2, none⟩ = some (.slice (some ⟨b, off, none⟩) zs.length cap) ∧ w'.cell? ⟨b, off + k, none⟩ = some (.int .i64 x) from ⟨KCk.out w' hb 0 _ rfl, KCk.out w' hb 1 _ rfl, KCk.out w' hb 2 _ rfl, KCk.out w' hb 3 _ rfl, KCk.out w' hb 4 _ rfl, KLk.out w' hb 0 _ rfl, KLk.out w' hb 1 _ rfl, KFk.out w' hb, KZk.out w' hb⟩))
          replace HC := Lib.hid (show Below wr.heap.size wr wr.drew from (Below.refl _ _).drew)
          refine wp_region_held_drew (S := (fun w' => w'.cell? ⟨w.heap.size, 0, none⟩ = some (.int .i64 c) ∧ w'.cell? ⟨w.heap.size, 1, none⟩ = some (.int .i64 l) ∧ w'.cell? ⟨w.heap.size, 2, none⟩ = some (.int .i64 h) ∧ w'.cell? ⟨w.heap.size, 3, none⟩ = some (.int .i64 p) ∧ w'.cell? ⟨w.heap.size, 4, none⟩ = some (.int .i64 s) ∧ w'.cell? ⟨w1.heap.size, 0, none⟩ = some (.int .i64 P) ∧ w'.cell? ⟨w1.heap.size, 1, none⟩ = some (.int .i64 o) ∧ w'.cell? ⟨b0, 2, none⟩ = some (.slice (some ⟨b, off, none⟩) zs.length cap) ∧ w'.cell? ⟨b, off + k, none⟩ = some (.int .i64 x))) (by kernel_rfl) (KS.out _ HC.out) (fun hHeld => ?_)
          refine wpAnyH_take (i := 0) (oi := { dst := some 44, op := Op.load 59 (Operand.tmp 3), type := 59, pos := "l03_clock.go:71", after := #[], guard := none }) (v := ?_) rfl (by kernel_rfl) (by kernel_rfl) (by kernel_rfl) (fun _ _ _ h => h) (Or.inl ⟨by rfl, ?hy⟩) hHeld ?_
          case hy => (intro w' hSw; (try dsimp only at hSw); go_simp; try with_reducible rfl)
          simp only [Act.put, List.setIfInBounds_toArray, List.set_cons_zero, List.set_cons_succ]
          refine wpAnyH_take (i := 1) (oi := { dst := some 45, op := Op.load 166 (Operand.tmp 9), type := 166, pos := "l03_clock.go:71", after := #[], guard := none }) (v := ?_) rfl (by kernel_rfl) (by kernel_rfl) (by kernel_rfl) (fun _ _ _ h => h) (Or.inl ⟨by rfl, ?hy⟩) hHeld ?_
          case hy => (intro w' hSw; (try dsimp only at hSw); go_simp; try with_reducible rfl)
          simp only [Act.put, List.setIfInBounds_toArray, List.set_cons_zero, List.set_cons_succ]
          refine wpAnyH_take (i := 2) (oi := { dst := some 46, op := Op.move (Operand.tmp 0), type := 118, pos := "l03_clock.go:71", after := #[], guard := none }) (v := ?_) rfl (by kernel_rfl) (by kernel_rfl) (by kernel_rfl) (fun _ _ _ h => h) (Or.inl ⟨by rfl, ?hy⟩) hHeld ?_
          case hy => (intro w' hSw; (try dsimp only at hSw); go_simp; try with_reducible rfl)
          simp only [Act.put, List.setIfInBounds_toArray, List.set_cons_zero, List.set_cons_succ]
          refine wpAnyH_take (i := 3) (oi := { dst := some 47, op := Op.nilCheck (Operand.tmp 46), type := 0, pos := "l03_clock.go:71", after := #[{ on := 2, ground := Ground.data }], guard := none }) (v := ?_) rfl (by kernel_rfl) (by kernel_rfl) (by kernel_rfl) (fun _ _ _ h => h) (Or.inl ⟨by rfl, ?hy⟩) hHeld ?_
          case hy => (intro w' hSw; (try dsimp only at hSw); go_simp; try with_reducible rfl)
          simp only [Act.put, List.setIfInBounds_toArray, List.set_cons_zero, List.set_cons_succ]
          refine wpAnyH_take (i := 4) (oi := { dst := some 48, op := Op.fieldAddr 57 (Operand.tmp 47) 2, type := 0, pos := "l03_clock.go:71", after := #[{ on := 3, ground := Ground.data }], guard := none }) (v := ?_) rfl (by kernel_rfl) (by kernel_rfl) (by kernel_rfl) (fun _ _ _ h => h) (Or.inl ⟨by rfl, ?hy⟩) hHeld ?_
          case hy => (intro w' hSw; (try dsimp only at hSw); go_simp; try with_reducible rfl)
          simp only [Act.put, List.setIfInBounds_toArray, List.set_cons_zero, List.set_cons_succ]
          refine wpAnyH_take (i := 5) (oi := { dst := some 49, op := Op.load 49 (Operand.tmp 48), type := 49, pos := "l03_clock.go:71", after := #[{ on := 4, ground := Ground.data }], guard := none }) (v := ?_) rfl (by kernel_rfl) (by kernel_rfl) (by kernel_rfl) (fun _ _ _ h => h) (Or.inl ⟨by rfl, ?hy⟩) hHeld ?_
          case hy => (intro w' hSw; (try dsimp only at hSw); go_simp; try with_reducible rfl)
          simp only [Act.put, List.setIfInBounds_toArray, List.set_cons_zero, List.set_cons_succ]
          refine wpAnyH_take (i := 6) (oi := { dst := some 50, op := Op.move (Operand.tmp 10), type := 3, pos := "l03_clock.go:71", after := #[], guard := none }) (v := ?_) rfl (by kernel_rfl) (by kernel_rfl) (by kernel_rfl) (fun _ _ _ h => h) (Or.inl ⟨by rfl, ?hy⟩) hHeld ?_
          case hy => (intro w' hSw; (try dsimp only at hSw); go_simp; try with_reducible rfl)
          simp only [Act.put, List.setIfInBounds_toArray, List.set_cons_zero, List.set_cons_succ]
          refine wpAnyH_take (i := 7) (oi := { dst := some 51, op := Op.indexAddr 49 (Operand.tmp 49) (Operand.tmp 50), type := 0, pos := "l03_clock.go:71", after := #[{ on := 5, ground := Ground.data }, { on := 6, ground := Ground.data }], guard := none }) (v := ?_) rfl (by kernel_rfl) (by kernel_rfl) (by kernel_rfl) (fun _ _ _ h => h) (Or.inl ⟨by rfl, ?hy⟩) hHeld ?_
          case hy => (intro w' hSw; (try dsimp only at hSw); go_simp; try with_reducible rfl)
          simp only [Act.put, List.setIfInBounds_toArray, List.set_cons_zero, List.set_cons_succ]
          refine wpAnyH_take (i := 8) (oi := { dst := some 52, op := Op.load 2 (Operand.tmp 51), type := 2, pos := "l03_clock.go:71", after := #[{ on := 7, ground := Ground.data }], guard := none }) (v := ?_) rfl (by kernel_rfl) (by kernel_rfl) (by kernel_rfl) (fun _ _ _ h => h) (Or.inl ⟨by rfl, ?hy⟩) hHeld ?_
          case hy => (intro w' hSw; (try dsimp only at hSw); go_simp; try with_reducible rfl)
          simp only [Act.put, List.setIfInBounds_toArray, List.set_cons_zero, List.set_cons_succ]
          refine wpAnyH_ready (rs := [9, 14]) (by kernel_rfl) (by simp) ?_
          refine AllReadyH.cons (o := { dst := some 53, op := Op.call { callee := Callee.value (Operand.func 108), args := #[Operand.tmp 44, Operand.tmp 45, Operand.tmp 52], argTypes := #[59, 166, 2] }, type := 168, pos := "l03_clock.go:71", after := #[{ on := 0, ground := Ground.data }, { on := 1, ground := Ground.data }, { on := 8, ground := Ground.data }], guard := none }) rfl (fun K hK => ?_) (AllReadyH.cons (o := { dst := some 13, op := Op.alloc 166, type := 0, pos := "l03_clock.go:71", after := #[], guard := none }) rfl (fun K hK => ?_) AllReadyH.nil)
          · go_simp
            go_at_call 108; refine (SP.out _).mono ?_; rintro e w2 ⟨rfl, hb2⟩; replace HC := Lib.hid (HC.out.trans (hb2.mono HC.out.size)); (try (replace EA := Lib.hid (EA.out.below hb2)))
            go_wp2_with fail
            refine hK.out _ _ (KS.out _ HC.out) (fun hHeld => ?_)
            clear hK K
            try simp only [Act.put, List.setIfInBounds_toArray, List.set_cons_zero, List.set_cons_succ]
            refine wpAnyH_take (i := 10) (oi := { dst := some 43, op := Op.move (Operand.tmp 53), type := 168, pos := "l03_clock.go:71", after := #[{ on := 9, ground := Ground.data }], guard := none }) (v := ?_) rfl (by kernel_rfl) (by kernel_rfl) (by kernel_rfl) (fun _ _ _ h => h) (Or.inl ⟨by rfl, ?hy⟩) hHeld ?_
            case hy => (intro w' hSw; (try dsimp only at hSw); go_simp; try with_reducible rfl)
            simp only [Act.put, List.setIfInBounds_toArray, List.set_cons_zero, List.set_cons_succ]
            refine wpAnyH_take (i := 11) (oi := { dst := some 54, op := Op.extract (Operand.tmp 43) 0, type := 2, pos := "l03_clock.go:71", after := #[{ on := 10, ground := Ground.data }], guard := none }) (v := ?_) rfl (by kernel_rfl) (by kernel_rfl) (by kernel_rfl) (fun _ _ _ h => h) (Or.inl ⟨by rfl, ?hy⟩) hHeld ?_
            case hy => (intro w' hSw; (try dsimp only at hSw); go_simp; try with_reducible rfl)
            simp only [Act.put, List.setIfInBounds_toArray, List.set_cons_zero, List.set_cons_succ]
            refine wpAnyH_take (i := 12) (oi := { dst := some 55, op := Op.extract (Operand.tmp 43) 1, type := 2, pos := "l03_clock.go:71", after := #[{ on := 10, ground := Ground.data }, { on := 15, ground := Ground.gcOnly Departure.lateStores }], guard := none }) (v := ?_) rfl (by kernel_rfl) (by kernel_rfl) (by kernel_rfl) (fun _ _ _ h => h) (Or.inl ⟨by rfl, ?hy⟩) hHeld ?_
            case hy => (intro w' hSw; (try dsimp only at hSw); go_simp; try with_reducible rfl)
            simp only [Act.put, List.setIfInBounds_toArray, List.set_cons_zero, List.set_cons_succ]
            refine wpAnyH_take (i := 13) (oi := { dst := some 56, op := Op.extract (Operand.tmp 43) 2, type := 166, pos := "l03_clock.go:71", after := #[{ on := 10, ground := Ground.data }, { on := 16, ground := Ground.gcOnly Departure.lateStores }], guard := none }) (v := ?_) rfl (by kernel_rfl) (by kernel_rfl) (by kernel_rfl) (fun _ _ _ h => h) (Or.inl ⟨by rfl, ?hy⟩) hHeld ?_
            case hy => (intro w' hSw; (try dsimp only at hSw); go_simp; try with_reducible rfl)
            simp only [Act.put, List.setIfInBounds_toArray, List.set_cons_zero, List.set_cons_succ]
            refine wpAnyH_ready (rs := [14]) (by kernel_rfl) (by simp) ?_
            refine AllReadyH.cons (o := { dst := some 13, op := Op.alloc 166, type := 0, pos := "l03_clock.go:71", after := #[], guard := none }) rfl (fun K hK => ?_) AllReadyH.nil
            have EA := Lib.hid ((fun (V : World) (h : Below wr.heap.size wr V) => MadeAt.new V (.cells #[.int .i64 0, .int .i64 0] 166)) _ HC.out)
            have PA := Lib.hid HC.out.size
            replace HC := Lib.hid (HC.out.alloc HC.out.size (.cells #[.int .i64 0, .int .i64 0] 166))
            go_simp
            refine hK.out _ _ (KS.out _ HC.out) (fun hHeld => ?_)
            clear hK K
            try simp only [Act.put, List.setIfInBounds_toArray, List.set_cons_zero, List.set_cons_succ]
            generalize hVA : w2.alloc (.cells #[.int .i64 0, .int .i64 0] 166) = VA at *
            clear hVA
            refine wpAnyH_take (i := 15) (oi := { dst := some 11, op := Op.assign (Operand.tmp 54), type := 2, pos := "l03_clock.go:71", after := #[{ on := 11, ground := Ground.data }, { on := 9, ground := Ground.chain }, { on := 0, ground := Ground.phase }, { on := 1, ground := Ground.phase }, { on := 2, ground := Ground.phase }, { on := 3, ground := Ground.phase }, { on := 4, ground := Ground.phase }, { on := 5, ground := Ground.phase }, { on := 6, ground := Ground.phase }, { on := 7, ground := Ground.phase }, { on := 8, ground := Ground.phase }, { on := 9, ground := Ground.phase }, { on := 10, ground := Ground.phase }, { on := 11, ground := Ground.phase }, { on := 12, ground := Ground.textOnly Departure.lateStores }, { on := 13, ground := Ground.textOnly Departure.lateStores }, { on := 14, ground := Ground.phase }], guard := none }) (v := ?_) rfl (by kernel_rfl) (by kernel_rfl) (by kernel_rfl) (fun _ _ _ h => h) (Or.inl ⟨by rfl, ?hy⟩) hHeld ?_
            case hy => (intro w' hSw; (try dsimp only at hSw); go_simp; try with_reducible rfl)
            simp only [Act.put, List.setIfInBounds_toArray, List.set_cons_zero, List.set_cons_succ]
            refine wpAnyH_take (i := 16) (oi := { dst := some 12, op := Op.assign (Operand.tmp 55), type := 2, pos := "l03_clock.go:71", after := #[{ on := 12, ground := Ground.data }, { on := 15, ground := Ground.chain }, { on := 0, ground := Ground.phase }, { on := 1, ground := Ground.phase }, { on := 2, ground := Ground.phase }, { on := 3, ground := Ground.phase }, { on := 4, ground := Ground.phase }, { on := 5, ground := Ground.phase }, { on := 6, ground := Ground.phase }, { on := 7, ground := Ground.phase }, { on := 8, ground := Ground.phase }, { on := 9, ground := Ground.phase }, { on := 10, ground := Ground.phase }, { on := 11, ground := Ground.phase }, { on := 12, ground := Ground.phase }, { on := 13, ground := Ground.textOnly Departure.lateStores }, { on := 14, ground := Ground.phase }, { on := 15, ground := Ground.phase }], guard := none }) (v := ?_) rfl (by kernel_rfl) (by kernel_rfl) (by kernel_rfl) (fun _ _ _ h => h) (Or.inl ⟨by rfl, ?hy⟩) hHeld ?_
            case hy => (intro w' hSw; (try dsimp only at hSw); go_simp; try with_reducible rfl)
            simp only [Act.put, List.setIfInBounds_toArray, List.set_cons_zero, List.set_cons_succ]
            refine wpAnyH_ready (rs := [17]) (by kernel_rfl) (by simp) ?_
            refine AllReadyH.cons (o := { dst := none, op := Op.store 166 (Operand.tmp 13) (Operand.tmp 56), type := 0, pos := "l03_clock.go:71", after := #[{ on := 14, ground := Ground.data }, { on := 13, ground := Ground.data }, { on := 16, ground := Ground.chain }, { on := 0, ground := Ground.phase }, { on := 1, ground := Ground.phase }, { on := 2, ground := Ground.phase }, { on := 3, ground := Ground.phase }, { on := 4, ground := Ground.phase }, { on := 5, ground := Ground.phase }, { on := 6, ground := Ground.phase }, { on := 7, ground := Ground.phase }, { on := 8, ground := Ground.phase }, { on := 9, ground := Ground.phase }, { on := 10, ground := Ground.phase }, { on := 11, ground := Ground.phase }, { on := 12, ground := Ground.phase }, { on := 13, ground := Ground.phase }, { on := 14, ground := Ground.phase }, { on := 15, ground := Ground.phase }, { on := 16, ground := Ground.phase }], guard := none }) rfl (fun K hK => ?_) AllReadyH.nil
            obtain ⟨qa0, qb0⟩ := EA.out.at 0 rfl
            obtain ⟨qa1, qb1⟩ := EA.out.at 1 rfl
            go_simp
            refine hK.out _ _ (KS.out _ ((HC.out.setCell PA.out _).setCell PA.out _)) (fun hHeld => ?_)
            clear hK K
            try simp only [Act.put, List.setIfInBounds_toArray, List.set_cons_zero, List.set_cons_succ]
            refine wpAnyH_done (by kernel_rfl) ?_ _
            go_wp2_with fail
            go_meet
            case rel => exact Lib.hid ⟨rfl, rfl, OneIn2.mk PA.out EA.out, (HC.out.setCell PA.out _).setCell PA.out _⟩
          · have EA := Lib.hid (show MadeAt (wr.alloc (.cells #[.int .i64 0, .int .i64 0] 166)).drew wr.heap.size (.cells #[.int .i64 0, .int .i64 0] 166) from MadeAt.new wr (.cells #[.int .i64 0, .int .i64 0] 166))
            have PA := Lib.hid (Nat.le_refl wr.heap.size)
            replace HC := Lib.hid (show Below wr.heap.size wr (wr.alloc (.cells #[.int .i64 0, .int .i64 0] 166)).drew from ((Below.refl _ _).alloc (Nat.le_refl _) (.cells #[.int .i64 0, .int .i64 0] 166)).drew)
            go_simp
            refine hK.out _ _ (KS.out _ HC.out) (fun hHeld => ?_)
            clear hK K
            try simp only [Act.put, List.setIfInBounds_toArray, List.set_cons_zero, List.set_cons_succ]
            generalize hVA : (wr.alloc (.cells #[.int .i64 0, .int .i64 0] 166)).drew = VA at *
            clear hVA
            refine wpAnyH_ready (rs := [9]) (by kernel_rfl) (by simp) ?_
            refine AllReadyH.cons (o := { dst := some 53, op := Op.call { callee := Callee.value (Operand.func 108), args := #[Operand.tmp 44, Operand.tmp 45, Operand.tmp 52], argTypes := #[59, 166, 2] }, type := 168, pos := "l03_clock.go:71", after := #[{ on := 0, ground := Ground.data }, { on := 1, ground := Ground.data }, { on := 8, ground := Ground.data }], guard := none }) rfl (fun K hK => ?_) AllReadyH.nil
            go_simp
            go_at_call 108; refine (SP.out _).mono ?_; rintro e w2 ⟨rfl, hb2⟩; replace HC := Lib.hid (HC.out.trans (hb2.mono HC.out.size)); (try (replace EA := Lib.hid (EA.out.below hb2)))
            go_wp2_with fail
            refine hK.out _ _ (KS.out _ HC.out) (fun hHeld => ?_)
            clear hK K
            try simp only [Act.put, List.setIfInBounds_toArray, List.set_cons_zero, List.set_cons_succ]
            refine wpAnyH_take (i := 10) (oi := { dst := some 43, op := Op.move (Operand.tmp 53), type := 168, pos := "l03_clock.go:71", after := #[{ on := 9, ground := Ground.data }], guard := none }) (v := ?_) rfl (by kernel_rfl) (by kernel_rfl) (by kernel_rfl) (fun _ _ _ h => h) (Or.inl ⟨by rfl, ?hy⟩) hHeld ?_
            case hy => (intro w' hSw; (try dsimp only at hSw); go_simp; try with_reducible rfl)
            simp only [Act.put, List.setIfInBounds_toArray, List.set_cons_zero, List.set_cons_succ]
            refine wpAnyH_take (i := 11) (oi := { dst := some 54, op := Op.extract (Operand.tmp 43) 0, type := 2, pos := "l03_clock.go:71", after := #[{ on := 10, ground := Ground.data }], guard := none }) (v := ?_) rfl (by kernel_rfl) (by kernel_rfl) (by kernel_rfl) (fun _ _ _ h => h) (Or.inl ⟨by rfl, ?hy⟩) hHeld ?_
            case hy => (intro w' hSw; (try dsimp only at hSw); go_simp; try with_reducible rfl)
            simp only [Act.put, List.setIfInBounds_toArray, List.set_cons_zero, List.set_cons_succ]
            refine wpAnyH_take (i := 12) (oi := { dst := some 55, op := Op.extract (Operand.tmp 43) 1, type := 2, pos := "l03_clock.go:71", after := #[{ on := 10, ground := Ground.data }, { on := 15, ground := Ground.gcOnly Departure.lateStores }], guard := none }) (v := ?_) rfl (by kernel_rfl) (by kernel_rfl) (by kernel_rfl) (fun _ _ _ h => h) (Or.inl ⟨by rfl, ?hy⟩) hHeld ?_
            case hy => (intro w' hSw; (try dsimp only at hSw); go_simp; try with_reducible rfl)
            simp only [Act.put, List.setIfInBounds_toArray, List.set_cons_zero, List.set_cons_succ]
            refine wpAnyH_take (i := 13) (oi := { dst := some 56, op := Op.extract (Operand.tmp 43) 2, type := 166, pos := "l03_clock.go:71", after := #[{ on := 10, ground := Ground.data }, { on := 16, ground := Ground.gcOnly Departure.lateStores }], guard := none }) (v := ?_) rfl (by kernel_rfl) (by kernel_rfl) (by kernel_rfl) (fun _ _ _ h => h) (Or.inl ⟨by rfl, ?hy⟩) hHeld ?_
            case hy => (intro w' hSw; (try dsimp only at hSw); go_simp; try with_reducible rfl)
            simp only [Act.put, List.setIfInBounds_toArray, List.set_cons_zero, List.set_cons_succ]
            refine wpAnyH_take (i := 15) (oi := { dst := some 11, op := Op.assign (Operand.tmp 54), type := 2, pos := "l03_clock.go:71", after := #[{ on := 11, ground := Ground.data }, { on := 9, ground := Ground.chain }, { on := 0, ground := Ground.phase }, { on := 1, ground := Ground.phase }, { on := 2, ground := Ground.phase }, { on := 3, ground := Ground.phase }, { on := 4, ground := Ground.phase }, { on := 5, ground := Ground.phase }, { on := 6, ground := Ground.phase }, { on := 7, ground := Ground.phase }, { on := 8, ground := Ground.phase }, { on := 9, ground := Ground.phase }, { on := 10, ground := Ground.phase }, { on := 11, ground := Ground.phase }, { on := 12, ground := Ground.textOnly Departure.lateStores }, { on := 13, ground := Ground.textOnly Departure.lateStores }, { on := 14, ground := Ground.phase }], guard := none }) (v := ?_) rfl (by kernel_rfl) (by kernel_rfl) (by kernel_rfl) (fun _ _ _ h => h) (Or.inl ⟨by rfl, ?hy⟩) hHeld ?_
            case hy => (intro w' hSw; (try dsimp only at hSw); go_simp; try with_reducible rfl)
            simp only [Act.put, List.setIfInBounds_toArray, List.set_cons_zero, List.set_cons_succ]
            refine wpAnyH_take (i := 16) (oi := { dst := some 12, op := Op.assign (Operand.tmp 55), type := 2, pos := "l03_clock.go:71", after := #[{ on := 12, ground := Ground.data }, { on := 15, ground := Ground.chain }, { on := 0, ground := Ground.phase }, { on := 1, ground := Ground.phase }, { on := 2, ground := Ground.phase }, { on := 3, ground := Ground.phase }, { on := 4, ground := Ground.phase }, { on := 5, ground := Ground.phase }, { on := 6, ground := Ground.phase }, { on := 7, ground := Ground.phase }, { on := 8, ground := Ground.phase }, { on := 9, ground := Ground.phase }, { on := 10, ground := Ground.phase }, { on := 11, ground := Ground.phase }, { on := 12, ground := Ground.phase }, { on := 13, ground := Ground.textOnly Departure.lateStores }, { on := 14, ground := Ground.phase }, { on := 15, ground := Ground.phase }], guard := none }) (v := ?_) rfl (by kernel_rfl) (by kernel_rfl) (by kernel_rfl) (fun _ _ _ h => h) (Or.inl ⟨by rfl, ?hy⟩) hHeld ?_
            case hy => (intro w' hSw; (try dsimp only at hSw); go_simp; try with_reducible rfl)
            simp only [Act.put, List.setIfInBounds_toArray, List.set_cons_zero, List.set_cons_succ]
            refine wpAnyH_ready (rs := [17]) (by kernel_rfl) (by simp) ?_
            refine AllReadyH.cons (o := { dst := none, op := Op.store 166 (Operand.tmp 13) (Operand.tmp 56), type := 0, pos := "l03_clock.go:71", after := #[{ on := 14, ground := Ground.data }, { on := 13, ground := Ground.data }, { on := 16, ground := Ground.chain }, { on := 0, ground := Ground.phase }, { on := 1, ground := Ground.phase }, { on := 2, ground := Ground.phase }, { on := 3, ground := Ground.phase }, { on := 4, ground := Ground.phase }, { on := 5, ground := Ground.phase }, { on := 6, ground := Ground.phase }, { on := 7, ground := Ground.phase }, { on := 8, ground := Ground.phase }, { on := 9, ground := Ground.phase }, { on := 10, ground := Ground.phase }, { on := 11, ground := Ground.phase }, { on := 12, ground := Ground.phase }, { on := 13, ground := Ground.phase }, { on := 14, ground := Ground.phase }, { on := 15, ground := Ground.phase }, { on := 16, ground := Ground.phase }], guard := none }) rfl (fun K hK => ?_) AllReadyH.nil
            obtain ⟨qa0, qb0⟩ := EA.out.at 0 rfl
            obtain ⟨qa1, qb1⟩ := EA.out.at 1 rfl
            go_simp
            refine hK.out _ _ (KS.out _ ((HC.out.setCell PA.out _).setCell PA.out _)) (fun hHeld => ?_)
            clear hK K
            try simp only [Act.put, List.setIfInBounds_toArray, List.set_cons_zero, List.set_cons_succ]
            refine wpAnyH_done (by kernel_rfl) ?_ _
            go_wp2_with fail
            go_meet
            case rel => exact Lib.hid ⟨rfl, rfl, OneIn2.mk PA.out EA.out, (HC.out.setCell PA.out _).setCell PA.out _⟩
          -- END9
        obtain ⟨rfl, rfl, ⟨p13, rfl, hp1, hp2, hpb⟩, hbc⟩ := hcut.out
        clear hcut SP KLk KFk KZk KCk HC k0 k1 k2 k3 k4 j0 j1 hc
        have hzc := hbc.size
        have hbW : Below (w.heap.size + 1) w1 wc := hb.trans (hbc.mono (by omega))
        by_cases hN : N ≤ 100
        · have hN1 : ¬ 100 < N := by omega
          have hBN : w.heap.size + 1 ≤ wc.heap.size := by omega
          have A1 := Lib.hid ((hO1.out.below' hbc).alloc (.cells #[.int .i64 N] 2))
          have A2 := Lib.hid ((hO2.out.below' hbc).alloc (.cells #[.int .i64 N] 2))
          have AL := Lib.hid ((hL.out.below hbc hgt).below ((Below.refl _ _).alloc (Nat.le_refl _) (.cells #[.int .i64 N] 2)) (by omega))
          have AP := Lib.hid (hpb.below ((Below.refl _ _).alloc (Nat.le_refl _) (.cells #[.int .i64 N] 2)) hp2)
          have NP1 := Lib.hid (hO1.out.notBlk hp1)
          have NP2 := Lib.hid (hO2.out.notBlk hp1)
          go_wp2_with (first
            | (at_builtin; refine wpList_appendI2 49 Try.underlying49 rfl _ _ rfl rfl A1.out N ⟨wc.heap.size, 0, none⟩ 1 rfl (World.news_of_block (cs := #[.int .i64 N]) (t := 2) (fr := (0, 0)) (heap_alloc_new wc _)) (by rw [hlN]; omega) (by simp; omega) ?_; intro g1 cap1 w2 D1 hgr1 hb1 h41; have D2 := Lib.hid (A2.out.keptA (Apart.symm hA.out) hgr1); have DL := Lib.hid (AL.out.grown hgr1 (AL.out.ne A1.out)); have DP := Lib.hid (AP.out.grown (by simp; omega) hgr1 NP1.out); have DA := Lib.hid (Apart.left (n := Ns.length + 1) (c := cap1) hA.out A2.out h41); have D1 := Lib.hid D1; have hz2 := hb1.size; have DB := Lib.hid ((hbW.alloc hBN (.cells #[.int .i64 N] 2)).trans hb1); have DB2 : w.heap.size + 1 ≤ w2.heap.size := (by simp at hz2; omega); have E1 := Lib.hid (D1.out.alloc (.cells #[.int .i64 E] 2)); have E2 := Lib.hid (D2.out.alloc (.cells #[.int .i64 E] 2)); have EL := Lib.hid (DL.out.below ((Below.refl _ _).alloc (Nat.le_refl _) (.cells #[.int .i64 E] 2)) DL.out.lt); have hp3 : p13 < w2.heap.size := (by simp at hz2; omega); have EP := Lib.hid (DP.out.below ((Below.refl _ _).alloc (Nat.le_refl _) (.cells #[.int .i64 E] 2)) hp3); clear hgr1 hb1 h41)
            | (at_builtin; refine wpList_appendI2 49 Try.underlying49 rfl _ _ rfl rfl E2.out E ⟨w2.heap.size, 0, none⟩ 1 rfl (World.news_of_block (cs := #[.int .i64 E]) (t := 2) (fr := (0, 0)) (heap_alloc_new w2 _)) (by rw [hlE]; omega) (by simp; omega) ?_; intro g2 cap2 w3 G2 hgr2 hb2 h42; have G1 := Lib.hid (E1.out.keptA DA.out hgr2); have GL := Lib.hid (EL.out.grown hgr2 (EL.out.ne E2.out)); have GP := Lib.hid (EP.out.grown (by simp; omega) hgr2 NP2.out); have GA := Lib.hid (Apart.left (n := Es.length + 1) (c := cap2) (Apart.symm DA.out) E1.out h42); have G2 := Lib.hid G2; have hz3 := hb2.size; have GB := Lib.hid ((DB.out.alloc DB2 (.cells #[.int .i64 E] 2)).trans hb2); have hX3 : w1.heap.size < w3.heap.size := (by simp at hz3 hz2; omega); obtain ⟨m0, n0⟩ := GL.out.box 0 _ rfl; obtain ⟨m1, n1⟩ := GL.out.box 1 _ rfl; obtain ⟨r0, s0⟩ := GP.out 0 _ rfl; obtain ⟨r1, s1⟩ := GP.out 1 _ rfl; clear hgr2 hb2 h42))
          go_roundw
          case rel =>
            obtain ⟨hst, hok, hsN, hsE, hx⟩ := HX.out
            have NL1 := GL.out.ne G1.out
            have NL2 := GL.out.ne G2.out
            refine ⟨k + 1, by omega, by go_num, by unfold Hid; rw [hok, decide_eq_true hN], ?_, ?_, Lib.hid GA.out.symm, ?_, (GB.out.setCell (by simp; omega) _).setCell (by simp; omega) _, by simpa using hX3⟩
            · have h9 := ((G1.out.set (i := 0) (v := .int .i64 P') NL1).set (i := 1) (v := .int .i64 o') NL1)
              rw [hlN] at h9
              rw [hsN]; exact Lib.hid h9
            · have h9 := ((G2.out.set (i := 0) (v := .int .i64 P') NL2).set (i := 1) (v := .int .i64 o') NL2)
              rw [hlE] at h9
              rw [hsE]; exact Lib.hid h9
            · rw [hst]; exact Lib.hid GL.out.put
          case measure => simp [intOf]; omega
        · have hN1 : 100 < N := by omega
          go_wp2
          go_ret3
          obtain ⟨hst, hok, hsN, hsE, hx⟩ := HX.out
          have hbad := ckOk_mono (k := k + 1) hlt (by rw [hok]; exact decide_eq_false (by omega))
          obtain ⟨e1, e2, e3⟩ := R1.out hbad
          rw [e1, e2]
          refine ⟨none, 0, none, 0, ?_, .inl rfl, .inl rfl, HB1.out.trans (hbW.mono (by omega))⟩
          rw [← R2.out, hbad]
          rfl
      · obtain rfl : k = zs.length := by omega
        obtain ⟨e1, e2, e3⟩ := R0.out hG.out
        have lN := ckNs_len c l h p s f zs zs.length
        have lE := ckEs_len c l h p s f zs zs.length
        obtain ⟨a1, c1, rfl, hs1⟩ := (hO1.out.mono (show w.heap.size ≤ w.heap.size + 1 by omega)).slO
        obtain ⟨a2, c2, rfl, hs2⟩ := (hO2.out.mono (show w.heap.size ≤ w.heap.size + 1 by omega)).slO
        go_wp2
        go_ret3
        rw [e1, e2]
        refine ⟨a1, c1, a2, c2, ?_, hs1, hs2, HBW⟩
        rw [← R2.out, e3]
        rfl
  | true =>
    have hpn : p = 0 := by simpa using hq
    have HOFF := Lib.hid (show off0 c p f = (r - c / 2) * 64 by rw [HOF.out, if_pos hpn])
    clear HOF hpn
    go_wp2
    go_region
    go_wp2
    have BW := Lib.hid (show Below w1.heap.size w1 (w1.alloc (.cells #[.int .i64 (c * 64), .int .i64 ((r - c / 2) * 64)] 166)).drew from ((Below.refl _ _).alloc (Nat.le_refl _) _).drew)
    go_loopw [7, 8, 10, 11, 12, 13] (fun v7 v8 i _ _ _ wr => ∃ k : Nat, k ≤ zs.length ∧ i = .int .i64 k ∧ Hid (ckOk c l h p s f zs k = true) ∧ Hid (OwnI wr (w.heap.size + 1) v7 (ckNs c l h p s f zs k)) ∧ Hid (OwnI wr (w.heap.size + 1) v8 (ckEs c l h p s f zs k)) ∧ Hid (Apart v7 v8) ∧ Hid (LK wr w1.heap.size (ckSt c l h p s f zs k).1 (ckSt c l h p s f zs k).2) ∧ Below (w.heap.size + 1) w1 wr ∧ w1.heap.size < wr.heap.size) (fun _ _ i _ _ _ _ => zs.length - (intOf i).toNat)
    case atStart =>
      refine ⟨0, Nat.zero_le _, rfl, by unfold Hid; rfl, Lib.hid (O1.out.below' BW.out), Lib.hid (O2.out.below' BW.out), Lib.hid (fun g h1 h2 => by simp [Value.ownBlock] at h1 h2; omega), ?_, BW.out.mono (by omega), by simp⟩
      have e9 : (ckSt c l h p s f zs 0).2 = (r - c / 2) * 64 := HOFF.out
      rw [show (ckSt c l h p s f zs 0).1 = c * 64 from rfl, e9]
      exact Lib.hid (heap_alloc_new w1 _)
    case round =>
      obtain ⟨k, hk, rfl, hG, hO1, hO2, hA, hL, hb, hgt⟩ := hrel
      have HBW := HB1.out.trans (hb.mono (by omega))
      have yFr := (KF.out _ HBW).2.2
      by_cases hlt : k < zs.length
      · obtain ⟨x, hx⟩ := getOf hlt
        obtain ⟨b, off, rfl, hc⟩ := (KZ.out _ HBW).cell hx
        have hcx := HCK.out
        have hx0 := inB_iff.1 (List.all_eq_true.1 hcx.2.2 x (List.mem_of_getElem? hx))
        have hgx : zs.getD k 0 = x := by rw [List.getD_eq_getElem?_getD, hx]; rfl
        have hbd := ckSt_w (zs := zs) hcx.2.1 hf0 k
        have hbd2 := ckSt_bd (zs := zs) hcx.2.1 hf0 k
        have hN0 := ckN_bd (zs := zs) hcx.2.1 hf0 hx hx0.1 hx0.2
        have hst : ckSt c l h p s f zs (k + 1) = (stPer l h s (ckSt c l h p s f zs k).1 (ckSt c l h p s f zs k).2 x, stOff l h p s (ckSt c l h p s f zs k).1 (ckSt c l h p s f zs k).2 x) := by rw [ckSt, hgx]
        have hok : ckOk c l h p s f zs (k + 1) = decide (ckN c l h p s f zs k ≤ 100) := by rw [ckOk, hG.out, Bool.true_and]
        have hNe : stN (ckSt c l h p s f zs k).1 (ckSt c l h p s f zs k).2 x = ckN c l h p s f zs k := by unfold ckN; rw [hgx]
        have hEe : stE (ckSt c l h p s f zs k).1 (ckSt c l h p s f zs k).2 x = ckE c l h p s f zs k := by unfold ckE; rw [hgx]
        have hsN := ckNs_succ c l h p s f zs k
        have hsE := ckEs_succ c l h p s f zs k
        have hlN := ckNs_len c l h p s f zs k
        have hlE := ckEs_len c l h p s f zs k
        generalize (ckSt c l h p s f zs k).1 = P at *
        generalize (ckSt c l h p s f zs k).2 = o at *
        have SP := Lib.hid (fun w' => l03Step_any c l h p s P o x w' (by omega) (by omega) (by omega) (by omega) hbd.1 hbd.2.1 hbd.2.2.1 hbd.2.2.2 hx0.1 hx0.2 hbd2.1.1 hbd2.1.2)
        rw [hNe, hEe] at SP
        generalize ckN c l h p s f zs k = N at *
        generalize ckE c l h p s f zs k = E at *
        generalize ckNs c l h p s f zs k = Ns at *
        generalize ckEs c l h p s f zs k = Es at *
        generalize stPer l h s P o x = P' at *
        generalize stOff l h p s P o x = o' at *
        have HX := Lib.hid (And.intro hst (And.intro hok (And.intro hsN (And.intro hsE hx))))
        have KCk := Lib.hid (fun w' (hb9 : Below wr.heap.size wr w') => (KC.out _ (hb.trans (hb9.mono (by omega)))).box)
        have KLk := Lib.hid (fun w' (hb9 : Below wr.heap.size wr w') => (hL.out.below hb9 hgt).box.box)
        have KFk := Lib.hid (fun w' (hb9 : Below wr.heap.size wr w') => (KF.out _ (HBW.trans (hb9.mono HBW.size))).2.2)
        have KZk := Lib.hid (fun w' (hb9 : Below wr.heap.size wr w') => (show w'.cell? ⟨b, off + k, none⟩ = some (.int .i64 x) from by
          obtain ⟨b', off', e9, h9⟩ := (KZ.out _ (HBW.trans (hb9.mono HBW.size))).cell hx
          cases e9
          exact h9))
        have HC := Lib.hid (Below.refl wr.heap.size wr)
        have l1 : b < wr.heap.size := World.block_lt_of_cell? _ _ hc
        have l2 : w.heap.size < wr.heap.size := by omega
        have l3 : b0 < wr.heap.size := by omega
        have l4 : ¬ b = wr.heap.size := by omega
        have l5 : ¬ w.heap.size = wr.heap.size := by omega
        have l6 : ¬ b0 = wr.heap.size := by omega
        have l7 : ¬ w1.heap.size = wr.heap.size := by omega
        clear hst hok hsN hsE hx hgx hNe hEe hbd hbd2 hcx
        have k0 := KCk.out _ HC.out 0 _ rfl
        have k1 := KCk.out _ HC.out 1 _ rfl
        have k2 := KCk.out _ HC.out 2 _ rfl
        have k3 := KCk.out _ HC.out 3 _ rfl
        have k4 := KCk.out _ HC.out 4 _ rfl
        have j0 := KLk.out _ HC.out 0 _ rfl
        have j1 := KLk.out _ HC.out 1 _ rfl
        go_wp2
        go_cut [11, 12, 13] (fun v11 v12 v13 wx => Hid (v11 = .int .i64 N ∧ v12 = .int .i64 E ∧ OneIn2 (.int .i64 P') (.int .i64 o') wr wx v13 ∧ Below wr.heap.size wr wx))
        case first =>
          have KS := Lib.hid (fun w' (hb : Below wr.heap.size wr w') => (show w'.cell? ⟨w.heap.size, 0, none⟩ = some (.int .i64 c) ∧ w'.cell? ⟨w.heap.size, 1, none⟩ = some (.int .i64 l) ∧ w'.cell? ⟨w.heap.size, 2, none⟩ = some (.int .i64 h) ∧ w'.cell? ⟨w.heap.size, 3, none⟩ = some (.int .i64 p) ∧ w'.cell? ⟨w.heap.size, 4, none⟩ = some (.int .i64 s) ∧ w'.cell? ⟨w1.heap.size, 0, none⟩ = some (.int .i64 P) ∧ w'.cell? ⟨w1.heap.size, 1, none⟩ = some (.int .i64 o) ∧ w'.cell? ⟨b0, 2, none⟩ = some (.slice (some ⟨b, off, none⟩) zs.length cap) ∧ w'.cell? ⟨b, off + k, none⟩ = some (.int .i64 x) from ⟨KCk.out w' hb 0 _ rfl, KCk.out w' hb 1 _ rfl, KCk.out w' hb 2 _ rfl, KCk.out w' hb 3 _ rfl, KCk.out w' hb 4 _ rfl, KLk.out w' hb 0 _ rfl, KLk.out w' hb 1 _ rfl, KFk.out w' hb, KZk.out w' hb⟩))
          replace HC := Lib.hid (show Below wr.heap.size wr wr.drew from (Below.refl _ _).drew)
          refine wp_region_held_drew (S := (fun w' => w'.cell? ⟨w.heap.size, 0, none⟩ = some (.int .i64 c) ∧ w'.cell? ⟨w.heap.size, 1, none⟩ = some (.int .i64 l) ∧ w'.cell? ⟨w.heap.size, 2, none⟩ = some (.int .i64 h) ∧ w'.cell? ⟨w.heap.size, 3, none⟩ = some (.int .i64 p) ∧ w'.cell? ⟨w.heap.size, 4, none⟩ = some (.int .i64 s) ∧ w'.cell? ⟨w1.heap.size, 0, none⟩ = some (.int .i64 P) ∧ w'.cell? ⟨w1.heap.size, 1, none⟩ = some (.int .i64 o) ∧ w'.cell? ⟨b0, 2, none⟩ = some (.slice (some ⟨b, off, none⟩) zs.length cap) ∧ w'.cell? ⟨b, off + k, none⟩ = some (.int .i64 x))) (by kernel_rfl) (KS.out _ HC.out) (fun hHeld => ?_)
          refine wpAnyH_take (i := 0) (oi := { dst := some 44, op := Op.load 59 (Operand.tmp 3), type := 59, pos := "l03_clock.go:71", after := #[], guard := none }) (v := ?_) rfl (by kernel_rfl) (by kernel_rfl) (by kernel_rfl) (fun _ _ _ h => h) (Or.inl ⟨by rfl, ?hy⟩) hHeld ?_
          case hy => (intro w' hSw; (try dsimp only at hSw); go_simp; try with_reducible rfl)
          simp only [Act.put, List.setIfInBounds_toArray, List.set_cons_zero, List.set_cons_succ]
          refine wpAnyH_take (i := 1) (oi := { dst := some 45, op := Op.load 166 (Operand.tmp 9), type := 166, pos := "l03_clock.go:71", after := #[], guard := none }) (v := ?_) rfl (by kernel_rfl) (by kernel_rfl) (by kernel_rfl) (fun _ _ _ h => h) (Or.inl ⟨by rfl, ?hy⟩) hHeld ?_
          case hy => (intro w' hSw; (try dsimp only at hSw); go_simp; try with_reducible rfl)
          simp only [Act.put, List.setIfInBounds_toArray, List.set_cons_zero, List.set_cons_succ]
          refine wpAnyH_take (i := 2) (oi := { dst := some 46, op := Op.move (Operand.tmp 0), type := 118, pos := "l03_clock.go:71", after := #[], guard := none }) (v := ?_) rfl (by kernel_rfl) (by kernel_rfl) (by kernel_rfl) (fun _ _ _ h => h) (Or.inl ⟨by rfl, ?hy⟩) hHeld ?_
          case hy => (intro w' hSw; (try dsimp only at hSw); go_simp; try with_reducible rfl)
          simp only [Act.put, List.setIfInBounds_toArray, List.set_cons_zero, List.set_cons_succ]
          refine wpAnyH_take (i := 3) (oi := { dst := some 47, op := Op.nilCheck (Operand.tmp 46), type := 0, pos := "l03_clock.go:71", after := #[{ on := 2, ground := Ground.data }], guard := none }) (v := ?_) rfl (by kernel_rfl) (by kernel_rfl) (by kernel_rfl) (fun _ _ _ h => h) (Or.inl ⟨by rfl, ?hy⟩) hHeld ?_
          case hy => (intro w' hSw; (try dsimp only at hSw); go_simp; try with_reducible rfl)
          simp only [Act.put, List.setIfInBounds_toArray, List.set_cons_zero, List.set_cons_succ]
          refine wpAnyH_take (i := 4) (oi := { dst := some 48, op := Op.fieldAddr 57 (Operand.tmp 47) 2, type := 0, pos := "l03_clock.go:71", after := #[{ on := 3, ground := Ground.data }], guard := none }) (v := ?_) rfl (by kernel_rfl) (by kernel_rfl) (by kernel_rfl) (fun _ _ _ h => h) (Or.inl ⟨by rfl, ?hy⟩) hHeld ?_
          case hy => (intro w' hSw; (try dsimp only at hSw); go_simp; try with_reducible rfl)
          simp only [Act.put, List.setIfInBounds_toArray, List.set_cons_zero, List.set_cons_succ]
          refine wpAnyH_take (i := 5) (oi := { dst := some 49, op := Op.load 49 (Operand.tmp 48), type := 49, pos := "l03_clock.go:71", after := #[{ on := 4, ground := Ground.data }], guard := none }) (v := ?_) rfl (by kernel_rfl) (by kernel_rfl) (by kernel_rfl) (fun _ _ _ h => h) (Or.inl ⟨by rfl, ?hy⟩) hHeld ?_
          case hy => (intro w' hSw; (try dsimp only at hSw); go_simp; try with_reducible rfl)
          simp only [Act.put, List.setIfInBounds_toArray, List.set_cons_zero, List.set_cons_succ]
          refine wpAnyH_take (i := 6) (oi := { dst := some 50, op := Op.move (Operand.tmp 10), type := 3, pos := "l03_clock.go:71", after := #[], guard := none }) (v := ?_) rfl (by kernel_rfl) (by kernel_rfl) (by kernel_rfl) (fun _ _ _ h => h) (Or.inl ⟨by rfl, ?hy⟩) hHeld ?_
          case hy => (intro w' hSw; (try dsimp only at hSw); go_simp; try with_reducible rfl)
          simp only [Act.put, List.setIfInBounds_toArray, List.set_cons_zero, List.set_cons_succ]
          refine wpAnyH_take (i := 7) (oi := { dst := some 51, op := Op.indexAddr 49 (Operand.tmp 49) (Operand.tmp 50), type := 0, pos := "l03_clock.go:71", after := #[{ on := 5, ground := Ground.data }, { on := 6, ground := Ground.data }], guard := none }) (v := ?_) rfl (by kernel_rfl) (by kernel_rfl) (by kernel_rfl) (fun _ _ _ h => h) (Or.inl ⟨by rfl, ?hy⟩) hHeld ?_
          case hy => (intro w' hSw; (try dsimp only at hSw); go_simp; try with_reducible rfl)
          simp only [Act.put, List.setIfInBounds_toArray, List.set_cons_zero, List.set_cons_succ]
          refine wpAnyH_take (i := 8) (oi := { dst := some 52, op := Op.load 2 (Operand.tmp 51), type := 2, pos := "l03_clock.go:71", after := #[{ on := 7, ground := Ground.data }], guard := none }) (v := ?_) rfl (by kernel_rfl) (by kernel_rfl) (by kernel_rfl) (fun _ _ _ h => h) (Or.inl ⟨by rfl, ?hy⟩) hHeld ?_
          case hy => (intro w' hSw; (try dsimp only at hSw); go_simp; try with_reducible rfl)
          simp only [Act.put, List.setIfInBounds_toArray, List.set_cons_zero, List.set_cons_succ]
          refine wpAnyH_ready (rs := [9, 14]) (by kernel_rfl) (by simp) ?_
          refine AllReadyH.cons (o := { dst := some 53, op := Op.call { callee := Callee.value (Operand.func 108), args := #[Operand.tmp 44, Operand.tmp 45, Operand.tmp 52], argTypes := #[59, 166, 2] }, type := 168, pos := "l03_clock.go:71", after := #[{ on := 0, ground := Ground.data }, { on := 1, ground := Ground.data }, { on := 8, ground := Ground.data }], guard := none }) rfl (fun K hK => ?_) (AllReadyH.cons (o := { dst := some 13, op := Op.alloc 166, type := 0, pos := "l03_clock.go:71", after := #[], guard := none }) rfl (fun K hK => ?_) AllReadyH.nil)
          · go_simp
            go_at_call 108; refine (SP.out _).mono ?_; rintro e w2 ⟨rfl, hb2⟩; replace HC := Lib.hid (HC.out.trans (hb2.mono HC.out.size)); (try (replace EA := Lib.hid (EA.out.below hb2)))
            go_wp2_with fail
            refine hK.out _ _ (KS.out _ HC.out) (fun hHeld => ?_)
            clear hK K
            try simp only [Act.put, List.setIfInBounds_toArray, List.set_cons_zero, List.set_cons_succ]
            refine wpAnyH_take (i := 10) (oi := { dst := some 43, op := Op.move (Operand.tmp 53), type := 168, pos := "l03_clock.go:71", after := #[{ on := 9, ground := Ground.data }], guard := none }) (v := ?_) rfl (by kernel_rfl) (by kernel_rfl) (by kernel_rfl) (fun _ _ _ h => h) (Or.inl ⟨by rfl, ?hy⟩) hHeld ?_
            case hy => (intro w' hSw; (try dsimp only at hSw); go_simp; try with_reducible rfl)
            simp only [Act.put, List.setIfInBounds_toArray, List.set_cons_zero, List.set_cons_succ]
            refine wpAnyH_take (i := 11) (oi := { dst := some 54, op := Op.extract (Operand.tmp 43) 0, type := 2, pos := "l03_clock.go:71", after := #[{ on := 10, ground := Ground.data }], guard := none }) (v := ?_) rfl (by kernel_rfl) (by kernel_rfl) (by kernel_rfl) (fun _ _ _ h => h) (Or.inl ⟨by rfl, ?hy⟩) hHeld ?_
            case hy => (intro w' hSw; (try dsimp only at hSw); go_simp; try with_reducible rfl)
            simp only [Act.put, List.setIfInBounds_toArray, List.set_cons_zero, List.set_cons_succ]
            refine wpAnyH_take (i := 12) (oi := { dst := some 55, op := Op.extract (Operand.tmp 43) 1, type := 2, pos := "l03_clock.go:71", after := #[{ on := 10, ground := Ground.data }, { on := 15, ground := Ground.gcOnly Departure.lateStores }], guard := none }) (v := ?_) rfl (by kernel_rfl) (by kernel_rfl) (by kernel_rfl) (fun _ _ _ h => h) (Or.inl ⟨by rfl, ?hy⟩) hHeld ?_
            case hy => (intro w' hSw; (try dsimp only at hSw); go_simp; try with_reducible rfl)
            simp only [Act.put, List.setIfInBounds_toArray, List.set_cons_zero, List.set_cons_succ]
            refine wpAnyH_take (i := 13) (oi := { dst := some 56, op := Op.extract (Operand.tmp 43) 2, type := 166, pos := "l03_clock.go:71", after := #[{ on := 10, ground := Ground.data }, { on := 16, ground := Ground.gcOnly Departure.lateStores }], guard := none }) (v := ?_) rfl (by kernel_rfl) (by kernel_rfl) (by kernel_rfl) (fun _ _ _ h => h) (Or.inl ⟨by rfl, ?hy⟩) hHeld ?_
            case hy => (intro w' hSw; (try dsimp only at hSw); go_simp; try with_reducible rfl)
            simp only [Act.put, List.setIfInBounds_toArray, List.set_cons_zero, List.set_cons_succ]
            refine wpAnyH_ready (rs := [14]) (by kernel_rfl) (by simp) ?_
            refine AllReadyH.cons (o := { dst := some 13, op := Op.alloc 166, type := 0, pos := "l03_clock.go:71", after := #[], guard := none }) rfl (fun K hK => ?_) AllReadyH.nil
            have EA := Lib.hid ((fun (V : World) (h : Below wr.heap.size wr V) => MadeAt.new V (.cells #[.int .i64 0, .int .i64 0] 166)) _ HC.out)
            have PA := Lib.hid HC.out.size
            replace HC := Lib.hid (HC.out.alloc HC.out.size (.cells #[.int .i64 0, .int .i64 0] 166))
            go_simp
            refine hK.out _ _ (KS.out _ HC.out) (fun hHeld => ?_)
            clear hK K
            try simp only [Act.put, List.setIfInBounds_toArray, List.set_cons_zero, List.set_cons_succ]
            generalize hVA : w2.alloc (.cells #[.int .i64 0, .int .i64 0] 166) = VA at *
            clear hVA
            refine wpAnyH_take (i := 15) (oi := { dst := some 11, op := Op.assign (Operand.tmp 54), type := 2, pos := "l03_clock.go:71", after := #[{ on := 11, ground := Ground.data }, { on := 9, ground := Ground.chain }, { on := 0, ground := Ground.phase }, { on := 1, ground := Ground.phase }, { on := 2, ground := Ground.phase }, { on := 3, ground := Ground.phase }, { on := 4, ground := Ground.phase }, { on := 5, ground := Ground.phase }, { on := 6, ground := Ground.phase }, { on := 7, ground := Ground.phase }, { on := 8, ground := Ground.phase }, { on := 9, ground := Ground.phase }, { on := 10, ground := Ground.phase }, { on := 11, ground := Ground.phase }, { on := 12, ground := Ground.textOnly Departure.lateStores }, { on := 13, ground := Ground.textOnly Departure.lateStores }, { on := 14, ground := Ground.phase }], guard := none }) (v := ?_) rfl (by kernel_rfl) (by kernel_rfl) (by kernel_rfl) (fun _ _ _ h => h) (Or.inl ⟨by rfl, ?hy⟩) hHeld ?_
            case hy => (intro w' hSw; (try dsimp only at hSw); go_simp; try with_reducible rfl)
            simp only [Act.put, List.setIfInBounds_toArray, List.set_cons_zero, List.set_cons_succ]
            refine wpAnyH_take (i := 16) (oi := { dst := some 12, op := Op.assign (Operand.tmp 55), type := 2, pos := "l03_clock.go:71", after := #[{ on := 12, ground := Ground.data }, { on := 15, ground := Ground.chain }, { on := 0, ground := Ground.phase }, { on := 1, ground := Ground.phase }, { on := 2, ground := Ground.phase }, { on := 3, ground := Ground.phase }, { on := 4, ground := Ground.phase }, { on := 5, ground := Ground.phase }, { on := 6, ground := Ground.phase }, { on := 7, ground := Ground.phase }, { on := 8, ground := Ground.phase }, { on := 9, ground := Ground.phase }, { on := 10, ground := Ground.phase }, { on := 11, ground := Ground.phase }, { on := 12, ground := Ground.phase }, { on := 13, ground := Ground.textOnly Departure.lateStores }, { on := 14, ground := Ground.phase }, { on := 15, ground := Ground.phase }], guard := none }) (v := ?_) rfl (by kernel_rfl) (by kernel_rfl) (by kernel_rfl) (fun _ _ _ h => h) (Or.inl ⟨by rfl, ?hy⟩) hHeld ?_
            case hy => (intro w' hSw; (try dsimp only at hSw); go_simp; try with_reducible rfl)
            simp only [Act.put, List.setIfInBounds_toArray, List.set_cons_zero, List.set_cons_succ]
            refine wpAnyH_ready (rs := [17]) (by kernel_rfl) (by simp) ?_
            refine AllReadyH.cons (o := { dst := none, op := Op.store 166 (Operand.tmp 13) (Operand.tmp 56), type := 0, pos := "l03_clock.go:71", after := #[{ on := 14, ground := Ground.data }, { on := 13, ground := Ground.data }, { on := 16, ground := Ground.chain }, { on := 0, ground := Ground.phase }, { on := 1, ground := Ground.phase }, { on := 2, ground := Ground.phase }, { on := 3, ground := Ground.phase }, { on := 4, ground := Ground.phase }, { on := 5, ground := Ground.phase }, { on := 6, ground := Ground.phase }, { on := 7, ground := Ground.phase }, { on := 8, ground := Ground.phase }, { on := 9, ground := Ground.phase }, { on := 10, ground := Ground.phase }, { on := 11, ground := Ground.phase }, { on := 12, ground := Ground.phase }, { on := 13, ground := Ground.phase }, { on := 14, ground := Ground.phase }, { on := 15, ground := Ground.phase }, { on := 16, ground := Ground.phase }], guard := none }) rfl (fun K hK => ?_) AllReadyH.nil
            obtain ⟨qa0, qb0⟩ := EA.out.at 0 rfl
            obtain ⟨qa1, qb1⟩ := EA.out.at 1 rfl
            go_simp
            refine hK.out _ _ (KS.out _ ((HC.out.setCell PA.out _).setCell PA.out _)) (fun hHeld => ?_)
            clear hK K
            try simp only [Act.put, List.setIfInBounds_toArray, List.set_cons_zero, List.set_cons_succ]
            refine wpAnyH_done (by kernel_rfl) ?_ _
            go_wp2_with fail
            go_meet
            case rel => exact Lib.hid ⟨rfl, rfl, OneIn2.mk PA.out EA.out, (HC.out.setCell PA.out _).setCell PA.out _⟩
          · have EA := Lib.hid (show MadeAt (wr.alloc (.cells #[.int .i64 0, .int .i64 0] 166)).drew wr.heap.size (.cells #[.int .i64 0, .int .i64 0] 166) from MadeAt.new wr (.cells #[.int .i64 0, .int .i64 0] 166))
            have PA := Lib.hid (Nat.le_refl wr.heap.size)
            replace HC := Lib.hid (show Below wr.heap.size wr (wr.alloc (.cells #[.int .i64 0, .int .i64 0] 166)).drew from ((Below.refl _ _).alloc (Nat.le_refl _) (.cells #[.int .i64 0, .int .i64 0] 166)).drew)
            go_simp
            refine hK.out _ _ (KS.out _ HC.out) (fun hHeld => ?_)
            clear hK K
            try simp only [Act.put, List.setIfInBounds_toArray, List.set_cons_zero, List.set_cons_succ]
            generalize hVA : (wr.alloc (.cells #[.int .i64 0, .int .i64 0] 166)).drew = VA at *
            clear hVA
            refine wpAnyH_ready (rs := [9]) (by kernel_rfl) (by simp) ?_
            refine AllReadyH.cons (o := { dst := some 53, op := Op.call { callee := Callee.value (Operand.func 108), args := #[Operand.tmp 44, Operand.tmp 45, Operand.tmp 52], argTypes := #[59, 166, 2] }, type := 168, pos := "l03_clock.go:71", after := #[{ on := 0, ground := Ground.data }, { on := 1, ground := Ground.data }, { on := 8, ground := Ground.data }], guard := none }) rfl (fun K hK => ?_) AllReadyH.nil
            go_simp
            go_at_call 108; refine (SP.out _).mono ?_; rintro e w2 ⟨rfl, hb2⟩; replace HC := Lib.hid (HC.out.trans (hb2.mono HC.out.size)); (try (replace EA := Lib.hid (EA.out.below hb2)))
            go_wp2_with fail
            refine hK.out _ _ (KS.out _ HC.out) (fun hHeld => ?_)
            clear hK K
            try simp only [Act.put, List.setIfInBounds_toArray, List.set_cons_zero, List.set_cons_succ]
            refine wpAnyH_take (i := 10) (oi := { dst := some 43, op := Op.move (Operand.tmp 53), type := 168, pos := "l03_clock.go:71", after := #[{ on := 9, ground := Ground.data }], guard := none }) (v := ?_) rfl (by kernel_rfl) (by kernel_rfl) (by kernel_rfl) (fun _ _ _ h => h) (Or.inl ⟨by rfl, ?hy⟩) hHeld ?_
            case hy => (intro w' hSw; (try dsimp only at hSw); go_simp; try with_reducible rfl)
            simp only [Act.put, List.setIfInBounds_toArray, List.set_cons_zero, List.set_cons_succ]
            refine wpAnyH_take (i := 11) (oi := { dst := some 54, op := Op.extract (Operand.tmp 43) 0, type := 2, pos := "l03_clock.go:71", after := #[{ on := 10, ground := Ground.data }], guard := none }) (v := ?_) rfl (by kernel_rfl) (by kernel_rfl) (by kernel_rfl) (fun _ _ _ h => h) (Or.inl ⟨by rfl, ?hy⟩) hHeld ?_
            case hy => (intro w' hSw; (try dsimp only at hSw); go_simp; try with_reducible rfl)
            simp only [Act.put, List.setIfInBounds_toArray, List.set_cons_zero, List.set_cons_succ]
            refine wpAnyH_take (i := 12) (oi := { dst := some 55, op := Op.extract (Operand.tmp 43) 1, type := 2, pos := "l03_clock.go:71", after := #[{ on := 10, ground := Ground.data }, { on := 15, ground := Ground.gcOnly Departure.lateStores }], guard := none }) (v := ?_) rfl (by kernel_rfl) (by kernel_rfl) (by kernel_rfl) (fun _ _ _ h => h) (Or.inl ⟨by rfl, ?hy⟩) hHeld ?_
            case hy => (intro w' hSw; (try dsimp only at hSw); go_simp; try with_reducible rfl)
            simp only [Act.put, List.setIfInBounds_toArray, List.set_cons_zero, List.set_cons_succ]
            refine wpAnyH_take (i := 13) (oi := { dst := some 56, op := Op.extract (Operand.tmp 43) 2, type := 166, pos := "l03_clock.go:71", after := #[{ on := 10, ground := Ground.data }, { on := 16, ground := Ground.gcOnly Departure.lateStores }], guard := none }) (v := ?_) rfl (by kernel_rfl) (by kernel_rfl) (by kernel_rfl) (fun _ _ _ h => h) (Or.inl ⟨by rfl, ?hy⟩) hHeld ?_
            case hy => (intro w' hSw; (try dsimp only at hSw); go_simp; try with_reducible rfl)
            simp only [Act.put, List.setIfInBounds_toArray, List.set_cons_zero, List.set_cons_succ]
            refine wpAnyH_take (i := 15) (oi := { dst := some 11, op := Op.assign (Operand.tmp 54), type := 2, pos := "l03_clock.go:71", after := #[{ on := 11, ground := Ground.data }, { on := 9, ground := Ground.chain }, { on := 0, ground := Ground.phase }, { on := 1, ground := Ground.phase }, { on := 2, ground := Ground.phase }, { on := 3, ground := Ground.phase }, { on := 4, ground := Ground.phase }, { on := 5, ground := Ground.phase }, { on := 6, ground := Ground.phase }, { on := 7, ground := Ground.phase }, { on := 8, ground := Ground.phase }, { on := 9, ground := Ground.phase }, { on := 10, ground := Ground.phase }, { on := 11, ground := Ground.phase }, { on := 12, ground := Ground.textOnly Departure.lateStores }, { on := 13, ground := Ground.textOnly Departure.lateStores }, { on := 14, ground := Ground.phase }], guard := none }) (v := ?_) rfl (by kernel_rfl) (by kernel_rfl) (by kernel_rfl) (fun _ _ _ h => h) (Or.inl ⟨by rfl, ?hy⟩) hHeld ?_
            case hy => (intro w' hSw; (try dsimp only at hSw); go_simp; try with_reducible rfl)
            simp only [Act.put, List.setIfInBounds_toArray, List.set_cons_zero, List.set_cons_succ]
            refine wpAnyH_take (i := 16) (oi := { dst := some 12, op := Op.assign (Operand.tmp 55), type := 2, pos := "l03_clock.go:71", after := #[{ on := 12, ground := Ground.data }, { on := 15, ground := Ground.chain }, { on := 0, ground := Ground.phase }, { on := 1, ground := Ground.phase }, { on := 2, ground := Ground.phase }, { on := 3, ground := Ground.phase }, { on := 4, ground := Ground.phase }, { on := 5, ground := Ground.phase }, { on := 6, ground := Ground.phase }, { on := 7, ground := Ground.phase }, { on := 8, ground := Ground.phase }, { on := 9, ground := Ground.phase }, { on := 10, ground := Ground.phase }, { on := 11, ground := Ground.phase }, { on := 12, ground := Ground.phase }, { on := 13, ground := Ground.textOnly Departure.lateStores }, { on := 14, ground := Ground.phase }, { on := 15, ground := Ground.phase }], guard := none }) (v := ?_) rfl (by kernel_rfl) (by kernel_rfl) (by kernel_rfl) (fun _ _ _ h => h) (Or.inl ⟨by rfl, ?hy⟩) hHeld ?_
            case hy => (intro w' hSw; (try dsimp only at hSw); go_simp; try with_reducible rfl)
            simp only [Act.put, List.setIfInBounds_toArray, List.set_cons_zero, List.set_cons_succ]
            refine wpAnyH_ready (rs := [17]) (by kernel_rfl) (by simp) ?_
            refine AllReadyH.cons (o := { dst := none, op := Op.store 166 (Operand.tmp 13) (Operand.tmp 56), type := 0, pos := "l03_clock.go:71", after := #[{ on := 14, ground := Ground.data }, { on := 13, ground := Ground.data }, { on := 16, ground := Ground.chain }, { on := 0, ground := Ground.phase }, { on := 1, ground := Ground.phase }, { on := 2, ground := Ground.phase }, { on := 3, ground := Ground.phase }, { on := 4, ground := Ground.phase }, { on := 5, ground := Ground.phase }, { on := 6, ground := Ground.phase }, { on := 7, ground := Ground.phase }, { on := 8, ground := Ground.phase }, { on := 9, ground := Ground.phase }, { on := 10, ground := Ground.phase }, { on := 11, ground := Ground.phase }, { on := 12, ground := Ground.phase }, { on := 13, ground := Ground.phase }, { on := 14, ground := Ground.phase }, { on := 15, ground := Ground.phase }, { on := 16, ground := Ground.phase }], guard := none }) rfl (fun K hK => ?_) AllReadyH.nil
            obtain ⟨qa0, qb0⟩ := EA.out.at 0 rfl
            obtain ⟨qa1, qb1⟩ := EA.out.at 1 rfl
            go_simp
            refine hK.out _ _ (KS.out _ ((HC.out.setCell PA.out _).setCell PA.out _)) (fun hHeld => ?_)
            clear hK K
            try simp only [Act.put, List.setIfInBounds_toArray, List.set_cons_zero, List.set_cons_succ]
            refine wpAnyH_done (by kernel_rfl) ?_ _
            go_wp2_with fail
            go_meet
            case rel => exact Lib.hid ⟨rfl, rfl, OneIn2.mk PA.out EA.out, (HC.out.setCell PA.out _).setCell PA.out _⟩
          -- END9
        obtain ⟨rfl, rfl, ⟨p13, rfl, hp1, hp2, hpb⟩, hbc⟩ := hcut.out
        clear hcut SP KLk KFk KZk KCk HC k0 k1 k2 k3 k4 j0 j1 hc
        have hzc := hbc.size
        have hbW : Below (w.heap.size + 1) w1 wc := hb.trans (hbc.mono (by omega))
        by_cases hN : N ≤ 100
        · have hN1 : ¬ 100 < N := by omega
          have hBN : w.heap.size + 1 ≤ wc.heap.size := by omega
          have A1 := Lib.hid ((hO1.out.below' hbc).alloc (.cells #[.int .i64 N] 2))
          have A2 := Lib.hid ((hO2.out.below' hbc).alloc (.cells #[.int .i64 N] 2))
          have AL := Lib.hid ((hL.out.below hbc hgt).below ((Below.refl _ _).alloc (Nat.le_refl _) (.cells #[.int .i64 N] 2)) (by omega))
          have AP := Lib.hid (hpb.below ((Below.refl _ _).alloc (Nat.le_refl _) (.cells #[.int .i64 N] 2)) hp2)
          have NP1 := Lib.hid (hO1.out.notBlk hp1)
          have NP2 := Lib.hid (hO2.out.notBlk hp1)
          go_wp2_with (first
            | (at_builtin; refine wpList_appendI2 49 Try.underlying49 rfl _ _ rfl rfl A1.out N ⟨wc.heap.size, 0, none⟩ 1 rfl (World.news_of_block (cs := #[.int .i64 N]) (t := 2) (fr := (0, 0)) (heap_alloc_new wc _)) (by rw [hlN]; omega) (by simp; omega) ?_; intro g1 cap1 w2 D1 hgr1 hb1 h41; have D2 := Lib.hid (A2.out.keptA (Apart.symm hA.out) hgr1); have DL := Lib.hid (AL.out.grown hgr1 (AL.out.ne A1.out)); have DP := Lib.hid (AP.out.grown (by simp; omega) hgr1 NP1.out); have DA := Lib.hid (Apart.left (n := Ns.length + 1) (c := cap1) hA.out A2.out h41); have D1 := Lib.hid D1; have hz2 := hb1.size; have DB := Lib.hid ((hbW.alloc hBN (.cells #[.int .i64 N] 2)).trans hb1); have DB2 : w.heap.size + 1 ≤ w2.heap.size := (by simp at hz2; omega); have E1 := Lib.hid (D1.out.alloc (.cells #[.int .i64 E] 2)); have E2 := Lib.hid (D2.out.alloc (.cells #[.int .i64 E] 2)); have EL := Lib.hid (DL.out.below ((Below.refl _ _).alloc (Nat.le_refl _) (.cells #[.int .i64 E] 2)) DL.out.lt); have hp3 : p13 < w2.heap.size := (by simp at hz2; omega); have EP := Lib.hid (DP.out.below ((Below.refl _ _).alloc (Nat.le_refl _) (.cells #[.int .i64 E] 2)) hp3); clear hgr1 hb1 h41)
            | (at_builtin; refine wpList_appendI2 49 Try.underlying49 rfl _ _ rfl rfl E2.out E ⟨w2.heap.size, 0, none⟩ 1 rfl (World.news_of_block (cs := #[.int .i64 E]) (t := 2) (fr := (0, 0)) (heap_alloc_new w2 _)) (by rw [hlE]; omega) (by simp; omega) ?_; intro g2 cap2 w3 G2 hgr2 hb2 h42; have G1 := Lib.hid (E1.out.keptA DA.out hgr2); have GL := Lib.hid (EL.out.grown hgr2 (EL.out.ne E2.out)); have GP := Lib.hid (EP.out.grown (by simp; omega) hgr2 NP2.out); have GA := Lib.hid (Apart.left (n := Es.length + 1) (c := cap2) (Apart.symm DA.out) E1.out h42); have G2 := Lib.hid G2; have hz3 := hb2.size; have GB := Lib.hid ((DB.out.alloc DB2 (.cells #[.int .i64 E] 2)).trans hb2); have hX3 : w1.heap.size < w3.heap.size := (by simp at hz3 hz2; omega); obtain ⟨m0, n0⟩ := GL.out.box 0 _ rfl; obtain ⟨m1, n1⟩ := GL.out.box 1 _ rfl; obtain ⟨r0, s0⟩ := GP.out 0 _ rfl; obtain ⟨r1, s1⟩ := GP.out 1 _ rfl; clear hgr2 hb2 h42))
          go_roundw
          case rel =>
            obtain ⟨hst, hok, hsN, hsE, hx⟩ := HX.out
            have NL1 := GL.out.ne G1.out
            have NL2 := GL.out.ne G2.out
            refine ⟨k + 1, by omega, by go_num, by unfold Hid; rw [hok, decide_eq_true hN], ?_, ?_, Lib.hid GA.out.symm, ?_, (GB.out.setCell (by simp; omega) _).setCell (by simp; omega) _, by simpa using hX3⟩
            · have h9 := ((G1.out.set (i := 0) (v := .int .i64 P') NL1).set (i := 1) (v := .int .i64 o') NL1)
              rw [hlN] at h9
              rw [hsN]; exact Lib.hid h9
            · have h9 := ((G2.out.set (i := 0) (v := .int .i64 P') NL2).set (i := 1) (v := .int .i64 o') NL2)
              rw [hlE] at h9
              rw [hsE]; exact Lib.hid h9
            · rw [hst]; exact Lib.hid GL.out.put
          case measure => simp [intOf]; omega
        · have hN1 : 100 < N := by omega
          go_wp2
          go_ret3
          obtain ⟨hst, hok, hsN, hsE, hx⟩ := HX.out
          have hbad := ckOk_mono (k := k + 1) hlt (by rw [hok]; exact decide_eq_false (by omega))
          obtain ⟨e1, e2, e3⟩ := R1.out hbad
          rw [e1, e2]
          refine ⟨none, 0, none, 0, ?_, .inl rfl, .inl rfl, HB1.out.trans (hbW.mono (by omega))⟩
          rw [← R2.out, hbad]
          rfl
      · obtain rfl : k = zs.length := by omega
        obtain ⟨e1, e2, e3⟩ := R0.out hG.out
        have lN := ckNs_len c l h p s f zs zs.length
        have lE := ckEs_len c l h p s f zs zs.length
        obtain ⟨a1, c1, rfl, hs1⟩ := (hO1.out.mono (show w.heap.size ≤ w.heap.size + 1 by omega)).slO
        obtain ⟨a2, c2, rfl, hs2⟩ := (hO2.out.mono (show w.heap.size ≤ w.heap.size + 1 by omega)).slO
        go_wp2
        go_ret3
        rw [e1, e2]
        refine ⟨a1, c1, a2, c2, ?_, hs1, hs2, HBW⟩
        rw [← R2.out, e3]
        rfl
end Go.Proofs.Ytdoledckkbcihaa
