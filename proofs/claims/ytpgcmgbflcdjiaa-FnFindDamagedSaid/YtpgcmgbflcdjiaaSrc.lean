/- The source of choices: spec.l00From, next, pick, one, among. -/
import Derived.Test.YtpgcmgbflcdjiaaConv
import Derived.WalkSmall
import Derived.Laws.Runes
import Derived.Laws.BitsLemmas
namespace Go.Proofs.Ytpgcmgbflcdjiaa
open Go.RowKit
set_option linter.unusedVariables false
/-- Nothing but block g has changed, and no block is new. -/
def Only (g : Nat) (w w' : World) : Prop := w'.os = w.os ∧ w'.tape = w.tape ∧ w'.output = w.output ∧ w'.heap.size = w.heap.size ∧ ∀ b, b ≠ g → w'.heap[b]? = w.heap[b]?
theorem Only.refl (g : Nat) (w : World) : Only g w w := ⟨rfl, rfl, rfl, rfl, fun _ _ => rfl⟩
theorem Only.trans {g : Nat} {a b c : World} (h : Only g a b) (h' : Only g b c) : Only g a c :=
  ⟨h'.1.trans h.1, h'.2.1.trans h.2.1, h'.2.2.1.trans h.2.2.1, h'.2.2.2.1.trans h.2.2.2.1, fun x hx => (h'.2.2.2.2 x hx).trans (h.2.2.2.2 x hx)⟩
theorem Only.drewN {g : Nat} {a b : World} (h : Only g a b) (n : Nat) : Only g a (b.drewN n) := h
theorem Only.setCell {g : Nat} {a b : World} (h : Only g a b) (i : Nat) (v : Value) : Only g a (b.setCell ⟨g, i, none⟩ v) :=
  ⟨h.1, h.2.1, h.2.2.1, by rw [← h.2.2.2.1]; simp [World.setCell], fun x hx => by rw [Below.heap_setCell _ _ _ _ (by simpa using hx)]; exact h.2.2.2.2 x hx⟩
theorem Only.below {g B : Nat} {a b : World} (h : Only g a b) (hB : B ≤ g) : Below B a b :=
  ⟨h.1, h.2.1, h.2.2.1, by rw [h.2.2.2.1]; exact Nat.le_refl _, fun i hi => h.2.2.2.2 i (by omega)⟩
theorem add_block (x : Addr) (i : Nat) : (x.add i).block = x.block := by
  cases x; unfold Addr.add; first | rfl | (split <;> rfl)
/-- The bytes that choose. -/
def CodeAt (w : World) (a : Option Addr) (n : Nat) : Prop := n = 0 ∨ ∃ x : Addr, a = some x ∧ ∀ i, i < n → ∃ v : Nat, v < 256 ∧ w.cell? (x.add i) = some (.int .u8 (v : Int))
/-- The source, k choices on. -/
def SrcAt (w : World) (p : Nat) (a : Option Addr) (n cap k : Nat) : Prop :=
  ∃ s : Int, w.heap[p]? = some (.cells #[.slice a n cap, .int .i64 (k : Int), .int .u64 s] 72 (0, 0)) ∧ (n = 0 ∨ ∀ x, a = some x → x.block ≠ p) ∧ CodeAt w a n
theorem CodeAt.only {w w' : World} {a : Option Addr} {n p : Nat} (h : CodeAt w a n) (hp : n = 0 ∨ ∀ x, a = some x → x.block ≠ p) (ho : Only p w w') : CodeAt w' a n := by
  rcases h with h | ⟨x, rfl, h⟩
  · exact .inl h
  · rcases hp with h0 | hp
    · exact .inl h0
    refine .inr ⟨x, rfl, fun i hi => ?_⟩
    obtain ⟨v, hv, hc⟩ := h i hi
    refine ⟨v, hv, ?_⟩
    have e : w'.heap[(x.add i).block]? = w.heap[(x.add i).block]? := ho.2.2.2.2 _ (by rw [add_block]; exact hp x rfl)
    rw [World.cell?_of_block e]
    exact hc
theorem CodeAt.below {w w' : World} {a : Option Addr} {n B : Nat} (h : CodeAt w a n) (hp : n = 0 ∨ ∀ x, a = some x → x.block < B) (ho : Below B w w') : CodeAt w' a n := by
  rcases h with h | ⟨x, rfl, h⟩
  · exact .inl h
  · rcases hp with h0 | hp
    · exact .inl h0
    refine .inr ⟨x, rfl, fun i hi => ?_⟩
    obtain ⟨v, hv, hc⟩ := h i hi
    refine ⟨v, hv, ?_⟩
    have e : w'.heap[(x.add i).block]? = w.heap[(x.add i).block]? := ho.block _ (by rw [add_block]; exact hp x rfl)
    rw [World.cell?_of_block e]
    exact hc
/-- What a choice has done. -/
def Chose (p : Nat) (a : Option Addr) (n cap k d : Nat) (w w' : World) : Prop := ∃ k', k ≤ k' ∧ k' ≤ k + d ∧ SrcAt w' p a n cap k' ∧ Only p w w'
theorem heap_put_row (w : World) (g i : Nat) (cs : Array Value) (t : TypeId) (v : Value) (hg : w.heap[g]? = some (.cells cs t (0, 0))) :
    (w.setCell ⟨g, i, none⟩ v).heap[g]? = some (.cells (cs.setIfInBounds i v) t (0, 0)) := by
  simp [World.setCell, Array.getElem?_modify, hg]
theorem chose_one {p : Nat} {a : Option Addr} {n cap k : Nat} {w : World} (h : SrcAt w p a n cap k) (m q : Nat) (s' : Int) :
    Chose p a n cap k 1 w ((((w.drewN m).setCell ⟨p, 1, none⟩ (.int .i64 ((k : Int) + 1))).setCell ⟨p, 2, none⟩ (.int .u64 s')).drewN q) := by
  obtain ⟨s, hh, hne, hc⟩ := h
  have ho : Only p w ((((w.drewN m).setCell ⟨p, 1, none⟩ (.int .i64 ((k : Int) + 1))).setCell ⟨p, 2, none⟩ (.int .u64 s')).drewN q) :=
    ((((Only.refl p w).drewN m).setCell 1 _).setCell 2 _).drewN q
  refine ⟨k + 1, by omega, by omega, ⟨s', ?_, hne, hc.only hne ho⟩, ho⟩
  have h1 := heap_put_row (w.drewN m) p 1 _ _ (.int .i64 ((k : Int) + 1)) hh
  have h2 := heap_put_row _ p 2 _ _ (.int .u64 s') h1
  exact h2
theorem and_255 (x : Int) : 0 ≤ wrap64 (bits .and .u64 (IntKind.u64.wrap x / 1099511627776) 255) ∧ wrap64 (bits .and .u64 (IntKind.u64.wrap x / 1099511627776) 255) < 256 := by
  have hb : 0 ≤ IntKind.u64.wrap x ∧ IntKind.u64.wrap x < 18446744073709551616 := by rw [IntKind.wrap_u64]; omega
  generalize IntKind.u64.wrap x = y at hb ⊢
  have h : bits .and .u64 (y / 1099511627776) 255 = (y / 1099511627776) % 256 :=
    bits_mask .u64 64 (by decide) (fun n h0 h1 => by rw [IntKind.wrap_u64]; omega) 8 (by decide) (y / 1099511627776) (by omega) (by omega)
  rw [h]
  unfold wrap64
  omega
set_option maxHeartbeats 2000000 in
theorem next_any (p : Nat) (a : Option Addr) (n cap k : Nat) (w : World) (hn : n ≤ 1048576) (hk : k < 1099511627776) (h : SrcAt w p a n cap k) :
    Calls Try.prog 60 #[.pointer (some ⟨p, 0, none⟩)] w fun e w' => ∃ v : Int, e = .returned (.int .i64 v) ∧ 0 ≤ v ∧ v < 256 ∧ Chose p a n cap k 1 w w' := by
  have HS := Lib.hid h
  obtain ⟨s, hh, hne, hc⟩ := h
  have c0 : w.cell? ⟨p, 0, none⟩ = some (.slice a n cap) := by simp [World.cell?, hh]
  have c1 : w.cell? ⟨p, 1, none⟩ = some (.int .i64 (k : Int)) := by simp [World.cell?, hh]
  have c2 : w.cell? ⟨p, 2, none⟩ = some (.int .u64 s) := by simp [World.cell?, hh]
  have f1 : w.frozen? ⟨p, 1, none⟩ = false := by simp [World.frozen?, hh]
  have f2 : w.frozen? ⟨p, 2, none⟩ = false := by simp [World.frozen?, hh]
  by_cases hlt : k < n
  · obtain ⟨x, rfl, hx⟩ : ∃ x : Addr, a = some x ∧ ∀ i, i < n → ∃ v : Nat, v < 256 ∧ w.cell? (x.add i) = some (.int .u8 (v : Int)) := by
      rcases hc with h0 | h0
      · omega
      · exact h0
    obtain ⟨v, hv, hcell⟩ := hx k hlt
    have e1 : (k : Int) < (n : Int) := by omega
    have e2 : (k : Int) + 1 ≤ (n : Int) := by omega
    go_enter Try.func60, Try.ntmps60
    go_wp2
    go_quiet (fail)
    go_wp2
    go_quiet (fail)
    go_wp2
    go_quiet (fail)
    go_wp2
    go_ret
    exact ⟨_, rfl, by omega, by omega, chose_one HS.out _ _ _⟩
  · have e1 : ¬ (k : Int) < (n : Int) := by omega
    have e2 : ¬ (k : Int) + 1 ≤ (n : Int) := by omega
    go_enter Try.func60, Try.ntmps60
    go_wp2
    go_quiet (fail)
    go_wp2
    go_quiet (fail)
    go_wp2
    go_ret
    exact ⟨_, rfl, (and_255 _).1, (and_255 _).2, chose_one HS.out _ _ _⟩
theorem Chose.zero {p : Nat} {a : Option Addr} {n cap k : Nat} {w : World} (h : SrcAt w p a n cap k) (d : Nat) : Chose p a n cap k d w w := ⟨k, by omega, by omega, h, Only.refl _ _⟩
theorem Chose.trans {p : Nat} {a : Option Addr} {n cap k d k' d' : Nat} {w w1 w2 : World} (h : k' ≤ k + d) (hk : k ≤ k') (ho : Only p w w1) (h2 : Chose p a n cap k' d' w1 w2) : Chose p a n cap k (d + d') w w2 := by
  obtain ⟨k2, q1, q2, q3, q4⟩ := h2
  exact ⟨k2, by omega, by omega, q3, ho.trans q4⟩
set_option maxHeartbeats 2000000 in
theorem pick_any (m : Int) (p : Nat) (a : Option Addr) (n cap k : Nat) (w : World) (hm : m ≤ 4611686018427387904) (hn : n ≤ 1048576) (hk : k < 1000000000000) (h : SrcAt w p a n cap k) :
    Calls Try.prog 57 #[.pointer (some ⟨p, 0, none⟩), .int .i64 m] w fun e w' => ∃ v : Int, e = .returned (.int .i64 v) ∧ 0 ≤ v ∧ (v < m ∨ v = 0) ∧ Chose p a n cap k 2 w w' := by
  have N1 := Lib.hid (next_any p a n cap k w hn (by omega) h)
  by_cases h1 : m ≤ 1
  · have HS := Lib.hid h; clear h
    go_enter Try.func57, Try.ntmps57
    go_wp2
    go_ret
    exact ⟨0, rfl, by omega, .inr rfl, Chose.zero HS.out 2⟩
  · have hm0 : ¬ m = 0 := by omega
    have hm1 : (m == 0) = false := by rw [beq_eq_false_iff_ne]; omega
    clear h
    by_cases h2 : m ≤ 200
    · go_enter Try.func57, Try.ntmps57
      go_wp2_with fail
      refine N1.out.mono ?_
      rintro e w1 ⟨v, rfl, hv0, hv1, k1, q1, q2, q3, q4⟩
      have hr := Int.tmod_eq_emod_of_nonneg (b := m) hv0
      have hr0 := Int.emod_nonneg v hm0
      have hr1 := Int.emod_lt_of_pos v (show 0 < m by omega)
      go_wp2
      go_ret
      exact ⟨v % m, rfl, hr0, .inl hr1, ⟨k1, q1, by omega, q3, q4⟩⟩
    · go_enter Try.func57, Try.ntmps57
      go_wp2_with fail
      refine N1.out.mono ?_
      rintro e w1 ⟨v, rfl, hv0, hv1, k1, q1, q2, q3, q4⟩
      have N2 := Lib.hid (next_any p a n cap k1 w1 hn (by omega) q3)
      clear q3
      go_wp2_with fail
      refine N2.out.mono ?_
      rintro e w2 ⟨u, rfl, hu0, hu1, k2, r1, r2, r3, r4⟩
      have e1 : IntKind.i64.wrap (v * 256) = v * 256 := wrap_small _ (by omega) (by omega)
      have e2 : IntKind.i64.wrap (v * 256 + u) = v * 256 + u := wrap_small _ (by omega) (by omega)
      have hx0 : 0 ≤ v * 256 + u := by omega
      have hr := Int.tmod_eq_emod_of_nonneg (b := m) hx0
      have hr0 := Int.emod_nonneg (v * 256 + u) hm0
      have hr1 := Int.emod_lt_of_pos (v * 256 + u) (show 0 < m by omega)
      go_wp2
      go_ret
      exact ⟨(v * 256 + u) % m, rfl, hr0, .inl hr1, ⟨k2, by omega, by omega, r3, q4.trans r4⟩⟩
set_option maxHeartbeats 2000000 in
theorem among_any (b c : Nat) (l : List Int) (p : Nat) (a : Option Addr) (n cap k : Nat) (w : World) (hl0 : 1 ≤ l.length) (hl : l.length ≤ 1000000) (hb : b ≠ p) (hi : Ints w b 0 l) (hn : n ≤ 1048576) (hk : k < 1000000000000) (h : SrcAt w p a n cap k) :
    Calls Try.prog 59 #[.pointer (some ⟨p, 0, none⟩), .slice (some ⟨b, 0, none⟩) l.length c] w fun e w' => ∃ v : Int, e = .returned (.int .i64 v) ∧ v ∈ l ∧ Chose p a n cap k 2 w w' := by
  have N1 := Lib.hid (pick_any (l.length : Int) p a n cap k w (by omega) hn hk h)
  have HI := Lib.hid hi
  clear h hi
  go_enter Try.func59, Try.ntmps59
  go_wp2_with fail
  refine N1.out.mono ?_
  rintro e w1 ⟨v, rfl, hv0, hv1, k1, q1, q2, q3, q4⟩
  obtain ⟨i, rfl⟩ : ∃ i : Nat, v = i := ⟨v.toNat, by omega⟩
  have hi : i < l.length := by omega
  have e1 : (i : Int) < (l.length : Int) := by omega
  have hx : l[i]? = some l[i] := List.getElem?_eq_getElem hi
  have hcell : w1.cell? ⟨b, i, none⟩ = some (.int .i64 l[i]) := by
    have := HI.out i _ hx
    rw [Nat.zero_add] at this
    rw [World.cell?_of_block (a := ⟨b, i, none⟩) (q4.2.2.2.2 b hb)]
    exact this
  have hmem : l[i] ∈ l := List.getElem_mem hi
  generalize l[i] = x at *
  have HH := Lib.hid (And.intro q3 (And.intro q4 hx)); clear q3 q4 hx
  go_wp2
  go_ret
  exact ⟨x, rfl, hmem, ⟨k1, q1, q2, HH.out.1, HH.out.2.1⟩⟩
end Go.Proofs.Ytpgcmgbflcdjiaa
