/- spec.l12New, spec.NewDisc -/
import Derived.Test.YtllcbiafghhcmaaPkFnDeviceOrderPutSector
import Derived.Test.YtllcbiafghhcmaaPkFnDeviceOrderDiscSpec
import Derived.Deep.RegionHeld3
import Derived.Deep.RegionLaw
import Derived.BigRegion
namespace Go.Proofs.Ytllcbiafghhcmaa
open Go.RowKit
set_option linter.unusedVariables false
set_option linter.unusedSimpArgs false
set_option maxRecDepth 20000
def missS (m : Nat) : SectorV := ⟨zerosS m, 3⟩
theorem OwnR.setCell {E : Type} {row : E → List Value} {T : TypeId} {n : Nat} {w : World} {B p i : Nat} {v u : Value} {es : List E} (h : OwnR row T n w B v es) (hp : p < B) : OwnR row T n (w.setCell ⟨p, i, none⟩ u) B v es := by
  refine ⟨h.1, ?_⟩
  rcases h.2 with h2 | ⟨g, cap, cur, rfl, hg, hh, r⟩
  · exact .inl h2
  · exact .inr ⟨g, cap, cur, rfl, hg, by rw [Below.heap_setCell _ _ _ _ (by show g ≠ p; omega)]; exact hh, r⟩
theorem BoxF.keep {w w' : World} {p : Nat} {vs : Array Value} (h : BoxF w p vs) (hk : w'.heap[p]? = w.heap[p]?) : BoxF w' p vs := by
  intro i v hv
  obtain ⟨h1, h2⟩ := h i v hv
  refine ⟨?_, ?_⟩
  · rw [← h1]; simp only [World.cell?, hk]
  · rw [← h2]; simp only [World.frozen?, hk]
theorem BoxF.set4 {w : World} {p : Nat} {a b c d e e' : Value} (h : BoxF w p #[a, b, c, d, e]) : BoxF (w.setCell ⟨p, 4, none⟩ e') p #[a, b, c, d, e'] := by
  obtain ⟨c0, f0⟩ := h 0 _ rfl
  obtain ⟨c1, f1⟩ := h 1 _ rfl
  obtain ⟨c2, f2⟩ := h 2 _ rfl
  obtain ⟨c3, f3⟩ := h 3 _ rfl
  obtain ⟨c4, f4⟩ := h 4 _ rfl
  exact boxF5 (by simp [go_sem, c0, f0]) (by simp [go_sem, c1, f1]) (by simp [go_sem, c2, f2]) (by simp [go_sem, c3, f3]) (by simp [go_sem, c4, f4])
set_option maxHeartbeats 8000000 in
theorem l12New_any (a b c d : Int) (n m : Nat) (w : World) (hg : geoB a b c d = true) (hn : a * b * c = (n : Int)) (hm : secN d = (m : Int)) :
    Calls Try.prog 85 #[.int .i64 a, .int .i64 b, .int .i64 c, .int .i64 d] w fun e w' => ∃ g cap, e = .returned (.agg #[.int .i64 a, .int .i64 b, .int .i64 c, .int .i64 d, .slice (some ⟨g, 0, none⟩) n cap]) ∧ OwnBlk w' w.heap.size g (List.replicate n (missS m)) ∧ Below w.heap.size w w' := by
  obtain ⟨g0, g1, g2, g3⟩ := geoB_iff.1 hg
  obtain ⟨m0, m1, m2, m3⟩ := mul_bound g0 g1 g2
  have hz : inB 0 2 d = true := inB_iff.2 g3
  obtain ⟨k0, hk1, _, hk3⟩ := secN_three hz
  have hmm : m = 8 ∨ m = 16 ∨ m = 32 := by omega
  have BY := Lib.hid (fun w => l12Bytes_any d m w hz hm)
  have ZE := Lib.hid (fun w => l01Zeros_any m (by omega) w)
  have hw1 : wrap64 (a * b) = a * b := by unfold wrap64; omega
  have hw2 : wrap64 (a * b * c) = a * b * c := by unfold wrap64; omega
  have hn1 : 1 ≤ n := by omega
  have hn2 : n ≤ 128 := by omega
  have HMS := Lib.hid (show missS m = ⟨zerosS m, 3⟩ from rfl)
  obtain ⟨z, hz0⟩ : ∃ z, zerosS m = z := ⟨_, rfl⟩
  rw [hz0] at ZE HMS
  clear hg g0 g1 g2 g3 m0 m1 m2 m3 hk1 hk3 hz hm hz0
  go_enter Try.func85, Try.ntmps85
  go_wp2
  have bR : BoxF ((w.alloc (.cells #[.int .i64 0, .int .i64 0, .int .i64 0, .int .i64 0, .slice none 0 0] 26)).alloc (.cells #[.int .i64 a, .int .i64 b, .int .i64 c, .int .i64 d, .slice none 0 0] 26)) w.heap.size #[.int .i64 0, .int .i64 0, .int .i64 0, .int .i64 0, .slice none 0 0] := boxF5 (by simp [go_sem]) (by simp [go_sem]) (by simp [go_sem]) (by simp [go_sem]) (by simp [go_sem])
  have bO : BoxF ((w.alloc (.cells #[.int .i64 0, .int .i64 0, .int .i64 0, .int .i64 0, .slice none 0 0] 26)).alloc (.cells #[.int .i64 a, .int .i64 b, .int .i64 c, .int .i64 d, .slice none 0 0] 26)) (w.heap.size + 1) #[.int .i64 a, .int .i64 b, .int .i64 c, .int .i64 d, .slice none 0 0] := boxF5 (by simp [go_sem]) (by simp [go_sem]) (by simp [go_sem]) (by simp [go_sem]) (by simp [go_sem])
  have FB := Lib.hid (show Below w.heap.size w ((w.alloc (.cells #[.int .i64 0, .int .i64 0, .int .i64 0, .int .i64 0, .slice none 0 0] 26)).alloc (.cells #[.int .i64 a, .int .i64 b, .int .i64 c, .int .i64 d, .slice none 0 0] 26)) by go_grown)
  have hlt : w.heap.size + 2 ≤ ((w.alloc (.cells #[.int .i64 0, .int .i64 0, .int .i64 0, .int .i64 0, .slice none 0 0] 26)).alloc (.cells #[.int .i64 a, .int .i64 b, .int .i64 c, .int .i64 d, .slice none 0 0] 26)).heap.size := by simp
  generalize ((w.alloc (.cells #[.int .i64 0, .int .i64 0, .int .i64 0, .int .i64 0, .slice none 0 0] 26)).alloc (.cells #[.int .i64 a, .int .i64 b, .int .i64 c, .int .i64 d, .slice none 0 0] 26)) = W at *
  clear hw1 hw2
  go_loopw [10] (fun i wr => ∃ r : Nat, r ≤ n ∧ i = .int .i64 r ∧ ∃ v, Hid (BoxF wr (w.heap.size + 1) #[.int .i64 a, .int .i64 b, .int .i64 c, .int .i64 d, v]) ∧ OwnR rowSector 39 2 wr (w.heap.size + 2) v (List.replicate (n - r) (missS m)) ∧ Hid (BoxF wr w.heap.size #[.int .i64 0, .int .i64 0, .int .i64 0, .int .i64 0, .slice none 0 0]) ∧ Below w.heap.size w wr ∧ w.heap.size + 2 ≤ wr.heap.size) (fun i _ => (intOf i).toNat)
  case atStart => exact ⟨n, Nat.le_refl _, rfl, _, Lib.hid bO, by rw [Nat.sub_self]; exact OwnR.nil _ _, Lib.hid bR, FB.out, hlt⟩
  case round =>
    obtain ⟨r, hr, rfl, v, hbox, hown, hres, hb, hl⟩ := hrel
    by_cases h0 : 0 < r
    · have e1 : (0 : Int) < (r : Int) := by omega
      have HREP := Lib.hid (show List.replicate (n - (r - 1)) (missS m) = List.replicate (n - r) (missS m) ++ [⟨z, 3⟩] by
        rw [show n - (r - 1) = (n - r) + 1 by omega, List.replicate_succ', HMS.out])
      have hll : (List.replicate (n - r) (missS m)).length < 1073741824 := by simp; omega
      generalize List.replicate (n - r) (missS m) = l at *
      have KS := Lib.hid (fun w' (hb : Below (w.heap.size + 2) wr w') => (show w'.cell? ⟨w.heap.size + 1, 4, none⟩ = some v from (hbox.out.below hb (by omega) 4 _ rfl).1))
      have KF := Lib.hid (fun w' (hb : Below (w.heap.size + 2) wr w') => (show w'.frozen? ⟨w.heap.size + 1, 4, none⟩ = false from (hbox.out.below hb (by omega) 4 _ rfl).2))
      have hks : wr.cell? ⟨w.heap.size + 1, 4, none⟩ = some v := KS.out _ (Below.refl _ _)
      have HC := Lib.hid (show Below (w.heap.size + 2) wr wr.drew from (Below.refl _ _).drew)
      have HOWN := Lib.hid hown.drew
      have HL := Lib.hid hl
      clear hown
      go_wp2
      go_region_law (first
          | (go_simp; go_at_call 43; (with_reducible refine (BY.out _).mono ?_); rintro e _ ⟨rfl, rfl⟩; go_wp2_with fail)
          | (go_simp; go_at_call 67; (with_reducible refine (ZE.out _).mono ?_); rintro e w2 ⟨rfl, hb2⟩; go_wp2_with fail; replace HOWN := Lib.hid (HOWN.out.below hb2); have hl2 : w.heap.size + 2 ≤ w2.heap.size := Nat.le_trans HL.out hb2.size; replace HC := Lib.hid (HC.out.trans (hb2.mono (by have := HL.out; simp; omega))); clear hb2; have xk4 := KS.out _ HC.out; have hl3 : w.heap.size + 1 < w2.heap.size := Nat.lt_of_lt_of_le (Nat.lt_succ_self _) hl2)
          | (refine step_appendR 24 39 (.agg zeroSector.toArray) 24 Try.underlying24 infoSector (by rfl) (by omega) (by omega) (by rfl) _ _ (by rfl) (by rfl) (HOWN.out.alloc _) ⟨z, 3⟩ rfl (by simp [rowSector, Value.oneCell']) ⟨w2.heap.size, 0, none⟩ 1 (by rfl) (World.news_of_block (cs := #[.string z, .int .i64 3]) (t := 39) (fr := (0, 0)) (heap_alloc_new w2 _)) hll (by simp; omega) ?_; intro g cap w4 hown4 hgr hb4; replace HC := Lib.hid ((HC.out.alloc hl2 _).trans hb4); have xq4 := KS.out _ HC.out; have yq4 := KF.out _ HC.out; clear hgr)
          | fail)
      all_goals
        go_wp2
        go_roundw
        case rel =>
          have hsz := HC.out.size
          refine ⟨r - 1, by omega, by rw [show ((r - 1 : Nat) : Int) = (r : Int) - 1 by omega], _, Lib.hid (hbox.out.below HC.out (by omega)).set4, ?_, Lib.hid ((hres.out.below HC.out (by omega)).keep (Below.heap_setCell _ _ _ _ (by simp))), (hb.trans (HC.out.mono (by omega))).setCell (by simp) _, by simp; omega⟩
          rw [HREP.out]
          have h5 := hown4.setCell (p := w.heap.size + 1) (i := 4) (u := .slice (some ⟨g, 0, none⟩) (l.length + 1) cap) (by omega)
          simpa using h5
        case measure => simp [intOf]; omega
    · obtain rfl : r = 0 := by omega
      rw [Nat.sub_zero] at hown
      obtain ⟨g, cap, rfl⟩ : ∃ g cap, v = .slice (some ⟨g, 0, none⟩) n cap := by
        rcases hown.2 with ⟨_, h2⟩ | ⟨g, cap, cur, h2, _⟩
        · simp at h2; omega
        · exact ⟨g, cap, by rw [h2]; simp⟩
      have HO := Lib.hid (own_of (w := wr) (B := w.heap.size + 2) (g := g) (cap := cap) (es := List.replicate n (missS m)) (by simp; omega) (by simpa using hown))
      have hgB : w.heap.size + 2 ≤ g := HO.out.choose_spec.1
      obtain ⟨xO0, yO0⟩ := hbox.out 0 _ rfl
      obtain ⟨xO1, yO1⟩ := hbox.out 1 _ rfl
      obtain ⟨xO2, yO2⟩ := hbox.out 2 _ rfl
      obtain ⟨xO3, yO3⟩ := hbox.out 3 _ rfl
      obtain ⟨xO4, yO4⟩ := hbox.out 4 _ rfl
      obtain ⟨xR0, yR0⟩ := hres.out 0 _ rfl
      obtain ⟨xR1, yR1⟩ := hres.out 1 _ rfl
      obtain ⟨xR2, yR2⟩ := hres.out 2 _ rfl
      obtain ⟨xR3, yR3⟩ := hres.out 3 _ rfl
      obtain ⟨xR4, yR4⟩ := hres.out 4 _ rfl
      clear hown
      go_wp2
      refine bodyPost_ret (v := .agg #[.int .i64 a, .int .i64 b, .int .i64 c, .int .i64 d, .slice (some ⟨g, 0, none⟩) n cap]) (by simp [results, Try.results85, go_sem, xR0, yR0, xR1, yR1, xR2, yR2, xR3, yR3, xR4, yR4, xO0, xO1, xO2, xO3, xO4]) rfl ⟨g, cap, rfl, ?_, ?_⟩
      · refine (HO.out.mono (by omega)).keep ?_
        simp only [World.setCell, Array.getElem?_modify]
        rw [if_neg (by omega), if_neg (by omega), if_neg (by omega), if_neg (by omega), if_neg (by omega)]
      · exact ((((hb.setCell (by simp) _).setCell (by simp) _).setCell (by simp) _).setCell (by simp) _).setCell (by simp) _
def newC (a b c d : Int) : Int := if geoB a b c d = true then 0 else 2
def newV (a b c d : Int) : DiscV := if geoB a b c d = true then ⟨a, b, c, d, List.replicate (a * b * c).toNat (missS (secN d).toNat)⟩ else noDisc
theorem geo_nm {a b c d : Int} (h : geoB a b c d = true) : ∃ n m : Nat, a * b * c = (n : Int) ∧ (a * b * c).toNat = n ∧ 1 ≤ n ∧ n ≤ 128 ∧ secN d = (m : Int) ∧ (secN d).toNat = m ∧ (m = 8 ∨ m = 16 ∨ m = 32) := by
  obtain ⟨g0, g1, g2, g3⟩ := geoB_iff.1 h
  obtain ⟨m0, m1, _, _⟩ := mul_bound g0 g1 g2
  obtain ⟨k0, hk1, hk2, hk3⟩ := secN_three (inB_iff.2 g3)
  exact ⟨(a * b * c).toNat, k0, by omega, rfl, by omega, by omega, hk1, hk2, hk3⟩
theorem newV_len (a b c d : Int) : (newV a b c d).f4.length ≤ 1048576 := by
  unfold newV
  split
  · rename_i h
    obtain ⟨n, m, _, h2, _, h4, _⟩ := geo_nm h
    simp; omega
  · simp [noDisc]
end Go.Proofs.Ytllcbiafghhcmaa
