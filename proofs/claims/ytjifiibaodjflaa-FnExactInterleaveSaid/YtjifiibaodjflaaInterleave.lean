/- impl.Interleave, spec.Interleave -/
import Derived.Test.YtjifiibaodjflaaIlv
import Derived.Test.YtjifiibaodjflaaWithin
import Derived.Test.YtjifiibaodjflaaLawSl
import Derived.Test.YtjifiibaodjflaaOwnI
import Derived.Test.YtjifiibaodjflaaSlRes
namespace Go.Proofs.Ytjifiibaodjflaa
open Go.RowKit
set_option linter.unusedVariables false
theorem ilvV_len (n st : Int) : (ilvV n st).length ≤ 1048576 := by
  unfold ilvV
  split
  · next h =>
    unfold ilvOk at h
    simp only [Bool.and_eq_true, inB_iff] at h
    rw [ilv_len _ _ (by omega) (by omega)]
    omega
  · simp
theorem within_two (lo hi x y : Int) (w : World) (T : TypeId) (b : Nat) (hb : w.heap.size = b) :
    Calls Try.prog 56 #[.int .i64 lo, .int .i64 hi, .slice (some ⟨b, 0, none⟩) 2 2] (w.alloc (.cells #[.int .i64 x, .int .i64 y] T)) fun e w' => e = .returned (.bool (inB lo hi x && inB lo hi y)) ∧ (w.alloc (.cells #[.int .i64 x, .int .i64 y] T)) = w' := by
  subst hb
  have h := within_list lo hi [x, y] w.heap.size 0 2 (w.alloc (.cells #[.int .i64 x, .int .i64 y] T)) (by simp [maxLen]) (by
    intro i v hv
    match i, hv with
    | 0, hv => simp at hv; subst hv; simp [go_sem]
    | 1, hv => simp at hv; subst hv; simp [go_sem]
    | i + 2, hv => simp at hv)
  refine h.mono ?_
  rintro e w' ⟨rfl, rfl⟩
  exact ⟨ret_bool (by simp), rfl⟩
theorem boolinfo : (Try.prog.info? 4).map (fun i => (i.zero, i.size, i.bytes)) = some (some (.bool false), 1, 1) := by kernel_rfl
theorem made_ints (n : Nat) : madeCells #[Value.int .i64 0] n = ((List.replicate n (0 : Int)).map (Value.int .i64)).toArray := by
  apply Array.ext
  · simp [madeCells]
  · intro i h1 h2
    simp [madeCells, Nat.mod_one]
theorem made_bools (n : Nat) : madeCells #[Value.bool false] n = ((List.replicate n false).map Value.bool).toArray := by
  apply Array.ext
  · simp [madeCells]
  · intro i h1 h2
    simp [madeCells, Nat.mod_one]
theorem set_map {α : Type} (f : α → Value) (l : List α) (i : Nat) (x : α) : ((l.map f).toArray).setIfInBounds i (f x) = ((l.set i x).map f).toArray := by simp
theorem mod_back (n p j : Nat) (hp : p < n) (hj : j < n) : ((p + j) % n + (n - p)) % n = j := by
  by_cases h : p + j < n
  · rw [Nat.mod_eq_of_lt h, show p + j + (n - p) = j + n by omega, Nat.add_mod_right, Nat.mod_eq_of_lt hj]
  · have h1 : (p + j) % n = p + j - n := by rw [Nat.mod_eq_sub_mod (show p + j ≥ n by omega), Nat.mod_eq_of_lt (by omega)]
    rw [h1, show p + j - n + (n - p) = j by omega, Nat.mod_eq_of_lt hj]
def Ilv2 (l : List Int) (ok : Bool) (w : World) (e : Ending) (w' : World) : Prop :=
  ∃ a c, e = .returned (.tuple #[.slice a l.length c, .bool ok]) ∧ SlO w' w.heap.size a l ∧ Below w.heap.size w w'
/-- What a step of the search for a free place needs. -/
theorem ilv_round (n st k j : Nat) (hn : n < 9) (h0 : 0 < n) (hs : st < 9) (hk : k < n) (hj : j ≤ ilvE n st k) :
    (ilvP n st k + j) % n < n ∧ (j < ilvE n st k → (ilvT n st k)[(ilvP n st k + j) % n]? = some true) ∧ (j = ilvE n st k → (ilvT n st k)[(ilvP n st k + j) % n]? = some false) ∧ ((ilvP n st k + j) % n + (n - ilvP n st k)) % n = j ∧ ((ilvP n st k + j) % n + 1) % n = (ilvP n st k + (j + 1)) % n := by
  obtain ⟨⟨f1, f2, f3⟩, ⟨f4, f5⟩, f6, f7⟩ := ilv_facts n st k hn h0 hs hk
  refine ⟨Nat.mod_lt _ h0, f7 j, ?_, mod_back _ _ _ f1 (by omega), by rw [Nat.mod_add_mod, Nat.add_assoc]⟩
  rintro rfl
  exact f6
set_option maxHeartbeats 4000000 in
theorem interleave_any (n st : Int) (w : World) :
    Calls Try.prog 19 #[.int .i64 n, .int .i64 st] w (Ilv2 (ilvV n st) (ilvOk n st) w) := by
  have hw2 := fun w T b hb => within_two 1 8 n st w T b hb
  by_cases hc : ilvOk n st = true
  · have hV : ilvV n st = ilvO n.toNat st.toNat n.toNat := by unfold ilvV; rw [if_pos hc]
    rw [hV, hc]
    have hc2 := hc
    unfold ilvOk at hc
    rw [hc] at hw2
    simp only [Bool.and_eq_true, inB_iff] at hc
    obtain ⟨⟨n0, n1⟩, s0, s1⟩ := hc
    obtain ⟨N, rfl⟩ : ∃ k : Nat, n = k := ⟨n.toNat, by omega⟩
    obtain ⟨S, rfl⟩ : ∃ k : Nat, st = k := ⟨st.toNat, by omega⟩
    have HW := Lib.hid hw2; clear hw2 hc2 hV
    have e1 : ((N : Int)).toNat = N := by omega
    have e2 : ((S : Int)).toNat = S := by omega
    rw [e1, e2]
    clear e1 e2
    have hN : N < 9 := by omega
    have hN0 : 0 < N := by omega
    have hS : S < 9 := by omega
    have hmk := fun w => run_make_row' (P := Try.prog) 27 2 (.int .i64 0) 8 Try.underlying27 i64info rfl .i64 .i64 N (by omega) (by omega) w
    have HFIN := Lib.hid (ilv_len N S hN hS)
    go_enter Try.func19, Try.ntmps19
    go_wp2_with (go_at_call 56; refine (HW.out _ _ _ (by simp)).mono ?_; rintro e w1 ⟨rfl, rfl⟩)
    clear hmk
    have hbW : Below w.heap.size w (w.alloc (.cells #[.int .i64 (N : Int), .int .i64 (S : Int)] 2)) := (Below.refl _ _).alloc (Nat.le_refl _) _
    have hltW : w.heap.size ≤ (w.alloc (.cells #[.int .i64 (N : Int), .int .i64 (S : Int)] 2)).heap.size := by simp
    obtain ⟨W1, hW1⟩ : ∃ W1, w.alloc (.cells #[.int .i64 (N : Int), .int .i64 (S : Int)] 2) = W1 := ⟨_, rfl⟩
    have hWs : W1.heap.size = w.heap.size + 1 := by rw [← hW1]; simp
    rw [hW1] at hbW hltW
    try rw [hW1]
    rw [made_ints]
    go_loopw [8, 9, 18] (fun p _ i wr => ∃ k : Nat, k ≤ N ∧ i = .int .i64 k ∧ p = .int .i64 (ilvP N S k : Int) ∧ wr.heap[w.heap.size + 1]? = some (.cells ((ilvO N S k).map (Value.int .i64)).toArray 2 (0, 0)) ∧ (∃ T, wr.heap[w.heap.size + 2]? = some (.cells ((ilvT N S k).map Value.bool).toArray T (0, 0))) ∧ Below W1.heap.size W1 wr) (fun _ _ i _ => N - (intOf i).toNat)
    case atStart => 
      refine ⟨0, Nat.zero_le _, rfl, rfl, ?_, ?_, ((Below.refl _ _).alloc (Nat.le_refl _) _).alloc (by simp) _⟩
      · rw [← hWs, Below.heap_alloc _ _ _ (by simp)]; exact heap_alloc_new W1 _
      · have h2 : (W1.alloc (.cells ((List.replicate N (0 : Int)).map (Value.int .i64)).toArray 2)).heap.size = w.heap.size + 2 := by simp [hWs]
        rw [← h2]
        refine Exists.intro ?_ ?_
        rotate_left
        · exact heap_alloc_new _ _
    case round =>
      obtain ⟨k, hk, rfl, rfl, hO, ⟨T, hT⟩, hb⟩ := hrel
      have hsz := hb.size
      have hszT : w.heap.size + 2 < wr.heap.size := (Array.getElem?_eq_some_iff.1 hT).1
      by_cases hlt : k < N
      · have e0 : (k : Int) < N := by omega
        have HR := Lib.hid (fun j hj => ilv_round N S k j hN hN0 hS hlt hj)
        obtain ⟨⟨f1, f2, f3⟩, ⟨f4, f5⟩, f6, f7⟩ := ilv_facts N S k hN hN0 hS hlt
        have HNX := Lib.hid (ilv_next N S k)
        have HQ := Lib.hid (show ilvQ N S k = (ilvP N S k + ilvE N S k) % N from rfl)
        have HF := Lib.hid (And.intro f6 f7); clear f6 f7
        have HO := Lib.hid hO; have HT := Lib.hid hT; clear hO hT
        go_wp2
        obtain ⟨wo, rfl⟩ : ∃ wo : World, wo = wr := ⟨_, rfl⟩
        go_loopw [8] (fun p wr2 => ∃ j : Nat, j ≤ ilvE N S k ∧ p = .int .i64 (((ilvP N S k + j) % N : Nat) : Int) ∧ wr2 = wo) (fun p _ => N - ((intOf p).toNat + (N - ilvP N S k)) % N)
        case atStart => exact ⟨0, Nat.zero_le _, by rw [Nat.add_zero, Nat.mod_eq_of_lt f1], rfl⟩
        case round =>
          obtain ⟨j, hj, rfl, rfl⟩ := hrel
          obtain ⟨r1, r2, r3, r4, r5⟩ := HR.out j hj
          obtain ⟨q, hq⟩ : ∃ q, (ilvP N S k + j) % N = q := ⟨_, rfl⟩
          rw [hq] at r1 r2 r3 r4 r5 ⊢
          have e3 : (q : Int) < 8 := by omega
          have e4 : (q : Int) < (ilvT N S k).length := by omega
          have e5 : q < 8 := by omega
          by_cases hjE : j < ilvE N S k
          · have ht := r2 hjE
            have hcell : wr.cell? ⟨w.heap.size + 2, q, none⟩ = some (.bool true) := by simp [World.cell?, HT.out, ht]
            have hmod : ((q : Int) + 1) % (N : Int) = (((q + 1) % N : Nat) : Int) := by simp
            have hz : ¬ (N : Int) = 0 := by omega
            have hm1 : (q + 1) % N < N := Nat.mod_lt _ hN0
            obtain ⟨q2, hq2⟩ : ∃ q2, (q + 1) % N = q2 := ⟨_, rfl⟩
            have HM := Lib.hid (And.intro r4 (And.intro hq2 r5))
            rw [hq2] at hmod hm1
            clear r2 r3 r4 r5 hq hq2 ht
            go_wp2
            go_roundw
            case rel => exact ⟨j + 1, by omega, by rw [hmod, ← HM.out.2.2, HM.out.2.1], trivial⟩
            case measure =>
              have hnew := (HR.out (j + 1) (by omega)).2.2.2.1
              rw [← HM.out.2.2, HM.out.2.1] at hnew
              have hold := HM.out.1
              simp only [intOf, hmod, Int.toNat_natCast]
              rw [hnew, hold]
              omega
          · obtain rfl : j = ilvE N S k := by omega
            have ht := r3 rfl
            have hcell : wr.cell? ⟨w.heap.size + 2, q, none⟩ = some (.bool false) := by simp [World.cell?, HT.out, ht]
            have hQ : ilvQ N S k = q := by rw [HQ.out]; exact hq
            obtain ⟨old, hold⟩ : ∃ v, (ilvO N S k)[q]? = some v := ⟨_, List.getElem?_eq_getElem (by omega)⟩
            have hoc : wr.cell? ⟨w.heap.size + 1, q, none⟩ = some (.int .i64 old) := by simp [World.cell?, HO.out, hold]
            clear hold
            have hfz1 : wr.frozen? ⟨w.heap.size + 1, q, none⟩ = false := by simp [World.frozen?, HO.out]
            have hfz2 : wr.frozen? ⟨w.heap.size + 2, q, none⟩ = false := by simp [World.frozen?, HT.out]
            have eN : (q : Int) < N := by omega
            have hmod : ((q : Int) + S) % (N : Int) = (((q + S) % N : Nat) : Int) := by simp
            have hz : ¬ (N : Int) = 0 := by omega
            have hm1 : (q + S) % N < N := Nat.mod_lt _ hN0
            obtain ⟨q2, hq2⟩ : ∃ q2, (q + S) % N = q2 := ⟨_, rfl⟩
            have HM := Lib.hid (And.intro hQ hq2)
            rw [hq2] at hmod hm1
            clear r2 r3 r4 r5 hq hq2 ht hQ
            go_wp2
            go_roundw
            case rel =>
              obtain ⟨x1, x2, x3⟩ := HNX.out
              rw [HM.out.1] at x1 x2 x3
              rw [HM.out.2] at x3
              refine ⟨k + 1, by omega, by go_num, by rw [hmod, x3], ?_, ⟨T, ?_⟩, (hb.setCell (p := ⟨w.heap.size + 1, q, none⟩) (by simp [hWs]) _).setCell (p := ⟨w.heap.size + 2, q, none⟩) (by simp [hWs]) _⟩
              · rw [Below.heap_setCell _ _ _ _ (by simp), heap_set_row _ _ _ _ _ _ HO.out, x1, set_map]
              · rw [heap_set_row _ _ q _ T _ (by rw [Below.heap_setCell _ _ _ _ (by simp)]; exact HT.out), x2, set_map]
            case measure => simp [intOf]; omega
      · obtain rfl : k = N := by omega
        go_wp2
        go_ret2
        refine ⟨some ⟨w.heap.size + 1, 0, none⟩, k, by rw [HFIN.out]; rfl, .inr ⟨w.heap.size + 1, #[], rfl, by omega, by simpa using hO⟩, hbW.trans (hb.mono hltW)⟩
  · have hf : ilvOk n st = false := by simpa using hc
    have hV : ilvV n st = [] := by unfold ilvV; rw [if_neg hc]
    rw [hV, hf]
    unfold ilvOk at hf
    rw [hf] at hw2
    have HW := Lib.hid hw2; clear hw2 hf hc hV
    go_enter Try.func19, Try.ntmps19
    go_wp2_with (go_at_call 56; refine (HW.out _ _ _ (by simp)).mono ?_; rintro e w1 ⟨rfl, rfl⟩)
    go_ret2
    exact ⟨none, 0, rfl, .inl rfl, (Below.refl _ _).alloc (Nat.le_refl _) _⟩
set_option maxHeartbeats 4000000 in
theorem specInterleave_any (n st : Int) (w : World) :
    Calls Try.prog 18 #[.int .i64 n, .int .i64 st] w (Ilv2 (ilvV n st) (ilvOk n st) w) := by
  have hi1 := fun w => l00In_any n 1 8 w
  have hi2 := fun w => l00In_any st 1 8 w
  by_cases hc : ilvOk n st = true
  · have hV : ilvV n st = ilvO n.toNat st.toNat n.toNat := by unfold ilvV; rw [if_pos hc]
    rw [hV, hc]
    have hc2 := hc
    unfold ilvOk at hc
    simp only [Bool.and_eq_true] at hc
    rw [hc.1] at hi1
    rw [hc.2] at hi2
    simp only [inB_iff] at hc
    obtain ⟨⟨n0, n1⟩, s0, s1⟩ := hc
    obtain ⟨N, rfl⟩ : ∃ k : Nat, n = k := ⟨n.toNat, by omega⟩
    obtain ⟨S, rfl⟩ : ∃ k : Nat, st = k := ⟨st.toNat, by omega⟩
    have HI1 := Lib.hid hi1; have HI2 := Lib.hid hi2; clear hi1 hi2 hc2 hV
    have e1 : ((N : Int)).toNat = N := by omega
    have e2 : ((S : Int)).toNat = S := by omega
    rw [e1, e2]
    clear e1 e2
    have hN : N < 9 := by omega
    have hN0 : 0 < N := by omega
    have hS : S < 9 := by omega
    have hmk := fun w => run_make_row' (P := Try.prog) 27 2 (.int .i64 0) 8 Try.underlying27 i64info rfl .i64 .i64 N (by omega) (by omega) w
    have hmk2 := fun w => run_make_row' (P := Try.prog) 79 4 (.bool false) 1 Try.underlying79 boolinfo rfl .i64 .i64 N (by omega) (by omega) w
    have HFIN := Lib.hid (ilv_len N S hN hS)
    go_enter Try.func18, Try.ntmps18
    go_wp2_with (go_at_call 52; first | ((with_reducible refine (HI1.out _).mono ?_); rintro e w1 ⟨rfl, rfl⟩) | ((with_reducible refine (HI2.out _).mono ?_); rintro e w1 ⟨rfl, rfl⟩))
    clear hmk hmk2
    rw [made_ints, made_bools]
    go_loopw [8, 9] (fun p i wr => ∃ k : Nat, k ≤ N ∧ i = .int .i64 k ∧ p = .int .i64 (ilvP N S k : Int) ∧ wr.heap[w.heap.size]? = some (.cells ((ilvO N S k).map (Value.int .i64)).toArray 2 (0, 0)) ∧ (∃ R : List Bool, wr.heap[w.heap.size + 1]? = some (.cells (R.map Value.bool).toArray 4 (0, 0)) ∧ R = (ilvT N S k).take N) ∧ Below w.heap.size w wr) (fun _ i _ => N - (intOf i).toNat)
    case atStart =>
      refine ⟨0, Nat.zero_le _, rfl, rfl, ?_, ⟨List.replicate N false, ?_, ?_⟩, ((Below.refl _ _).alloc (Nat.le_refl _) _).alloc (by simp) _⟩
      · rw [Below.heap_alloc _ _ _ (by simp)]; exact heap_alloc_new w _
      · have h2 : (w.alloc (.cells ((List.replicate N (0 : Int)).map (Value.int .i64)).toArray 2)).heap.size = w.heap.size + 1 := by simp
        rw [← h2]
        exact heap_alloc_new _ _
      · show _ = (List.replicate 8 false).take N
        rw [List.take_replicate, Nat.min_eq_left (by omega)]
    case round =>
      obtain ⟨k, hk, rfl, rfl, hO, ⟨R, hT, hR⟩, hb⟩ := hrel
      have hsz := hb.size
      have hszT : w.heap.size + 1 < wr.heap.size := (Array.getElem?_eq_some_iff.1 hT).1
      by_cases hlt : k < N
      · have e0 : (k : Int) < N := by omega
        have HRD := Lib.hid (fun j hj => ilv_round N S k j hN hN0 hS hlt hj)
        obtain ⟨⟨f1, f2, f3⟩, ⟨f4, f5⟩, f6, f7⟩ := ilv_facts N S k hN hN0 hS hlt
        have HNX := Lib.hid (ilv_next N S k)
        have HQ := Lib.hid (show ilvQ N S k = (ilvP N S k + ilvE N S k) % N from rfl)
        have HF := Lib.hid (And.intro f6 f7); clear f6 f7
        have hRl : R.length = N := by rw [hR, List.length_take]; omega
        have HRG := Lib.hid (fun q (hq : q < N) => (show R[q]? = (ilvT N S k)[q]? by rw [hR, List.getElem?_take_of_lt hq]))
        have HRR := Lib.hid hR; clear hR
        have HO := Lib.hid hO; have HT := Lib.hid hT; clear hO hT
        go_wp2
        obtain ⟨wo, rfl⟩ : ∃ wo : World, wo = wr := ⟨_, rfl⟩
        go_loopw [8] (fun p wr2 => ∃ j : Nat, j ≤ ilvE N S k ∧ p = .int .i64 (((ilvP N S k + j) % N : Nat) : Int) ∧ wr2 = wo) (fun p _ => N - ((intOf p).toNat + (N - ilvP N S k)) % N)
        case atStart => exact ⟨0, Nat.zero_le _, by rw [Nat.add_zero, Nat.mod_eq_of_lt f1], rfl⟩
        case round =>
          obtain ⟨j, hj, rfl, rfl⟩ := hrel
          obtain ⟨r1, r2, r3, r4, r5⟩ := HRD.out j hj
          obtain ⟨q, hq⟩ : ∃ q, (ilvP N S k + j) % N = q := ⟨_, rfl⟩
          rw [hq] at r1 r2 r3 r4 r5 ⊢
          have eN : (q : Int) < N := by omega
          have e5 : q < 8 := by omega
          by_cases hjE : j < ilvE N S k
          · have ht := (HRG.out q r1).trans (r2 hjE)
            have hcell : wr.cell? ⟨w.heap.size + 1, q, none⟩ = some (.bool true) := by simp [World.cell?, HT.out, ht]
            have hmod : ((q : Int) + 1) % (N : Int) = (((q + 1) % N : Nat) : Int) := by simp
            have hz : ¬ (N : Int) = 0 := by omega
            have hm1 : (q + 1) % N < N := Nat.mod_lt _ hN0
            obtain ⟨q2, hq2⟩ : ∃ q2, (q + 1) % N = q2 := ⟨_, rfl⟩
            have HM := Lib.hid (And.intro r4 (And.intro hq2 r5))
            rw [hq2] at hmod hm1
            clear r2 r3 r4 r5 hq hq2 ht
            go_wp2
            go_roundw
            case rel => exact ⟨j + 1, by omega, by rw [hmod, ← HM.out.2.2, HM.out.2.1], trivial⟩
            case measure =>
              have hnew := (HRD.out (j + 1) (by omega)).2.2.2.1
              rw [← HM.out.2.2, HM.out.2.1] at hnew
              have hold := HM.out.1
              simp only [intOf, hmod, Int.toNat_natCast]
              rw [hnew, hold]
              omega
          · obtain rfl : j = ilvE N S k := by omega
            have ht := (HRG.out q r1).trans (r3 rfl)
            have hcell : wr.cell? ⟨w.heap.size + 1, q, none⟩ = some (.bool false) := by simp [World.cell?, HT.out, ht]
            have hQ : ilvQ N S k = q := by rw [HQ.out]; exact hq
            obtain ⟨old, hold⟩ : ∃ v, (ilvO N S k)[q]? = some v := ⟨_, List.getElem?_eq_getElem (by omega)⟩
            have hoc : wr.cell? ⟨w.heap.size, q, none⟩ = some (.int .i64 old) := by simp [World.cell?, HO.out, hold]
            clear hold
            have hfz1 : wr.frozen? ⟨w.heap.size, q, none⟩ = false := by simp [World.frozen?, HO.out]
            have hfz2 : wr.frozen? ⟨w.heap.size + 1, q, none⟩ = false := by simp [World.frozen?, HT.out]
            have hmod : ((q : Int) + S) % (N : Int) = (((q + S) % N : Nat) : Int) := by simp
            have hz : ¬ (N : Int) = 0 := by omega
            have hm1 : (q + S) % N < N := Nat.mod_lt _ hN0
            obtain ⟨q2, hq2⟩ : ∃ q2, (q + S) % N = q2 := ⟨_, rfl⟩
            have HM := Lib.hid (And.intro hQ hq2)
            rw [hq2] at hmod hm1
            clear r2 r3 r4 r5 hq hq2 ht hQ
            go_wp2
            go_roundw
            case rel =>
              obtain ⟨x1, x2, x3⟩ := HNX.out
              rw [HM.out.1] at x1 x2 x3
              rw [HM.out.2] at x3
              refine ⟨k + 1, by omega, by go_num, by rw [hmod, x3], ?_, ⟨R.set q true, ?_, by rw [x2, HRR.out, List.take_set]⟩, (hb.setCell (p := ⟨w.heap.size + 1, q, none⟩) (by simp) _).setCell (p := ⟨w.heap.size, q, none⟩) (by simp) _⟩
              · rw [heap_set_row _ _ q _ 2 _ (by rw [Below.heap_setCell _ _ _ _ (by simp)]; exact HO.out), x1, set_map]
              · rw [Below.heap_setCell _ _ _ _ (by simp), heap_set_row _ _ _ _ _ _ HT.out, set_map]
            case measure => simp [intOf]; omega
      · obtain rfl : k = N := by omega
        go_wp2
        go_ret2
        refine ⟨some ⟨w.heap.size, 0, none⟩, k, by rw [HFIN.out]; rfl, .inr ⟨w.heap.size, #[], rfl, Nat.le_refl _, by simpa using hO⟩, hb⟩
  · have hf : ilvOk n st = false := by simpa using hc
    have hV : ilvV n st = [] := by unfold ilvV; rw [if_neg hc]
    rw [hV, hf]
    unfold ilvOk at hf
    obtain ⟨x, hx⟩ : ∃ x, inB 1 8 n = x := ⟨_, rfl⟩
    obtain ⟨y, hy⟩ : ∃ x, inB 1 8 st = x := ⟨_, rfl⟩
    rw [hx] at hi1 hf
    rw [hy] at hi2 hf
    have HI1 := Lib.hid hi1; have HI2 := Lib.hid hi2; clear hi1 hi2 hc hV hx hy
    cases x with
    | false =>
      clear hf
      go_enter Try.func18, Try.ntmps18
      go_wp2_with (go_at_call 52; first | ((with_reducible refine (HI1.out _).mono ?_); rintro e w1 ⟨rfl, rfl⟩) | ((with_reducible refine (HI2.out _).mono ?_); rintro e w1 ⟨rfl, rfl⟩))
      go_ret2
      exact ⟨none, 0, rfl, .inl rfl, Below.refl _ _⟩
    | true =>
      obtain rfl : y = false := by simpa using hf
      clear hf
      go_enter Try.func18, Try.ntmps18
      go_wp2_with (go_at_call 52; first | ((with_reducible refine (HI1.out _).mono ?_); rintro e w1 ⟨rfl, rfl⟩) | ((with_reducible refine (HI2.out _).mono ?_); rintro e w1 ⟨rfl, rfl⟩))
      go_ret2
      exact ⟨none, 0, rfl, .inl rfl, Below.refl _ _⟩
end Go.Proofs.Ytjifiibaodjflaa
