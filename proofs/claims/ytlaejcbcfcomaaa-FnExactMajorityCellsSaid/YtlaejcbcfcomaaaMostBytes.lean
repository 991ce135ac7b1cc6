/- impl.mostBytes -/
import Derived.Test.YtlaejcbcfcomaaaVotesIm
import Derived.BigRegion
import Derived.Outline
namespace Go.Proofs.Ytlaejcbcfcomaaa
open Go.RowKit
set_option linter.unusedVariables false
set_option linter.unusedSimpArgs false
set_option maxRecDepth 20000
/-- The row of a copy of which cell j holds f j. -/
def VRow (f : Nat → Nat) (n cap : Nat) (C : Array Value) : Prop := C.size = cap ∧ n ≤ cap ∧ ∀ j, j < n → C[j]? = some (.int .u8 (f j : Int))
theorem VRow.set {f : Nat → Nat} {n cap k r : Nat} {C : Array Value} (h : VRow f n cap C) (hk : k < n) : VRow (fun j => if j = k then r else f j) n cap (C.setIfInBounds k (.int .u8 (r : Int))) := by
  obtain ⟨h1, h2, h3⟩ := h
  refine ⟨by simpa using h1, h2, fun j hj => ?_⟩
  rw [Array.getElem?_setIfInBounds]
  by_cases e : k = j
  · subst e; rw [if_pos rfl, if_pos (by omega)]; simp
  · rw [if_neg e]; simp only []; rw [if_neg (Ne.symm e)]; exact h3 j hj
theorem VRow.congr {f g : Nat → Nat} {n cap : Nat} {C : Array Value} (h : VRow f n cap C) (hfg : ∀ j, j < n → f j = g j) : VRow g n cap C := ⟨h.1, h.2.1, fun j hj => by rw [← hfg j hj]; exact h.2.2 j hj⟩
/-- The counters of a list of bytes. -/
def cntRow (l : List Nat) : Array Value := Array.ofFn (n := 256) fun i => .int .i64 (l.count i.val : Nat)
theorem cntRow_size (l : List Nat) : (cntRow l).size = 256 := by simp [cntRow]
theorem cntRow_at (l : List Nat) (b : Nat) (h : b < 256) : (cntRow l)[b]? = some (.int .i64 (l.count b : Nat)) := by
  simp [cntRow, h]
theorem cntRow_snoc (l : List Nat) (b : Nat) (h : b < 256) : (cntRow l).setIfInBounds b (.int .i64 ((l.count b + 1 : Nat) : Int)) = cntRow (l ++ [b]) := by
  apply Array.ext
  · simp [cntRow]
  · intro i h1 h2
    have hi : i < 256 := by simpa [cntRow] using h2
    rw [Array.getElem_setIfInBounds (by simpa [cntRow] using hi)]
    by_cases e : b = i
    · subst e; simp [cntRow, List.count_append]
    · rw [if_neg e]
      simp [cntRow, List.count_append, List.count_singleton, e]
def picked (xs : List StringV) (s0 : ByteArray) (k j : Nat) : Nat := if j < k then voteOf (colAt xs j) else (s0.data[j]!).toNat
set_option maxHeartbeats 8000000 in
theorem mostBytes_any (a : Option Addr) (xs : List StringV) (c n : Nat) (w : World) (hm : xs.length ≤ 1048576) (hO : OneLen xs n) (h : SlS rowString w a xs) :
    Calls Try.prog 62 #[.slice a xs.length c] w fun e w' => e = .returned (.string ⟨(voteS xs n).toArray⟩) ∧ Below w.heap.size w w' := by
  obtain ⟨⟨s0⟩, hx0, hz0⟩ := hO.first
  dsimp only at hz0
  have hn8 : n ≤ 8000 := hO.2.1
  have h01 : 0 < xs.length := hO.1
  obtain ⟨b0, off0, rfl, hbl0, hc0⟩ := h.at rowString_len hx0
  have c0 : w.cell? ⟨b0, off0 + 0 * 1, none⟩ = some (.string s0) := hc0 0 _ rfl
  rw [Nat.zero_mul, Nat.add_zero] at c0
  have hcv2 := fun w s => run_bytes_of_string (P := Try.prog) w 9 81 5 s Try.underlying9 Try.underlying81 Try.underlying5
  have HO := Lib.hid (And.intro hO (And.intro h (And.intro hx0 hc0))); clear hO h hx0 hc0
  have hs08 : s0.size ≤ 8000 := by omega
  have HZ := Lib.hid hz0; clear hz0
  go_enter Try.func62, Try.ntmps62
  go_wp2
  clear hcv2 c0
  have hcap1 := Lib.hid (show s0.size ≤ grownCap w s0.size 0 5 ∧ (bytesRow s0 (grownCap w s0.size 0 5)).size = grownCap w s0.size 0 5 by
    have h1 : s0.size ≤ grownCap w s0.size 0 5 := grownCap_ge _ _ _ _
    refine ⟨h1, ?_⟩
    have : s0.data.size = s0.size := rfl
    simp [bytesRow]; omega)
  obtain ⟨cap, hcap⟩ : ∃ cap, grownCap w s0.size 0 5 = cap := ⟨_, rfl⟩
  rw [hcap] at hcap1 ⊢
  clear hcap
  go_loopw [17] (fun i wr => ∃ k : Nat, k ≤ n ∧ i = .int .i64 k ∧ (∃ C, wr.heap[w.heap.size]? = some (.cells C 5 (cap, cap + 1)) ∧ VRow (picked xs s0 k) n cap C) ∧ Below w.heap.size w wr) (fun i _ => n - (intOf i).toNat)
  case atStart =>
    refine ⟨0, Nat.zero_le _, rfl, ⟨bytesRow s0 cap, ?_, hcap1.out.2, by have := hcap1.out.1; have := HZ.out; omega, fun j hj => ?_⟩, ((Below.refl _ _).alloc (Nat.le_refl _) _).drew⟩
    · rw [hcap1.out.2]
      show (w.heap.push _)[w.heap.size]? = _
      simp
    · have hjs : j < s0.size := by have := HZ.out; omega
      rw [bytesRow_at s0 cap j hjs]
      unfold picked
      rw [if_neg (by omega), byteAt _ _ hjs]
      rfl
  case round =>
    obtain ⟨k, hk, rfl, ⟨C, hC, hV⟩, hb⟩ := hrel
    have hbsz := HZ.out
    by_cases hlt : k < n
    · have e1 : (k : Int) < (s0.size : Int) := by omega
      clear hbsz
      have HB := Lib.hid (And.intro hb (And.intro hC hV)); clear hb hC hV
      have zc : Try.zeroCells156 = cntRow [] := by kernel_rfl
      have hcl := colAt_len xs k
      have hc256 := colAt_lt xs k
      have HL := Lib.hid (And.intro hcl hc256); clear hcl hc256
      have hg0 : w.heap.size < wr.heap.size := (Array.getElem?_eq_some_iff.1 HB.out.2.1).1
      go_wp2
      go_hide hQ
      obtain ⟨wo, rfl⟩ : ∃ wo : World, wo = wr := ⟨_, rfl⟩
      have HCB := Lib.hid (show (wo.alloc (.cells Try.zeroCells156 156)).heap[wo.heap.size]? = some (.cells (cntRow ((colAt xs k).take 0)) 156 (0, 0)) by rw [heap_alloc_new, zc]; rfl)
      clear zc
      have hbase : Below wo.heap.size wo (wo.alloc (.cells Try.zeroCells156 156)) := (Below.refl _ _).alloc (Nat.le_refl _) _
      have hbz : wo.heap.size < (wo.alloc (.cells Try.zeroCells156 156)).heap.size := by simp
      have HBS := Lib.hid (And.intro hbase hbz); clear hbase hbz
      go_loopw [7, 22] (fun _ i wr => ∃ m : Nat, m ≤ xs.length ∧ i = .int .i64 m ∧ Hid (wr.heap[wo.heap.size]? = some (.cells (cntRow ((colAt xs k).take m)) 156 (0, 0)) ∧ Below wo.heap.size wo wr)) (fun _ i _ => xs.length - (intOf i).toNat)
      case atStart => exact ⟨0, Nat.zero_le _, rfl, by unfold Hid; exact ⟨HCB.out, HBS.out.1⟩⟩
      case round =>
        obtain ⟨m, hm1, rfl, hR⟩ := hrel
        by_cases hlt2 : m < xs.length
        · obtain ⟨⟨s⟩, hx⟩ : ∃ e, xs[m]? = some e := ⟨xs[m], by simp [hlt2]⟩
          have hbw : Below w.heap.size w wr := HB.out.1.trans (hR.out.2.mono HB.out.1.size)
          obtain ⟨b1, off1, ea, hbl, hc⟩ := (HO.out.2.1.below hbw (Nat.le_refl _)).at rowString_len hx
          cases ea
          have c0 : wr.cell? ⟨b0, off0 + m * 1, none⟩ = some (.string s) := hc 0 _ rfl
          rw [Nat.mul_one] at c0
          have hsz : s.size = n := HO.out.1.2.2 _ (List.mem_of_getElem? hx)
          have hks : k < s.size := by omega
          have hs8 : s.size ≤ 8000 := by omega
          have hcol := colAt_byte (e := ⟨s⟩) k hx hks
          have HCOL := Lib.hid (And.intro hcol (And.intro hsz hbw)); clear hc hx hcol hsz hbl hbw
          have hx1 := s[k].toNat_lt
          obtain ⟨y, hy⟩ : ∃ y, s[k].toNat = y := ⟨_, rfl⟩
          rw [hy] at hx1
          have HYY := Lib.hid hy
          have hcell : wr.cell? ⟨wo.heap.size, y, none⟩ = some (.int .i64 (((colAt xs k).take m).count y : Nat)) := by
            simp only [World.cell?, hR.out.1]
            exact cntRow_at _ _ hx1
          have hfz : wr.frozen? ⟨wo.heap.size, y, none⟩ = false := by simp [World.frozen?, hR.out.1]
          have hcnt : ((colAt xs k).take m).count y ≤ 1048576 := by
            have := List.count_le_length (a := y) (l := (colAt xs k).take m)
            have h2 : ((colAt xs k).take m).length ≤ m := List.length_take_le _ _
            omega
          obtain ⟨z, hz⟩ : ∃ z, ((colAt xs k).take m).count y = z := ⟨_, rfl⟩
          rw [hz] at hcell hcnt
          have HZZ := Lib.hid hz; clear hz
          have e2 : (m : Int) < xs.length := by omega
          have e3 : (y : Int) < 256 := by omega
          go_wp2
          go_roundw
          case rel =>
            refine ⟨m + 1, by omega, by go_num, ?_⟩
            unfold Hid
            refine ⟨?_, hR.out.2.setCell (Nat.le_refl _) _⟩
            rw [heap_set_row _ _ _ _ _ _ hR.out.1, List.take_add_one, HCOL.out.1, HYY.out]
            have := cntRow_snoc ((colAt xs k).take m) y hx1
            rw [HZZ.out] at this
            simp only [Option.toList_some]
            rw [← this]
            rfl
          case measure => simp [intOf]; omega
        · obtain rfl : m = xs.length := by omega
          subst hQ
          go_wp2
          go_hide hQ
          obtain ⟨wi, rfl⟩ : ∃ wi : World, wi = wr := ⟨_, rfl⟩
          have H0 := Lib.hid (show wi.heap[wo.heap.size]? = some (.cells (cntRow (colAt xs k)) 156 (0, 0)) by
            have := hR.out.1
            rwa [List.take_of_length_le (by rw [HL.out.1]; exact Nat.le_refl _)] at this)
          have H1 := Lib.hid (show wi.heap[w.heap.size]? = some (.cells C 5 (cap, cap + 1)) by rw [hR.out.2.block _ hg0]; exact HB.out.2.1)
          have H2 := Lib.hid (show Below w.heap.size w wi from HB.out.1.trans (hR.out.2.mono HB.out.1.size))
          clear hR
          go_loopw [9, 10, 36] (fun _ _ i wr => ∃ m r : Nat, m ≤ xs.length ∧ i = .int .i64 m ∧ r < 256 ∧ Hid (wr.heap[wo.heap.size]? = some (.cells (cntRow (colAt xs k)) 156 (0, 0)) ∧ (∃ C', wr.heap[w.heap.size]? = some (.cells C' 5 (cap, cap + 1)) ∧ VRow (fun j => if j = k then r else picked xs s0 k j) n cap C') ∧ PickTo (colAt xs k) m r ∧ Below w.heap.size w wr)) (fun _ _ i _ => xs.length - (intOf i).toNat)
          case atStart =>
            refine ⟨0, (s0.data[k]!).toNat, Nat.zero_le _, rfl, UInt8.toNat_lt _, ?_⟩
            unfold Hid
            refine ⟨H0.out, ⟨C, H1.out, HB.out.2.2.congr (fun j hj => ?_)⟩, PickTo.start (colAt_at k HO.out.2.2.1), H2.out⟩
            by_cases e : j = k
            · subst e; rw [if_pos rfl]; unfold picked; rw [if_neg (by omega)]
            · rw [if_neg e]
          case round =>
            obtain ⟨m, r, hm1, rfl, hr256, hR⟩ := hrel
            by_cases hlt2 : m < xs.length
            · obtain ⟨⟨s⟩, hx⟩ : ∃ e, xs[m]? = some e := ⟨xs[m], by simp [hlt2]⟩
              have hbw : Below w.heap.size w wr := hR.out.2.2.2
              obtain ⟨b1, off1, ea, hbl, hc⟩ := (HO.out.2.1.below hbw (Nat.le_refl _)).at rowString_len hx
              cases ea
              have c0 : wr.cell? ⟨b0, off0 + m * 1, none⟩ = some (.string s) := hc 0 _ rfl
              rw [Nat.mul_one] at c0
              have hsz : s.size = n := HO.out.1.2.2 _ (List.mem_of_getElem? hx)
              have hks : k < s.size := by omega
              have hs8 : s.size ≤ 8000 := by omega
              have hcol := colAt_byte (e := ⟨s⟩) k hx hks
              have HCOL := Lib.hid (And.intro hcol (And.intro hsz hbw)); clear hc hx hcol hsz hbl hbw
              have hx1 := s[k].toNat_lt
              obtain ⟨y, hy⟩ : ∃ y, s[k].toNat = y := ⟨_, rfl⟩
              rw [hy] at hx1
              have HYY := Lib.hid hy
              obtain ⟨C', hC', hV'⟩ := hR.out.2.1
              have hcy : wr.cell? ⟨wo.heap.size, y, none⟩ = some (.int .i64 ((colAt xs k).count y : Nat)) := by
                simp only [World.cell?, hR.out.1]
                exact cntRow_at _ _ hx1
              have hcr : wr.cell? ⟨wo.heap.size, r, none⟩ = some (.int .i64 ((colAt xs k).count r : Nat)) := by
                simp only [World.cell?, hR.out.1]
                exact cntRow_at _ _ hr256
              have hck : wr.cell? ⟨w.heap.size, k, none⟩ = some (.int .u8 (r : Int)) := by
                have h9 : C'[k]? = some (.int .u8 (r : Int)) := by have := hV'.2.2 k hlt; simpa using this
                simp [World.cell?, hC', h9]
              have hfk : wr.frozen? ⟨w.heap.size, k, none⟩ = false := by
                have := hV'.1; have := hV'.2.1
                simp [World.frozen?, hC']; omega
              have hcy8 : (colAt xs k).count y ≤ 1048576 := by
                have := List.count_le_length (a := y) (l := colAt xs k)
                have := HL.out.1
                omega
              have hcr8 : (colAt xs k).count r ≤ 1048576 := by
                have := List.count_le_length (a := r) (l := colAt xs k)
                have := HL.out.1
                omega
              have HCV := Lib.hid (And.intro hC' hV'); clear hC' hV'
              obtain ⟨u, hu⟩ : ∃ z, (colAt xs k).count y = z := ⟨_, rfl⟩
              obtain ⟨v, hv⟩ : ∃ z, (colAt xs k).count r = z := ⟨_, rfl⟩
              rw [hu] at hcy hcy8
              rw [hv] at hcr hcr8
              have HU := Lib.hid hu; have HVV := Lib.hid hv; clear hu hv
              have e2 : (m : Int) < xs.length := by omega
              have e3 : (y : Int) < 256 := by omega
              have e4 : (r : Int) < 256 := by omega
              have e5 : (k : Int) < (n : Int) := by omega
              have HYES := Lib.hid (fun (hb : (colAt xs k).count r < (colAt xs k).count y ∨ ((colAt xs k).count y = (colAt xs k).count r ∧ y < r)) => PickTo.yes (b := y) hR.out.2.2.1 (by rw [← HYY.out]; exact HCOL.out.1) hb)
              have HNO := Lib.hid (fun (hb : ¬ ((colAt xs k).count r < (colAt xs k).count y ∨ ((colAt xs k).count y = (colAt xs k).count r ∧ y < r))) => PickTo.no (b := y) hR.out.2.2.1 (by rw [← HYY.out]; exact HCOL.out.1) hb)
              rw [HU.out, HVV.out] at HYES HNO
              have HSET := Lib.hid (fun (W : World) (hW : W.heap[w.heap.size]? = some (.cells C' 5 (cap, cap + 1))) => (show ∃ C2, (W.setCell ⟨w.heap.size, k, none⟩ (.int .u8 (y : Int))).heap[w.heap.size]? = some (.cells C2 5 (cap, cap + 1)) ∧ VRow (fun j => if j = k then y else picked xs s0 k j) n cap C2 from
                ⟨_, heap_set_marked W w.heap.size k C' _ _ _ hW, (HCV.out.2.set hlt).congr (fun j hj => by by_cases e : j = k <;> simp [e])⟩))
              have hs0n : k < s0.size := by have := HZ.out; omega
              by_cases hq1 : v < u
              · have g1 : (v : Int) < (u : Int) := by omega
                have HP := Lib.hid (HYES.out (.inl hq1)); clear hq1
                go_wp2
                go_quiet (fail)
                go_wp2
                go_roundw
                case rel =>
                  refine ⟨m + 1, y, by omega, by go_num, hx1, ?_⟩
                  unfold Hid
                  refine ⟨by rw [Below.heap_setCell _ _ _ _ (by show wo.heap.size ≠ w.heap.size; omega)]; exact hR.out.1, HSET.out _ HCV.out.1, HP.out, (below_drewN' hR.out.2.2.2 _).setCell (Nat.le_refl _) _⟩
                case measure => simp [intOf]; omega
              · have g1 : decide (v < u) = false := by simp; omega
                by_cases hq2 : u = v
                · have g2 : ((u : Int) == (v : Int)) = true := by simp [hq2]
                  by_cases hq3 : y < r
                  · have g3 : (y : Int) < (r : Int) := by omega
                    have HP := Lib.hid (HYES.out (.inr ⟨hq2, hq3⟩)); clear hq1 hq2 hq3
                    go_wp2
                    go_quiet (fail)
                    go_wp2
                    go_roundw
                    case rel =>
                      refine ⟨m + 1, y, by omega, by go_num, hx1, ?_⟩
                      unfold Hid
                      refine ⟨by rw [Below.heap_setCell _ _ _ _ (by show wo.heap.size ≠ w.heap.size; omega)]; exact hR.out.1, HSET.out _ HCV.out.1, HP.out, (below_drewN' hR.out.2.2.2 _).setCell (Nat.le_refl _) _⟩
                    case measure => simp [intOf]; omega
                  · have g3 : decide (y < r) = false := by simp; omega
                    have HP := Lib.hid (HNO.out (by omega)); clear hq1 hq2 hq3
                    go_wp2
                    go_quiet (fail)
                    go_wp2
                    go_roundw
                    case rel =>
                      refine ⟨m + 1, r, by omega, by go_num, hr256, ?_⟩
                      unfold Hid
                      exact ⟨hR.out.1, ⟨C', HCV.out.1, HCV.out.2⟩, HP.out, below_drewN' hR.out.2.2.2 _⟩
                    case measure => simp [intOf]; omega
                · have g2 : ((u : Int) == (v : Int)) = false := by rw [beq_eq_false_iff_ne]; omega
                  have HP := Lib.hid (HNO.out (by omega)); clear hq1 hq2
                  go_wp2
                  go_quiet (fail)
                  go_wp2
                  go_roundw
                  case rel =>
                    refine ⟨m + 1, r, by omega, by go_num, hr256, ?_⟩
                    unfold Hid
                    exact ⟨hR.out.1, ⟨C', HCV.out.1, HCV.out.2⟩, HP.out, below_drewN' hR.out.2.2.2 _⟩
                  case measure => simp [intOf]; omega
            · obtain rfl : m = xs.length := by omega
              have HVT := Lib.hid (show r = voteOf (colAt xs k) from (PickTo.done (by rw [HL.out.1]; exact hR.out.2.2.1)).unique (voteOf_is (colAt_ne (colNe HO.out.1) k) HL.out.2))
              subst hQ
              go_wp2
              go_roundw
              case rel =>
                obtain ⟨C', hC', hV'⟩ := hR.out.2.1
                refine ⟨k + 1, by omega, by go_num, ⟨C', hC', hV'.congr (fun j hj => ?_)⟩, hR.out.2.2.2⟩
                unfold picked
                by_cases e : j = k
                · subst e; rw [if_pos rfl, if_pos (by omega), HVT.out]
                · rw [if_neg e]
                  by_cases e2 : j < k
                  · rw [if_pos e2, if_pos (by omega)]
                  · rw [if_neg e2, if_neg (by omega)]
              case measure => simp [intOf]; omega
    · obtain rfl : k = n := by omega
      have e1 : ¬ (k : Int) < (s0.size : Int) := by omega
      have hcv : (convert 81 9 (.slice (some ⟨w.heap.size, 0, none⟩) s0.size cap)).run Try.prog wr = .ok (.string ⟨(voteS xs k).toArray⟩) wr := by
        have hl : (voteS xs k).length = s0.size := by rw [voteS_len]; omega
        rw [← hl]
        refine conv_of _ _ _ _ ?_
        intro j hj
        rw [add0]
        have hjk : j < k := by rw [voteS_len] at hj; exact hj
        simp only [World.cell?, hC, hV.2.2 j hjk]
        have hlt256 := voteOf_lt (colAt_ne (colNe HO.out.1) j) (colAt_lt xs j)
        simp [picked, hjk, voteS, Nat.mod_eq_of_lt hlt256]
      clear hbsz
      have HB := Lib.hid (And.intro hb (And.intro hC hV)); clear hb hC hV
      go_wp2
      go_ret
      exact ⟨rfl, HB.out.1⟩
end Go.Proofs.Ytlaejcbcfcomaaa
