/- impl.unlikePlaces, impl.mostBytes, impl.MajorityCells, impl.WeakCells, impl.VoteBytes -/
import Derived.Test.YtlaejcbcfcomaaaVotes
import Derived.BigQuiet
import Derived.Deep.QuietTactic
namespace Go.Proofs.Ytlaejcbcfcomaaa
open Go.RowKit
set_option linter.unusedVariables false
set_option linter.unusedSimpArgs false
set_option maxRecDepth 20000
set_option maxHeartbeats 1000000 in
theorem unlike1_any (s s0 : ByteArray) (k q p b off n c : Nat) (w : World) (hk : k < s.size) (hk0 : k < s0.size) (hs : s.size ≤ 8000) (hs0 : s0.size ≤ 8000) (hn : 0 < n) (hq : w.cell? ⟨q, 0, none⟩ = some (.int .i64 k)) (hp : w.cell? ⟨p, 0, none⟩ = some (.slice (some ⟨b, off, none⟩) n c)) (h0 : w.cell? ⟨b, off, none⟩ = some (.string s0)) :
    Calls Try.prog 112 #[.string s, .pointer (some ⟨q, 0, none⟩), .pointer (some ⟨p, 0, none⟩)] w fun x w' => x = .returned (.bool (decide (s[k].toNat = s0[k].toNat))) ∧ Below w.heap.size w w' := by
  by_cases he : s[k].toNat = s0[k].toNat
  · have hd : ((s[k].toNat : Int) == (s0[k].toNat : Int)) = true := by rw [beq_iff_eq]; omega
    have HD := Lib.hid (show decide (s[k].toNat = s0[k].toNat) = true by simp [he]); clear he
    go_enter Try.func112, Try.ntmps112
    go_wp2
    go_quiet (fail)
    go_wp2
    go_ret
    exact ⟨ret_bool HD.out.symm, below_drewN' (Below.refl _ _) _⟩
  · have hd : ((s[k].toNat : Int) == (s0[k].toNat : Int)) = false := by rw [beq_eq_false_iff_ne]; omega
    have HD := Lib.hid (show decide (s[k].toNat = s0[k].toNat) = false by simp [he]); clear he
    go_enter Try.func112, Try.ntmps112
    go_wp2
    go_quiet (fail)
    go_wp2
    go_ret
    exact ⟨ret_bool HD.out.symm, below_drewN' (Below.refl _ _) _⟩
theorem evenB_eq {xs : List StringV} {p : Nat} {s0 : StringV} (h0 : xs[0]? = some s0) : evenB (colAt xs p) = (colAt xs p).all (fun x => decide (x = (s0.f0.data[p]!).toNat)) := by
  have h := colAt_at p h0
  unfold evenB
  cases hc : colAt xs p with
  | nil => rfl
  | cons y t => rw [hc] at h; simp at h; subst h; rfl
set_option maxHeartbeats 2000000 in
theorem everyUnlike_any (a : Option Addr) (es : List StringV) (c k q p n : Nat) (w : World) (hm : es.length ≤ 1048576) (hO : OneLen es n) (hk : k < n) (hq : w.cell? ⟨q, 0, none⟩ = some (.int .i64 k)) (hp : w.cell? ⟨p, 0, none⟩ = some (.slice a es.length c)) (h : SlS rowString w a es) :
    Calls Try.prog 110 #[.slice a es.length c, .func (.func 112) #[] #[.pointer (some ⟨q, 0, none⟩), .pointer (some ⟨p, 0, none⟩)]] w fun x w' => x = .returned (.bool (evenB (colAt es k))) ∧ Below w.heap.size w w' := by
  have hplt := World.block_lt_of_cell? w _ hp
  have hqlt := World.block_lt_of_cell? w _ hq
  have HP := Lib.hid (And.intro hp hq); clear hp hq
  obtain ⟨⟨s0⟩, hx0, hz0⟩ := hO.first
  dsimp only at hz0
  have hn8 := hO.2.1
  have HE := Lib.hid (evenB_eq (p := k) hx0)
  have hk0 : k < s0.size := by omega
  have hs08 : s0.size ≤ 8000 := by omega
  have HO := Lib.hid hO; clear hO
  have HX0 := Lib.hid (And.intro hx0 (byteAt s0 k hk0)); clear hx0 hz0
  go_enter Try.func110, Try.ntmps110
  go_wp2
  go_loopw [9] (fun i wr => ∃ (j : Nat), j ≤ es.length ∧ i = .int .i64 j ∧ Hid (((colAt es k).take j).all (fun x => decide (x = (s0.data[k]!).toNat)) = true) ∧ Below w.heap.size w wr) (fun i _ => es.length - (intOf i).toNat)
  case atStart => exact ⟨0, Nat.zero_le _, rfl, by unfold Hid; rfl, Below.refl _ _⟩
  case round =>
    obtain ⟨j, hj, rfl, hR, hb⟩ := hrel
    by_cases hlt2 : j < es.length
    · obtain ⟨⟨s⟩, hx⟩ : ∃ e, es[j]? = some e := ⟨es[j], by simp [hlt2]⟩
      have hsl := h.below hb (Nat.le_refl _)
      obtain ⟨b, off, rfl, hbl, hc⟩ := hsl.at rowString_len hx
      have c0 : wr.cell? ⟨b, off + j * 1, none⟩ = some (.string s) := hc 0 _ rfl
      rw [Nat.mul_one] at c0
      obtain ⟨b', off', eq', _, hc'⟩ := hsl.at rowString_len HX0.out.1
      cases eq'
      have d0 : wr.cell? ⟨b, off, none⟩ = some (.string s0) := by have := hc' 0 _ rfl; simpa using this
      have hsz : s.size = n := HO.out.2.2 _ (List.mem_of_getElem? hx)
      have hks : k < s.size := by omega
      have hcol := colAt_byte (e := ⟨s⟩) k hx hks
      have CL := Lib.hid (unlike1_any s s0 k q p b off es.length c wr hks hk0 (by omega) hs08 (by omega) (by rw [hb.cell (p := ⟨q, 0, none⟩) hqlt]; exact HP.out.2) (by rw [hb.cell (p := ⟨p, 0, none⟩) hplt]; exact HP.out.1) d0)
      have H := Lib.hid (And.intro h (And.intro hc (And.intro hx hcol))); clear h hc hx hsl d0 hc' hcol
      have HS := Lib.hid hsz; clear hsz
      have HB := Lib.hid hb; clear hb
      obtain ⟨u, hu⟩ : ∃ u, decide (s[k].toNat = s0[k].toNat) = u := ⟨_, rfl⟩
      rw [hu] at CL
      have HU := Lib.hid hu; clear hu
      cases u with
      | false =>
        have HR := Lib.hid (show evenB (colAt es k) = false by
          rw [HE.out, List.all_eq_false]
          exact ⟨_, List.mem_of_getElem? H.out.2.2.2, by rw [HX0.out.2, HU.out]; simp⟩)
        go_wp2_with fail
        refine CL.out.mono ?_
        rintro e_ w1 ⟨rfl, hb1⟩
        go_wp2
        go_ret
        exact ⟨ret_bool HR.out.symm, HB.out.trans (hb1.mono HB.out.size)⟩
      | true =>
        go_wp2_with fail
        refine CL.out.mono ?_
        rintro e_ w1 ⟨rfl, hb1⟩
        clear c0
        go_wp2
        go_roundw
        case rel => exact ⟨j + 1, by omega, by go_num, by unfold Hid; rw [List.take_add_one, H.out.2.2.2, List.all_append, hR.out]; simp only [Option.toList_some, List.all_cons, List.all_nil, Bool.and_true, Bool.true_and]; rw [HX0.out.2, HU.out], HB.out.trans (hb1.mono HB.out.size)⟩
        case measure => simp [intOf]; omega
    · obtain rfl : j = es.length := by omega
      have HR := Lib.hid (show evenB (colAt es k) = true by
        have := hR.out
        rw [List.take_of_length_le (by rw [colAt_len]; exact Nat.le_refl _)] at this
        rw [HE.out, this])
      go_wp2
      go_ret
      exact ⟨ret_bool HR.out.symm, hb⟩
set_option maxHeartbeats 4000000 in
theorem unlikePlaces_any (a : Option Addr) (xs : List StringV) (c n : Nat) (w : World) (hm : xs.length ≤ 1048576) (hO : OneLen xs n) (h : SlS rowString w a xs) :
    Calls Try.prog 63 #[.slice a xs.length c] w (SlRes (unlikeP xs n) w) := by
  obtain ⟨⟨s0⟩, hx0, hz0⟩ := hO.first
  dsimp only at hz0
  have hn8 : n ≤ 8000 := hO.2.1
  have h01 : 0 < xs.length := hO.1
  obtain ⟨b0, off0, rfl, hbl0, hc0⟩ := h.at rowString_len hx0
  have EV := Lib.hid (fun k q p w' (hk : k < n) (hb : Below w.heap.size w w') hq hp => everyUnlike_any (some ⟨b0, off0, none⟩) xs c k q p n w' hm hO hk hq hp (h.below hb (Nat.le_refl _)))
  have c0 : w.cell? ⟨b0, off0 + 0 * 1, none⟩ = some (.string s0) := hc0 0 _ rfl
  rw [Nat.zero_mul, Nat.add_zero] at c0
  have hs08 : s0.size ≤ 8000 := by omega
  have HO := Lib.hid (And.intro hO (And.intro h (And.intro hx0 hc0))); clear hO h hx0 hc0
  have HZ := Lib.hid hz0; clear hz0
  have BX := Lib.hid (show BoxAt (w.alloc (.cells #[.slice (some ⟨b0, off0, none⟩) xs.length c] 22)) w.heap.size #[.slice (some ⟨b0, off0, none⟩) xs.length c] from BoxAt.new _ _ _ _ rfl)
  go_enter Try.func63, Try.ntmps63
  go_wp2
  have FB := Lib.hid (show Below w.heap.size w (w.alloc (.cells #[.slice (some ⟨b0, off0, none⟩) xs.length c] 22)) from (Below.refl _ _).alloc (Nat.le_refl _) _)
  have hz1 : (w.alloc (.cells #[.slice (some ⟨b0, off0, none⟩) xs.length c] 22)).heap.size = w.heap.size + 1 := by simp
  obtain ⟨W0, hW0⟩ : ∃ W0, w.alloc (.cells #[.slice (some ⟨b0, off0, none⟩) xs.length c] 22) = W0 := ⟨_, rfl⟩
  rw [hW0] at BX FB hz1 ⊢
  clear hW0 c0 hbl0
  have HZ1 := Lib.hid hz1; clear hz1
  go_loopw [3, 9] (fun v i wr => ∃ k : Nat, k ≤ n ∧ i = .int .i64 k ∧ OwnI wr W0.heap.size v (unlikeP xs k) ∧ Below W0.heap.size W0 wr) (fun _ i _ => n - (intOf i).toNat)
  case atStart => exact ⟨0, Nat.zero_le _, rfl, OwnI.nil _ _, Below.refl _ _⟩
  case round =>
    obtain ⟨k, hk, rfl, howi, hb⟩ := hrel
    have hbw := FB.out.trans (hb.mono (by have := HZ1.out; omega))
    have bx : wr.cell? ⟨w.heap.size, 0, none⟩ = some (.slice (some ⟨b0, off0, none⟩) xs.length c) := (BX.out.below hb (by have := HZ1.out; omega)) 0 _ rfl
    have hbsz := HZ.out
    by_cases hlt : k < n
    · have e1 : (k : Int) < (s0.size : Int) := by omega
      have HY := Lib.hid (fun h => unlikeP_yes (xs := xs) (k := k) h)
      have HN := Lib.hid (fun h => unlikeP_no (xs := xs) (k := k) h)
      have hul := unlikeP_len xs k
      have hlu : (unlikeP xs k).length < 1073741824 := by omega
      clear hul hbsz
      generalize unlikeP xs k = u at *
      have hszb := hb.size
      have on := EV.out k wr.heap.size w.heap.size (wr.alloc (.cells #[.int .i64 k] 3)) hlt (hbw.alloc (by have := hbw.size; omega) _) (cell_new wr _ _) (by rw [(show Below wr.heap.size wr (wr.alloc (.cells #[.int .i64 k] 3)) from (Below.refl _ _).alloc (Nat.le_refl _) _).cell (p := ⟨w.heap.size, 0, none⟩) (World.block_lt_of_cell? wr _ bx)]; exact bx)
      obtain ⟨q, hq⟩ : ∃ q, evenB (colAt xs k) = q := ⟨_, rfl⟩
      rw [hq] at on
      have OK := Lib.hid on; have HQ := Lib.hid hq; clear on hq
      have HB := Lib.hid (And.intro hb hbw); clear hb hbw
      have hbl := World.block_lt_of_cell? wr _ bx
      cases q with
      | true =>
        go_wp2_with fail
        refine OK.out.mono ?_
        rintro e w2 ⟨rfl, hb2⟩
        clear bx
        go_wp2
        go_roundw
        case rel => exact ⟨k + 1, by omega, by go_num, by rw [HN.out HQ.out]; exact (howi.alloc _).below' hb2, HB.out.1.trans (((Below.refl _ _).alloc hszb _).trans (hb2.mono (by simp; omega)))⟩
        case measure => simp [intOf]; omega
      | false =>
        go_wp2_with fail
        refine OK.out.mono ?_
        rintro e w2 ⟨rfl, hb2⟩
        clear bx
        have k2 : w2.cell? ⟨wr.heap.size, 0, none⟩ = some (.int .i64 k) := by rw [hb2.cell (p := ⟨wr.heap.size, 0, none⟩) (by simp)]; exact cell_new wr _ _
        have howi2 := (howi.alloc (.cells #[.int .i64 k] 3)).below' hb2
        have hz2 : wr.heap.size + 1 ≤ w2.heap.size := by have := hb2.size; simpa using this
        go_wp2_with (at_builtin; refine wpList_appendI 29 Try.underlying29 rfl _ _ rfl rfl (howi2.alloc _) (k : Int) ⟨w2.heap.size, 0, none⟩ 1 rfl (World.news_of_block (cs := #[.int .i64 (k : Int)]) (t := 2) (fr := (0, 0)) (heap_alloc_new w2 _)) hlu (by simp; omega) ?_; intro g cap w3 hown3 hb3 _)
        go_roundw
        case rel => exact ⟨k + 1, by omega, by go_num, by rw [HY.out HQ.out]; simpa using hown3, HB.out.1.trans ((((Below.refl _ _).alloc hszb _).trans (hb2.mono (by simp; omega))).trans (((Below.refl _ _).alloc (by omega) _).trans hb3))⟩
        case measure => simp [intOf]; omega
    · obtain rfl : k = n := by omega
      have e1 : ¬ (k : Int) < (s0.size : Int) := by omega
      clear hbsz
      obtain ⟨a1, c1, rfl, hs1⟩ := howi.slO
      go_wp2
      go_ret
      exact ⟨a1, c1, rfl, hs1.mono (by have := HZ1.out; omega), hbw⟩
end Go.Proofs.Ytlaejcbcfcomaaa
