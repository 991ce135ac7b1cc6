/- impl.AllBlocks: what it hands back, and its walk. -/
import Derived.Test.YtjnabncfkogigaaPkAllBlocksDevWr
import Derived.Test.YtjnabncfkogigaaPkAllBlocksRecString
import Derived.Test.YtjnabncfkogigaaPkAllBlocksOwnR
namespace Go.Proofs.Ytjnabncfkogigaa
open Go.RowKit
set_option linter.unusedVariables false
set_option linter.unusedSimpArgs false
set_option maxRecDepth 20000
/-- The sector of block k. -/
def allE (x : DeviceV) (k : Nat) : SectorV := x.f0.f4.getD (x.f3.getD k 0).toNat ⟨ByteArray.empty, 0⟩
/-- The contents of the first k blocks; those of them that can't be read. -/
def allL (x : DeviceV) : Nat → List StringV
  | 0 => []
  | k + 1 => allL x k ++ [⟨contV (allE x k)⟩]
def lostL (x : DeviceV) : Nat → List Int
  | 0 => []
  | k + 1 => lostL x k ++ (if goodS (allE x k) = true then [] else [(k : Int)])
theorem allL_len (x : DeviceV) : ∀ k, (allL x k).length = k
  | 0 => rfl
  | k + 1 => by unfold allL; simp [allL_len x k]
theorem lostL_len (x : DeviceV) : ∀ k, (lostL x k).length ≤ k
  | 0 => Nat.zero_le _
  | k + 1 => by
    have := lostL_len x k
    unfold lostL
    rw [List.length_append]
    split <;> simp <;> omega
theorem lostL_good {x : DeviceV} {k : Nat} (h : goodS (allE x k) = true) : lostL x (k + 1) = lostL x k := by
  show lostL x k ++ _ = _
  rw [if_pos h, List.append_nil]
theorem lostL_bad {x : DeviceV} {k : Nat} (h : goodS (allE x k) = false) : lostL x (k + 1) = lostL x k ++ [(k : Int)] := by
  show lostL x k ++ _ = _
  rw [if_neg (by simp [h])]
def allC (x : DeviceV) : Int := if devB x = true then 0 else 1
def allV (x : DeviceV) : List StringV := if devB x = true then allL x x.f3.length else []
def lostV (x : DeviceV) : List Int := if devB x = true then lostL x x.f3.length else []
theorem allV_len {x : DeviceV} (h : LenDevice 1048576 x) : (allV x).length ≤ 1048576 ∧ (lostV x).length ≤ 1048576 := by
  have h3 := h.2
  have := lostL_len x x.f3.length
  unfold allV lostV
  split
  · rw [allL_len]; exact ⟨h3, by omega⟩
  · simp
/-- Two results with memory of the call's own, and a code. -/
def AllRes (l : List StringV) (z : List Int) (code : Int) (w : World) (e : Ending) (w' : World) : Prop :=
  ∃ a c b d, e = .returned (.tuple #[.slice a l.length c, .slice b z.length d, .int .i64 code]) ∧ SlSO rowString 9 w' w.heap.size a l ∧ SlO w' w.heap.size b z ∧ Below w.heap.size w w'
/-- Where the sectors and the map of a device lie. -/
theorem dev_at {x : DeviceV} {s0 s1 : Option Addr} {w : World} (hd : devB x = true) (h : SlDevice w s0 s1 x) : ∃ b o b2 o2, s0 = some ⟨b, o, none⟩ ∧ s1 = some ⟨b2, o2, none⟩ ∧ b < w.heap.size ∧ b2 < w.heap.size ∧
    Hid (∀ w', Below w.heap.size w w' → ∀ k, k < x.f3.length → ∃ i : Nat, i < x.f0.f4.length ∧ w'.cell? ⟨b2, o2 + k, none⟩ = some (.int .i64 (i : Int)) ∧ w'.cell? ⟨b, o + i * 2, none⟩ = some (.string (allE x k).f0) ∧ w'.cell? ⟨b, o + i * 2 + 1, none⟩ = some (.int .i64 (allE x k).f1) ∧ allE x k ∈ x.f0.f4) := by
  obtain ⟨hn0, hn3⟩ := devB_ne hd
  have hF := devB_facts hd
  rcases h.1 with h0 | ⟨b, o, rfl, hbl, hc0⟩
  · exact absurd h0 hn0
  have h1 := h.2
  obtain ⟨z, hz⟩ : ∃ z, x.f3[0]? = some z := ⟨x.f3[0]'(by have := List.length_pos_iff.2 hn3; omega), by simp [List.length_pos_iff.2 hn3]⟩
  obtain ⟨b2, o2, rfl, hc2⟩ := h1.cell hz
  refine ⟨b, o, b2, o2, rfl, rfl, hbl, World.block_lt_of_cell? w _ hc2, fun w' hb k hk => ?_⟩
  obtain ⟨z, hz⟩ : ∃ z, x.f3[k]? = some z := ⟨x.f3[k], by simp [hk]⟩
  have hzb := hF.2.2.2.2.2.2.1 z (List.mem_of_getElem? hz)
  have hdl := hF.2.2.2.2.1
  obtain ⟨i, rfl⟩ : ∃ i : Nat, z = (i : Int) := ⟨z.toNat, by omega⟩
  have hil : i < x.f0.f4.length := by omega
  obtain ⟨e, he⟩ : ∃ e, x.f0.f4[i]? = some e := ⟨x.f0.f4[i], by simp [hil]⟩
  have hae : allE x k = e := by
    unfold allE
    rw [show x.f3.getD k 0 = (i : Int) by rw [List.getD_eq_getElem?_getD, hz]; rfl]
    simp [he]
  obtain ⟨b', o', hbb, hcx⟩ := (h1.below hb (Nat.le_refl _)).cell hz
  cases hbb
  obtain ⟨b', o', hbb, _, hce⟩ := (SlS.below (show SlS rowSector w (some ⟨b, o, none⟩) x.f0.f4 from .inr ⟨b, o, rfl, hbl, hc0⟩) hb (Nat.le_refl _)).at rowSector_len he
  cases hbb
  rw [hae]
  exact ⟨i, hil, hcx, hce 0 _ rfl, hce 1 _ rfl, List.mem_of_getElem? he⟩
set_option maxHeartbeats 8000000 in
theorem allBlocks_any (x : DeviceV) (s0 s1 : Option Addr) (c0 c1 : Nat) (hL : LenDevice 1048576 x) (hV : StrDevice 1048576 x) (w : World) (h : SlDevice w s0 s1 x) :
    Calls Try.prog 35 #[.agg #[.int .i64 x.f0.f0, .int .i64 x.f0.f1, .int .i64 x.f0.f2, .int .i64 x.f0.f3, .slice s0 x.f0.f4.length c0, .int .i64 x.f1, .int .i64 x.f2, .slice s1 x.f3.length c1]] w (AllRes (allV x) (lostV x) (allC x) w) := by
  have VD := Lib.hid (fun w' (hb : Below w.heap.size w w') => validDevice_any x s0 s1 c0 c1 hL hV w' (h.below hb (Nat.le_refl _)))
  by_cases hdv : devB x = true
  case neg =>
    have hd0 : devB x = false := by simpa using hdv
    unfold allV lostV allC
    rw [hd0] at VD ⊢
    simp only [Bool.false_eq_true, if_false]
    clear hd0 hdv h hL hV
    go_enter Try.func35, Try.ntmps35
    go_wp2_with fail
    refine (VD.out _ (by go_grown)).mono ?_
    rintro e w1 ⟨rfl, hb1⟩
    have FB := Lib.hid (show Below w.heap.size w w1 from Below.trans (by go_grown) (hb1.mono (by simp <;> omega)))
    clear hb1
    go_wp2
    go_ret3
    exact ⟨none, 0, none, 0, rfl, .inl rfl, .inl rfl, FB.out⟩
  unfold allV lostV allC
  rw [hdv] at VD ⊢
  simp only [if_true]
  obtain ⟨n, hn1, hn2, hn3, hall⟩ := devB_size hdv
  obtain ⟨b, o, b2, o2, rfl, rfl, hbl, hbl2, HAT⟩ := dev_at hdv h
  have CT := Lib.hid (fun e (he : e ∈ x.f0.f4) w => contents_any e n w hn3 (hall e he).1)
  have hm3 : x.f3.length ≤ 1048576 := hL.2
  clear hn1 hn2 hn3 hall hdv h hL hV
  go_enter Try.func35, Try.ntmps35
  have HA := Lib.hid (BoxAt.new w #[.int .i64 x.f0.f0, .int .i64 x.f0.f1, .int .i64 x.f0.f2, .int .i64 x.f0.f3, .slice (some ⟨b, o, none⟩) x.f0.f4.length c0, .int .i64 x.f1, .int .i64 x.f2, .slice (some ⟨b2, o2, none⟩) x.f3.length c1] 34 _ rfl)
  go_wp2_with fail
  refine (VD.out _ (by go_grown)).mono ?_
  rintro e w1 ⟨rfl, hb1⟩
  replace HA := Lib.hid (HA.out.below hb1 (by simp))
  have FB := Lib.hid (show Below w.heap.size w w1 from Below.trans (by go_grown) (hb1.mono (by simp <;> omega)))
  have hz1 : w.heap.size < w1.heap.size := Nat.lt_of_lt_of_le (by simp) hb1.size
  clear hb1
  have a4 := HA.out 4 _ rfl
  have a7 := HA.out 7 _ rfl
  go_wp2
  go_loopw [5, 6, 17] (fun u v i wr => ∃ k : Nat, k ≤ x.f3.length ∧ i = .int .i64 (k : Int) ∧ OwnR rowString 9 1 wr w1.heap.size u (allL x k) ∧ OwnI wr w1.heap.size v (lostL x k) ∧ Below w1.heap.size w1 wr) (fun _ _ i _ => x.f3.length - (intOf i).toNat)
  case atStart => exact ⟨0, Nat.zero_le _, rfl, OwnR.nil _ _, OwnI.nil _ _, Below.refl _ _⟩
  case round =>
    obtain ⟨k, hk, rfl, hown, howi, hb⟩ := hrel
    by_cases hlt : k < x.f3.length
    · obtain ⟨i, hil, d2, d0, d1, hmem⟩ := HAT.out wr (FB.out.trans (hb.mono FB.out.size)) k hlt
      have b4 : wr.cell? ⟨w.heap.size, 4, none⟩ = some (.slice (some ⟨b, o, none⟩) x.f0.f4.length c0) := by rw [hb.cell (p := ⟨w.heap.size, 4, none⟩) hz1]; exact a4
      have hll : (allL x k).length < 1073741824 := by rw [allL_len]; omega
      have hll2 : (lostL x k).length < 1073741824 := by have := lostL_len x k; omega
      have hzb := hb.size
      have CC := Lib.hid (CT.out _ hmem)
      have HAL := Lib.hid (show allL x (k + 1) = allL x k ++ [⟨contV (allE x k)⟩] from rfl)
      have LG := Lib.hid (fun h => lostL_good (x := x) (k := k) h)
      have LB := Lib.hid (fun h => lostL_bad (x := x) (k := k) h)
      generalize allL x k = l at *
      generalize lostL x k = z at *
      generalize allE x k = e at *
      have HB := Lib.hid hb; clear hb hmem
      have ei : (i : Int) < (x.f0.f4.length : Int) := by omega
      go_wp2_with fail
      refine (CC.out _).mono ?_
      rintro e_ w2 ⟨rfl, hb2⟩
      have hown2 := hown.below hb2
      have howi2 := howi.below' hb2
      have hz2 := hb2.size
      have HB2 := Lib.hid hb2; clear hb2 d0 d1 d2 b4
      obtain ⟨q, hq⟩ : ∃ q, goodS e = q := ⟨_, rfl⟩
      have HQ := Lib.hid hq
      rw [hq]
      clear hq
      have hz21 : w1.heap.size ≤ w2.heap.size := by omega
      cases q
      · go_wp2_with (at_builtin; first | (refine wpList_appendR 48 9 (.string ByteArray.empty) 16 Try.underlying48 infoString rfl (by omega) (by omega) rfl _ _ rfl rfl (hown2.alloc _) ⟨contV e⟩ rfl (by intro u hu; simp only [rowString, List.mem_singleton] at hu; subst hu; rfl) ⟨w2.heap.size, 0, none⟩ 1 rfl (World.news_of_block (cs := #[.string (contV e)]) (t := 9) (fr := (0, 0)) (heap_alloc_new w2 _)) hll (by simp; omega) ?_; intro g cap w4 hown4 hgr hb4; have howi4 := ownsRow_other (by decide) (howi2.alloc _) (hown2.alloc _) hgr; have HB4 := Lib.hid (show Below w1.heap.size w2 w4 from ((Below.refl _ _).alloc (by omega) _).trans hb4); have hz4 := HB4.out.size; clear hgr hb4) | (refine wpList_appendIg 25 Try.underlying25 rfl _ _ rfl rfl (OwnI.alloc (v := _) (l := z) howi4 _) (k : Int) ⟨w4.heap.size, 0, none⟩ 1 rfl (World.news_of_block (cs := #[.int .i64 (k : Int)]) (t := 2) (fr := (0, 0)) (heap_alloc_new w4 _)) hll2 (by simp; omega) ?_; intro g5 cap5 w5 howi5 hgr5 hb5; have hown5 := ownsRow_other (by decide) (hown4.alloc _) (OwnI.alloc (v := _) (l := z) howi4 _) hgr5; clear hgr5))
        go_roundw
        case rel => exact ⟨k + 1, by omega, by go_num, by rw [HAL.out]; unfold OwnR; simpa using hown5, by rw [LB.out HQ.out]; simpa using howi5, HB.out.trans ((HB2.out.mono hzb).trans (HB4.out.trans (((Below.refl _ _).alloc (by omega) _).trans hb5)))⟩
        case measure => simp [intOf]; omega
      · go_wp2_with (at_builtin; refine wpList_appendR 48 9 (.string ByteArray.empty) 16 Try.underlying48 infoString rfl (by omega) (by omega) rfl _ _ rfl rfl (hown2.alloc _) ⟨contV e⟩ rfl (by intro u hu; simp only [rowString, List.mem_singleton] at hu; subst hu; rfl) ⟨w2.heap.size, 0, none⟩ 1 rfl (World.news_of_block (cs := #[.string (contV e)]) (t := 9) (fr := (0, 0)) (heap_alloc_new w2 _)) hll (by simp; omega) ?_; intro g cap w4 hown4 hgr hb4; have howi4 := ownsRow_other (by decide) (howi2.alloc _) (hown2.alloc _) hgr; have HB4 := Lib.hid (show Below w1.heap.size w2 w4 from ((Below.refl _ _).alloc (by omega) _).trans hb4); have hz4 := HB4.out.size; clear hgr hb4)
        go_roundw
        case rel => exact ⟨k + 1, by omega, by go_num, by rw [HAL.out]; simpa using hown4, by rw [LG.out HQ.out]; exact howi4, HB.out.trans ((HB2.out.mono hzb).trans HB4.out)⟩
        case measure => simp [intOf]; omega
    · obtain rfl : k = x.f3.length := by omega
      obtain ⟨a, ca, rfl, hsa⟩ := hown.slSI
      obtain ⟨d, cd, rfl, hsd⟩ := howi.slO
      go_wp2
      go_ret3
      exact ⟨a, ca, d, cd, rfl, hsa.mono FB.out.size (Nat.le_refl _), hsd.mono FB.out.size, FB.out.trans (hb.mono FB.out.size)⟩
end Go.Proofs.Ytjnabncfkogigaa
