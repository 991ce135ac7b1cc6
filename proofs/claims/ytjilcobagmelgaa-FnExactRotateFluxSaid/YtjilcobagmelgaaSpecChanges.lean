/- spec.l02Changes, spec.ChangesOf -/
import Derived.Test.YtjilcobagmelgaaChangesOf
import Derived.Test.YtjilcobagmelgaaSlRes
namespace Go.Proofs.Ytjilcobagmelgaa
open Go.RowKit
set_option linter.unusedVariables false
theorem timesOf_take_succ {f : Int} {zs : List Int} {k : Nat} (h : k < zs.length) : (timesOf f zs).take (k + 1) = (timesOf f zs).take k ++ [tAt f zs k] := by
  rw [List.take_add_one, timesOf_at f zs k h]; rfl
set_option maxHeartbeats 1000000 in
theorem l02Changes_any (p : Nat) (c f : Int) (a : Option Addr) (zs : List Int) (d : Nat) (w : World) (hl : zs.length ≤ 4000) (hz : zs.all (inB 1 2000000) = true) (hf0 : 0 ≤ f) (hf1 : f ≤ 2000000) (hf : FluxAt w p c f a zs.length d) (h : SlA w a zs) :
    Calls Try.prog 15 #[.pointer (some ⟨p, 0, none⟩)] w fun e w' => ∃ a' cap, e = .returned (.slice a' zs.length cap) ∧ SlO w' w.heap.size a' (timesOf f zs) ∧ Below w.heap.size w w' := by
  have hp := hf.lt
  have HF := Lib.hid (And.intro hz (And.intro hf h))
  obtain ⟨x0, x1, x2⟩ := hf
  clear hz h
  have x1a : (w.alloc (.cells #[] 2)).cell? ⟨p, 1, none⟩ = some (.int .i64 f) := by
    rw [World.cell?_of_block (Below.heap_alloc w _ p hp)]; exact x1
  go_enter Try.func15, Try.ntmps15
  go_wp2
  go_loopw [3, 4, 5] (fun v q i wr => ∃ k : Nat, k ≤ zs.length ∧ i = .int .i64 k ∧ (∃ t : Int, q = .int .i64 t ∧ 0 ≤ t ∧ t ≤ 2000000 + 2000000 * (k : Int) ∧ Hid (t = tAt f zs k)) ∧ OwnI wr w.heap.size v ((timesOf f zs).take k) ∧ Below w.heap.size w wr) (fun _ _ i _ => zs.length - (intOf i).toNat)
  case atStart => exact ⟨0, Nat.zero_le _, rfl, ⟨f, rfl, hf0, by omega, by unfold Hid tAt; simp⟩, OwnI.empty w _ (Nat.le_refl _), (Below.refl _ _).alloc (Nat.le_refl _) _⟩
  case round =>
    obtain ⟨k, hk, rfl, ⟨t, rfl, ht0, ht1, hT⟩, hown, hb⟩ := hrel
    obtain ⟨y0, y1, y2⟩ := HF.out.2.1.below hb hp
    by_cases hlt : k < zs.length
    · obtain ⟨x, hx⟩ := getOf hlt
      obtain ⟨hx0, hx1⟩ := bd_of_all HF.out.1 hx
      have hlen : ((timesOf f zs).take k).length = k := by simp [timesOf_length]; omega
      have HL := Lib.hid hlen
      have hsz := hb.size
      have HX := Lib.hid hx
      have e1 : (k : Int) < (zs.length : Int) := by omega
      have e2 : (0 : Int) ≤ (k : Int) := by omega
      have HK := Lib.hid (fun w3 (hb3 : Below w.heap.size (wr.alloc (.cells #[.int .i64 t] 2)) w3) => (show ∃ b off, a = some ⟨b, off, none⟩ ∧ w3.cell? ⟨b, off + k, none⟩ = some (.int .i64 x) ∧ w3.cell? ⟨p, 1, none⟩ = some (.int .i64 f) ∧ w3.cell? ⟨p, 2, none⟩ = some (.slice a zs.length d) ∧ Below w.heap.size w w3 from by
        have hb4 := (hb.alloc hsz (.cells #[.int .i64 t] 2)).trans hb3
        obtain ⟨b, off, e, hc⟩ := (HF.out.2.2.below hb4 (Nat.le_refl _)).cell hx
        obtain ⟨_, q1, q2⟩ := HF.out.2.1.below hb4 hp
        exact ⟨b, off, e, hc, q1, q2, hb4⟩))
      clear hx x1a
      go_wp2_with (at_builtin; refine wpList_appendI 22 Try.underlying22 rfl _ _ rfl rfl (hown.alloc _) t ⟨wr.heap.size, 0, none⟩ 1 rfl (World.news_of_block (cs := #[.int .i64 t]) (t := 2) (fr := (0, 0)) (heap_alloc_new wr _)) (by rw [HL.out]; omega) (by simp; omega) ?_; intro g cap w3 hown3 hb3 _; obtain ⟨b, off, rfl, k1, k2, k3, hb4⟩ := HK.out w3 hb3)
      rw [HL.out] at hown3
      go_roundw
      case rel => exact ⟨k + 1, by omega, by go_num, ⟨t + x, rfl, by omega, by omega, by unfold Hid; rw [tAt_succ HX.out, hT.out]⟩, by rw [timesOf_take_succ hlt, ← hT.out]; exact hown3, hb4⟩
      case measure => simp [intOf]; omega
    · obtain rfl : k = zs.length := by omega
      have hfull : (timesOf f zs).take zs.length = timesOf f zs := List.take_of_length_le (by rw [timesOf_length]; exact Nat.le_refl _)
      rw [hfull] at hown
      obtain ⟨a', c', ev, hsl⟩ := hown.slO
      rw [timesOf_length] at ev
      subst ev
      have HS := Lib.hid (And.intro hsl hown); clear hsl hown
      go_wp2
      go_ret
      exact ⟨_, _, rfl, HS.out.1, hb⟩
/-- What ChangesOf answers. -/
def chgVal (c f : Int) (zs : List Int) : List Int := if fluxOk c f zs = true then timesOf f zs else []
theorem chgVal_len (c f : Int) (zs : List Int) (hl : zs.length ≤ 1048576) : (chgVal c f zs).length ≤ 1048576 := by
  unfold chgVal
  split
  · rw [timesOf_length]; exact hl
  · simp
theorem last_bd {c f : Int} {zs : List Int} (hv : fluxOk c f zs = true) : f ≤ 2000000 := by
  obtain ⟨_, ⟨hn1, _⟩, hz, _, _, hf1⟩ := fluxOk_iff.1 hv
  have := bd_of_all hz (k := zs.length - 1) (x := zs[zs.length - 1]?.getD 0) (by rw [List.getElem?_eq_getElem (by omega)]; rfl)
  omega
end Go.Proofs.Ytjilcobagmelgaa
