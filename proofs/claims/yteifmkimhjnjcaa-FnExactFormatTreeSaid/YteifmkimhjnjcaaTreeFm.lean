/- (impl.tree).disk, impl.FormatTree -/
import Derived.Test.YteifmkimhjnjcaaTreeNew
import Derived.Test.YteifmkimhjnjcaaRecString
import Derived.Test.YteifmkimhjnjcaaOwnR
import Derived.Test.YteifmkimhjnjcaaWithin
import Derived.WalkMore
namespace Go.Proofs.Yteifmkimhjnjcaa
open Go.RowKit
set_option linter.unusedVariables false
set_option linter.unusedSimpArgs false
set_option maxRecDepth 20000
def rowOf (bs : List UInt8) : StringV := ⟨⟨bs.toArray⟩⟩
def tblk (bs : List UInt8) (k : Nat) : List UInt8 := if k = 0 then bs else zero32
def diskL (bs : List UInt8) (n : Nat) : List StringV := (List.range n).map fun k => rowOf (tblk bs k)
theorem diskL_len (bs : List UInt8) (n : Nat) : (diskL bs n).length = n := by unfold diskL; simp
theorem diskL_snoc (bs : List UInt8) (n : Nat) : diskL bs (n + 1) = diskL bs n ++ [rowOf (tblk bs n)] := by
  unfold diskL
  rw [List.range_succ, List.map_append]
  rfl
theorem NewT.blk {w : World} {g n : Nat} {bs : List UInt8} (h : NewT w g n bs) (k : Nat) (hk : k < n) : TBk w (g + 1 + k) (tblk bs k) := by
  unfold tblk
  by_cases e : k = 0
  · subst e; exact h.2.2.1 hk
  · rw [if_neg e]; exact h.2.2.2 k (by omega) hk
set_option maxHeartbeats 2000000 in
theorem treeDisk_any (g n : Nat) (bs : List UInt8) (w : World) (h : NewT w g n bs) (hl : bs.length = 32) (h4 : 4 ≤ n) (hn : n ≤ 128) :
    Calls Try.prog 25 #[.slice (some ⟨g, 0, none⟩) n n] w (RecRes rowString 9 (diskL bs n) w) := by
  have tl : ∀ k, (tblk bs k).length = 32 := fun k => by unfold tblk; split; exact hl; rfl
  have HK := Lib.hid (fun W (hb : Below w.heap.size w W) k (hk : k < n) => (show W.cell? ⟨g, k, none⟩ = some (.pointer (some ⟨g + 1 + k, 0, none⟩)) ∧ (convert 32 9 (.slice (some ⟨g + 1 + k, 0, none⟩) 32 32)).run Try.prog W = .ok (.string ⟨(tblk bs k).toArray⟩) W from ⟨(h.below hb).2.1 k hk, TBk.conv ((h.below hb).blk k hk) 32 32 (tl k)⟩))
  clear h
  go_enter Try.func25, Try.ntmps25
  go_wp2
  go_loopw [3, 8] (fun v i wr => ∃ k : Nat, k ≤ n ∧ i = .int .i64 (k : Int) ∧ OwnR rowString 9 1 wr w.heap.size v (diskL bs k) ∧ Below w.heap.size w wr) (fun _ i _ => n - (intOf i).toNat)
  case atStart => exact ⟨0, by omega, rfl, OwnR.nil _ _, Below.refl _ _⟩
  case round =>
    obtain ⟨k, hk, rfl, hown, hb⟩ := hrel
    obtain ⟨a, c, hv, hsl⟩ := hown.slSI
    rw [diskL_len] at hv
    subst hv
    have hzb := hb.size
    by_cases hlt : k < n
    · obtain ⟨c0, hcv⟩ := HK.out wr hb k hlt
      have hll : (diskL bs k).length < 1073741824 := by rw [diskL_len]; omega
      have hl3 := diskL_len bs k
      have HSN := Lib.hid (diskL_snoc bs k)
      have HB := Lib.hid hb; clear hb hsl
      have HN := Lib.hid (heap_alloc_new wr (.cells #[.string ⟨(tblk bs k).toArray⟩] 9))
      unfold rowOf at HSN
      generalize diskL bs k = l at *
      generalize (⟨(tblk bs k).toArray⟩ : ByteArray) = zz at *
      have HL3 := Lib.hid hl3; clear hl3
      go_wp2_with (at_builtin; refine wpList_appendR 25 9 (.string ByteArray.empty) 16 Try.underlying25 infoString rfl (by omega) (by omega) rfl _ _ rfl rfl (OwnR.alloc hown _) ⟨zz⟩ rfl (by intro u hu; simp only [rowString, List.mem_singleton] at hu; subst hu; rfl) ⟨wr.heap.size, 0, none⟩ 1 rfl (World.news_of_block (cs := #[.string zz]) (t := 9) (fr := (0, 0)) HN.out) hll (by simp; omega) ?_; intro g4 cap w4 hown4 hgr hb4; clear hgr)
      go_roundw
      case rel => exact ⟨k + 1, by omega, by go_num, by rw [HSN.out]; exact hown4, HB.out.trans (Below.trans ((Below.refl _ _).alloc hzb _) hb4)⟩
      case measure => simp [intOf]; omega
    · obtain rfl : k = n := by omega
      have hnl : ¬ ((k : Int) < (k : Int)) := by omega
      go_wp2
      go_ret
      exact ⟨a, c, by rw [diskL_len]; rfl, hsl, hb⟩
def ftC (n : Int) : Int := if inB 4 128 n = true then 0 else 2
def ftL (n : Int) : List StringV := if inB 4 128 n = true then diskL (r3L n.toNat) n.toNat else []
theorem ftL_len (n : Int) : (ftL n).length ≤ 1048576 := by
  unfold ftL
  split
  · rename_i h; rw [diskL_len]; have := inB_iff.1 h; omega
  · simp
set_option maxHeartbeats 1000000 in
theorem formatTree_any (n : Int) (w : World) :
    Calls Try.prog 11 #[.int .i64 n] w (RecRes2 rowString 9 (ftL n) (ftC n) w) := by
  have WI := Lib.hid (fun w T b hb => within_at 4 128 n w T b hb)
  unfold RecRes2
  by_cases h1 : inB 4 128 n = true
  case neg =>
    have h1 : inB 4 128 n = false := by simpa using h1
    have hC : ftC n = 2 := by unfold ftC; rw [h1]; rfl
    have hL : ftL n = [] := by unfold ftL; rw [h1]; rfl
    rw [h1] at WI
    rw [hC, hL]
    clear h1 hC hL
    go_enter Try.func11, Try.ntmps11
    go_wp2_with fail
    refine (WI.out _ _ _ (by simp)).mono ?_
    rintro e w1 ⟨rfl, hb1⟩
    subst hb1
    go_wp2
    go_ret2
    exact ⟨none, 0, rfl, .inl rfl, by go_grown⟩
  have hn := inB_iff.1 h1
  obtain ⟨n, rfl⟩ : ∃ k : Nat, n = (k : Int) := ⟨n.toNat, by omega⟩
  have hC : ftC (n : Int) = 0 := by unfold ftC; rw [h1]; rfl
  have hL : ftL (n : Int) = diskL (r3L n) n := by unfold ftL; rw [if_pos h1, Int.toNat_natCast]
  rw [h1] at WI
  rw [hC, hL]
  have NT := Lib.hid (fun (w : World) (g : Nat) (hg : w.heap.size = g) => show Calls Try.prog 24 #[.int .i64 (n : Int)] w fun e w' => e = .returned (.slice (some ⟨g, 0, none⟩) n n) ∧ NewT w' g n (r3L n) ∧ Below w.heap.size w w' by subst hg; exact newTree_any n w (by omega) (by omega))
  have TD := Lib.hid (fun g w h => treeDisk_any g n (r3L n) w h (by unfold r3L; rw [sealL_len, putL_len, r2L_len]) (by omega) (by omega))
  clear h1 hC hL hn
  generalize r3L n = r at *
  generalize diskL r n = D at *
  go_enter Try.func11, Try.ntmps11
  go_wp2_with fail
  refine (WI.out _ _ _ (by simp)).mono ?_
  rintro e w1 ⟨rfl, hb1⟩
  subst hb1
  go_wp2_with fail
  refine (NT.out _ (w.heap.size + 1) (by simp)).mono ?_
  rintro e w2 ⟨rfl, hn2, hb2⟩
  have HB2 := Lib.hid (show Below w.heap.size w w2 from Below.trans ((Below.refl _ _).alloc (Nat.le_refl _) _) (hb2.mono (by simp)))
  have HN2 := Lib.hid hn2; clear hn2 hb2
  go_wp2_with fail
  refine (TD.out _ _ HN2.out).mono ?_
  rintro e w3 ⟨a, c, rfl, hs3, hb3⟩
  go_wp2
  go_ret2
  exact ⟨a, c, rfl, hs3.mono HB2.out.size, HB2.out.trans (hb3.mono HB2.out.size)⟩
theorem r3_eq : ∀ n : Fin 129, r3L n = sealL (((zero32.set 0 1).set 2 n.val.toUInt8).set 12 1) := by decide +kernel
theorem TBk.zeros (w : World) (T : TypeId) : TBk (w.alloc (.cells (madeCells #[Value.int .u8 0] 32) T)) w.heap.size zero32 := by
  have hn := heap_alloc_new w (.cells (madeCells #[Value.int .u8 0] 32) T)
  intro i hi
  have hi2 : i < 32 := hi
  have hz : ∀ h : i < zero32.length, zero32[i] = 0 := fun h => List.getElem_replicate (n := 32) (a := (0 : UInt8)) h
  simp only [hz]
  refine ⟨?_, ?_⟩
  · unfold World.cell?
    dsimp only
    rw [hn]
    simp [madeCells, hi2, Nat.mod_one]
  · unfold World.frozen?
    dsimp only
    rw [hn]
    simp
theorem make32 (w : World) : (Instr.makeSlice 32 (.int .i64 32) (.int .i64 32)).run Try.prog w = .ok (.slice (some ⟨w.heap.size, 0, none⟩) 32 32) (w.alloc (.cells (madeCells #[Value.int .u8 0] 32) 5)) :=
  run_make_row' (P := Try.prog) 32 5 (.int .u8 0) 1 Try.underlying32 u8info rfl .i64 .i64 32 (by omega) (by omega) w
theorem tzero_any (w : World) : Calls Try.prog 30 #[.int .i64 32] w fun e w' => e = .returned (.string ⟨zero32.toArray⟩) ∧ Below w.heap.size w w' := by
  have hmk := make32
  have hcv : (convert 32 9 (.slice (some ⟨w.heap.size, 0, none⟩) 32 32)).run Try.prog (w.alloc (.cells (madeCells #[Value.int .u8 0] 32) 5)) = .ok (.string ⟨zero32.toArray⟩) (w.alloc (.cells (madeCells #[Value.int .u8 0] 32) 5)) :=
    TBk.conv (TBk.zeros w _) 32 32 rfl
  generalize zero32.toArray = z at *
  go_enter Try.func30, Try.ntmps30
  go_wp2
  go_ret
  exact ⟨rfl, (Below.refl _ _).alloc (Nat.le_refl _) _⟩
end Go.Proofs.Yteifmkimhjnjcaa
