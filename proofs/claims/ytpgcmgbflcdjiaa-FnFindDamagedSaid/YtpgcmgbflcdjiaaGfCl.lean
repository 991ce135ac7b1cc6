/- slices.Clone over bytes; slices.Backward. -/
import Derived.Test.YtpgcmgbflcdjiaaGfRow
import Derived.Test.YtpgcmgbflcdjiaaGfBk
namespace Go.Proofs.Ytpgcmgbflcdjiaa
open Go.RowKit
open Go.Shelf
set_option linter.unusedVariables false
set_option maxRecDepth 20000
theorem gfNilB (a : Addr) (n c : Nat) (w : World) : (binOp .eql 26 (.slice (some a) n c) (.slice none 0 0)).run Try.prog w = .ok (.bool false) w := by
  have h := run_equal_slice_nil (P := Try.prog) w 26 5 (some a) n c Try.underlying26
  simp only [binOp, Sem.run_bind, h, Result.andThen_ok, Sem.run_pure]
  rfl
theorem OwnB.empty (w : World) (B : Nat) (hB : B ≤ w.heap.size) : OwnB (w.alloc (.cells #[] 5)) B (.slice (some ⟨w.heap.size, 0, none⟩) 0 0) [] := OwnB.nil w B hB
theorem OwnB.tbk {w : World} {B g n cap : Nat} {l : List UInt8} (h : OwnB w B (.slice (some ⟨g, 0, none⟩) n cap) l) : TBk w g l ∧ B ≤ g := by
  obtain ⟨h1, h2⟩ := h
  rcases h2 with ⟨h, hl⟩ | ⟨g', cap', cur, hv, hg, hh, hn, hm, hs, ht⟩
  · cases h
  · cases hv
    refine ⟨?_, hg⟩
    intro i hi
    have hc : cur[i]? = some (.int .u8 (l[i].toNat : Int)) := by
      have h3 : (cur.toList.take (l.length * 1))[i]? = (Lib.byteCells l)[i]? := by rw [ht]
      rw [List.getElem?_take_of_lt (by omega)] at h3
      simpa [Lib.byteCells, hi] using h3
    refine ⟨by simp [World.cell?, hh, hc], by simp [World.frozen?, hh]⟩
set_option maxHeartbeats 4000000 in
theorem cloneB_any (b c : Nat) (l : List UInt8) (n : Nat) (w : World) (hl : l.length = n) (t : TBk w b l) (h1 : 1 ≤ n) (h64 : n ≤ 64) :
    Calls Try.prog 54 #[.slice (some ⟨b, 0, none⟩) n c] w fun e w' => ∃ g cap, e = .returned (.slice (some ⟨g, 0, none⟩) n cap) ∧ TBk w' g l ∧ w.heap.size ≤ g ∧ Below w.heap.size w w' := by
  obtain ⟨i0, hi, hz0, hz1, hz2⟩ := info_parts u8info
  have hbl := t.lt (by omega)
  have hcl := Lib.byteCells_length l
  have HCE := Lib.hid (show ∀ w', Below w.heap.size w w' → ∀ (j : Nat) (u : Value), (Lib.byteCells l)[j]? = some u → w'.cell? ⟨b, j, none⟩ = some u from fun w' hb j u hu => by
    have hj : j < l.length := by
      have := (List.getElem?_eq_some_iff.1 hu).1
      rw [Lib.byteCells_length] at this; exact this
    have h := ((t.below hb hbl) j hj).1
    rw [h, ← hu]
    simp [Lib.byteCells, hj])
  have HI := Lib.hid (And.intro hi (And.intro hz0 (And.intro hz1 hz2))); clear hi hz0 hz1 hz2
  have hnil := gfNilB ⟨b, 0, none⟩ n c
  have HL := Lib.hid hl
  have HCL := Lib.hid hcl
  clear t hl hcl
  go_enter Try.func54, Try.ntmps54
  go_wp2_with (at_builtin; go_must (refine wpList_append_lies _ rfl _ _ 26 rfl w.heap.size 5 i0 (.int .u8 0) 1 1 Try.underlying26 HI.out.1 HI.out.2.1 HI.out.2.2.1 HI.out.2.2.2 rfl (by decide) _ 0 [] rfl (OwnB.empty w w.heap.size (Nat.le_refl _)) ⟨b, 0, none⟩ n c (Lib.byteCells l) rfl ?c1 ?c2 ?c3 ?c4 ?c5 ?c6 ?c7 _ rfl ?_))
  case c1 => rw [HCL.out, HL.out]; simp
  case c2 => exact fun j u hu => by rw [add0]; exact HCE.out _ ((Below.refl _ _).alloc (Nat.le_refl _) _) j u hu
  case c3 => exact Lib.byteCells_one l
  case c4 => omega
  case c5 => unfold maxLen; omega
  case c6 => omega
  case c7 => simp
  intro g cap w3 hown hgrow hg hgl
  try simp only [Nat.zero_add]
  have hb3 : Below w.heap.size w w3 := Below.trans ((Below.refl _ _).alloc (Nat.le_refl _) _) (below_of_grown (OwnB.empty w w.heap.size (Nat.le_refl _)) (by simp) hgrow)
  have HO := Lib.hid (show TBk w3 g l ∧ w.heap.size ≤ g from by
    have h1 : OwnB w3 w.heap.size (.slice (some ⟨g, 0, none⟩) n cap) l := by unfold OwnB; rw [HL.out]; simpa using hown
    exact h1.tbk)
  clear hown hgrow hg
  go_wp2
  go_ret
  exact ⟨g, cap, rfl, HO.out.1, HO.out.2, hb3⟩
theorem back_stops (n Bs b off cap N : Nat) (es : List StringV) (hN : N = es.length) (h1 : 1 ≤ N) (h2 : N ≤ 128) (w : World) (hB0 : Boxed w Bs 33 (.slice (some ⟨b, off, none⟩) N cap)) (hb : b < w.heap.size) (hC : ∀ k e, es[k]? = some e → w.cell? ⟨b, off + k, none⟩ = some (.string e.f0)) :
    SeqStopsK Fence.wide n Try.prog 63 #[.pointer (some ⟨Bs, 0, none⟩)] (bkEnc es (N := N)) (KBb Bs b) (fun ys => ys = rndsB N N)
      (fun pre => ∃ k, k ≤ N ∧ pre = rndsB N k) N w := fun l J Jx W hW hJ _ hY h0 =>
  back1_in n l Bs b off cap N es hN h1 h2 J Jx hY W (by unfold Boxed at *; rw [hW.block Bs (Array.getElem?_eq_some_iff.1 hB0).1]; exact hB0) (fun k e he => by rw [← hC k e he]; exact World.cell?_of_block (a := ⟨b, off + k, none⟩) (hW.block b hb)) h0
theorem kbb_obj {Bs b : Nat} {w : World} (h1 : Bs < w.heap.size) (h2 : b < w.heap.size) (W : World) (l : Nat) (o o' : Obj) (hl : w.heap.size ≤ l) (_ : W.heap[l]? = some o) (_ : o.isCells = false) (_ : o.isWalk = false) : KBb Bs b W (W.putObj l o') :=
  ⟨(grownBy_putObj' W l o').block Bs (by rename_i h _ _; have := (Array.getElem?_eq_some_iff.1 h).1; omega) (by simp; omega), (grownBy_putObj' W l o').block b (by rename_i h _ _; have := (Array.getElem?_eq_some_iff.1 h).1; omega) (by simp; omega)⟩
theorem back_in (n : Nat) (a : Option Addr) (len cap : Nat) (w : World) :
    CallsIn Fence.wide n Try.prog 55 #[.slice a len cap] w fun e w' => e = .returned (.func (.func 63) #[] #[.pointer (some ⟨w.heap.size, 0, none⟩)]) ∧ w' = w.alloc (.cells #[.slice a len cap] 33) := by
  refine callsIn_of_wp Try.func55 rfl trivial ?_ rfl
  simp only [Try.ntmps55, List.size_toArray, List.length_cons, List.length_nil, Nat.reduceAdd, Nat.reduceSub, Array.replicate_succ, Array.replicate_zero, List.push_toArray, List.append_toArray, List.nil_append, List.cons_append]
  gi_wp2
  go_ret
  exact ⟨rfl, rfl⟩
end Go.Proofs.Ytpgcmgbflcdjiaa
