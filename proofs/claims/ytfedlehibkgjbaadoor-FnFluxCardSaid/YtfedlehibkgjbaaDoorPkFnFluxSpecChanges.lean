/- spec.l02Changes, spec.ChangesOf -/
import Derived.Test.YtfedlehibkgjbaaDoorPkFnFluxB
namespace Go.Proofs.YtfedlehibkgjbaaDoor
open Go.RowKit
set_option linter.unusedVariables false
theorem timesOf_take_succ {f : Int} {zs : List Int} {k : Nat} (h : k < zs.length) : (timesOf f zs).take (k + 1) = (timesOf f zs).take k ++ [tAt f zs k] := by
  rw [List.take_add_one, timesOf_at f zs k h]; rfl
/-- What ChangesOf answers. -/
def chgVal (c f : Int) (zs : List Int) : List Int := if fluxOk c f zs = true then timesOf f zs else []
theorem chgVal_len (c f : Int) (zs : List Int) (hl : zs.length ≤ 1048576) : (chgVal c f zs).length ≤ 1048576 := by
  unfold chgVal
  split
  · rw [timesOf_length]; exact hl
  · simp
theorem last_bd {c f : Int} {zs : List Int} (hv : fluxOk c f zs = true) : f ≤ 2000000 := by
  obtain ⟨_, ⟨hn1, _⟩, hz, _, _, hf1⟩ := fluxOk_iff.1 hv
  have := bd_of_all hz (k := zs.length - 1) (x := zs[zs.length - 1]?.getD 0) (by rw [List.getElem?_eq_getElem (by omega)]; rfl)
  omega
theorem changesOf_any (c f : Int) (a : Option Addr) (cap : Nat) (zs : List Int) (hl : zs.length ≤ 1048576) (w : World) (h : SlA w a zs) :
    Calls Tryd.prog 13 #[.agg #[.int .i64 c, .int .i64 f, .slice a zs.length cap]] w (SlRes (chgVal c f zs) w) := by
  by_cases hv : fluxOk c f zs = true
  · refine (changesOf_yes c f a cap zs hl hv w h).mono ?_
    rintro e w' ⟨g, rfl, hrow, hg, hb⟩
    have e1 : chgVal c f zs = timesOf f zs := by unfold chgVal; rw [if_pos hv]
    rw [e1]
    exact ⟨_, _, by rw [timesOf_length], hrow.slO hg, hb⟩
  · have hv0 : fluxOk c f zs = false := by simpa using hv
    refine (changesOf_no c f a cap zs hl hv0 w h).mono ?_
    rintro e w' ⟨rfl, hb⟩
    have e1 : chgVal c f zs = [] := by unfold chgVal; rw [if_neg hv]
    rw [e1]
    exact ⟨_, _, rfl, .inl rfl, hb⟩
end Go.Proofs.YtfedlehibkgjbaaDoor
