/- A described sector among the arguments, opened. -/
import Derived.Test.YtffefhgemmjkoaaDoorBoxes
namespace Go.Proofs.YtffefhgemmjkoaaDoor
open Go.RowKit Go.ChangeShapes Go.WideShapes Go.ChangeAt Go.Joins Go.Deep
theorem cellsSector : Tryd.prog.cellsOf 26 = 8 := by kernel_rfl
section
variable {H : Type} {enc : TypeId × Value → H} {P : Program} {w : World} {base : Nat} {spare : Nat → Bool} {held : Bool}
theorem string_field {T : TypeId} {c : Value} {n : Nat} {y : DataW H × List MemPlace} (hT : P.underlying T = some .string) (h : DataW.trod enc P w base spare held n T [c] = some y) : ∃ x : ByteArray, c = .string x ∧ x.size ≤ maxLen := by
  obtain ⟨x, e, _, hx⟩ := DataW.trod_string hT h
  simp at e
  exact ⟨x, e, hx⟩
theorem bool_field {T : TypeId} {c : Value} {n : Nat} {y : DataW H × List MemPlace} (hT : P.underlying T = some .bool) (h : DataW.trod enc P w base spare held n T [c] = some y) : ∃ x : Bool, c = .bool x := by
  obtain ⟨x, e, _⟩ := DataW.trod_bool hT h
  simp at e
  exact ⟨x, e⟩
end
/-- The value of a described sector. -/
def secV (c h n z : Int) (d : ByteArray) (de bi bd : Bool) : Value := .agg #[.int .i64 c, .int .i64 h, .int .i64 n, .int .i64 z, .string d, .bool de, .bool bi, .bool bd]
set_option maxRecDepth 100000 in
theorem open_sector {H : Type} {enc : TypeId × Value → H} {W : World} {base : Nat} {v : Value} {d : DataW H} {p : List MemPlace}
    (hv : Value.okWide Tryd.prog W .any base 26 v) (h : DataW.Trod enc Tryd.prog W 0 (fun _ => true) true 26 v d p) :
    ∃ (c h n z : Int) (d : ByteArray) (de bi bd : Bool), v = .agg #[.int .i64 c, .int .i64 h, .int .i64 n, .int .i64 z, .string d, .bool de, .bool bi, .bool bd] ∧ d.size ≤ maxLen := by
  obtain ⟨cs, rfl, hsz, hf⟩ := open_fields Tryd.underlying26 (by kernel_rfl) cellsSector (by rfl) hv h
  obtain ⟨l⟩ := cs
  match l, hsz, hf with
  | [c0, c1, c2, c3, c4, c5, c6, c7], _, hf =>
    obtain ⟨c0', _, _, e0, t0⟩ := hf 0 _ rfl
    obtain ⟨c1', _, _, e1, t1⟩ := hf 1 _ rfl
    obtain ⟨c2', _, _, e2, t2⟩ := hf 2 _ rfl
    obtain ⟨c3', _, _, e3, t3⟩ := hf 3 _ rfl
    obtain ⟨c4', _, _, e4, t4⟩ := hf 4 _ rfl
    obtain ⟨c5', _, _, e5, t5⟩ := hf 5 _ rfl
    obtain ⟨c6', _, _, e6, t6⟩ := hf 6 _ rfl
    obtain ⟨c7', _, _, e7, t7⟩ := hf 7 _ rfl
    cases e0; cases e1; cases e2; cases e3; cases e4; cases e5; cases e6; cases e7
    obtain ⟨x0, rfl⟩ := int_field Tryd.underlying2 t0
    obtain ⟨x1, rfl⟩ := int_field Tryd.underlying2 t1
    obtain ⟨x2, rfl⟩ := int_field Tryd.underlying2 t2
    obtain ⟨x3, rfl⟩ := int_field Tryd.underlying2 t3
    obtain ⟨x4, rfl, h4⟩ := string_field Tryd.underlying9 t4
    obtain ⟨x5, rfl⟩ := bool_field Tryd.underlying4 t5
    obtain ⟨x6, rfl⟩ := bool_field Tryd.underlying4 t6
    obtain ⟨x7, rfl⟩ := bool_field Tryd.underlying4 t7
    exact ⟨x0, x1, x2, x3, x4, x5, x6, x7, rfl, h4⟩
set_option maxHeartbeats 1000000 in
theorem toSector_any (c h n z : Int) (d : ByteArray) (de bi bd : Bool) (w : World) :
    Calls Tryd.prog 14 #[secV c h n z d de bi bd] w fun e w' => e = .returned (secV c h n z d de bi bd) ∧ Below w.heap.size w w' := by
  unfold secV
  go_enter Tryd.func14, Tryd.ntmps14
  go_wp2
  refine bodyPost_ret (v := .agg #[.int .i64 c, .int .i64 h, .int .i64 n, .int .i64 z, .string d, .bool de, .bool bi, .bool bd]) (by simp [results, Tryd.results14, go_sem]) rfl ⟨rfl, ?_⟩
  go_grown
def szS (d : ByteArray) (l : Int) : Int := if l - d.size < 0 then -1 else l - d.size
set_option maxHeartbeats 1000000 in
theorem szSector_any (c h n z : Int) (d : ByteArray) (de bi bd : Bool) (l : Int) (w : World) (hd : d.size ≤ maxLen) (h0 : 0 ≤ l) (h1 : l ≤ 1048576) :
    Calls Tryd.prog 12 #[secV c h n z d de bi bd, .int .i64 l] w fun e w' => e = .returned (.int .i64 (szS d l)) ∧ Below w.heap.size w w' := by
  unfold maxLen at hd
  unfold secV szS
  by_cases hc : l - (d.size : Int) < 0
  · rw [if_pos hc]
    go_enter Tryd.func12, Tryd.ntmps12
    go_wp2
    go_ret
    exact ⟨rfl, by go_grown⟩
  · rw [if_neg hc]
    go_enter Tryd.func12, Tryd.ntmps12
    go_wp2
    go_ret
    exact ⟨rfl, by go_grown⟩
end Go.Proofs.YtffefhgemmjkoaaDoor
