/- A string in which runs are replaced. -/
import Derived.Test.YtpdodpnhohmjaaaGreatDoorPkGoneBlocksRecDelta
import Derived.Test.YtpdodpnhohmjaaaGreatDoorPkGoneBlocksE
import Derived.Test.YtpdodpnhohmjaaaGreatDoorPkGoneBlocksA
import Derived.Lib.LazyBuf
namespace Go.Proofs.YtpdodpnhohmjaaaGreatDoor
open Go.RowKit
set_option maxRecDepth 20000
set_option linter.unusedVariables false
set_option linter.unusedSimpArgs false
set_option maxRecDepth 20000
def apStep (s : ByteArray) (st : List UInt8 × Nat) (e : DeltaV) : List UInt8 × Nat := (st.1 ++ (s.data.toList.drop st.2).take (e.f0.toNat - st.2) ++ e.f1.data.toList, e.f0.toNat + e.f1.size)
def apOk (s : ByteArray) (a : Nat) (e : DeltaV) : Bool := decide (e.f1.size ≠ 0) && inB (a : Int) ((s.size : Int) - (e.f1.size : Int)) e.f0
/-- What stands before the end of the k-th run, and this end. -/
def apSt (s : ByteArray) (es : List DeltaV) : Nat → List UInt8 × Nat
  | 0 => ([], 0)
  | k + 1 => match es[k]? with
    | none => apSt s es k
    | some e => apStep s (apSt s es k) e
def apGood (s : ByteArray) (es : List DeltaV) : Nat → Bool
  | 0 => true
  | k + 1 => apGood s es k && (match es[k]? with
    | none => true
    | some e => apOk s (apSt s es k).2 e)
theorem apSt_succ {s : ByteArray} {es : List DeltaV} {k : Nat} {e : DeltaV} (h : es[k]? = some e) : apSt s es (k + 1) = apStep s (apSt s es k) e := by rw [apSt, h]
theorem apGood_succ {s : ByteArray} {es : List DeltaV} {k : Nat} {e : DeltaV} (h : es[k]? = some e) : apGood s es (k + 1) = (apGood s es k && apOk s (apSt s es k).2 e) := by rw [apGood, h]
theorem apOk_iff {s : ByteArray} {a : Nat} {e : DeltaV} : apOk s a e = true ↔ e.f1.size ≠ 0 ∧ inB (a : Int) ((s.size : Int) - (e.f1.size : Int)) e.f0 = true := by unfold apOk; simp
theorem apSt_bd {s : ByteArray} {es : List DeltaV} : ∀ k, k ≤ es.length → apGood s es k = true → (apSt s es k).2 ≤ s.size ∧ (apSt s es k).1.length = (apSt s es k).2
  | 0, _, _ => ⟨Nat.zero_le _, rfl⟩
  | k + 1, hk, h => by
    have hx : es[k]? = some es[k] := by simp
    rw [apGood_succ hx, Bool.and_eq_true] at h
    obtain ⟨h1, h2⟩ := apSt_bd k (by omega) h.1
    obtain ⟨h3, h4⟩ := apOk_iff.1 h.2
    obtain ⟨h5, h6⟩ := inB_iff.1 h4
    rw [apSt_succ hx]
    have hs : s.data.toList.length = s.size := by simp
    have ht : es[k].f1.data.toList.length = es[k].f1.size := by simp
    refine ⟨by unfold apStep; dsimp only; omega, ?_⟩
    unfold apStep
    simp only [List.length_append, List.length_take, List.length_drop, hs, ht, h2]
    omega
theorem apGood_mono {s : ByteArray} {es : List DeltaV} {k m : Nat} (hkm : k ≤ m) (h : apGood s es k = false) : apGood s es m = false := by
  induction m with
  | zero => obtain rfl : k = 0 := by omega
            exact h
  | succ m ih =>
    by_cases e : k = m + 1
    · rw [← e]; exact h
    · rw [apGood, ih (by omega)]; rfl
def apB (s : ByteArray) (es : List DeltaV) : Bool := decide (s.size ≤ 4096) && apGood s es es.length
def apV (s : ByteArray) (es : List DeltaV) : ByteArray := if apB s es = true then ⟨((apSt s es es.length).1 ++ s.data.toList.drop (apSt s es es.length).2).toArray⟩ else ByteArray.empty
theorem apB_bad {s : ByteArray} {es : List DeltaV} {k : Nat} (hk : k ≤ es.length) (h : apGood s es k = false) : apB s es = false := by unfold apB; rw [apGood_mono hk h]; simp
/-- What the bytes are with the run in its place. -/
theorem ap_set {s : ByteArray} {P : List UInt8} {a x : Nat} {t : List UInt8} (hP : P.length = a) (h1 : a ≤ x) (h2 : x + t.length ≤ s.size) :
    (P ++ s.data.toList.drop a).take x ++ t ++ (P ++ s.data.toList.drop a).drop (x + t.length) = (P ++ (s.data.toList.drop a).take (x - a) ++ t) ++ s.data.toList.drop (x + t.length) := by
  have e1 : (P ++ s.data.toList.drop a).take x = P ++ (s.data.toList.drop a).take (x - a) := by rw [List.take_append, List.take_of_length_le (by omega), hP]
  have e2 : (P ++ s.data.toList.drop a).drop (x + t.length) = s.data.toList.drop (x + t.length) := by
    rw [List.drop_append, List.drop_of_length_le (by omega), List.nil_append, List.drop_drop, hP]
    congr 1
    omega
  rw [e1, e2]
theorem RowB.setCells {T : TypeId} {fr : Nat × Nat} {cap b : Nat} : ∀ (t : List UInt8) (off : Nat) (C : Array Value) (l : List UInt8) (w : World), RowB C l cap → w.heap[b]? = some (.cells C T fr) → off + t.length ≤ l.length →
    ∃ C', (w.setCells b off (t.map fun x => Value.int .u8 (x.toNat : Int))).heap[b]? = some (.cells C' T fr) ∧ RowB C' (l.take off ++ t ++ l.drop (off + t.length)) cap
  | [], off, C, l, w, h, hC, ho => ⟨C, hC, by simpa using h⟩
  | x :: r, off, C, l, w, h, hC, ho => by
    have hk : off < l.length := by simp at ho; omega
    have h1 := h.set off x hk
    have hC1 : (w.setCell ⟨b, off, none⟩ (.int .u8 (x.toNat : Int))).heap[b]? = some (.cells (C.setIfInBounds off (.int .u8 (x.toNat : Int))) T fr) := heap_set_marked w b off C _ _ _ hC
    obtain ⟨C', h2, h3⟩ := RowB.setCells r (off + 1) _ _ _ h1 hC1 (by simp at ho ⊢; omega)
    refine ⟨C', h2, ?_⟩
    have e : (l.set off x).take (off + 1) ++ r ++ (l.set off x).drop (off + 1 + r.length) = l.take off ++ (x :: r) ++ l.drop (off + (x :: r).length) := by
      rw [List.take_add_one, List.take_set_of_le (Nat.le_refl _), List.getElem?_set_self hk, List.drop_set_of_lt (by omega)]
      simp only [Option.toList_some, List.length_cons, List.append_assoc, List.singleton_append, List.cons_append, List.nil_append]
      rw [show off + 1 + r.length = off + (r.length + 1) by omega]
    rw [← e]
    exact h3
end Go.Proofs.YtpdodpnhohmjaaaGreatDoor
