/- Parity blocks: pure facts. -/
import Derived.Test.YtpgcmgbflcdjiaaGfPo
import Derived.Test.YtpgcmgbflcdjiaaGfUw
namespace Go.Proofs.Ytpgcmgbflcdjiaa
open Go.RowKit
open Gf
set_option linter.unusedVariables false
set_option maxRecDepth 20000
def zrs (n : Nat) : List UInt8 := List.replicate n 0
theorem zrs_len (n : Nat) : (zrs n).length = n := by simp [zrs]
def hP (n : Nat) (ds : List (List UInt8)) : List UInt8 := ds.foldr (fun d p => xL p d) (zrs n)
def hQ (n : Nat) (ds : List (List UInt8)) : List UInt8 := ds.foldr (fun d q => xL (mL 2 q) d) (zrs n)
theorem hP_cons (n : Nat) (d : List UInt8) (ds : List (List UInt8)) : hP n (d :: ds) = xL (hP n ds) d := rfl
theorem hQ_cons (n : Nat) (d : List UInt8) (ds : List (List UInt8)) : hQ n (d :: ds) = xL (mL 2 (hQ n ds)) d := rfl
theorem hP_len {n : Nat} {ds : List (List UInt8)} (h : ∀ d ∈ ds, d.length = n) : (hP n ds).length = n := by
  induction ds with
  | nil => exact zrs_len n
  | cons d ds ih => rw [hP_cons]; exact xL_len (ih (fun x hx => h x (List.mem_cons_of_mem _ hx))) (h d (by simp))
theorem hQ_len {n : Nat} {ds : List (List UInt8)} (h : ∀ d ∈ ds, d.length = n) : (hQ n ds).length = n := by
  induction ds with
  | nil => exact zrs_len n
  | cons d ds ih => rw [hQ_cons]; exact xL_len (mL_len 2 (ih (fun x hx => h x (List.mem_cons_of_mem _ hx)))) (h d (by simp))
theorem xL_comm : ∀ (a b : List UInt8), xL a b = xL b a
  | [], [] => rfl
  | [], _ :: _ => rfl
  | _ :: _, [] => rfl
  | x :: a, y :: b => by
    have ih := xL_comm a b
    unfold xL at *
    simp only [List.zipWith_cons_cons]
    rw [ih, UInt8.xor_comm]
theorem xL_right (a b c : List UInt8) : xL (xL a b) c = xL (xL a c) b := by rw [xL_assoc, xL_comm b c, ← xL_assoc]
theorem zrs_xL : ∀ (n : Nat) (d : List UInt8), d.length = n → xL (zrs n) d = d
  | 0, [], _ => rfl
  | n + 1, x :: d, h => by
    have ih := zrs_xL n d (by simpa using h)
    unfold xL zrs at *
    rw [List.replicate_succ, List.zipWith_cons_cons, ih]
    simp
  | 0, x :: d, h => by simp at h
  | n + 1, [], h => by simp at h
theorem xL_zrs {n : Nat} {d : List UInt8} (h : d.length = n) : xL d (zrs n) = d := by rw [xL_comm, zrs_xL n d h]
theorem gU_zero (k : Nat) (hk : k < 256) : gU k 0 = 0 := by
  apply UInt8.toNat_inj.1
  rw [gU_nat]; exact zero_gmul hk
theorem mL_zrs (k n : Nat) (hk : k < 256) : mL k (zrs n) = zrs n := by unfold mL zrs; rw [List.map_replicate, gU_zero k hk]
theorem mL_mL {k j : Nat} (hj : j < 256) (l : List UInt8) : mL k (mL j l) = mL (gmul j k) l := by
  unfold mL
  rw [List.map_map]
  apply List.map_congr_left
  intro c _
  apply UInt8.toNat_inj.1
  show (gU k (gU j c)).toNat = _
  rw [gU_nat, gU_nat, gU_nat, gmul_assoc c.toNat_lt hj]
theorem mL_pw2 (k : Nat) (l : List UInt8) : mL 2 (mL (pw k) l) = mL (pw (k + 1)) l := by
  rw [mL_mL (pw_lt k), gmul_two (pw_lt k)]; rfl
theorem hP_snoc {n : Nat} (d : List UInt8) (hd : d.length = n) : ∀ (ds : List (List UInt8)), hP n (ds ++ [d]) = xL (hP n ds) d
  | [] => rfl
  | c :: ds => by rw [List.cons_append, hP_cons, hP_cons, hP_snoc d hd ds, xL_right]
theorem hQ_snoc {n : Nat} (d : List UInt8) (hd : d.length = n) : ∀ (ds : List (List UInt8)), hQ n (ds ++ [d]) = xL (hQ n ds) (mL (pw ds.length) d)
  | [] => by
    show xL (mL 2 (zrs n)) d = xL (zrs n) (mL 1 d)
    rw [mL_zrs 2 n (by omega), mL_one]
  | c :: ds => by
    rw [List.cons_append, hQ_cons, hQ_cons, hQ_snoc d hd ds, mL_xL, mL_pw2, xL_right]; rfl
/-- The bytes of all blocks. -/
def dsOf (es : List StringV) : List (List UInt8) := es.map (fun e => e.f0.data.toList)
theorem dsOf_len {es : List StringV} {n : Nat} (h : ∀ e ∈ es, e.f0.size = n) : ∀ d ∈ dsOf es, d.length = n := by
  intro d hd
  obtain ⟨e, he, rfl⟩ := List.mem_map.1 hd
  exact str_len e.f0 n (h e he)
theorem bk_all (es : List StringV) (N : Nat) (hN : N = es.length) : (List.finRange N).map (fun x => (bkS es x).data.toList) = (dsOf es).reverse := by
  subst hN
  unfold dsOf
  apply List.ext_getElem
  · simp
  · intro i h1 h2
    simp only [List.length_map, List.length_finRange] at h1
    simp only [List.getElem_map, List.getElem_finRange, List.getElem_reverse, List.length_map]
    unfold bkS
    simp only [Fin.val_cast]
    have h3 : es.length - 1 - i < es.length := by omega
    simp [List.getD, h3]
theorem pP_all (es : List StringV) (n N : Nat) (hN : N = es.length) : pP es n (rndsB N N) = hP n (dsOf es) := by
  unfold pP hP
  rw [rndsB_all, ← List.foldl_map (f := fun x => (bkS es x).data.toList) (g := fun p d => xL p d), bk_all es N hN, List.foldl_reverse]; rfl
theorem pQ_all (es : List StringV) (n N : Nat) (hN : N = es.length) : pQ es n (rndsB N N) = hQ n (dsOf es) := by
  unfold pQ hQ
  rw [rndsB_all, ← List.foldl_map (f := fun x => (bkS es x).data.toList) (g := fun q d => xL (mL 2 q) d), bk_all es N hN, List.foldl_reverse]; rfl
/-- Blocks are a group. -/
def pgB (es : List StringV) : Bool := inB 1 128 (es.length : Nat) && psB es
def parS (f : Nat → List (List UInt8) → List UInt8) (es : List StringV) : ByteArray := if pgB es then ⟨(f (len0 es) (dsOf es)).toArray⟩ else ⟨#[]⟩
def parC (es : List StringV) : Int := if pgB es then 0 else 1
theorem pgB_facts {es : List StringV} (h : pgB es = true) : 1 ≤ es.length ∧ es.length ≤ 128 ∧ 1 ≤ len0 es ∧ len0 es ≤ 64 ∧ ∀ e ∈ es, e.f0.size = len0 es := by
  unfold pgB psB allLen at h
  simp only [Bool.and_eq_true, List.all_eq_true, decide_eq_true_eq] at h
  obtain ⟨h1, _, h2, h3⟩ := h
  rw [inB_iff] at h1 h3
  exact ⟨by omega, by omega, by omega, by omega, h2⟩
theorem parityOf_any (a : Option Addr) (c : Nat) (es : List StringV) (w : World) (hg : pgB es = true) (h : SlS rowString w a es) :
    Calls Try.prog 47 #[.slice a es.length c] w fun e w' => e = .returned (.tuple #[.string (parS hP es), .string (parS hQ es)]) ∧ Below w.heap.size w w' := by
  obtain ⟨h1, h2, h3, h4, h5⟩ := pgB_facts hg
  have := parityOf_o a c (len0 es) es.length es w rfl h1 h2 h3 h4 h5 h
  rw [pP_all es _ _ rfl, pQ_all es _ _ rfl] at this
  unfold parS
  rw [if_pos hg, if_pos hg]
  exact this
end Go.Proofs.Ytpgcmgbflcdjiaa
