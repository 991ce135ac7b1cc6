/- GF(256): pure facts. -/
import Derived.Test.YtpgcmgbflcdjiaaBase
namespace Go.Proofs.Ytpgcmgbflcdjiaa.Gf
/-- Twice an element. -/
def gdbl (a : Nat) : Nat := if 255 < a * 2 then (a * 2) ^^^ 285 else a * 2
def gm : Nat → Nat → Nat → Nat
  | 0, _, _ => 0
  | f + 1, a, b => (if b % 2 = 1 then a else 0) ^^^ gm f (gdbl a) (b / 2)
def gmul (a b : Nat) : Nat := gm 8 a b
def pw : Nat → Nat
  | 0 => 1
  | n + 1 => gdbl (pw n)
def ip (a : Nat) : Nat → Nat
  | 0 => 1
  | n + 1 => gmul (ip a n) a
theorem xlt {a b : Nat} (h1 : a < 256) (h2 : b < 256) : a ^^^ b < 256 := Nat.xor_lt_two_pow (n := 8) h1 h2
theorem gdbl_fin : ∀ a : Fin 256, gdbl a.val < 256 := by decide +kernel
theorem gdbl_lt {a : Nat} (h : a < 256) : gdbl a < 256 := gdbl_fin ⟨a, h⟩
theorem x4 (a b c d : Nat) : (a ^^^ b) ^^^ (c ^^^ d) = (a ^^^ c) ^^^ (b ^^^ d) := by
  rw [Nat.xor_assoc, Nat.xor_assoc, ← Nat.xor_assoc b, Nat.xor_comm b c, Nat.xor_assoc]
theorem gdbl_form {a : Nat} (h : a < 256) : gdbl a = (a * 2) ^^^ (a / 128 * 285) := by
  unfold gdbl
  by_cases h1 : 255 < a * 2
  · rw [if_pos h1, show a / 128 = 1 by omega]
  · rw [if_neg h1, show a / 128 = 0 by omega]; simp
theorem gdbl_xor {a b : Nat} (h1 : a < 256) (h2 : b < 256) : gdbl (a ^^^ b) = gdbl a ^^^ gdbl b := by
  rw [gdbl_form h1, gdbl_form h2, gdbl_form (xlt h1 h2)]
  have e1 : (a ^^^ b) * 2 = (a * 2) ^^^ (b * 2) := by
    have := Nat.shiftLeft_xor_distrib (a := a) (b := b) (i := 1)
    simpa [Nat.shiftLeft_eq] using this
  have e2 : (a ^^^ b) / 128 = a / 128 ^^^ b / 128 := by
    have := Nat.shiftRight_xor_distrib (a := a) (b := b) (i := 7)
    simpa [Nat.shiftRight_eq_div_pow] using this
  rw [e1, e2]
  have p : a / 128 = 0 ∨ a / 128 = 1 := by omega
  have q : b / 128 = 0 ∨ b / 128 = 1 := by omega
  rw [x4]
  congr 1
  rcases p with p | p <;> rcases q with q | q <;> rw [p, q] <;> decide
theorem gm_zero (f a : Nat) : gm f a 0 = 0 := by
  induction f generalizing a with
  | zero => rfl
  | succ f ih => simp [gm, ih]
theorem gm_lt {f a b : Nat} (h : a < 256) : gm f a b < 256 := by
  induction f generalizing a b with
  | zero => simp [gm]
  | succ f ih => unfold gm; refine xlt ?_ (ih (gdbl_lt h)); split <;> omega
theorem gmul_lt {a b : Nat} (h : a < 256) : gmul a b < 256 := gm_lt h
theorem gm_add_left {f a a' b : Nat} (h : a < 256) (h' : a' < 256) : gm f (a ^^^ a') b = gm f a b ^^^ gm f a' b := by
  induction f generalizing a a' b with
  | zero => simp [gm]
  | succ f ih =>
    unfold gm
    rw [gdbl_xor h h', ih (gdbl_lt h) (gdbl_lt h'), x4]
    congr 1
    split <;> simp
theorem xor_mod2 (a b : Nat) : (a ^^^ b) % 2 = (a % 2 + b % 2) % 2 := by
  have := Nat.xor_mod_two_pow (a := a) (b := b) (n := 1)
  rw [show 2 ^ 1 = 2 from rfl] at this
  rw [this]
  have h1 : a % 2 = 0 ∨ a % 2 = 1 := by omega
  have h2 : b % 2 = 0 ∨ b % 2 = 1 := by omega
  rcases h1 with h1 | h1 <;> rcases h2 with h2 | h2 <;> rw [h1, h2] <;> rfl
theorem gm_add_right {f a b b' : Nat} : gm f a (b ^^^ b') = gm f a b ^^^ gm f a b' := by
  induction f generalizing a b b' with
  | zero => simp [gm]
  | succ f ih =>
    unfold gm
    rw [Nat.xor_div_two, ih, x4]
    congr 1
    rw [xor_mod2]
    have h1 : b % 2 = 0 ∨ b % 2 = 1 := by omega
    have h2 : b' % 2 = 0 ∨ b' % 2 = 1 := by omega
    rcases h1 with h1 | h1 <;> rcases h2 with h2 | h2 <;> rw [h1, h2] <;> simp
theorem bits_fin : ∀ x : Fin 256, x.val = ((x.val % 2 * 1) ^^^ (x.val / 2 % 2 * 2)) ^^^ ((x.val / 4 % 2 * 4) ^^^ (x.val / 8 % 2 * 8)) ^^^ (((x.val / 16 % 2 * 16) ^^^ (x.val / 32 % 2 * 32)) ^^^ ((x.val / 64 % 2 * 64) ^^^ (x.val / 128 % 2 * 128))) := by decide +kernel
/-- Additive functions that agree at the powers of two agree. -/
theorem ext_add {F G : Nat → Nat} (hF : ∀ x y, x < 256 → y < 256 → F (x ^^^ y) = F x ^^^ F y) (hG : ∀ x y, x < 256 → y < 256 → G (x ^^^ y) = G x ^^^ G y)
    (h : F 1 = G 1 ∧ F 2 = G 2 ∧ F 4 = G 4 ∧ F 8 = G 8 ∧ F 16 = G 16 ∧ F 32 = G 32 ∧ F 64 = G 64 ∧ F 128 = G 128) (x : Nat) (hx : x < 256) : F x = G x := by
  have f0 : F 0 = 0 := by have := hF 0 0 (by omega) (by omega); rw [Nat.xor_self, Nat.xor_self] at this; exact this
  have g0 : G 0 = 0 := by have := hG 0 0 (by omega) (by omega); rw [Nat.xor_self, Nat.xor_self] at this; exact this
  have key : ∀ c p, F p = G p → F (c % 2 * p) = G (c % 2 * p) := by
    intro c p hp
    have : c % 2 = 0 ∨ c % 2 = 1 := by omega
    rcases this with e | e <;> rw [e]
    · rw [Nat.zero_mul, f0, g0]
    · rw [Nat.one_mul, hp]
  have e := bits_fin ⟨x, hx⟩
  simp only at e
  obtain ⟨h0, h1, h2, h3, h4, h5, h6, h7⟩ := h
  have b : ∀ c p, p ≤ 128 → c % 2 * p < 256 := by
    intro c p hp
    have : c % 2 = 0 ∨ c % 2 = 1 := by omega
    rcases this with e | e <;> rw [e] <;> omega
  have b0 := b x 1 (by omega)
  have b1 := b (x / 2) 2 (by omega)
  have b2 := b (x / 4) 4 (by omega)
  have b3 := b (x / 8) 8 (by omega)
  have b4 := b (x / 16) 16 (by omega)
  have b5 := b (x / 32) 32 (by omega)
  have b6 := b (x / 64) 64 (by omega)
  have b7 := b (x / 128) 128 (by omega)
  have k0 := key x 1 h0
  have k1 := key (x / 2) 2 h1
  have k2 := key (x / 4) 4 h2
  have k3 := key (x / 8) 8 h3
  have k4 := key (x / 16) 16 h4
  have k5 := key (x / 32) 32 h5
  have k6 := key (x / 64) 64 h6
  have k7 := key (x / 128) 128 h7
  rw [e]
  generalize x % 2 * 1 = y0 at *
  generalize x / 2 % 2 * 2 = y1 at *
  generalize x / 4 % 2 * 4 = y2 at *
  generalize x / 8 % 2 * 8 = y3 at *
  generalize x / 16 % 2 * 16 = y4 at *
  generalize x / 32 % 2 * 32 = y5 at *
  generalize x / 64 % 2 * 64 = y6 at *
  generalize x / 128 % 2 * 128 = y7 at *
  rw [hF _ _ (xlt (xlt b0 b1) (xlt b2 b3)) (xlt (xlt b4 b5) (xlt b6 b7)), hF _ _ (xlt b0 b1) (xlt b2 b3), hF _ _ (xlt b4 b5) (xlt b6 b7), hF _ _ b0 b1, hF _ _ b2 b3, hF _ _ b4 b5, hF _ _ b6 b7]
  rw [hG _ _ (xlt (xlt b0 b1) (xlt b2 b3)) (xlt (xlt b4 b5) (xlt b6 b7)), hG _ _ (xlt b0 b1) (xlt b2 b3), hG _ _ (xlt b4 b5) (xlt b6 b7), hG _ _ b0 b1, hG _ _ b2 b3, hG _ _ b4 b5, hG _ _ b6 b7]
  rw [k0, k1, k2, k3, k4, k5, k6, k7]
theorem gmul_zero (a : Nat) : gmul a 0 = 0 := gm_zero 8 a
theorem gmul_add {a b c : Nat} : gmul a (b ^^^ c) = gmul a b ^^^ gmul a c := gm_add_right
theorem add_gmul {a b c : Nat} (h1 : a < 256) (h2 : b < 256) : gmul (a ^^^ b) c = gmul a c ^^^ gmul b c := gm_add_left h1 h2
theorem comm_fin : ∀ i j : Fin 8, gmul (2 ^ i.val) (2 ^ j.val) = gmul (2 ^ j.val) (2 ^ i.val) := by decide +kernel
theorem gmul_comm {a b : Nat} (h1 : a < 256) (h2 : b < 256) : gmul a b = gmul b a := by
  have H : ∀ i : Fin 8, gmul a (2 ^ i.val) = gmul (2 ^ i.val) a := fun i =>
    ext_add (F := fun a => gmul a (2 ^ i.val)) (G := fun a => gmul (2 ^ i.val) a) (fun x y hx hy => add_gmul hx hy) (fun x y _ _ => gmul_add)
      ⟨comm_fin 0 i, comm_fin 1 i, comm_fin 2 i, comm_fin 3 i, comm_fin 4 i, comm_fin 5 i, comm_fin 6 i, comm_fin 7 i⟩ a h1
  exact ext_add (F := fun b => gmul a b) (G := fun b => gmul b a) (fun x y _ _ => gmul_add) (fun x y hx hy => add_gmul hx hy) ⟨H 0, H 1, H 2, H 3, H 4, H 5, H 6, H 7⟩ b h2
theorem dblm_fin : ∀ i j : Fin 8, gdbl (gmul (2 ^ i.val) (2 ^ j.val)) = gmul (2 ^ i.val) (gdbl (2 ^ j.val)) := by decide +kernel
theorem gdbl_mul {a b : Nat} (h1 : a < 256) (h2 : b < 256) : gdbl (gmul a b) = gmul a (gdbl b) := by
  have H : ∀ i : Fin 8, gdbl (gmul a (2 ^ i.val)) = gmul a (gdbl (2 ^ i.val)) := fun i =>
    ext_add (F := fun a => gdbl (gmul a (2 ^ i.val))) (G := fun a => gmul a (gdbl (2 ^ i.val))) (fun x y hx hy => by show gdbl (gmul (x ^^^ y) _) = _; rw [add_gmul hx hy, gdbl_xor (gmul_lt hx) (gmul_lt hy)]) (fun x y hx hy => add_gmul hx hy)
      ⟨dblm_fin 0 i, dblm_fin 1 i, dblm_fin 2 i, dblm_fin 3 i, dblm_fin 4 i, dblm_fin 5 i, dblm_fin 6 i, dblm_fin 7 i⟩ a h1
  exact ext_add (F := fun b => gdbl (gmul a b)) (G := fun b => gmul a (gdbl b)) (fun x y hx hy => by show gdbl (gmul a (x ^^^ y)) = _; rw [gmul_add, gdbl_xor (gmul_lt h1) (gmul_lt h1)]) (fun x y hx hy => by show gmul a (gdbl (x ^^^ y)) = _; rw [gdbl_xor hx hy, gmul_add]) ⟨H 0, H 1, H 2, H 3, H 4, H 5, H 6, H 7⟩ b h2
theorem gm_assoc {f a b c : Nat} (h1 : a < 256) (h2 : b < 256) : gm f (gmul a b) c = gmul a (gm f b c) := by
  induction f generalizing b c with
  | zero => simp [gm, gmul_zero]
  | succ f ih =>
    unfold gm
    rw [gdbl_mul h1 h2, ih (gdbl_lt h2), gmul_add]
    congr 1
    split
    · rfl
    · rw [gmul_zero]
theorem gmul_assoc {a b c : Nat} (h1 : a < 256) (h2 : b < 256) : gmul (gmul a b) c = gmul a (gmul b c) := gm_assoc h1 h2
theorem one_fin : ∀ a : Fin 256, gmul a.val 1 = a.val ∧ gmul 1 a.val = a.val ∧ gmul a.val 2 = gdbl a.val ∧ gmul 0 a.val = 0 := by decide +kernel
theorem gmul_one {a : Nat} (h : a < 256) : gmul a 1 = a := (one_fin ⟨a, h⟩).1
theorem one_gmul {a : Nat} (h : a < 256) : gmul 1 a = a := (one_fin ⟨a, h⟩).2.1
theorem gmul_two {a : Nat} (h : a < 256) : gmul a 2 = gdbl a := (one_fin ⟨a, h⟩).2.2.1
theorem zero_gmul {a : Nat} (h : a < 256) : gmul 0 a = 0 := (one_fin ⟨a, h⟩).2.2.2
theorem pw_lt (n : Nat) : pw n < 256 := by
  induction n with
  | zero => decide
  | succ n ih => exact gdbl_lt ih
theorem pw_add (m n : Nat) : pw (m + n) = gmul (pw m) (pw n) := by
  induction n with
  | zero => exact (gmul_one (pw_lt m)).symm
  | succ n ih => show gdbl (pw (m + n)) = gmul (pw m) (gdbl (pw n)); rw [ih, gdbl_mul (pw_lt m) (pw_lt n)]
theorem pw_255 : pw 255 = 1 := by decide +kernel
theorem pw_period (n : Nat) : pw (n + 255) = pw n := by rw [pw_add, pw_255, gmul_one (pw_lt n)]
theorem pw_mul (n k : Nat) : pw (n + 255 * k) = pw n := by
  induction k with
  | zero => rfl
  | succ k ih => rw [show n + 255 * (k + 1) = (n + 255 * k) + 255 by omega, pw_period, ih]
theorem pw_mod (n : Nat) : pw (n % 255) = pw n := by
  have h := pw_mul (n % 255) (n / 255)
  rw [Nat.mod_add_div] at h; exact h.symm
def pwL : Nat → Nat → List Nat
  | 0, _ => []
  | n + 1, x => x :: pwL n (gdbl x)
theorem pwL_get : ∀ (n : Nat) (m k : Nat), k < n → (pwL n (pw m))[k]? = some (pw (m + k))
  | 0, _, _, h => by omega
  | n + 1, m, 0, _ => rfl
  | n + 1, m, k + 1, h => by
    have := pwL_get n (m + 1) k (by omega)
    show (pwL n (pw (m + 1)))[k]? = _
    rw [this]; congr 2; omega
theorem pwL_one : (pwL 255 1).idxOf 1 = 0 ∧ (pwL 254 2).all (fun x => x != 1) = true := by decide +kernel
theorem pw_ne_one {n : Nat} (h0 : 0 < n) (h : n < 255) : pw n ≠ 1 := by
  have h1 := pwL_get 254 1 (n - 1) (by omega)
  have h2 := pwL_one.2
  rw [List.all_eq_true] at h2
  have h3 := h2 (pw n) (by
    have := List.mem_of_getElem? h1
    rw [show 1 + (n - 1) = n by omega] at this
    exact this)
  simpa using h3
theorem ip_lt {a : Nat} (n : Nat) : ip a n < 256 := by
  induction n with
  | zero => exact (by decide : (1 : Nat) < 256)
  | succ n ih => exact gmul_lt ih
def pws : List Nat := [1, 2, 4, 8, 16, 32, 64, 128, 29, 58, 116, 232, 205, 135, 19, 38, 76, 152, 45, 90, 180, 117, 234, 201, 143, 3, 6, 12, 24, 48, 96, 192, 157, 39, 78, 156, 37, 74, 148, 53, 106, 212, 181, 119, 238, 193, 159, 35, 70, 140, 5, 10, 20, 40, 80, 160, 93, 186, 105, 210, 185, 111, 222, 161, 95, 190, 97, 194, 153, 47, 94, 188, 101, 202, 137, 15, 30, 60, 120, 240, 253, 231, 211, 187, 107, 214, 177, 127, 254, 225, 223, 163, 91, 182, 113, 226, 217, 175, 67, 134, 17, 34, 68, 136, 13, 26, 52, 104, 208, 189, 103, 206, 129, 31, 62, 124, 248, 237, 199, 147, 59, 118, 236, 197, 151, 51, 102, 204, 133, 23, 46, 92, 184, 109, 218, 169, 79, 158, 33, 66, 132, 21, 42, 84, 168, 77, 154, 41, 82, 164, 85, 170, 73, 146, 57, 114, 228, 213, 183, 115, 230, 209, 191, 99, 198, 145, 63, 126, 252, 229, 215, 179, 123, 246, 241, 255, 227, 219, 171, 75, 150, 49, 98, 196, 149, 55, 110, 220, 165, 87, 174, 65, 130, 25, 50, 100, 200, 141, 7, 14, 28, 56, 112, 224, 221, 167, 83, 166, 81, 162, 89, 178, 121, 242, 249, 239, 195, 155, 43, 86, 172, 69, 138, 9, 18, 36, 72, 144, 61, 122, 244, 245, 247, 243, 251, 235, 203, 139, 11, 22, 44, 88, 176, 125, 250, 233, 207, 131, 27, 54, 108, 216, 173, 71, 142]
theorem pws_eq : pwL 255 1 = pws := by decide +kernel
theorem pws_all : ∀ a : Fin 256, a.val = 0 ∨ pws.contains a.val = true := by decide +kernel
theorem is_pw {a : Nat} (h : a < 256) (h0 : a ≠ 0) : ∃ k, pw k = a := by
  have h1 := (pws_all ⟨a, h⟩).resolve_left h0
  rw [← pws_eq] at h1
  have h2 : a ∈ pwL 255 1 := by simpa using h1
  obtain ⟨k, hk, e⟩ := List.getElem_of_mem h2
  have hl : ∀ n x, (pwL n x).length = n := by
    intro n
    induction n with
    | zero => intro x; rfl
    | succ n ih => intro x; show _ + 1 = _; rw [ih]
  rw [hl] at hk
  have h3 := pwL_get 255 0 k hk
  have h4 : (pwL 255 1)[k]? = some a := by rw [← e]; simp
  refine ⟨k, ?_⟩
  rw [show pw 0 = 1 from rfl, Nat.zero_add, h4] at h3
  exact (Option.some.inj h3).symm
theorem ip_pw (k n : Nat) : ip (pw k) n = pw (k * n) := by
  induction n with
  | zero => rfl
  | succ n ih => show gmul (ip (pw k) n) (pw k) = _; rw [ih, ← pw_add]; rfl
theorem inv_fin {a : Nat} (h : a < 256) (h0 : a ≠ 0) : gmul a (ip a 254) = 1 := by
  obtain ⟨k, rfl⟩ := is_pw h h0
  rw [ip_pw, ← pw_add, show k + k * 254 = 0 + 255 * k by omega, pw_mul]; rfl
/-- The inverse. -/
def ginv (a : Nat) : Nat := ip a 254
theorem ginv_lt {a : Nat} (_h : a < 256) : ginv a < 256 := ip_lt _
theorem gmul_inv {a : Nat} (h : a < 256) (h0 : a ≠ 0) : gmul a (ginv a) = 1 := inv_fin h h0
theorem ginv_of {a x : Nat} (h : a < 256) (hx : x < 256) (e : gmul a x = 1) : x = ginv a := by
  have h0 : a ≠ 0 := by
    intro h0; rw [h0, zero_gmul hx] at e; omega
  have hi := ginv_lt h
  have e1 := gmul_inv h h0
  have e2 : gmul (gmul (ginv a) a) x = gmul (ginv a) (gmul a x) := gmul_assoc hi h
  rw [e, gmul_one hi, gmul_comm hi h, e1, one_gmul hx] at e2
  exact e2
theorem ginv_pos {a : Nat} (h : a < 256) (h0 : a ≠ 0) : 1 ≤ ginv a := by
  have := gmul_inv h h0
  rcases Nat.eq_zero_or_pos (ginv a) with e | e
  · rw [e, gmul_zero] at this; omega
  · exact e
theorem ip_zero_fin : ip 0 254 = 0 := by decide +kernel
theorem pw_ne_zero (n : Nat) : pw n ≠ 0 := by
  intro h
  have h1 := pw_mod n
  have h2 : pw (n % 255 + (255 - n % 255)) = 1 := by rw [show n % 255 + (255 - n % 255) = 255 by omega, pw_255]
  rw [pw_add, h1, h, zero_gmul (pw_lt _)] at h2
  omega
theorem xor_eq_zero {a b : Nat} (h : a ^^^ b = 0) : a = b := by
  have : (a ^^^ b) ^^^ b = b := by rw [h, Nat.zero_xor]
  rw [Nat.xor_assoc, Nat.xor_self, Nat.xor_zero] at this; exact this
theorem pw_ne {i j : Nat} (h : i < j) (hj : j < 255) : pw i ≠ pw j := by
  intro e
  have h1 : pw j = gmul (pw i) (pw (j - i)) := by rw [← pw_add]; congr 1; omega
  have h2 := gmul_inv (pw_lt i) (pw_ne_zero i)
  have h3 : gmul (ginv (pw i)) (pw j) = pw (j - i) := by
    rw [h1, ← gmul_assoc (ginv_lt (pw_lt i)) (pw_lt i), gmul_comm (ginv_lt (pw_lt i)) (pw_lt i), h2, one_gmul (pw_lt _)]
  rw [← e, gmul_comm (ginv_lt (pw_lt i)) (pw_lt i), h2] at h3
  exact pw_ne_one (by omega) (by omega) h3.symm
end Go.Proofs.Ytpgcmgbflcdjiaa.Gf
