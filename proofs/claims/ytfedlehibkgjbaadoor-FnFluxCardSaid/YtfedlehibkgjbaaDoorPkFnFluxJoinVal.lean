/- Texts with blanks between words: split and join; decimal numbers read and written, in pure words. -/
import Derived.Test.YtfedlehibkgjbaaDoorPkFnFluxC
import Derived.Test.YtfedlehibkgjbaaDoorPkFnFluxD
import Derived.Test.YtfedlehibkgjbaaDoorPkFnFluxTimesText
namespace Go.Proofs.YtfedlehibkgjbaaDoor
open Go.RowKit
set_option linter.unusedVariables false
set_option linter.unusedSimpArgs false
/-- The first word gets more bytes in front. -/
def rfApp (x : List UInt8) : List (List UInt8) → List (List UInt8)
  | [] => [x]
  | w :: ws => (x ++ w) :: ws
def rfSplit (b : Nat) : List UInt8 → List (List UInt8)
  | [] => [[]]
  | c :: r => if c.toNat = b then [] :: rfSplit b r else rfApp [c] (rfSplit b r)
theorem rfSplit_ne (b : Nat) (l : List UInt8) : rfSplit b l ≠ [] := by
  cases l with
  | nil => simp [rfSplit]
  | cons c r =>
    rw [rfSplit]
    split
    · simp
    · cases h : rfSplit b r <;> simp [rfApp]
theorem rfApp_app {x y : List UInt8} {ws : List (List UInt8)} (h : ws ≠ []) : rfApp x (rfApp y ws) = rfApp (x ++ y) ws := by
  cases ws with
  | nil => exact absurd rfl h
  | cons w ws => simp [rfApp]
theorem rfApp_nil {ws : List (List UInt8)} (h : ws ≠ []) : rfApp [] ws = ws := by
  cases ws with
  | nil => exact absurd rfl h
  | cons w ws => simp [rfApp]
theorem rf_cut (s : ByteArray) (a b : Nat) : (s.extract a b).data.toList = (s.data.toList.drop a).take (b - a) := by
  rw [ByteArray.data_extract, Array.toList_extract]
  first | done | rfl
theorem rf_words (s : ByteArray) (b : Nat) : ∀ k, k ≤ s.size → rfSplit b s.data.toList = ((spl s b k).1.map fun w => w.f0.data.toList) ++ rfApp ((s.data.toList.drop (spl s b k).2).take (k - (spl s b k).2)) (rfSplit b (s.data.toList.drop k)) := by
  intro k
  induction k with
  | zero => intro _; rw [spl]; simp [rfApp_nil (rfSplit_ne _ _)]
  | succ k ih =>
    intro hk
    have hk' : k < s.size := hk
    have ihk := ih (by omega)
    obtain ⟨hf, _⟩ := spl_bd s b k
    have hd := drop_cons s k hk'
    have hl : s.data.toList.length = s.size := by simp
    by_cases he : s[k].toNat = b
    · rw [spl_hit hk' he]
      rw [ihk, hd, rfSplit, if_pos he]
      simp only [List.map_append, List.map_cons, List.map_nil, Nat.sub_self, List.take_zero, List.append_assoc, List.cons_append, List.nil_append]
      rw [rfApp_nil (rfSplit_ne _ _), rf_cut]
      simp [rfApp]
    · rw [spl_miss hk' he]
      rw [ihk, hd, rfSplit, if_neg he, rfApp_app (rfSplit_ne _ _)]
      congr 2
      have e : k + 1 - (spl s b k).2 = (k - (spl s b k).2) + 1 := by omega
      rw [e, List.take_add_one]
      congr 1
      rw [List.getElem?_drop]
      have e2 : (spl s b k).2 + (k - (spl s b k).2) = k := by omega
      rw [e2, List.getElem?_eq_getElem (by omega)]
      rfl
theorem splV_split (s : ByteArray) (b : Nat) : ((splV s b).map fun w => w.f0.data.toList) = rfSplit b s.data.toList := by
  have h := rf_words s b s.size (Nat.le_refl _)
  have hl : s.data.toList.length = s.size := by simp
  have hd0 : s.data.toList.drop s.size = [] := List.drop_of_length_le (by omega)
  rw [hd0] at h
  rw [h]
  unfold splV
  rw [List.map_append, List.map_cons, List.map_nil, rf_cut]
  simp [rfSplit, rfApp]
/-- Words with blanks between them. -/
def rfJoin : List (List UInt8) → List UInt8
  | [] => []
  | [w] => w
  | w :: v :: ws => w ++ 32 :: rfJoin (v :: ws)
theorem rfJoin_cons (w : List UInt8) {ws : List (List UInt8)} (h : ws ≠ []) : rfJoin (w :: ws) = w ++ 32 :: rfJoin ws := by
  cases ws with
  | nil => exact absurd rfl h
  | cons v ws => rfl
theorem rfJoin_app (x : List UInt8) {ws : List (List UInt8)} (h : ws ≠ []) : rfJoin (rfApp x ws) = x ++ rfJoin ws := by
  cases ws with
  | nil => exact absurd rfl h
  | cons w ws =>
    cases ws with
    | nil => rfl
    | cons v ws => simp [rfApp, rfJoin]
theorem rf_join_split (l : List UInt8) : rfJoin (rfSplit 32 l) = l := by
  induction l with
  | nil => rfl
  | cons c r ih =>
    rw [rfSplit]
    split
    · rename_i h
      rw [rfJoin_cons _ (rfSplit_ne _ _), ih]
      have : c = 32 := by
        apply UInt8.toNat_inj.1
        rw [h]; rfl
      rw [this]; rfl
    · rw [rfJoin_app _ (rfSplit_ne _ _), ih]; rfl
theorem rf_split_word {w : List UInt8} (h : ∀ c ∈ w, c.toNat ≠ 32) (ws : List UInt8) : rfSplit 32 (w ++ 32 :: ws) = w :: rfSplit 32 ws := by
  induction w with
  | nil => rw [List.nil_append, rfSplit]; exact if_pos (by decide)
  | cons c w ih =>
    rw [List.cons_append, rfSplit, if_neg (h c (by simp)), ih (fun c hc => h c (by simp [hc]))]
    rfl
theorem rf_split_last {w : List UInt8} (h : ∀ c ∈ w, c.toNat ≠ 32) : rfSplit 32 w = [w] := by
  induction w with
  | nil => rfl
  | cons c w ih =>
    rw [rfSplit, if_neg (h c (by simp)), ih (fun c hc => h c (by simp [hc]))]
    rfl
theorem rf_split_join {ws : List (List UInt8)} (hn : ws ≠ []) (h : ∀ w ∈ ws, ∀ c ∈ w, c.toNat ≠ 32) : rfSplit 32 (rfJoin ws) = ws := by
  induction ws with
  | nil => exact absurd rfl hn
  | cons w ws ih =>
    cases ws with
    | nil => exact rf_split_last (h w (by simp))
    | cons v ws =>
      rw [rfJoin_cons _ (by simp), rf_split_word (h w (by simp)), ih (by simp) (fun x hx => h x (by simp only [List.mem_cons] at hx ⊢; exact .inr hx))]
theorem rfJoin_snoc (ws : List (List UInt8)) (w : List UInt8) : rfJoin (ws ++ [w]) = (if ws = [] then [] else rfJoin ws ++ [32]) ++ w := by
  induction ws with
  | nil => simp [rfJoin]
  | cons v ws ih =>
    rw [List.cons_append, rfJoin_cons _ (by simp), ih]
    cases ws with
    | nil => simp [rfJoin]
    | cons u ws => simp [rfJoin]
def rfDec (x : Int) : List UInt8 := (decT x).data.toList
theorem joinK_join (xs : List Int) : ∀ k, k ≤ xs.length → joinK xs k = rfJoin ((xs.take k).map rfDec) := by
  intro k
  induction k with
  | zero => intro _; rfl
  | succ k ih =>
    intro hk
    have hx : xs[k]? = some xs[k] := List.getElem?_eq_getElem (by omega)
    rw [List.take_add_one, hx, Option.toList_some, List.map_append, List.map_cons, List.map_nil, rfJoin_snoc, ← ih (by omega)]
    show (if k = 0 then [] else joinK xs k ++ [32]) ++ (decT (xs[k]?.getD 0)).data.toList = _
    rw [hx]
    have hl : ((xs.take k).map rfDec).length = k := by rw [List.length_map, List.length_take]; omega
    by_cases h0 : k = 0
    · subst h0; simp [rfDec]
    · rw [if_neg h0, if_neg (by intro h; rw [h] at hl; simp at hl; omega)]
      rfl
theorem joinK_all (xs : List Int) : joinK xs xs.length = rfJoin (xs.map rfDec) := by
  rw [joinK_join xs _ (Nat.le_refl _), List.take_length]
/-- The number of digits, behind n. -/
def rfDig : List UInt8 → Nat → Option Nat
  | [], n => some n
  | c :: r, n => if 48 ≤ c.toNat ∧ c.toNat ≤ 57 then rfDig r (n * 10 + (c.toNat - 48)) else none
theorem rfDig_app (l r : List UInt8) (n : Nat) : rfDig (l ++ r) n = (rfDig l n).bind (rfDig r) := by
  induction l generalizing n with
  | nil => rfl
  | cons c l ih =>
    rw [List.cons_append, rfDig, rfDig]
    split
    · exact ih _
    · rfl
theorem numD_dig (s : ByteArray) : ∀ k, k ≤ s.size → numD s k = rfDig (s.data.toList.take k) 0 := by
  intro k
  induction k with
  | zero => intro _; rfl
  | succ k ih =>
    intro hk
    have hl : s.data.toList.length = s.size := by simp
    have hx : s.data.toList[k]? = some s.data.toList[k] := List.getElem?_eq_getElem (by omega)
    rw [List.take_add_one, hx, Option.toList_some, rfDig_app, ← ih (by omega), numD, hx]
    cases numD s k with
    | none => rfl
    | some n => rfl
theorem rfDig_ge {l : List UInt8} {m n : Nat} (h : rfDig l m = some n) : m ≤ n := by
  induction l generalizing m with
  | nil => rw [rfDig] at h; cases h; exact Nat.le_refl _
  | cons c l ih =>
    rw [rfDig] at h
    split at h
    · have := ih h; omega
    · cases h
theorem rfDig_digits {l : List UInt8} {m n : Nat} (h : rfDig l m = some n) : ∀ c ∈ l, 48 ≤ c.toNat ∧ c.toNat ≤ 57 := by
  induction l generalizing m with
  | nil => simp
  | cons c l ih =>
    rw [rfDig] at h
    split at h
    · rename_i hc
      intro x hx
      rcases List.mem_cons.1 hx with rfl | hx
      · exact hc
      · exact ih h x hx
    · cases h
theorem rf_byte {d : Nat} (h : d < 10) : (UInt8.ofNat (48 + d)).toNat = 48 + d := by
  rw [UInt8.toNat_ofNat']
  omega
theorem dec_small {n : Nat} (h : n < 10) : Lib.decDigits n = [UInt8.ofNat (48 + n)] := by rw [Lib.decDigits, dif_pos h]
theorem dec_big {n : Nat} (h : ¬ n < 10) : Lib.decDigits n = Lib.decDigits (n / 10) ++ [UInt8.ofNat (48 + n % 10)] := by rw [Lib.decDigits, dif_neg h]
theorem dig_dec : ∀ n : Nat, rfDig (Lib.decDigits n) 0 = some n := by
  intro n
  induction n using Nat.strongRecOn with
  | _ n ih =>
    by_cases h : n < 10
    · rw [dec_small h, rfDig, rf_byte h, if_pos (by omega), rfDig]
      congr 1
      omega
    · rw [dec_big h, rfDig_app, ih (n / 10) (by omega)]
      show rfDig _ (n / 10) = _
      rw [rfDig, rf_byte (by omega), if_pos (by omega), rfDig]
      congr 1
      omega
theorem dec_ne (n : Nat) : Lib.decDigits n ≠ [] := by
  by_cases h : n < 10
  · rw [dec_small h]; simp
  · rw [dec_big h]; simp
theorem dec_head : ∀ n : Nat, 0 < n → ∀ c r, Lib.decDigits n = c :: r → c.toNat ≠ 48 := by
  intro n
  induction n using Nat.strongRecOn with
  | _ n ih =>
    intro h0 c r he
    by_cases h : n < 10
    · rw [dec_small h] at he
      injection he with h1 h2
      rw [← h1, rf_byte h]
      omega
    · rw [dec_big h] at he
      cases hd : Lib.decDigits (n / 10) with
      | nil => exact absurd hd (dec_ne _)
      | cons c' r' =>
        rw [hd, List.cons_append] at he
        injection he with h1 h2
        rw [← h1]
        exact ih (n / 10) (by omega) (by omega) c' r' hd
/-- Digits without leading zeros are those of their number. -/
theorem dec_of_dig : ∀ (k : Nat) (l : List UInt8), l.length = k → ∀ n, rfDig l 0 = some n → l ≠ [] → (∀ c r, l = c :: r → c.toNat = 48 → r = []) → Lib.decDigits n = l := by
  intro k
  induction k with
  | zero => intro l hl n _ hne; exact absurd (List.length_eq_zero_iff.1 hl) hne
  | succ k ih =>
    intro l hl n hn hne hz
    obtain ⟨l', c, rfl⟩ : ∃ l' c, l = l' ++ [c] := ⟨l.dropLast, l.getLast hne, (List.dropLast_concat_getLast hne).symm⟩
    rw [rfDig_app] at hn
    cases hm : rfDig l' 0 with
    | none => rw [hm] at hn; cases hn
    | some m =>
      rw [hm] at hn
      change rfDig [c] m = some n at hn
      rw [rfDig] at hn
      split at hn
      case isFalse => cases hn
      rename_i hc
      rw [rfDig] at hn
      injection hn with hn
      have hc2 : UInt8.ofNat (48 + (c.toNat - 48)) = c := by
        apply UInt8.toNat_inj.1
        rw [rf_byte (by omega)]
        omega
      by_cases hl' : l' = []
      · subst hl'
        rw [rfDig] at hm
        cases hm
        rw [dec_small (by omega), ← hn]
        have e : 48 + (0 * 10 + (c.toNat - 48)) = 48 + (c.toNat - 48) := by omega
        rw [e, hc2]; rfl
      · have hz' : ∀ d r, l' = d :: r → d.toNat ≠ 48 := by
          intro d r hd h48
          subst hd
          have := hz d (r ++ [c]) rfl h48
          simp at this
        have hi := ih l' (by rw [List.length_append] at hl; simpa using hl) m hm hl' (fun d r hd h48 => absurd h48 (hz' d r hd))
        have hm1 : 0 < m := by
          by_cases h : m = 0
          · subst h
            rw [dec_small (by omega)] at hi
            exact absurd rfl (hz' _ _ hi.symm)
          · omega
        rw [dec_big (by omega), ← hn]
        have e1 : (m * 10 + (c.toNat - 48)) / 10 = m := by omega
        have e2 : (m * 10 + (c.toNat - 48)) % 10 = c.toNat - 48 := by omega
        rw [e1, e2, hi, hc2]
theorem rfDec_eq {x : Int} (h : 0 ≤ x) : rfDec x = Lib.decDigits x.toNat := by
  show (Lib.itoa x).toArray.toList = _
  unfold Lib.itoa
  rw [if_neg (by omega)]
theorem rf_ext {a b : ByteArray} (h : a.data.toList = b.data.toList) : a = b := ByteArray.ext (Array.toList_inj.1 h)
theorem numW_dec {s : ByteArray} (h : 0 ≤ numW s) : decT (numW s) = s := by
  have hl : s.data.toList.length = s.size := by simp
  unfold numW at h ⊢
  split at h
  · omega
  · rename_i hc
    rw [if_neg hc]
    have hd := numD_dig s s.size (Nat.le_refl _)
    rw [List.take_of_length_le (by omega)] at hd
    cases hn : numD s s.size with
    | none => rw [hn] at h; simp at h
    | some n =>
      rw [hn] at hd
      apply rf_ext
      show rfDec ((n : Nat) : Int) = _
      rw [rfDec_eq (by omega), Int.toNat_natCast]
      refine dec_of_dig _ _ rfl n hd.symm ?_ ?_
      · intro h0
        rw [h0] at hl
        simp only [List.length_nil] at hl
        omega
      · intro c r hcr h48
        cases r with
        | nil => rfl
        | cons d r =>
          exfalso
          apply hc
          right; right
          rw [hcr] at hl ⊢
          simp only [List.length_cons] at hl
          refine ⟨by simp [h48], by omega⟩
theorem numW_of {x : Int} (h0 : 0 ≤ x) (h1 : x < 10000000) : numW (decT x) = x := by
  have hsz := decT_size8 h0 h1
  have hl : (decT x).data.toList = Lib.decDigits x.toNat := rfDec_eq h0
  have hl2 : (decT x).data.toList.length = (decT x).size := by simp
  have hne : (decT x).size ≠ 0 := by
    intro h
    rw [← hl2, hl] at h
    exact dec_ne _ (List.length_eq_zero_iff.1 h)
  have hhead : ¬ ((decT x).data.toList[0]?.map UInt8.toNat = some 48 ∧ 1 < (decT x).size) := by
    rintro ⟨h48, hs⟩
    rw [hl] at h48 hl2
    cases hd : Lib.decDigits x.toNat with
    | nil => exact dec_ne _ hd
    | cons c r =>
      rw [hd] at h48 hl2
      simp only [List.getElem?_cons_zero, Option.map_some, Option.some.injEq] at h48
      by_cases hx : x.toNat = 0
      · rw [hx, dec_small (by omega)] at hd
        injection hd with _ h2
        rw [← h2] at hl2
        simp only [List.length_cons, List.length_nil] at hl2
        omega
      · exact dec_head x.toNat (by omega) c r hd h48
  have hd := numD_dig (decT x) (decT x).size (Nat.le_refl _)
  rw [List.take_of_length_le (by omega), hl, dig_dec] at hd
  unfold numW
  rw [if_neg (by
    intro h
    rcases h with h | h | h
    · exact hne h
    · exact absurd hsz (by omega)
    · exact hhead h), hd]
  show ((x.toNat : Nat) : Int) = x
  omega
theorem rfDec_blank {x : Int} (h0 : 0 ≤ x) : ∀ c ∈ rfDec x, c.toNat ≠ 32 := by
  rw [rfDec_eq h0]
  intro c hc
  have := rfDig_digits (dig_dec x.toNat) c hc
  omega
theorem numsP_word {w : List UInt8} {m n : Nat} (h : rfDig w m = some n) (hn : n ≤ 2000000) (r : List UInt8) : numsP (w ++ r) m = numsP r n := by
  induction w generalizing m with
  | nil => rw [rfDig] at h; cases h; rfl
  | cons c w ih =>
    rw [rfDig] at h
    split at h
    · rename_i hc
      have := rfDig_ge h
      rw [List.cons_append, numsP, if_pos hc, if_pos (by omega)]
      exact ih h
    · cases h
theorem nums_join {xs : List Int} (hn : xs ≠ []) (h : ∀ x ∈ xs, 0 ≤ x ∧ x ≤ 2000000) : numsP (rfJoin (xs.map rfDec)) 0 = some xs := by
  induction xs with
  | nil => exact absurd rfl hn
  | cons x xs ih =>
    obtain ⟨h0, h1⟩ := h x (by simp)
    have hx : (x.toNat : Int) = x := by omega
    cases xs with
    | nil =>
      show numsP (rfDec x) 0 = _
      rw [rfDec_eq h0]
      have := numsP_word (dig_dec x.toNat) (by omega) []
      rw [List.append_nil] at this
      rw [this, numsP, hx]
    | cons y ys =>
      rw [List.map_cons, rfJoin_cons _ (by simp), rfDec_eq h0, numsP_word (dig_dec x.toNat) (by omega), numsP_blank rfl, ih (by simp) (fun z hz => h z (by simp only [List.mem_cons] at hz ⊢; exact .inr hz)), hx]
      rfl
theorem nums_len {l : List UInt8} {n : Nat} {xs : List Int} (h : numsP l n = some xs) : xs.length ≤ l.length + 1 := by
  induction l generalizing n xs with
  | nil => rw [numsP] at h; cases h; simp
  | cons c r ih =>
    rw [numsP] at h
    split at h
    · split at h
      · have := ih h; simp only [List.length_cons]; omega
      · cases h
    · split at h
      · cases hr : numsP r 0 with
        | none => rw [hr] at h; cases h
        | some ys =>
          rw [hr] at h
          simp only [Option.map_some, Option.some.injEq] at h
          have := ih hr
          rw [← h]
          simp only [List.length_cons]; omega
      · cases h
end Go.Proofs.YtfedlehibkgjbaaDoor
