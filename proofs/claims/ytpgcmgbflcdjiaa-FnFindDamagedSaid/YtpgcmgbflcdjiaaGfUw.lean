/- spec.UpdateParity. -/
import Derived.Test.YtpgcmgbflcdjiaaGfUs
import Derived.Test.YtpgcmgbflcdjiaaSealIm
namespace Go.Proofs.Ytpgcmgbflcdjiaa
open Go.RowKit
open Gf
set_option linter.unusedVariables false
set_option maxRecDepth 20000
theorem toBytes_any (w : World) (s : ByteArray) (n : Nat) (hn : s.size = n) : ∃ cap w', (convert 9 26 (.string s)).run Try.prog w = .ok (.slice (some ⟨w.heap.size, 0, none⟩) n cap) w' ∧ TBk w' w.heap.size s.data.toList ∧ Below w.heap.size w w' ∧ w.heap.size < w'.heap.size := by
  have h := run_bytes_of_string (P := Try.prog) w 9 26 5 s Try.underlying9 Try.underlying26 Try.underlying5
  have hb := bytesBlk w s (grownCap w s.size 0 5) (grownCap_ge w s.size 0 5)
  subst hn
  exact ⟨_, _, h, hb, ((Below.refl _ _).alloc (Nat.le_refl _) _).drew, by simp⟩
theorem mL_one (l : List UInt8) : mL 1 l = l := by
  unfold mL
  have : ∀ c : UInt8, gU 1 c = c := by
    intro c
    apply UInt8.toNat_inj.1
    rw [gU_nat, gmul_one c.toNat_lt]
  conv => rhs; rw [← List.map_id l]
  apply List.map_congr_left
  intro c _
  exact this c
theorem gU_xor (k : Nat) (x y : UInt8) : gU k (x ^^^ y) = gU k x ^^^ gU k y := by
  apply UInt8.toNat_inj.1
  rw [UInt8.toNat_xor, gU_nat, gU_nat, gU_nat, UInt8.toNat_xor, add_gmul x.toNat_lt y.toNat_lt]
theorem mL_xL (k : Nat) : ∀ (a b : List UInt8), mL k (xL a b) = xL (mL k a) (mL k b)
  | [], _ => by simp [xL, mL]
  | _ :: _, [] => by simp [xL, mL]
  | x :: a, y :: b => by
    have ih := mL_xL k a b
    unfold xL mL at *
    simp only [List.zipWith_cons_cons, List.map_cons]
    rw [ih, gU_xor]
theorem xL_assoc : ∀ (a b c : List UInt8), xL (xL a b) c = xL a (xL b c)
  | [], _, _ => by simp [xL]
  | _ :: _, [], _ => by simp [xL]
  | _ :: _, _ :: _, [] => by simp [xL]
  | x :: a, y :: b, z :: c => by
    have ih := xL_assoc a b c
    unfold xL at *
    simp only [List.zipWith_cons_cons]
    rw [ih, UInt8.xor_assoc]
theorem upP_two (p b a : List UInt8) : xL (xL p (mL 1 b)) (mL 1 a) = xL p (xL b a) := by rw [mL_one, mL_one, xL_assoc]
theorem upQ_two (q b a : List UInt8) (k : Nat) : xL (xL q (mL k b)) (mL k a) = xL q (mL k (xL b a)) := by rw [xL_assoc, mL_xL]
theorem OnlyB.below {g B : Nat} {w w' : World} (h : OnlyB g w w') (hB : B ≤ g) : Below B w w' := h.2.2.mono hB
theorem OnlyB.keep {g b : Nat} {w w' : World} {l : List UInt8} (h : OnlyB g w w') (hb : b ≠ g) (t : TBk w b l) : TBk w' b l := t.kept (h.2.1 b hb)
set_option maxHeartbeats 4000000 in
theorem specUpdateParity_g (p q : ByteArray) (i : Int) (b a : ByteArray) (hp : p.size ≤ 1048576) (hq : q.size ≤ 1048576) (hb : b.size ≤ 1048576) (ha : a.size ≤ 1048576) (w : World) :
    Calls Try.prog 21 #[.string p, .string q, .int .i64 i, .string b, .string a] w fun e w' => e = .returned (.tuple #[.string (upP p q i b a), .string (upQ p q i b a), .int .i64 (upC p q i b a)]) ∧ Below w.heap.size w w' := by
  have hI := Lib.hid (fun n lo hi w => l00In_any n lo hi w)
  cases hs : psB [⟨p⟩, ⟨q⟩, ⟨b⟩, ⟨a⟩] with
  | false =>
    have e : upC p q i b a = 1 := by unfold upC; rw [hs]; rfl
    unfold upP upQ
    rw [e, if_neg (by decide), if_neg (by decide)]
    have hno : ¬ (1 ≤ p.size ∧ p.size ≤ 64 ∧ q.size = p.size ∧ b.size = p.size ∧ a.size = p.size) := by
      intro h
      unfold psB allLen len0 at hs
      simp [inB] at hs
      omega
    clear e hs
    cases h1 : inB 1 64 (p.size : Int) with
    | false =>
      have H1 := Lib.hid h1
      clear h1 hno
      go_enter Try.func21, Try.ntmps21
      go_wp2_with (go_at_call 33; refine (hI.out _ _ _ _).mono ?_; rintro e w1 ⟨rfl, rfl⟩; rw [H1.out])
      go_ret3
      exact ⟨rfl, Below.refl _ _⟩
    | true =>
      have h1b : 1 ≤ p.size ∧ p.size ≤ 64 := by simp [inB] at h1; omega
      have H1 := Lib.hid h1
      by_cases h2 : q.size = p.size
      · have e2 : ((q.size : Int) != p.size) = false := by rw [bne_eq_false_iff_eq]; omega
        by_cases h3 : b.size = p.size
        · have e3 : ((b.size : Int) != p.size) = false := by rw [bne_eq_false_iff_eq]; omega
          have e4 : ((a.size : Int) != p.size) = true := by rw [bne_iff_ne]; omega
          clear h1 hno h2 h3
          go_enter Try.func21, Try.ntmps21
          go_wp2_with (go_at_call 33; refine (hI.out _ _ _ _).mono ?_; rintro e w1 ⟨rfl, rfl⟩; rw [H1.out])
          go_ret3
          exact ⟨rfl, Below.refl _ _⟩
        · have e3 : ((b.size : Int) != p.size) = true := by rw [bne_iff_ne]; omega
          clear h1 hno h2 h3
          go_enter Try.func21, Try.ntmps21
          go_wp2_with (go_at_call 33; refine (hI.out _ _ _ _).mono ?_; rintro e w1 ⟨rfl, rfl⟩; rw [H1.out])
          go_ret3
          exact ⟨rfl, Below.refl _ _⟩
      · have e2 : ((q.size : Int) != p.size) = true := by rw [bne_iff_ne]; omega
        clear h1 hno h2
        go_enter Try.func21, Try.ntmps21
        go_wp2_with (go_at_call 33; refine (hI.out _ _ _ _).mono ?_; rintro e w1 ⟨rfl, rfl⟩; rw [H1.out])
        go_ret3
        exact ⟨rfl, Below.refl _ _⟩
  | true =>
    obtain ⟨z1, z2, z3, z4, z5⟩ := psB4 hs
    have H1 := Lib.hid (show inB 1 64 (p.size : Int) = true by simp [inB]; omega)
    have e2 : ((q.size : Int) != p.size) = false := by rw [bne_eq_false_iff_eq]; omega
    have e3 : ((b.size : Int) != p.size) = false := by rw [bne_eq_false_iff_eq]; omega
    have e4 : ((a.size : Int) != p.size) = false := by rw [bne_eq_false_iff_eq]; omega
    cases hi : inB 0 127 i with
    | false =>
      have e : upC p q i b a = 2 := by unfold upC; rw [hs, hi]; rfl
      unfold upP upQ
      rw [e, if_neg (by decide), if_neg (by decide)]
      have H2 := Lib.hid hi
      clear e hs hi z1 z2 z3 z4 z5
      go_enter Try.func21, Try.ntmps21
      go_wp2_with (go_at_call 33; refine (hI.out _ _ _ _).mono ?_; rintro e w1 ⟨rfl, rfl⟩; first | rw [H1.out] | rw [H2.out])
      go_ret3
      exact ⟨rfl, Below.refl _ _⟩
    | true =>
      have e : upC p q i b a = 0 := by unfold upC; rw [hs, hi]; rfl
      unfold upP upQ
      rw [e, if_pos rfl, if_pos rfl]
      have H2 := Lib.hid hi
      clear e hs hi hp hq hb ha
      obtain ⟨n, hn⟩ : ∃ n, p.size = n := ⟨_, rfl⟩
      have YP := Lib.hid (upP_two p.data.toList b.data.toList a.data.toList)
      have YQ := Lib.hid (upQ_two q.data.toList b.data.toList a.data.toList (pwV i))
      obtain ⟨c1, wA, cv1, tA, bA, sA⟩ := toBytes_any w p p.size rfl
      obtain ⟨c2, wB, cv2, tB, bB, sB⟩ := toBytes_any wA q p.size z3
      have hpv := pwV_lt i
      have LP := Lib.hid (str_len p n hn)
      have LQ := Lib.hid (str_len q n (by omega))
      have LB := Lib.hid (str_len b n (by omega))
      have LA := Lib.hid (str_len a n (by omega))
      have P1 := Lib.hid (fun g c l w (hl : l.length = n) (t : TBk w g l) => l23Plus_any g c l n 1 b w hl (by omega) t (by omega) (by omega) (by omega))
      have P2 := Lib.hid (fun g c l w (hl : l.length = n) (t : TBk w g l) => l23Plus_any g c l n 1 a w hl (by omega) t (by omega) (by omega) (by omega))
      have Q1 := Lib.hid (fun g c l w (hl : l.length = n) (t : TBk w g l) => l23Plus_any g c l n (pwV i) b w hl (by omega) t hpv (by omega) (by omega))
      have Q2 := Lib.hid (fun g c l w (hl : l.length = n) (t : TBk w g l) => l23Plus_any g c l n (pwV i) a w hl (by omega) t hpv (by omega) (by omega))
      rw [← hn] at P1 P2 Q1 Q2 LP LQ LB LA
      have HP := Lib.hid (fun w => specGfPow_any i w)
      have MB := Lib.hid (fun k => mL_len k LB.out)
      have MA := Lib.hid (fun k => mL_len k LA.out)
      have TA := Lib.hid (TBk.on bB sA tA)
      have TB := Lib.hid tB
      have FB := Lib.hid (gbel bB bA)
      have hgn : w.heap.size ≠ wA.heap.size := by omega
      have hle : w.heap.size ≤ wA.heap.size := by omega
      have HG := Lib.hid (And.intro hgn hle)
      clear hn z1 z2 z3 z4 z5 tA tB bA bB sA sB hgn hle
      generalize hG1 : w.heap.size = g1 at *
      generalize hG2 : wA.heap.size = g2 at *
      clear hG2
      go_enter Try.func21, Try.ntmps21
      go_wp2_with (go_at_call 33; refine (hI.out _ _ _ _).mono ?_; rintro e w1 ⟨rfl, rfl⟩; first | rw [H1.out] | rw [H2.out])
      refine (P1.out g1 c1 _ _ LP.out TA.out).mono ?_
      rintro e w1 ⟨rfl, t1, o1⟩
      have T1 := Lib.hid t1
      have TB1 := Lib.hid (o1.keep (Ne.symm HG.out.1) TB.out)
      have FB1 := Lib.hid (FB.out.trans (o1.below (Nat.le_refl _)))
      clear t1 o1 TA TB FB
      go_wp2_with fail
      refine (P2.out g1 c1 _ _ (xL_len LP.out (MB.out 1)) T1.out).mono ?_
      rintro e w2 ⟨rfl, t2, o2⟩
      rw [YP.out] at t2
      have T2 := Lib.hid t2
      have TB2 := Lib.hid (o2.keep (Ne.symm HG.out.1) TB1.out)
      have FB2 := Lib.hid (FB1.out.trans (o2.below (Nat.le_refl _)))
      clear t2 o2 T1 TB1 FB1
      go_wp2_with fail
      refine (HP.out _).mono ?_
      rintro e wq ⟨rfl, rfl⟩
      go_wp2_with fail
      refine (Q1.out g2 c2 _ _ LQ.out TB2.out).mono ?_
      rintro e w3 ⟨rfl, t3, o3⟩
      have TB3 := Lib.hid t3
      have T3 := Lib.hid (o3.keep HG.out.1 T2.out)
      have FB3 := Lib.hid (FB2.out.trans (o3.below HG.out.2))
      clear t3 o3 T2 TB2 FB2
      go_wp2_with fail
      refine (HP.out _).mono ?_
      rintro e wq ⟨rfl, rfl⟩
      go_wp2_with fail
      refine (Q2.out g2 c2 _ _ (xL_len LQ.out (MB.out _)) TB3.out).mono ?_
      rintro e w4 ⟨rfl, t4, o4⟩
      rw [YQ.out] at t4
      have T4 := Lib.hid (o4.keep HG.out.1 T3.out)
      have FB4 := Lib.hid (FB3.out.trans (o4.below HG.out.2))
      have cvA := TBk.conv (b := g1) T4.out.drew p.size c1 (xL_len LP.out (xL_len LB.out LA.out))
      have cvB := TBk.conv (b := g2) t4.drew p.size c2 (xL_len LQ.out (mL_len _ (xL_len LB.out LA.out)))
      clear t4 o4 T3 TB3 FB3
      have HU1 := Lib.hid (show xL p.data.toList (xL b.data.toList a.data.toList) = xL p.data.toList (upX b a) from rfl)
      have HU2 := Lib.hid (show xL q.data.toList (mL (pwV i) (xL b.data.toList a.data.toList)) = xL q.data.toList (mL (pwV i) (upX b a)) from rfl)
      rw [HU1.out] at cvA
      rw [HU2.out] at cvB
      go_wp2
      go_region
      all_goals
        go_wp2
        go_ret3
        exact ⟨rfl, FB4.out.drew⟩
end Go.Proofs.Ytpgcmgbflcdjiaa
