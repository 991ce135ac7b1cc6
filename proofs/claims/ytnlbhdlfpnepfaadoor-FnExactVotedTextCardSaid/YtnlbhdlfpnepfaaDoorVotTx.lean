/- impl.sectorText of a Voted, impl.VotedText -/
import Derived.Test.YtnlbhdlfpnepfaaDoorAddrText
import Derived.Test.YtnlbhdlfpnepfaaDoorVotedSpec
import Derived.Test.YtnlbhdlfpnepfaaDoorTimesText
namespace Go.Proofs.YtnlbhdlfpnepfaaDoor
open Go.RowKit
set_option linter.unusedVariables false
set_option linter.unusedSimpArgs false
set_option maxRecDepth 20000
def vstStrings : List ByteArray := [⟨#[]⟩, ⟨#[103, 111, 111, 100]⟩, ⟨#[]⟩, ⟨#[98, 97, 100, 45, 100, 97, 116, 97]⟩, ⟨#[110, 111, 45, 100, 97, 116, 97]⟩, ⟨#[119, 101, 97, 107]⟩]
theorem vstStrings_size : ∀ s ∈ vstStrings, s.size ≤ 8 := by decide
def vstT (z : Int) : ByteArray := (vstStrings[z.toNat]?).getD ⟨#[]⟩
def vsecT (c h n z st : Int) (de : Bool) : ByteArray := addrT c h n z ++ ⟨#[32]⟩ ++ vstT st ++ (if de = true then ⟨#[32, 100, 101, 108, 101, 116, 101, 100]⟩ else ⟨#[]⟩)
theorem vstT_size (z : Int) : (vstT z).size ≤ 8 := by
  unfold vstT
  cases hh : vstStrings[z.toNat]? with
  | none => show 0 ≤ 8; omega
  | some s => exact vstStrings_size s (List.mem_of_getElem? hh)
set_option maxHeartbeats 4000000 in
theorem vstString_any (z : Int) (hz : z = 1 ∨ z = 3 ∨ z = 4 ∨ z = 5) (w : World) :
    Calls Tryd.prog 26 #[.int .i64 z] w fun e w' => e = .returned (.string (vstT z)) ∧ Below w.heap.size w w' := by
  obtain rfl | rfl | rfl | rfl := hz
  all_goals
    go_enter Tryd.func26, Tryd.ntmps26
    go_wp2
    go_ret
    exact ⟨rfl, Below.refl _ _⟩
set_option maxHeartbeats 4000000 in
theorem votedAddress_any (e : VotedV) (a : Option Addr) (cp : Nat) (w : World) :
    Calls Tryd.prog 61 #[.agg #[.int .i64 e.f0, .int .i64 e.f1, .int .i64 e.f2, .int .i64 e.f3, .string e.f4, .int .i64 e.f5, .bool e.f6, .slice a e.f7.length cp, .int .i64 e.f8]] w fun x w' => x = .returned (.agg #[.int .i64 e.f0, .int .i64 e.f1, .int .i64 e.f2, .int .i64 e.f3]) ∧ Below w.heap.size w w' := by
  go_enter Tryd.func61, Tryd.ntmps61
  go_wp2
  refine bodyPost_ret (v := .agg #[.int .i64 e.f0, .int .i64 e.f1, .int .i64 e.f2, .int .i64 e.f3]) (by simp [results, Tryd.results61, go_sem]) rfl ⟨rfl, ?_⟩
  go_grown
theorem votedState_any (e : VotedV) (a : Option Addr) (cp : Nat) (w : World) :
    Calls Tryd.prog 63 #[.agg #[.int .i64 e.f0, .int .i64 e.f1, .int .i64 e.f2, .int .i64 e.f3, .string e.f4, .int .i64 e.f5, .bool e.f6, .slice a e.f7.length cp, .int .i64 e.f8]] w fun x w' => x = .returned (.int .i64 e.f5) ∧ Below w.heap.size w w' := by
  go_enter Tryd.func63, Tryd.ntmps63
  go_wp2
  go_ret
  exact ⟨rfl, by go_grown⟩
theorem votedDeleted_any (e : VotedV) (a : Option Addr) (cp : Nat) (w : World) :
    Calls Tryd.prog 62 #[.agg #[.int .i64 e.f0, .int .i64 e.f1, .int .i64 e.f2, .int .i64 e.f3, .string e.f4, .int .i64 e.f5, .bool e.f6, .slice a e.f7.length cp, .int .i64 e.f8]] w fun x w' => x = .returned (.bool e.f6) ∧ Below w.heap.size w w' := by
  go_enter Tryd.func62, Tryd.ntmps62
  go_wp2
  go_ret
  exact ⟨rfl, by go_grown⟩
set_option maxHeartbeats 8000000 in
theorem sectorTextV_any (e : VotedV) (a : Option Addr) (cp : Nat) (h0 : 0 ≤ e.f0 ∧ e.f0 ≤ 255) (h1 : 0 ≤ e.f1 ∧ e.f1 ≤ 255) (h2 : 0 ≤ e.f2 ∧ e.f2 ≤ 255) (h3 : 0 ≤ e.f3 ∧ e.f3 ≤ 255) (h5 : e.f5 = 1 ∨ e.f5 = 3 ∨ e.f5 = 4 ∨ e.f5 = 5) (w : World) (ht : PowTab w) :
    Calls Tryd.prog 14 #[.iface 27 (.agg #[.int .i64 e.f0, .int .i64 e.f1, .int .i64 e.f2, .int .i64 e.f3, .string e.f4, .int .i64 e.f5, .bool e.f6, .slice a e.f7.length cp, .int .i64 e.f8])] w fun x w' => x = .returned (.string (vsecT e.f0 e.f1 e.f2 e.f3 e.f5 e.f6)) ∧ Below w.heap.size w w' := by
  have AD := Lib.hid (fun w => votedAddress_any e a cp w)
  have ST := Lib.hid (fun w => votedState_any e a cp w)
  have DE := Lib.hid (fun w => votedDeleted_any e a cp w)
  have AS := Lib.hid (fun W (hb : Below w.heap.size w W) => addrString_any e.f0 e.f1 e.f2 e.f3 h0 h1 h2 h3 W (ht.below hb))
  have SS := Lib.hid (fun w => vstString_any e.f5 h5 w)
  have za := addrT_size h0 h1 h2 h3
  have zs := vstT_size e.f5
  clear h0 h1 h2 h3 h5 ht
  unfold vsecT
  generalize addrT e.f0 e.f1 e.f2 e.f3 = ta at *
  generalize vstT e.f5 = ts at *
  have g1 : (9223372036854775807 < ta.size + 1) = False := by simp; omega
  have g2 : (9223372036854775807 < ta.size + 1 + ts.size) = False := by simp; omega
  have g3 : (9223372036854775807 < ta.size + 1 + ts.size + 8) = False := by simp; omega
  have HN := Lib.hid (app_nil (ta ++ ⟨#[32]⟩ ++ ts))
  cases hd : e.f6
  all_goals
    rw [hd] at AD ST DE
    go_enter Tryd.func14, Tryd.ntmps14
    go_wp2_with fail
    refine (AD.out _).mono ?_
    rintro e_ w1 ⟨rfl, hb1⟩
    have F1 := Lib.hid (show Below w.heap.size w w1 from by first | exact hb1 | exact Below.trans (by go_grown) (hb1.mono (by simp)))
    clear hb1
    go_wp2_with fail
    refine (AS.out _ F1.out).mono ?_
    rintro e_ w2 ⟨rfl, hb2⟩
    have F2 := Lib.hid (F1.out.trans (hb2.mono F1.out.size))
    clear hb2
    go_wp2_with fail
    refine (ST.out _).mono ?_
    rintro e_ w3 ⟨rfl, hb3⟩
    have F3 := Lib.hid (F2.out.trans (hb3.mono F2.out.size))
    clear hb3
    go_wp2_with fail
    refine (SS.out _).mono ?_
    rintro e_ w4 ⟨rfl, hb4⟩
    have F4 := Lib.hid (F3.out.trans (hb4.mono F3.out.size))
    clear hb4
    go_wp2_with fail
    refine (DE.out _).mono ?_
    rintro e_ w5 ⟨rfl, hb5⟩
    have F5 := Lib.hid (F4.out.trans (hb5.mono F4.out.size))
    clear hb5
    go_wp2
    go_ret
  · exact ⟨by first | (rw [HN.out]; rfl) | rfl, F5.out⟩
  · exact ⟨rfl, F5.out⟩
theorem votedB_parts {e : VotedV} (h : votedB e = true) : (0 ≤ e.f0 ∧ e.f0 ≤ 255) ∧ (0 ≤ e.f1 ∧ e.f1 ≤ 255) ∧ (0 ≤ e.f2 ∧ e.f2 ≤ 255) ∧ (0 ≤ e.f3 ∧ e.f3 ≤ 255) ∧ (e.f5 = 1 ∨ e.f5 = 3 ∨ e.f5 = 4 ∨ e.f5 = 5) ∧ (1 ≤ e.f8 ∧ e.f8 ≤ 5) ∧ (∀ x ∈ e.f7, 0 ≤ x ∧ x < 100000) := by
  unfold votedB at h
  simp only [Bool.and_eq_true, List.all_cons, List.all_nil, and_true] at h
  obtain ⟨⟨a0, a1, a2⟩, a3, b, r, c⟩ := h
  have z3 := inB_iff.1 a3
  have hsz : e.f4.size ≤ 32 ∧ (e.f5 = 1 ∨ e.f5 = 3 ∨ e.f5 = 4 ∨ e.f5 = 5) := by
    have sd : ∀ {z : Int} {d : ByteArray}, secDataB z d = true → d.size ≤ 32 := by
      intro z d hd
      unfold secDataB at hd
      simp only [Bool.and_eq_true, decide_eq_true_eq] at hd
      have : secN z ≤ 32 := by unfold secN; split <;> (try split) <;> omega
      omega
    unfold votedBody at c
    split at c
    · simp only [Bool.and_eq_true] at c; exact ⟨sd c.1, by omega⟩
    · split at c
      · simp only [Bool.and_eq_true] at c; exact ⟨sd c.1, by omega⟩
      · split at c
        · exact ⟨sd c, by omega⟩
        · split at c
          · simp only [Bool.and_eq_true, decide_eq_true_eq] at c
            exact ⟨by rw [c.1]; show 0 ≤ 32; omega, by omega⟩
          · cases c
  refine ⟨inB_iff.1 a0, inB_iff.1 a1, inB_iff.1 a2, by omega, hsz.2, inB_iff.1 b, ?_⟩
  intro x hx
  have := risesB_bd r hx
  omega
/-- The weak places behind the votes. -/
def weakK (xs : List Int) (k : Nat) : List UInt8 := if k = 0 then [] else [32, 119, 101, 97, 107, 32] ++ joinK xs k
def votedT (e : VotedV) : ByteArray := if votedB e = true then vsecT e.f0 e.f1 e.f2 e.f3 e.f5 e.f6 ++ ⟨#[32, 118, 111, 116, 101, 115, 32]⟩ ++ decT e.f8 ++ ⟨(weakK e.f7 e.f7.length).toArray⟩ else ⟨#[]⟩
theorem vsecT_size {c h n z st : Int} {de : Bool} (hc : 0 ≤ c ∧ c ≤ 255) (hh : 0 ≤ h ∧ h ≤ 255) (hn : 0 ≤ n ∧ n ≤ 255) (hz : 0 ≤ z ∧ z ≤ 255) : (vsecT c h n z st de).size ≤ 40 := by
  have s0 := addrT_size hc hh hn hz
  have s1 := vstT_size st
  have e32 : (⟨#[32]⟩ : ByteArray).size = 1 := rfl
  have e8 : (if de = true then (⟨#[32, 100, 101, 108, 101, 116, 101, 100]⟩ : ByteArray) else ⟨#[]⟩).size ≤ 8 := by cases de <;> decide
  unfold vsecT
  repeat rw [ByteArray.size_append]
  rw [e32]
  omega
end Go.Proofs.YtnlbhdlfpnepfaaDoor
