/- impl: an entry of a disk with chains; impl.EntryAt -/
import Derived.Test.YtpdodpnhohmjaaaGreatDoorPkGoneBlocksF
import Derived.Test.YtpdodpnhohmjaaaGreatDoorPkGoneBlocksEntPl
import Derived.Test.YtpdodpnhohmjaaaGreatDoorPkGoneBlocksDiskRc
namespace Go.Proofs.YtpdodpnhohmjaaaGreatDoor
open Go.RowKit
set_option maxRecDepth 20000
set_option linter.unusedVariables false
set_option linter.unusedSimpArgs false
set_option maxRecDepth 20000
theorem directory_any (l0 l1 l2 l3 l4 : Int) (p : Nat) (w : World) :
    Calls Tryz.prog 45 #[.agg #[.int .i64 l0, .int .i64 l1, .int .i64 l2, .int .i64 l3, .int .i64 l4, .pointer (some ⟨p, 0, none⟩)]] w fun e w' => e = .returned (.agg #[.iface 48 (.pointer (some ⟨p, 0, none⟩)), .int .i64 l3]) ∧ Below w.heap.size w w' := by
  go_enter Tryz.func45, Tryz.ntmps45
  go_wp2
  refine bodyPost_ret (v := .agg #[.iface 48 (.pointer (some ⟨p, 0, none⟩)), .int .i64 l3]) (by simp [results, Tryz.results45, go_sem]) rfl ⟨rfl, ?_⟩
  go_grown
set_option maxHeartbeats 8000000 in
theorem entryM_any (l0 l1 l2 l4 : Int) (p k : Nat) (a : Option Addr) (c : Nat) (es : List StringV) (w : World) (h : CD w p a c es) (hsl : SlS rowString w a es) (hd : diskB es = true) (hk : k < es.length / 8) :
    Calls Tryz.prog 29 #[.agg #[.int .i64 l0, .int .i64 l1, .int .i64 l2, .int .i64 (chDir es.length (len0 es) : Nat), .int .i64 l4, .pointer (some ⟨p, 0, none⟩)], .int .i64 (k : Int)] w fun x w' => x = .returned (.tuple #[.agg #[.string (entR (entL es k)).f0, .int .i64 (entR (entL es k)).f1, .int .i64 (entR (entL es k)).f2, .bool (entR (entL es k)).f3, .bool (entR (entL es k)).f4], .bool (entOk (entL es k))]) ∧ Below w.heap.size w w' := by
  obtain ⟨hn, hall, hz⟩ := diskB_facts hd
  obtain ⟨h1, h2, h3, h4⟩ := ent_at hd hk
  have DR := Lib.hid (fun w => directory_any l0 l1 l2 (chDir es.length (len0 es) : Nat) l4 p w)
  have by1 := fun w' (hb : Below w.heap.size w w') => bytesK_any p (chDir es.length (len0 es)) (k * 12) 12 (len0 es) a c es w' (h.below hb h.1) (hsl.below hb (Nat.le_refl _)) hn.2 hall (by omega) (by omega) h2 h1
  have EO := Lib.hid (fun w => chainEntryOf_any (entL es k) h3 w)
  have hcut : cutL (flatL es) (chDir es.length (len0 es) * len0 es + k * 12) 12 = entL es k := rfl
  rw [hcut] at by1
  have e12 : ((k * 12 : Nat) : Int) = (k : Int) * 12 := by omega
  rw [e12] at by1
  have BY := Lib.hid by1
  have hk2 : k ≤ 16 := by omega
  generalize entL es k = l at *
  generalize entR l = r at *
  generalize entOk l = q at *
  clear by1 hcut h h1 h2 h3 h4 hsl hall hz hd e12 hk hn
  generalize ((chDir es.length (len0 es) : Nat) : Int) = l3 at *
  have R0 := Lib.hid ((BoxF.new (w.alloc (.cells #[.int .i64 l0, .int .i64 l1, .int .i64 l2, .int .i64 l3, .int .i64 l4, .pointer (some ⟨p, 0, none⟩)] 50)) #[.string ⟨#[]⟩, .int .i64 0, .int .i64 0, .bool false, .bool false] 45 _ rfl))
  go_enter Tryz.func29, Tryz.ntmps29
  go_wp2_with fail
  refine (DR.out _).mono ?_
  rintro e w1 ⟨rfl, hb1⟩
  replace R0 := Lib.hid (R0.out.below hb1 (by simp))
  have FB := Lib.hid (show Below w.heap.size w w1 from Below.trans (by go_grown) (hb1.mono (by simp; omega)))
  have hlt : w.heap.size + 1 < w1.heap.size := by have := hb1.size; simp at this; omega
  clear hb1
  go_wp2_with fail
  refine (BY.out _ FB.out).mono ?_
  rintro e w2 ⟨rfl, hb2⟩
  replace R0 := Lib.hid (R0.out.below hb2 (by simp; omega))
  replace FB := Lib.hid (FB.out.trans (hb2.mono FB.out.size))
  replace hlt := Nat.lt_of_lt_of_le hlt hb2.size
  clear hb2
  go_wp2_with fail
  refine (EO.out _).mono ?_
  rintro e w3 ⟨rfl, hb3⟩
  replace R0 := Lib.hid (R0.out.below hb3 (by simp; omega))
  replace FB := Lib.hid (FB.out.trans (hb3.mono FB.out.size))
  clear hb3
  have R1 : BoxF w3 (w.heap.size + 1) #[.string ⟨#[]⟩, .int .i64 0, .int .i64 0, .bool false, .bool false] := by have := R0.out; simpa using this
  obtain ⟨a0, z0⟩ := R1 0 _ rfl
  obtain ⟨a1, z1⟩ := R1 1 _ rfl
  obtain ⟨a2, z2⟩ := R1 2 _ rfl
  obtain ⟨a3, z3⟩ := R1 3 _ rfl
  obtain ⟨a4, z4⟩ := R1 4 _ rfl
  clear R1 R0
  go_wp2
  refine bodyPost_ret (v := .tuple #[.agg #[.string r.f0, .int .i64 r.f1, .int .i64 r.f2, .bool r.f3, .bool r.f4], .bool q]) (by simp [results, Tryz.results29, go_sem, a0, a1, a2, a3, a4]) rfl ⟨rfl, ?_⟩
  exact ((((FB.out.setCell (by simp) _).setCell (by simp) _).setCell (by simp) _).setCell (by simp) _).setCell (by simp) _
end Go.Proofs.YtpdodpnhohmjaaaGreatDoor
