/- impl.blankDisk, impl.FormatExtents -/
import Derived.Test.YthcbekfgkbhpeaaDoorPkFormatChainsE
import Derived.Test.YthcbekfgkbhpeaaDoorPkFormatChainsRepStr
namespace Go.Proofs.YthcbekfgkbhpeaaDoor
open Go.RowKit
set_option maxRecDepth 20000
set_option linter.unusedVariables false
set_option linter.unusedSimpArgs false
set_option maxRecDepth 20000
set_option maxHeartbeats 2000000 in
theorem blankDisk_any (n z : Nat) (h : ByteArray) (w : World) (h1 : 1 ≤ n) (h2 : n ≤ 128) (hz : z ≤ 1000) :
    Calls Tryd.prog 39 #[.int .i64 (n : Int), .int .i64 (z : Int), .string h] w fun e w' => ∃ g, e = .returned (.slice (some ⟨g, 0, none⟩) n n) ∧ OwnBS w' w.heap.size g (blankL n z h) ∧ Below w.heap.size w w' := by
  have PD := Lib.hid (fun w => padded_any ⟨#[]⟩ z 0 w (by show 0 ≤ z; omega) (by omega))
  rw [padB_empty] at PD
  have BS := Lib.hid (fun (W : World) (g : Nat) (hw : OwnBS W w.heap.size g (List.replicate n ⟨⟨(List.replicate z (0 : UInt8)).toArray⟩⟩)) => show OwnBS (W.setCell ⟨g, 0, none⟩ (.string h)) w.heap.size g (blankL n z h) from by have := hw.put 0 h (by simp; omega); rwa [blankL_set h1] at this)
  have CE := Lib.hid (fun (W : World) (g : Nat) (hw : OwnBS W w.heap.size g (List.replicate n ⟨⟨(List.replicate z (0 : UInt8)).toArray⟩⟩)) => show W.cell? ⟨g, 0, none⟩ = some (.string ⟨(List.replicate z (0 : UInt8)).toArray⟩) from hw.cell (k := 0) (e := ⟨⟨(List.replicate z (0 : UInt8)).toArray⟩⟩) (by rw [List.getElem?_replicate, if_pos (by omega)]))
  generalize (⟨(List.replicate z (0 : UInt8)).toArray⟩ : ByteArray) = zz at *
  go_enter Tryd.func39, Tryd.ntmps39
  go_wp2_with fail
  refine (PD.out _).mono ?_
  rintro e w1 ⟨rfl, hb1⟩
  have hz1 := hb1.size
  have HB1 := Lib.hid hb1; clear hb1
  go_wp2_with fail
  refine (repString_any ⟨zz⟩ n w1.heap.size 0 1 _ h1 h2 (by simp [go_sem])).mono ?_
  rintro e w2 ⟨g, rfl, ho, hb2⟩
  have ho' := ho.mono (B' := w.heap.size) (by simp; omega)
  have c0 := CE.out _ _ ho'
  have z0 := ho'.free 0
  have hgB : w.heap.size ≤ g := ho'.choose_spec.1
  have HO := Lib.hid ho'
  have FB := Lib.hid (HB1.out.trans (Below.trans ((Below.refl w1.heap.size w1).alloc (Nat.le_refl _) _) (hb2.mono (by simp)) |>.mono hz1))
  clear ho ho' hb2
  have hp : 0 < n := by omega
  go_wp2
  go_ret
  exact ⟨g, rfl, BS.out _ _ HO.out, FB.out.setCell hgB _⟩
end Go.Proofs.YthcbekfgkbhpeaaDoor
