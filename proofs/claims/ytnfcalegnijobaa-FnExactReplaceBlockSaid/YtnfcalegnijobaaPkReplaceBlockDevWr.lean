/- impl.WriteDeviceBlock, spec.WriteDeviceBlock -/
import Derived.Test.YtnfcalegnijobaaPkReplaceBlockDevBlkSp
import Derived.Test.YtnfcalegnijobaaPkReplaceBlockDevOwn
import Derived.Test.YtnfcalegnijobaaPkReplaceBlockBoxF
namespace Go.Proofs.Ytnfcalegnijobaa
open Go.RowKit
set_option linter.unusedVariables false
set_option linter.unusedSimpArgs false
set_option maxRecDepth 20000
theorem put_other (w : World) (g i i' : Nat) (v0 v1 : Value) (b : Nat) (h : b ≠ g) : ((w.setCell ⟨g, i, none⟩ v0).setCell ⟨g, i', none⟩ v1).heap[b]? = w.heap[b]? := by
  rw [Below.heap_setCell _ _ _ _ h, Below.heap_setCell _ _ _ _ h]
theorem put_otherD (w : World) (g i i' : Nat) (v0 v1 : Value) (b : Nat) (h : b ≠ g) : ((w.setCell ⟨g, i, none⟩ v0).setCell ⟨g, i', none⟩ v1).drew.heap[b]? = w.heap[b]? := put_other w g i i' v0 v1 b h
theorem put_cellD (w : World) (g i i' : Nat) (v0 v1 : Value) (b o : Nat) (h : b ≠ g) : ((w.setCell ⟨g, i, none⟩ v0).setCell ⟨g, i', none⟩ v1).drew.cell? ⟨b, o, none⟩ = w.cell? ⟨b, o, none⟩ := World.cell?_of_block (put_otherD w g i i' v0 v1 b h)
theorem BoxF.keep {w w' : World} {p : Nat} {vs : Array Value} (h : BoxF w p vs) (hk : w'.heap[p]? = w.heap[p]?) : BoxF w' p vs := by
  intro i v hv
  obtain ⟨h1, h2⟩ := h i v hv
  refine ⟨by rw [World.cell?_of_block hk]; exact h1, ?_⟩
  simp only [World.frozen?] at h2 ⊢
  rw [hk]
  exact h2
theorem addr_ne {a b o o' : Nat} (h : a ≠ b) : (⟨a, o, none⟩ : Addr) ≠ ⟨b, o', none⟩ := fun e => h (congrArg Addr.block e)
theorem OwnBlk.sli {w : World} {B g : Nat} {es : List SectorV} (h : OwnBlk w B g es) : SlSI rowSector 148 w B w.heap.size (some ⟨g, 0, none⟩) es := h.so
def devZ : DeviceV := ⟨⟨0, 0, 0, 0, []⟩, 0, 0, []⟩
/-- A device and a code as results, the device's rows the call's own. -/
def DevRes (rr : DeviceV) (code : Int) (w : World) (e : Ending) (w' : World) : Prop := ∃ s0 s1 d0 d1, e = .returned (.tuple #[.agg #[.int .i64 rr.f0.f0, .int .i64 rr.f0.f1, .int .i64 rr.f0.f2, .int .i64 rr.f0.f3, .slice s0 rr.f0.f4.length d0, .int .i64 rr.f1, .int .i64 rr.f2, .slice s1 rr.f3.length d1], .int .i64 code]) ∧ SlIDevice w' w.heap.size w'.heap.size s0 s1 rr ∧ Below w.heap.size w w'
theorem devZ_own (w : World) (B C : Nat) : SlIDevice w B C none none devZ := ⟨.inl rfl, .inl rfl⟩
def wrC (x : DeviceV) (k : Int) (d : ByteArray) : Int := if secDataB x.f0.f3 d = true then secC x k else 1
/-- The device with another sector i. -/
def setS (x : DeviceV) (i : Nat) (s : SectorV) : DeviceV := { x with f0 := { x.f0 with f4 := x.f0.f4.set i s } }
def wrV (x : DeviceV) (k : Int) (d : ByteArray) : DeviceV := if wrC x k d = 0 then setS x (secV x k).toNat ⟨d, 1⟩ else devZ
theorem setS_len (x : DeviceV) (i : Nat) (s : SectorV) {m : Nat} (h : LenDevice m x) : LenDevice m (setS x i s) := ⟨by unfold setS; simpa using h.1, h.2⟩
theorem wrV_len (x : DeviceV) (k : Int) (d : ByteArray) (h : LenDevice 1048576 x) : LenDevice 1048576 (wrV x k d) := by
  unfold wrV
  split
  · exact setS_len x _ _ h
  · exact ⟨by simp [devZ], by simp [devZ]⟩
theorem devB_ne {x : DeviceV} (h : devB x = true) : x.f0.f4 ≠ [] ∧ x.f3 ≠ [] := by
  obtain ⟨_, hg, hn, _, hs, hl, _⟩ := devB_facts h
  obtain ⟨g0, g1, g2, _⟩ := geoB_iff.1 hg
  have hm := mul_bound g0 g1 g2
  refine ⟨fun e => ?_, fun e => ?_⟩
  · rw [e] at hn; simp at hn; omega
  · rw [e] at hl; simp at hl; omega
set_option maxHeartbeats 1000000 in
theorem written_any (d : ByteArray) (w : World) :
    Calls Try.prog 180 #[.string d] w fun x w' => x = .returned (.agg #[.string d, .int .i64 1]) ∧ Below w.heap.size w w' := by
  go_enter Try.func180, Try.ntmps180
  go_wp2
  refine bodyPost_ret (v := .agg #[.string d, .int .i64 1]) (by simp [results, Try.results180, go_sem]) rfl ⟨rfl, ?_⟩
  go_grown
theorem secDataB_of {z : Int} {d : ByteArray} {n : Nat} (hz : inB 0 2 z = true) (hn : secN z = (n : Int)) : secDataB z d = decide (d.size = n) := by
  unfold secDataB
  rw [hz, hn, Bool.true_and]
  rw [Bool.eq_iff_iff]
  simp only [decide_eq_true_eq, beq_iff_eq]
  omega
theorem box5F {w : World} {p : Nat} {a b c d e f g h : Value} (hp : BoxF w p #[a, b, c, d, e, f, g, h]) : BoxAt w p #[a, b, c, d, e, f, g, h] := hp.box
end Go.Proofs.Ytnfcalegnijobaa
