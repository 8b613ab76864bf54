/- How the laws' arguments are opened: a list of bytes. -/
import Derived.Test.YtkkeeefhleekdaaAlive
import Derived.ProofKit
import Derived.OpenShut
import Derived.ShutString
import Derived.ChangeOld
import Derived.ChangeMaps5
import Derived.Below
import Derived.Deep.Slices
set_option linter.unusedVariables false
namespace Go.Proofs.Ytkkeeefhleekdaa
open Go.ChangeShapes Go.WideShapes Go.ChangeAt Go.RowKit

theorem own : ownKnob Try.prog.godebug = none := by kernel_rfl
theorem laidOut : laidOutB Try.prog = true := by kernel_rfl
theorem cells5 : Try.prog.cellsOf 5 = 1 := by kernel_rfl

theorem cells_one {W : World} {B : Nat} {a : Addr} {cs : List Value} (h : W.cells? B a 1 = some cs) : ∃ c, cs = [c] ∧ W.cell? a = some c := by
  obtain ⟨_, hl, hc⟩ := World.cells?_some h
  match cs, hl with
  | [c], _ => exact ⟨c, rfl, by simpa [Addr.add] using hc 0 (by omega)⟩

theorem open_bytes {H : Type} {enc : TypeId × Value → H} {W : World} {spare : Nat → Bool} {held : Bool} {a : Option Addr} {len cap : Nat} {d : DataW H} {p : List MemPlace}
    (h : DataW.Trod enc Try.prog W 0 spare held 24 (.slice a len cap) d p) : ∃ l : List UInt8, Sl W (.slice a len cap) l := by
  obtain ⟨fuel, hf⟩ := h
  rcases Deep.open_slice Try.underlying24 hf with ⟨h1, _⟩ | ⟨a1, l1, c1, m, n, D, Pl, h1, _, hlc, hm, hmm, _, hcells⟩
  · simp [Value.cells] at h1
    obtain ⟨rfl, rfl, rfl⟩ := h1
    exact ⟨[], none, 0, rfl, Nat.le_refl _, by unfold maxLen; omega, fun h => by simp at h⟩
  · simp [Value.cells] at h1
    obtain ⟨rfl, rfl, rfl⟩ := h1
    rw [cells5] at hcells
    have hlm : len ≤ m := by rw [hmm]; split <;> omega
    have hone : ∀ i, i < len → ∃ x : UInt8, W.cell? (a1.add i) = some (.int .u8 (x.toNat : Int)) := by
      intro i hi
      obtain ⟨cs, hc, ht⟩ := hcells i (by omega)
      rw [Nat.mul_one] at hc
      obtain ⟨c0, rfl, e0⟩ := cells_one hc
      obtain ⟨k, q0, _, wk⟩ := DataW.trod_int Try.underlying5 ht
      simp at q0
      subst q0
      have hb := bounds_u8 wk
      refine ⟨k.toNat.toUInt8, ?_⟩
      rw [e0, u8_nat (by omega)]
      congr 2
      omega
    obtain ⟨f, hf2⟩ := Deep.choose_lt hone
    have hlen : ((List.range len).map f).length = len := by simp
    refine ⟨(List.range len).map f, some a1, cap, by rw [hlen], by omega, hm, fun h0 => ?_⟩
    obtain ⟨b, off, spot⟩ := a1
    have hspot : spot = none := by
      have := World.cell?_spot (hf2 0 (by omega))
      simpa [Addr.add] using this
    subst hspot
    have hb : b < W.heap.size := by
      obtain ⟨cs, hc, _⟩ := hcells 0 (by omega)
      have := World.cells?_block hc (by omega)
      simpa [Addr.add] using this
    refine ⟨b, off, rfl, hb, fun j hj => ?_⟩
    have h3 := hf2 j (by omega)
    have hadd : (⟨b, off, none⟩ : Addr).add j = ⟨b, off + j, none⟩ := by unfold Addr.add; split <;> simp_all
    rw [hadd] at h3
    rw [h3]
    simp
end Go.Proofs.Ytkkeeefhleekdaa
