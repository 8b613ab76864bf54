/- How the laws' arguments are opened: a list of numbers. -/
import Derived.Test.YtkkeeefhleekdabAlive
import Derived.ProofKit
import Derived.OpenShut
import Derived.ShutString
import Derived.ChangeOld
import Derived.ChangeMaps5
import Derived.Below
import Derived.Deep.Slices
set_option linter.unusedVariables false
namespace Go.Proofs.Ytkkeeefhleekdab
open Go.ChangeShapes Go.WideShapes Go.ChangeAt Go.RowKit

theorem own : ownKnob Try.prog.godebug = none := by kernel_rfl
theorem laidOut : laidOutB Try.prog = true := by kernel_rfl
theorem cells26 : Try.prog.cellsOf 26 = 1 := by kernel_rfl

theorem cells_one {W : World} {B : Nat} {a : Addr} {cs : List Value} (h : W.cells? B a 1 = some cs) : ∃ c, cs = [c] ∧ W.cell? a = some c := by
  obtain ⟨_, hl, hc⟩ := World.cells?_some h
  match cs, hl with
  | [c], _ => exact ⟨c, rfl, by simpa [Addr.add] using hc 0 (by omega)⟩

/-- The cells of a list of numbers that came in, from address (b, off) on. -/
def NumsAt (w : World) (b off len : Nat) (f : Nat → Nat) : Prop := ∀ i, i < len → f i < 18446744073709551616 ∧ w.cell? ⟨b, off + i, none⟩ = some (.int .u64 (f i : Int))

theorem open_nums {H : Type} {enc : TypeId × Value → H} {W : World} {spare : Nat → Bool} {held : Bool} {a : Option Addr} {len cap : Nat} {d : DataW H} {p : List MemPlace}
    (h : DataW.Trod enc Try.prog W 0 spare held 22 (.slice a len cap) d p) : len ≤ maxLen ∧ (0 < len → ∃ b off f, a = some ⟨b, off, none⟩ ∧ b < W.heap.size ∧ NumsAt W b off len f) := by
  obtain ⟨fuel, hf⟩ := h
  rcases Deep.open_slice Try.underlying22 hf with ⟨h1, _⟩ | ⟨a1, l1, c1, m, n, D, Pl, h1, _, hlc, hm, hmm, _, hcells⟩
  · simp [Value.cells] at h1
    obtain ⟨rfl, rfl, rfl⟩ := h1
    exact ⟨by unfold maxLen; omega, fun h => by omega⟩
  · simp [Value.cells] at h1
    obtain ⟨rfl, rfl, rfl⟩ := h1
    rw [cells26] at hcells
    have hlm : len ≤ m := by rw [hmm]; split <;> omega
    refine ⟨by omega, fun hp => ?_⟩
    have hone : ∀ i, i < len → ∃ x : Nat, x < 18446744073709551616 ∧ W.cell? (a1.add i) = some (.int .u64 (x : Int)) := by
      intro i hi
      obtain ⟨cs, hc, ht⟩ := hcells i (by omega)
      rw [Nat.mul_one] at hc
      obtain ⟨c0, rfl, e0⟩ := cells_one hc
      obtain ⟨k, q0, _, wk⟩ := DataW.trod_int Try.underlying26 ht
      simp at q0
      subst q0
      have hb := bounds_u64 wk
      refine ⟨k.toNat, by omega, ?_⟩
      rw [e0]
      congr 2
      omega
    obtain ⟨f, hf2⟩ := Deep.choose_lt hone
    obtain ⟨b, off, spot⟩ := a1
    have hspot : spot = none := by
      have := World.cell?_spot (hf2 0 (by omega)).2
      simpa [Addr.add] using this
    subst hspot
    have hb : b < W.heap.size := by
      obtain ⟨cs, hc, _⟩ := hcells 0 (by omega)
      have := World.cells?_block hc (by omega)
      simpa [Addr.add] using this
    refine ⟨b, off, f, rfl, hb, fun j hj => ⟨(hf2 j hj).1, ?_⟩⟩
    have h3 := (hf2 j hj).2
    have hadd : (⟨b, off, none⟩ : Addr).add j = ⟨b, off + j, none⟩ := by unfold Addr.add; split <;> simp_all
    rwa [hadd] at h3
end Go.Proofs.Ytkkeeefhleekdab
