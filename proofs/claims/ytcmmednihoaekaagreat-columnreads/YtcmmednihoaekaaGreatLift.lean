/- What the laws' last steps share: a list of bytes, a list of cells opened out of a reading. -/
import Derived.Test.YtcmmednihoaekaaGreatLwC
import Derived.Test.YtcmmednihoaekaaGreatRows
import Derived.ProofKit
import Derived.OpenShut
import Derived.ShutString
import Derived.ChangeOld
import Derived.ChangeMaps5
import Derived.Below
import Derived.Deep.Slices
import Derived.Deep.Strs
set_option linter.unusedVariables false
namespace Go.Proofs.YtcmmednihoaekaaGreat
open Go.ChangeShapes Go.WideShapes Go.ChangeAt Go.RowKit Go.Lib

theorem own : ownKnob Tryz.prog.godebug = none := by kernel_rfl
theorem laidOut : laidOutB Tryz.prog = true := by kernel_rfl

theorem cells_one {W : World} {B : Nat} {a : Addr} {cs : List Value} (h : W.cells? B a 1 = some cs) : ∃ c, cs = [c] ∧ W.cell? a = some c := by
  obtain ⟨_, hl, hc⟩ := World.cells?_some h
  match cs, hl with
  | [c], _ => exact ⟨c, rfl, by simpa [Addr.add] using hc 0 (by omega)⟩

theorem cells2 : Tryz.prog.cellsOf 2 = 1 := by kernel_rfl
theorem cells5 : Tryz.prog.cellsOf 5 = 1 := by kernel_rfl

theorem open_bytes {H : Type} {enc : TypeId × Value → H} {W : World} {spare : Nat → Bool} {held : Bool} {a : Option Addr} {len cap : Nat} {d : DataW H} {p : List MemPlace}
    (h : DataW.Trod enc Tryz.prog W 0 spare held 24 (.slice a len cap) d p) : ∃ l : List Nat, Sv W (.slice a len cap) (vals .u8 l) ∧ Bs l := by
  obtain ⟨fuel, hf⟩ := h
  rcases Deep.open_slice Tryz.underlying24 hf with ⟨h1, _⟩ | ⟨a1, l1, c1, m, n, D, Pl, h1, _, hlc, hm, hmm, _, hcells⟩
  · simp [Value.cells] at h1
    obtain ⟨rfl, rfl, rfl⟩ := h1
    exact ⟨[], Sv.nil _, fun x hx => by simp at hx⟩
  · simp [Value.cells] at h1
    obtain ⟨rfl, rfl, rfl⟩ := h1
    rw [cells5] at hcells
    have hlm : len ≤ m := by rw [hmm]; split <;> omega
    have hone : ∀ i, i < len → ∃ x : Nat, x < 256 ∧ W.cell? (a1.add i) = some (.int .u8 (x : Int)) := by
      intro i hi
      obtain ⟨cs, hc, ht⟩ := hcells i (by omega)
      rw [Nat.mul_one] at hc
      obtain ⟨c0, rfl, e0⟩ := cells_one hc
      obtain ⟨k, q0, _, wk⟩ := DataW.trod_int Tryz.underlying5 ht
      simp at q0
      subst q0
      have hb := bounds_u8 wk
      refine ⟨k.toNat, by omega, ?_⟩
      rw [e0]
      congr 2
      omega
    obtain ⟨f, hf2⟩ := Deep.choose_lt hone
    have hlen : (vals .u8 ((List.range len).map f)).length = len := by simp [vals]
    refine ⟨(List.range len).map f, ⟨some a1, cap, by rw [hlen], by omega, by omega, fun h => (by cases h), fun h0 => ?_⟩, ?_⟩
    · obtain ⟨b, off, spot⟩ := a1
      have hspot : spot = none := by
        have := World.cell?_spot (hf2 0 (by omega)).2
        simpa [Addr.add] using this
      subst hspot
      have hb : b < W.heap.size := by
        obtain ⟨cs, hc, _⟩ := hcells 0 (by omega)
        have := World.cells?_block hc (by omega)
        simpa [Addr.add] using this
      refine ⟨b, off, rfl, hb, fun j x hj => ?_⟩
      have hjl : j < len := by
        have := (List.getElem?_eq_some_iff.1 hj).1
        omega
      have h3 := (hf2 j hjl).2
      rw [addj] at h3
      rw [h3, ← hj]
      simp [vals, hjl]
    · intro x hx
      obtain ⟨i, hi, rfl⟩ := List.mem_map.1 hx
      exact (hf2 i (by simpa using hi)).1

theorem cells45 : Tryz.prog.cellsOf 45 = 3 := by kernel_rfl

theorem open_cells {H : Type} {enc : TypeId × Value → H} {W : World} {spare : Nat → Bool} {held : Bool} {a : Option Addr} {len cap : Nat} {d : DataW H} {p : List MemPlace}
    (h : DataW.Trod enc Tryz.prog W 0 spare held 22 (.slice a len cap) d p) : ∃ l : List (Nat × Int × List Nat), Sc W (.slice a len cap) l ∧ ∀ c ∈ l, Okc c := by
  obtain ⟨fuel, hf⟩ := h
  rcases Deep.open_slice Tryz.underlying22 hf with ⟨h1, _⟩ | ⟨a1, l1, c1, m, n, D, Pl, h1, _, hlc, hm, hmm, _, hcells⟩
  · simp [Value.cells] at h1
    obtain ⟨rfl, rfl, rfl⟩ := h1
    exact ⟨[], ⟨none, 0, rfl, Nat.le_refl _, by unfold maxLen; omega, fun h => by simp at h⟩, fun x hx => by simp at hx⟩
  · simp [Value.cells] at h1
    obtain ⟨rfl, rfl, rfl⟩ := h1
    rw [cells45] at hcells
    have hlm : len ≤ m := by rw [hmm]; split <;> omega
    have hone : ∀ i, i < len → ∃ x : Nat × Int × List Nat, Okc x ∧ W.cell? ((a1.add (i * 3)).add 0) = some (.int .u8 (x.1 : Int)) ∧ W.cell? ((a1.add (i * 3)).add 1) = some (.int .i64 x.2.1) ∧ W.cell? ((a1.add (i * 3)).add 2) = some (txt x.2.2) := by
      intro i hi
      obtain ⟨cs, hc, ht⟩ := hcells i (by omega)
      obtain ⟨c0, c1, c2, rfl, e0, e1, e2⟩ := cells_three hc
      obtain ⟨y0, y1, y2, m1, _, _, t0, t1, t2⟩ := Deep.trod_struct3 Tryz.underlying45 ht
      have k28 : Tryz.prog.cellsOf 28 = 1 := by kernel_rfl
      have k9 : Tryz.prog.cellsOf 9 = 1 := by kernel_rfl
      have k2 : Tryz.prog.cellsOf 2 = 1 := by kernel_rfl
      simp only [k28, k9, k2] at t0 t1 t2
      obtain ⟨k, q0, _, wk⟩ := DataW.trod_int Tryz.underlying28 t0
      obtain ⟨n, q1, _, wn⟩ := DataW.trod_int Tryz.underlying2 t1
      obtain ⟨s, q2, _⟩ := DataW.trod_string Tryz.underlying9 t2
      simp at q0 q1 q2
      subst q0 q1 q2
      have hk := bounds_u8 wk
      have hn := bounds_i64 wn
      have hI : I64 n := ⟨hn.1, by have := hn.2; omega⟩
      have hke : ((k.toNat : Nat) : Int) = k := by omega
      refine ⟨(k.toNat, n, natsT s), ⟨show k.toNat < 256 by omega, hI, natsT_bs s⟩, ?_, e1, ?_⟩
      · show _ = some (Value.int .u8 ((k.toNat : Nat) : Int))
        rw [e0, hke]
      · rw [e2, txt_eq, bytesT_nats]
    obtain ⟨f, hf2⟩ := Deep.choose_lt hone
    have hll : ((List.range len).map f).length = len := by simp
    refine ⟨(List.range len).map f, ⟨some a1, cap, by rw [hll], by rw [hll]; omega, by omega, fun h0 => ?_⟩, ?_⟩
    · rw [hll] at h0
      obtain ⟨b, off, spot⟩ := a1
      have hspot : spot = none := by
        have := World.cell?_spot (hf2 0 (by omega)).2.1
        simpa [Addr.add] using this
      subst hspot
      have hb : b < W.heap.size := by
        obtain ⟨cs, hc, _⟩ := hcells 0 (by omega)
        have := World.cells?_block hc (by omega)
        simpa [Addr.add] using this
      refine ⟨b, off, rfl, hb, fun j x hj => ?_⟩
      have hjl : j < len * 3 := by
        have := (List.getElem?_eq_some_iff.1 hj).1
        rw [cvals_length, hll] at this
        exact this
      have hi : j / 3 < len := by omega
      have hi2 : j / 3 < ((List.range len).map f).length := by rw [hll]; exact hi
      obtain ⟨g0, g1, g2⟩ := cvals_get hi2
      obtain ⟨_, k0, k1, k2⟩ := hf2 (j / 3) hi
      rw [addj, addj] at k0 k1 k2
      have hfe : ((List.range len).map f)[j / 3] = f (j / 3) := by simp
      rw [hfe] at g0 g1 g2
      obtain h | h | h : j = j / 3 * 3 ∨ j = j / 3 * 3 + 1 ∨ j = j / 3 * 3 + 2 := by omega
      · rw [h] at hj ⊢
        rw [g0] at hj
        rw [← hj, ← k0]
        rfl
      · rw [h] at hj ⊢
        rw [g1] at hj
        rw [← hj, ← k1]
        rfl
      · rw [h] at hj ⊢
        rw [g2] at hj
        rw [← hj, ← k2]
        rfl
    · intro x hx
      obtain ⟨i, hi, rfl⟩ := List.mem_map.1 hx
      exact (hf2 i (by simpa using hi)).1
end Go.Proofs.YtcmmednihoaekaaGreat
