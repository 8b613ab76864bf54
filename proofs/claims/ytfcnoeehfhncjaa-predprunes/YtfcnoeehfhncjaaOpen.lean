/- What the laws' last steps share: a schema, a list of cells opened out of a reading. -/
import Derived.Test.YtfcnoeehfhncjaaFlds
import Derived.Test.YtfcnoeehfhncjaaRows
import Derived.ProofKit
import Derived.OpenShut
import Derived.ShutString
import Derived.ChangeOld
import Derived.ChangeMaps5
import Derived.Below
import Derived.Deep.Slices
import Derived.Deep.Strs
import Derived.Lib.SmallJoins
set_option linter.unusedVariables false
set_option linter.unusedSimpArgs false
namespace Go.Proofs.Ytfcnoeehfhncjaa
open Go.ChangeShapes Go.WideShapes Go.ChangeAt Go.RowKit Go.Lib Go.Joins

theorem own : ownKnob Try.prog.godebug = none := by kernel_rfl

theorem laidOut : laidOutB Try.prog = true := by kernel_rfl

theorem cells_one {W : World} {B : Nat} {a : Addr} {cs : List Value} (h : W.cells? B a 1 = some cs) : ∃ c, cs = [c] ∧ W.cell? a = some c := by
  obtain ⟨_, hl, hc⟩ := World.cells?_some h
  match cs, hl with
  | [c], _ => exact ⟨c, rfl, by simpa [Addr.add] using hc 0 (by omega)⟩

theorem cells2 : Try.prog.cellsOf 2 = 1 := by kernel_rfl

theorem cells5 : Try.prog.cellsOf 5 = 1 := by kernel_rfl

theorem open_bytes {H : Type} {enc : TypeId × Value → H} {W : World} {spare : Nat → Bool} {held : Bool} {a : Option Addr} {len cap : Nat} {d : DataW H} {p : List MemPlace}
    (h : DataW.Trod enc Try.prog W 0 spare held 100 (.slice a len cap) d p) : ∃ l : List Nat, Sv W (.slice a len cap) (vals .u8 l) ∧ Bs l := by
  obtain ⟨fuel, hf⟩ := h
  rcases Deep.open_slice Try.underlying100 hf with ⟨h1, _⟩ | ⟨a1, l1, c1, m, n, D, Pl, h1, _, hlc, hm, hmm, _, hcells⟩
  · simp [Value.cells] at h1
    obtain ⟨rfl, rfl, rfl⟩ := h1
    exact ⟨[], Sv.nil _, fun x hx => by simp at hx⟩
  · simp [Value.cells] at h1
    obtain ⟨rfl, rfl, rfl⟩ := h1
    rw [cells5] at hcells
    have hlm : len ≤ m := by rw [hmm]; split <;> omega
    have hone : ∀ i, i < len → ∃ x : Nat, x < 256 ∧ W.cell? (a1.add i) = some (.int .u8 (x : Int)) := by
      intro i hi
      obtain ⟨cs, hc, ht⟩ := hcells i (by omega)
      rw [Nat.mul_one] at hc
      obtain ⟨c0, rfl, e0⟩ := cells_one hc
      obtain ⟨k, q0, _, wk⟩ := DataW.trod_int Try.underlying5 ht
      simp at q0
      subst q0
      have hb := bounds_u8 wk
      refine ⟨k.toNat, by omega, ?_⟩
      rw [e0]
      congr 2
      omega
    obtain ⟨f, hf2⟩ := Deep.choose_lt hone
    have hlen : (vals .u8 ((List.range len).map f)).length = len := by simp [vals]
    refine ⟨(List.range len).map f, ⟨some a1, cap, by rw [hlen], by omega, by omega, fun h => (by cases h), fun h0 => ?_⟩, ?_⟩
    · obtain ⟨b, off, spot⟩ := a1
      have hspot : spot = none := by
        have := World.cell?_spot (hf2 0 (by omega)).2
        simpa [Addr.add] using this
      subst hspot
      have hb : b < W.heap.size := by
        obtain ⟨cs, hc, _⟩ := hcells 0 (by omega)
        have := World.cells?_block hc (by omega)
        simpa [Addr.add] using this
      refine ⟨b, off, rfl, hb, fun j x hj => ?_⟩
      have hjl : j < len := by
        have := (List.getElem?_eq_some_iff.1 hj).1
        omega
      have h3 := (hf2 j hjl).2
      rw [addj] at h3
      rw [h3, ← hj]
      simp [vals, hjl]
    · intro x hx
      obtain ⟨i, hi, rfl⟩ := List.mem_map.1 hx
      exact (hf2 i (by simpa using hi)).1

theorem cells27 : Try.prog.cellsOf 27 = 3 := by kernel_rfl

theorem open_cells {H : Type} {enc : TypeId × Value → H} {W : World} {spare : Nat → Bool} {held : Bool} {a : Option Addr} {len cap : Nat} {d : DataW H} {p : List MemPlace}
    (h : DataW.Trod enc Try.prog W 0 spare held 22 (.slice a len cap) d p) : ∃ l : List (Nat × Int × List Nat), Sc W (.slice a len cap) l ∧ ∀ c ∈ l, Okc c := by
  obtain ⟨fuel, hf⟩ := h
  rcases Deep.open_slice Try.underlying22 hf with ⟨h1, _⟩ | ⟨a1, l1, c1, m, n, D, Pl, h1, _, hlc, hm, hmm, _, hcells⟩
  · simp [Value.cells] at h1
    obtain ⟨rfl, rfl, rfl⟩ := h1
    exact ⟨[], ⟨none, 0, rfl, Nat.le_refl _, by unfold maxLen; omega, fun h => by simp at h⟩, fun x hx => by simp at hx⟩
  · simp [Value.cells] at h1
    obtain ⟨rfl, rfl, rfl⟩ := h1
    rw [cells27] at hcells
    have hlm : len ≤ m := by rw [hmm]; split <;> omega
    have hone : ∀ i, i < len → ∃ x : Nat × Int × List Nat, Okc x ∧ W.cell? ((a1.add (i * 3)).add 0) = some (.int .u8 (x.1 : Int)) ∧ W.cell? ((a1.add (i * 3)).add 1) = some (.int .i64 x.2.1) ∧ W.cell? ((a1.add (i * 3)).add 2) = some (txt x.2.2) := by
      intro i hi
      obtain ⟨cs, hc, ht⟩ := hcells i (by omega)
      obtain ⟨c0, c1, c2, rfl, e0, e1, e2⟩ := cells_three hc
      obtain ⟨y0, y1, y2, m1, _, _, t0, t1, t2⟩ := Deep.trod_struct3 Try.underlying27 ht
      have k28 : Try.prog.cellsOf 25 = 1 := by kernel_rfl
      have k9 : Try.prog.cellsOf 9 = 1 := by kernel_rfl
      have k2 : Try.prog.cellsOf 2 = 1 := by kernel_rfl
      simp only [k28, k9, k2] at t0 t1 t2
      obtain ⟨k, q0, _, wk⟩ := DataW.trod_int Try.underlying25 t0
      obtain ⟨n, q1, _, wn⟩ := DataW.trod_int Try.underlying2 t1
      obtain ⟨s, q2, _⟩ := DataW.trod_string Try.underlying9 t2
      simp at q0 q1 q2
      subst q0 q1 q2
      have hk := bounds_u8 wk
      have hn := bounds_i64 wn
      have hI : I64 n := ⟨hn.1, by have := hn.2; omega⟩
      have hke : ((k.toNat : Nat) : Int) = k := by omega
      refine ⟨(k.toNat, n, natsT s), ⟨show k.toNat < 256 by omega, hI, natsT_bs s⟩, ?_, e1, ?_⟩
      · show _ = some (Value.int .u8 ((k.toNat : Nat) : Int))
        rw [e0, hke]
      · rw [e2, txt_eq, bytesT_nats]
    obtain ⟨f, hf2⟩ := Deep.choose_lt hone
    have hll : ((List.range len).map f).length = len := by simp
    refine ⟨(List.range len).map f, ⟨some a1, cap, by rw [hll], by rw [hll]; omega, by omega, fun h0 => ?_⟩, ?_⟩
    · rw [hll] at h0
      obtain ⟨b, off, spot⟩ := a1
      have hspot : spot = none := by
        have := World.cell?_spot (hf2 0 (by omega)).2.1
        simpa [Addr.add] using this
      subst hspot
      have hb : b < W.heap.size := by
        obtain ⟨cs, hc, _⟩ := hcells 0 (by omega)
        have := World.cells?_block hc (by omega)
        simpa [Addr.add] using this
      refine ⟨b, off, rfl, hb, fun j x hj => ?_⟩
      have hjl : j < len * 3 := by
        have := (List.getElem?_eq_some_iff.1 hj).1
        rw [cvals_length, hll] at this
        exact this
      have hi : j / 3 < len := by omega
      have hi2 : j / 3 < ((List.range len).map f).length := by rw [hll]; exact hi
      obtain ⟨g0, g1, g2⟩ := cvals_get hi2
      obtain ⟨_, k0, k1, k2⟩ := hf2 (j / 3) hi
      rw [addj, addj] at k0 k1 k2
      have hfe : ((List.range len).map f)[j / 3] = f (j / 3) := by simp
      rw [hfe] at g0 g1 g2
      obtain h | h | h : j = j / 3 * 3 ∨ j = j / 3 * 3 + 1 ∨ j = j / 3 * 3 + 2 := by omega
      · rw [h] at hj ⊢
        rw [g0] at hj
        rw [← hj, ← k0]
        rfl
      · rw [h] at hj ⊢
        rw [g1] at hj
        rw [← hj, ← k1]
        rfl
      · rw [h] at hj ⊢
        rw [g2] at hj
        rw [← hj, ← k2]
        rfl
    · intro x hx
      obtain ⟨i, hi, rfl⟩ := List.mem_map.1 hx
      exact (hf2 i (by simpa using hi)).1

theorem cells80 : Try.prog.cellsOf 80 = 4 := by kernel_rfl

theorem cells42 : Try.prog.cellsOf 42 = 2 := by kernel_rfl

theorem cells_four {W : World} {base : Nat} {a : Addr} {cs : List Value} (h : W.cells? base a 4 = some cs) : ∃ c0 c1 c2 c3, cs = [c0, c1, c2, c3] ∧ W.cell? (a.add 0) = some c0 ∧ W.cell? (a.add 1) = some c1 ∧ W.cell? (a.add 2) = some c2 ∧ W.cell? (a.add 3) = some c3 := by
  obtain ⟨_, hl, hc⟩ := World.cells?_some h
  match cs, hl with
  | [c0, c1, c2, c3], _ => exact ⟨c0, c1, c2, c3, rfl, by simpa using hc 0 (by omega), by simpa using hc 1 (by omega), by simpa using hc 2 (by omega), by simpa using hc 3 (by omega)⟩

theorem open_fields {H : Type} {enc : TypeId × Value → H} {W : World} {spare : Nat → Bool} {held : Bool} {fuel : Nat} {v : Value} {y : DataW H × List MemPlace}
    (hf : DataW.trod enc Try.prog W 0 spare held fuel 40 [v] = some y) : ∃ l : List Fd, Sf W v l ∧ ∀ f ∈ l, Okf f := by
  rcases Deep.open_slice Try.underlying40 hf with ⟨h1, _⟩ | ⟨a1, len, cap, m, n, D, Pl, h1, _, hlc, hm, hmm, _, hcells⟩
  · simp at h1
    subst h1
    exact ⟨[], Sf.nil _, fun x hx => by simp at hx⟩
  · simp at h1
    subst h1
    rw [cells80] at hcells
    have hlm : len ≤ m := by rw [hmm]; split <;> omega
    have hone : ∀ i, i < len → ∃ x : Fd, Okf x ∧ W.cell? ((a1.add (i * 4)).add 0) = some (.int .u32 (x.1 : Int)) ∧ W.cell? ((a1.add (i * 4)).add 1) = some (.string x.2.1) ∧ W.cell? ((a1.add (i * 4)).add 2) = some (.int .u8 (x.2.2.1 : Int)) ∧ W.cell? ((a1.add (i * 4)).add 3) = some (.bool x.2.2.2) := by
      intro i hi
      obtain ⟨cs, hc, ht⟩ := hcells i (by omega)
      obtain ⟨c0, c1, c2, c3, rfl, e0, e1, e2, e3⟩ := cells_four hc
      obtain ⟨y0, y1, y2, y3, m1, _, _, t0, t1, t2, t3⟩ := trod_struct4 Try.underlying80 ht
      have k22 : Try.prog.cellsOf 36 = 1 := by kernel_rfl
      have k9 : Try.prog.cellsOf 9 = 1 := by kernel_rfl
      have k31 : Try.prog.cellsOf 25 = 1 := by kernel_rfl
      have k4 : Try.prog.cellsOf 4 = 1 := by kernel_rfl
      simp only [k22, k9, k31, k4] at t0 t1 t2 t3
      obtain ⟨k, q0, _, wk⟩ := DataW.trod_int Try.underlying36 t0
      obtain ⟨s, q1, _⟩ := DataW.trod_string Try.underlying9 t1
      obtain ⟨n, q2, _, wn⟩ := DataW.trod_int Try.underlying25 t2
      obtain ⟨bo, q3, _⟩ := DataW.trod_bool Try.underlying4 t3
      simp at q0 q1 q2 q3
      subst q0 q1 q2 q3
      have hk := bounds_u32 wk
      have hn := bounds_u8 wn
      have hke : ((k.toNat : Nat) : Int) = k := by omega
      have hne : ((n.toNat : Nat) : Int) = n := by omega
      refine ⟨(k.toNat, s, n.toNat, bo), ⟨show k.toNat < 4294967296 by omega, show n.toNat < 256 by omega⟩, ?_, e1, ?_, e3⟩
      · show _ = some (Value.int .u32 ((k.toNat : Nat) : Int))
        rw [e0, hke]
      · show _ = some (Value.int .u8 ((n.toNat : Nat) : Int))
        rw [e2, hne]
    obtain ⟨f, hf2⟩ := Deep.choose_lt hone
    have hll : ((List.range len).map f).length = len := by simp
    refine ⟨(List.range len).map f, ⟨some a1, cap, by rw [hll], by rw [hll]; omega, by omega, fun h => by (cases h), fun h0 => ?_⟩, ?_⟩
    · rw [hll] at h0
      obtain ⟨b, off, spot⟩ := a1
      have hspot : spot = none := by
        have := World.cell?_spot (hf2 0 (by omega)).2.1
        simpa [Addr.add] using this
      subst hspot
      have hb : b < W.heap.size := by
        obtain ⟨cs, hc, _⟩ := hcells 0 (by omega)
        have := World.cells?_block hc (by omega)
        simpa [Addr.add] using this
      refine ⟨b, off, rfl, hb, fun j x hj => ?_⟩
      have hjl : j < len * 4 := by
        have := (List.getElem?_eq_some_iff.1 hj).1
        rw [fvals_length, hll] at this
        exact this
      have hi : j / 4 < len := by omega
      have hi2 : j / 4 < ((List.range len).map f).length := by rw [hll]; exact hi
      obtain ⟨g0, g1, g2, g3⟩ := fvals_get hi2
      obtain ⟨_, k0, k1, k2, k3⟩ := hf2 (j / 4) hi
      rw [addj, addj] at k0 k1 k2 k3
      have hfe : ((List.range len).map f)[j / 4] = f (j / 4) := by simp
      rw [hfe] at g0 g1 g2 g3
      obtain h | h | h | h : j = j / 4 * 4 ∨ j = j / 4 * 4 + 1 ∨ j = j / 4 * 4 + 2 ∨ j = j / 4 * 4 + 3 := by omega
      · rw [h] at hj ⊢
        rw [g0] at hj
        rw [← hj, ← k0]
        rfl
      · rw [h] at hj ⊢
        rw [g1] at hj
        rw [← hj, ← k1]
        rfl
      · rw [h] at hj ⊢
        rw [g2] at hj
        rw [← hj, ← k2]
        rfl
      · rw [h] at hj ⊢
        rw [g3] at hj
        rw [← hj, ← k3]
        rfl
    · intro x hx
      obtain ⟨i, hi, rfl⟩ := List.mem_map.1 hx
      exact (hf2 i (by simpa using hi)).1

set_option maxRecDepth 100000 in
theorem open_schema {H : Type} {enc : TypeId × Value → H} {W : World} {r : Reach} {b0 : Nat} {spare : Nat → Bool} {held : Bool} {v : Value} {d : DataW H} {p : List MemPlace}
    (hv : Value.okWide Try.prog W r b0 42 v) (h : DataW.Trod enc Try.prog W 0 spare held 42 v d p) :
    ∃ (id : Nat) (u : Value) (l : List Fd), v = .agg #[.int .u32 (id : Int), u] ∧ id < 4294967296 ∧ Sf W u l ∧ ∀ f ∈ l, Okf f := by
  obtain ⟨c0, c1, y0, y1, m, rfl, _, _, h0, h1⟩ := open_agg2 Try.underlying42 (by kernel_rfl) cells42 hv h
  obtain ⟨k, e0, _, wk⟩ := DataW.trod_int Try.underlying36 h0
  simp at e0
  subst e0
  have hk := bounds_u32 wk
  obtain ⟨l, hl, ho⟩ := open_fields h1
  obtain ⟨n, rfl⟩ := Int.eq_ofNat_of_zero_le hk.1
  exact ⟨n, c1, l, rfl, by omega, hl, ho⟩
end Go.Proofs.Ytfcnoeehfhncjaa
