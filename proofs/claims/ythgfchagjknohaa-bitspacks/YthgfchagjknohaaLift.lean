/- How the laws' arguments are opened: lists of numbers, lists of bytes; lists put behind a list of the call's own. -/
import Derived.Test.YthgfchagjknohaaAlive
import Derived.ProofKit
import Derived.OpenShut
import Derived.ShutString
import Derived.ChangeOld
import Derived.ChangeMaps5
import Derived.Below
import Derived.Deep.Slices
set_option linter.unusedVariables false
namespace Go.Proofs.Ythgfchagjknohaa
open Go.ChangeShapes Go.WideShapes Go.ChangeAt Go.RowKit Go.Lib

theorem own : ownKnob Try.prog.godebug = none := by kernel_rfl
theorem laidOut : laidOutB Try.prog = true := by kernel_rfl

theorem cells_one {W : World} {B : Nat} {a : Addr} {cs : List Value} (h : W.cells? B a 1 = some cs) : ∃ c, cs = [c] ∧ W.cell? a = some c := by
  obtain ⟨_, hl, hc⟩ := World.cells?_some h
  match cs, hl with
  | [c], _ => exact ⟨c, rfl, by simpa [Addr.add] using hc 0 (by omega)⟩

/-- A slice whose numbers are l: nil, or with an address. -/
def Sn (k : IntKind) (W : World) (v : Value) (l : List Nat) : Prop := Sx k W v l ∧ (v = .slice none 0 0 ∨ ∃ ad cap, v = .slice (some ad) l.length cap)

theorem Sn.kept {k : IntKind} {W W' : World} {v : Value} {l : List Nat} (h : Sn k W v l) (hb : Below W.heap.size W W') : Sn k W' v l := ⟨h.1.kept hb, h.2⟩

theorem cells39 : Try.prog.cellsOf 39 = 1 := by kernel_rfl

theorem open_nums {H : Type} {enc : TypeId × Value → H} {W : World} {spare : Nat → Bool} {held : Bool} {a : Option Addr} {len cap : Nat} {d : DataW H} {p : List MemPlace}
    (h : DataW.Trod enc Try.prog W 0 spare held 22 (.slice a len cap) d p) : ∃ l : List Nat, Sn .u64 W (.slice a len cap) l ∧ ∀ x ∈ l, x < 18446744073709551616 := by
  obtain ⟨fuel, hf⟩ := h
  rcases Deep.open_slice Try.underlying22 hf with ⟨h1, _⟩ | ⟨a1, l1, c1, m, n, D, Pl, h1, _, hlc, hm, hmm, _, hcells⟩
  · simp [Value.cells] at h1
    obtain ⟨rfl, rfl, rfl⟩ := h1
    exact ⟨[], ⟨⟨none, 0, rfl, by simp, fun h => by simp at h⟩, Or.inl rfl⟩, by simp⟩
  · simp [Value.cells] at h1
    obtain ⟨rfl, rfl, rfl⟩ := h1
    rw [cells39] at hcells
    have hlm : len ≤ m := by rw [hmm]; split <;> omega
    have hone : ∀ i, i < len → ∃ x : Nat, x < 18446744073709551616 ∧ W.cell? (a1.add i) = some (.int .u64 (x : Int)) := by
      intro i hi
      obtain ⟨cs, hc, ht⟩ := hcells i (by omega)
      rw [Nat.mul_one] at hc
      obtain ⟨c0, rfl, e0⟩ := cells_one hc
      obtain ⟨k, q0, _, wk⟩ := DataW.trod_int Try.underlying39 ht
      simp at q0
      subst q0
      have hb := bounds_u64 wk
      refine ⟨k.toNat, by omega, ?_⟩
      rw [e0]
      congr 2
      omega
    obtain ⟨f, hf2⟩ := Deep.choose_lt hone
    have hlen : ((List.range len).map f).length = len := by simp
    refine ⟨(List.range len).map f, ⟨⟨some a1, cap, by rw [hlen], by omega, fun h0 => ?_⟩, Or.inr ⟨a1, cap, by rw [hlen]⟩⟩, ?_⟩
    · obtain ⟨b, off, spot⟩ := a1
      have hspot : spot = none := by
        have := World.cell?_spot (hf2 0 (by omega)).2
        simpa [Addr.add] using this
      subst hspot
      have hb : b < W.heap.size := by
        obtain ⟨cs, hc, _⟩ := hcells 0 (by omega)
        have := World.cells?_block hc (by omega)
        simpa [Addr.add] using this
      refine ⟨b, off, rfl, hb, fun j hj => ?_⟩
      have h3 := (hf2 j (by omega)).2
      rw [addj] at h3
      rw [h3]
      simp
    · intro x hx
      obtain ⟨i, hi, rfl⟩ := List.mem_map.1 hx
      exact (hf2 i (by simpa using hi)).1

theorem cells5 : Try.prog.cellsOf 5 = 1 := by kernel_rfl

theorem open_bytes {H : Type} {enc : TypeId × Value → H} {W : World} {spare : Nat → Bool} {held : Bool} {a : Option Addr} {len cap : Nat} {d : DataW H} {p : List MemPlace}
    (h : DataW.Trod enc Try.prog W 0 spare held 24 (.slice a len cap) d p) : ∃ l : List Nat, Sn .u8 W (.slice a len cap) l ∧ ∀ x ∈ l, x < 256 := by
  obtain ⟨fuel, hf⟩ := h
  rcases Deep.open_slice Try.underlying24 hf with ⟨h1, _⟩ | ⟨a1, l1, c1, m, n, D, Pl, h1, _, hlc, hm, hmm, _, hcells⟩
  · simp [Value.cells] at h1
    obtain ⟨rfl, rfl, rfl⟩ := h1
    exact ⟨[], ⟨⟨none, 0, rfl, by simp, fun h => by simp at h⟩, Or.inl rfl⟩, by simp⟩
  · simp [Value.cells] at h1
    obtain ⟨rfl, rfl, rfl⟩ := h1
    rw [cells5] at hcells
    have hlm : len ≤ m := by rw [hmm]; split <;> omega
    have hone : ∀ i, i < len → ∃ x : Nat, x < 256 ∧ W.cell? (a1.add i) = some (.int .u8 (x : Int)) := by
      intro i hi
      obtain ⟨cs, hc, ht⟩ := hcells i (by omega)
      rw [Nat.mul_one] at hc
      obtain ⟨c0, rfl, e0⟩ := cells_one hc
      obtain ⟨k, q0, _, wk⟩ := DataW.trod_int Try.underlying5 ht
      simp at q0
      subst q0
      have hb := bounds_u8 wk
      refine ⟨k.toNat, by omega, ?_⟩
      rw [e0]
      congr 2
      omega
    obtain ⟨f, hf2⟩ := Deep.choose_lt hone
    have hlen : ((List.range len).map f).length = len := by simp
    refine ⟨(List.range len).map f, ⟨⟨some a1, cap, by rw [hlen], by omega, fun h0 => ?_⟩, Or.inr ⟨a1, cap, by rw [hlen]⟩⟩, ?_⟩
    · obtain ⟨b, off, spot⟩ := a1
      have hspot : spot = none := by
        have := World.cell?_spot (hf2 0 (by omega)).2
        simpa [Addr.add] using this
      subst hspot
      have hb : b < W.heap.size := by
        obtain ⟨cs, hc, _⟩ := hcells 0 (by omega)
        have := World.cells?_block hc (by omega)
        simpa [Addr.add] using this
      refine ⟨b, off, rfl, hb, fun j hj => ?_⟩
      have h3 := (hf2 j (by omega)).2
      rw [addj] at h3
      rw [h3]
      simp
    · intro x hx
      obtain ⟨i, hi, rfl⟩ := List.mem_map.1 hx
      exact (hf2 i (by simpa using hi)).1

theorem wpList_append_nums {w : World} {ops : Array Oper} {rest : List Oper} {o : Oper} {a : Act} {Q : Exit → Act → World → Prop} (hgd : o.guard = none) (s x : Operand)
    (ho : o.op = .call { callee := .builtin .append, args := #[s, x], argTypes := #[22, 22] })
    (base : Nat) (v vx : Value) (n : Nat) (l0 l : List Nat) (hs : a.eval s = v) (hown : w.ownsRow base 39 1 v n (vals .u64 l0)) (hx : a.eval x = vx) (hsl : Sn .u64 w vx l)
    (hbytes : n + l.length ≤ 10000) (hbase : base ≤ w.heap.size)
    (h : ∀ v' w', w'.ownsRow base 39 1 v' (n + l.length) (vals .u64 (l0 ++ l)) → Below base w w' → wpList Try.prog ops Q rest (a.put o.dst v') w') :
    wpList Try.prog ops Q (o :: rest) a w := by
  obtain ⟨i0, hi, hz0, hz1', hz2⟩ := info_parts info39
  rcases hsl.2 with rfl | ⟨ad, cap, rfl⟩
  · have hl : l = [] := by
      obtain ⟨_, _, h1, _⟩ := hsl.1
      simp only [Value.slice.injEq] at h1
      exact List.eq_nil_of_length_eq_zero h1.2.1.symm
    subst hl
    refine wpList_plain hgd fun K hK => ?_
    have hr := run_append_owned_none (P := Try.prog) (w := w) base 22 o.type 39 i0 1 Try.underlying22 hi v n (vals .u64 l0) hown
    unfold Oper.wp execOp
    simp only [ho, resolve, invoke, builtin, Sem.run_bind, Sem.run_pure, Result.andThen_ok, List.map_toArray, List.map_cons, List.map_nil, hs, hx, hr]
    refine hK _ _ (h v w ?_ (Below.refl _ _))
    rw [List.append_nil]
    exact hown
  · refine wpList_append_own_at (w := w) hgd s x 22 ho base 39 i0 (.int .u64 0) 1 8 Try.underlying22 hi hz0 hz1' hz2 rfl (by decide) v n (vals .u64 l0) hs hown ad l.length cap (vals .u64 l) hx (by rw [vals_length]; omega) ?_ (vals_oneCell _ _) (by unfold maxLen; omega) (by omega) hbase ?_
    · intro j u hu
      have hj : j < l.length := by
        have := (List.getElem?_eq_some_iff.1 hu).1
        rwa [vals_length] at this
      obtain ⟨a1, c1, h1, _, h3⟩ := hsl.1
      simp only [Value.slice.injEq] at h1
      obtain ⟨rfl, _, rfl⟩ := h1
      obtain ⟨b, off, h4, _, h5⟩ := h3 (by omega)
      cases h4
      rw [addj, h5 j hj]
      rw [vals_get hj] at hu
      exact hu
    · intro v' w' o1 g1 _ _
      refine h v' w' ?_ ((Below.refl base w).grown g1 hbase (fun k hk => (hown.lt k hk).1))
      rw [vals_append]
      exact o1

theorem wpList_append_bytes {w : World} {ops : Array Oper} {rest : List Oper} {o : Oper} {a : Act} {Q : Exit → Act → World → Prop} (hgd : o.guard = none) (s x : Operand)
    (ho : o.op = .call { callee := .builtin .append, args := #[s, x], argTypes := #[24, 24] })
    (base : Nat) (v vx : Value) (n : Nat) (l0 l : List Nat) (hs : a.eval s = v) (hown : w.ownsRow base 5 1 v n (vals .u8 l0)) (hx : a.eval x = vx) (hsl : Sn .u8 w vx l)
    (hbytes : n + l.length ≤ 10000) (hbase : base ≤ w.heap.size)
    (h : ∀ v' w', w'.ownsRow base 5 1 v' (n + l.length) (vals .u8 (l0 ++ l)) → Below base w w' → wpList Try.prog ops Q rest (a.put o.dst v') w') :
    wpList Try.prog ops Q (o :: rest) a w := by
  obtain ⟨i0, hi, hz0, hz1', hz2⟩ := info_parts info5
  rcases hsl.2 with rfl | ⟨ad, cap, rfl⟩
  · have hl : l = [] := by
      obtain ⟨_, _, h1, _⟩ := hsl.1
      simp only [Value.slice.injEq] at h1
      exact List.eq_nil_of_length_eq_zero h1.2.1.symm
    subst hl
    refine wpList_plain hgd fun K hK => ?_
    have hr := run_append_owned_none (P := Try.prog) (w := w) base 24 o.type 5 i0 1 Try.underlying24 hi v n (vals .u8 l0) hown
    unfold Oper.wp execOp
    simp only [ho, resolve, invoke, builtin, Sem.run_bind, Sem.run_pure, Result.andThen_ok, List.map_toArray, List.map_cons, List.map_nil, hs, hx, hr]
    refine hK _ _ (h v w ?_ (Below.refl _ _))
    rw [List.append_nil]
    exact hown
  · refine wpList_append_own_at (w := w) hgd s x 24 ho base 5 i0 (.int .u8 0) 1 1 Try.underlying24 hi hz0 hz1' hz2 rfl (by decide) v n (vals .u8 l0) hs hown ad l.length cap (vals .u8 l) hx (by rw [vals_length]; omega) ?_ (vals_oneCell _ _) (by unfold maxLen; omega) (by omega) hbase ?_
    · intro j u hu
      have hj : j < l.length := by
        have := (List.getElem?_eq_some_iff.1 hu).1
        rwa [vals_length] at this
      obtain ⟨a1, c1, h1, _, h3⟩ := hsl.1
      simp only [Value.slice.injEq] at h1
      obtain ⟨rfl, _, rfl⟩ := h1
      obtain ⟨b, off, h4, _, h5⟩ := h3 (by omega)
      cases h4
      rw [addj, h5 j hj]
      rw [vals_get hj] at hu
      exact hu
    · intro v' w' o1 g1 _ _
      refine h v' w' ?_ ((Below.refl base w).grown g1 hbase (fun k hk => (hown.lt k hk).1))
      rw [vals_append]
      exact o1
end Go.Proofs.Ythgfchagjknohaa
