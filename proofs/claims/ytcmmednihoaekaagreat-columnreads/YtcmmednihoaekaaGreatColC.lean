/- Contracts of layer column: what is put behind what: put, and gather for each of its three closures. -/
import Derived.Test.YtcmmednihoaekaaGreatColB
set_option linter.unusedVariables false
set_option linter.unusedSimpArgs false
namespace Go.Proofs.YtcmmednihoaekaaGreat
open Go.RowKit Go.Lib

/-- Bytes put behind bytes of the call's own; which blocks stay. -/
theorem wpList_append_sg {w : World} {ops : Array Oper} {rest : List Oper} {o : Oper} {a : Act} {Q : Exit → Act → World → Prop} (hgd : o.guard = none) (s x : Operand)
    (ho : o.op = .call { callee := .builtin .append, args := #[s, x], argTypes := #[24, 24] })
    (base : Nat) (v vx : Value) (l0 l : List Nat) (hs : a.eval s = v) (hown : OwnB w base v l0) (hx : a.eval x = vx) (hsl : Sv w vx (vals .u8 l))
    (hbytes : l0.length + l.length ≤ 140737488355328) (hbase : base ≤ w.heap.size)
    (h : ∀ v' w', OwnB w' base v' (l0 ++ l) → w.grownBy w' v.ownBlock → wpList Tryz.prog ops Q rest (a.put o.dst v') w') :
    wpList Tryz.prog ops Q (o :: rest) a w := by
  obtain ⟨i0, hi, hz0, hz1', hz2⟩ := info_parts info5
  unfold OwnB at *
  obtain ⟨ad, cap, rfl, h1, h2, h3, h4⟩ := hsl
  rw [vals_length] at *
  cases ad with
  | none =>
    have hc := h3 rfl
    subst hc
    have hl : l = [] := List.eq_nil_of_length_eq_zero (by omega)
    subst hl
    refine wpList_plain hgd fun K hK => ?_
    have hr := run_append_owned_none (P := Tryz.prog) (w := w) base 24 o.type 5 i0 1 Tryz.underlying24 hi v l0.length (vals .u8 l0) hown
    unfold Oper.wp execOp
    simp only [ho, resolve, invoke, builtin, Sem.run_bind, Sem.run_pure, Result.andThen_ok, List.map_toArray, List.map_cons, List.map_nil, hs, hx, hr, List.length_nil]
    refine hK _ _ (h v w ?_ ⟨rfl, rfl, rfl, Nat.le_refl _, fun _ _ _ => rfl⟩)
    rw [List.append_nil]
    exact hown
  | some ad =>
    refine wpList_append_own_at (w := w) hgd s x 24 ho base 5 i0 (.int .u8 0) 1 1 Tryz.underlying24 hi hz0 hz1' hz2 rfl (by decide) v l0.length (vals .u8 l0) hs hown ad l.length cap (vals .u8 l) hx (by rw [vals_length]; omega) ?_ (vals_oneCell _ _) (by unfold maxLen; omega) (by omega) hbase ?_
    · intro j u hu
      have hj : j < l.length := by
        have := (List.getElem?_eq_some_iff.1 hu).1
        rwa [vals_length] at this
      obtain ⟨b, off, h5, _, h6⟩ := h4 (by omega)
      cases h5
      rw [addj]
      exact h6 j u hu
    · intro v' w' o1 g1 _ _
      refine h v' w' ?_ g1
      rw [vals_append, List.length_append]
      exact o1

/-- Bytes that are being gathered: the variable in block g, its bytes in a block behind it. -/
def Gs (W : World) (g : Nat) (v : Value) (bs : List Nat) : Prop := W.heap[g]? = some (.cells #[v] 24 (0, 0)) ∧ OwnB W (g + 1) v bs

theorem Gs.lt {W : World} {g : Nat} {v : Value} {bs : List Nat} (h : Gs W g v bs) : g < W.heap.size := (Array.getElem?_eq_some_iff.1 h.1).1
theorem Gs.kept {W W' : World} {g : Nat} {v : Value} {bs : List Nat} (h : Gs W g v bs) (hb : Below W.heap.size W W') : Gs W' g v bs := ⟨(hb.block g h.lt).trans h.1, h.2.kept hb⟩

/-- What put does: the bytes behind those that are there; which blocks stay. -/
def PutPost (w : World) (g : Nat) (v : Value) (bs : List Nat) (e : Ending) (w' : World) : Prop :=
  e = .returned (.tuple #[]) ∧ (∃ v', Gs w' g v' bs) ∧ Below g w w' ∧ ∀ k, k < w.heap.size → k ≠ g → v.ownBlock ≠ some k → w'.heap[k]? = w.heap[k]?

/-- The same of several puts. -/
def PutsPost (w : World) (g : Nat) (bs : List Nat) (e : Ending) (w' : World) : Prop := e = .returned (.tuple #[]) ∧ (∃ v', Gs w' g v' bs) ∧ Below g w w'

set_option maxRecDepth 100000 in
set_option maxHeartbeats 1000000 in
theorem cput_any {w : World} {g : Nat} {v vp : Value} {bs ps : List Nat} (h : Gs w g v bs) (hp : Sv w vp (vals .u8 ps)) (hl : bs.length + ps.length ≤ 1000000) :
    Calls Tryz.prog 45 #[vp, .pointer (some ⟨g, 0, none⟩)] w (PutPost w g v (bs ++ ps)) := by
  have hlt := h.lt
  have HG := hidden h
  have HP := hidden hp
  have hc : w.cell? ⟨g, 0, none⟩ = some v := by rw [cell_block h.1]; rfl
  have hfz : w.frozen? ⟨g, 0, none⟩ = false := by simp [World.frozen?, h.1]
  clear h hp
  go_enter Tryz.func45, Tryz.ntmps45
  go_wp2_with (first | (at_builtin; refine wpList_append_sg rfl _ _ rfl (g + 1) _ _ bs ps rfl HG.out.2 rfl HP.out ?c1 ?c2 ?_))
  case c1 => omega
  case c2 => omega
  intro v' w1 o1 g1
  have hne : some g ≠ v.ownBlock := fun e => by
    have := (HG.out.2.lt g e.symm).1
    omega
  have hh : w1.heap[g]? = some (.cells #[v] 24 (0, 0)) := (g1.block g hlt hne).trans HG.out.1
  have hc1 : w1.cell? ⟨g, 0, none⟩ = some v := by rw [cell_block hh]; rfl
  have hfz1 : w1.frozen? ⟨g, 0, none⟩ = false := by simp [World.frozen?, hh]
  obtain ⟨a1, c1, rfl⟩ := o1.len
  have HO1 := hidden o1
  have HG1 := hidden g1
  have HH := hidden hh
  clear o1 g1 hh hc hfz
  go_wp2_with fail
  go_end0
  have hset := heap_set HH.out 0 (.slice a1 (bs ++ ps).length c1)
  rw [← List.length_append]
  refine ⟨rfl, ⟨_, hset, ?_⟩, ?_, ?_⟩
  · have := Fr.own (p := g) ((Fr.refl g w1.heap.size w1).set 0 (.slice a1 (bs ++ ps).length c1)) HO1.out (by omega)
    exact this
  · exact ((Below.refl g w).grown HG1.out (by omega) (fun k hk => by have := (HG.out.2.lt k hk).1; omega)).setCell (Nat.le_refl _) _
  · intro k hk hkg hkv
    rw [Below.heap_setCell _ _ _ _ hkg]
    exact HG1.out.block k hk (fun e => hkv e.symm)

set_option maxRecDepth 100000 in
set_option maxHeartbeats 1000000 in
theorem gather22 {w : World} {p q : Value} {bs : List Nat}
    (H : ∀ W, Gs W w.heap.size (.slice none 0 0) [] → Below w.heap.size w W → Calls Tryz.prog 22 #[.func (.func 45) #[] #[.pointer (some ⟨w.heap.size, 0, none⟩)], p, q] W (PutsPost W w.heap.size bs)) :
    Calls Tryz.prog 21 #[.func (.func 22) #[] #[p, q]] w (Told w bs) := by
  have HH := hidden H
  clear H
  go_enter Tryz.func21, Tryz.ntmps21
  go_wp2_with fail
  refine (HH.out _ ?g1 ?g2).mono ?_
  case g1 => exact ⟨heap_alloc_new _ _, OwnB.nil _ _⟩
  case g2 => exact below_one _ _
  rintro e w1 ⟨rfl, ⟨v1, hg1⟩, hb1⟩
  have hc1 : w1.cell? ⟨w.heap.size, 0, none⟩ = some v1 := by rw [cell_block hg1.1]; rfl
  have HG1 := hidden hg1
  have HB1 := hidden ((below_one w (.cells #[.slice none 0 0] 24)).trans hb1)
  clear hg1 hb1
  go_wp2_with fail
  go_ret
  exact ⟨⟨_, rfl, HG1.out.2.low (by omega)⟩, HB1.out⟩

set_option maxRecDepth 100000 in
set_option maxHeartbeats 1000000 in
theorem gather70 {w : World} {p : Value} {bs : List Nat}
    (H : ∀ W, Gs W w.heap.size (.slice none 0 0) [] → Below w.heap.size w W → Calls Tryz.prog 70 #[.func (.func 45) #[] #[.pointer (some ⟨w.heap.size, 0, none⟩)], p] W (PutsPost W w.heap.size bs)) :
    Calls Tryz.prog 21 #[.func (.func 70) #[] #[p]] w (Told w bs) := by
  have HH := hidden H
  clear H
  go_enter Tryz.func21, Tryz.ntmps21
  go_wp2_with fail
  refine (HH.out _ ?g1 ?g2).mono ?_
  case g1 => exact ⟨heap_alloc_new _ _, OwnB.nil _ _⟩
  case g2 => exact below_one _ _
  rintro e w1 ⟨rfl, ⟨v1, hg1⟩, hb1⟩
  have hc1 : w1.cell? ⟨w.heap.size, 0, none⟩ = some v1 := by rw [cell_block hg1.1]; rfl
  have HG1 := hidden hg1
  have HB1 := hidden ((below_one w (.cells #[.slice none 0 0] 24)).trans hb1)
  clear hg1 hb1
  go_wp2_with fail
  go_ret
  exact ⟨⟨_, rfl, HG1.out.2.low (by omega)⟩, HB1.out⟩

set_option maxRecDepth 100000 in
set_option maxHeartbeats 1000000 in
theorem gather75 {w : World} {p q : Value} {bs : List Nat}
    (H : ∀ W, Gs W w.heap.size (.slice none 0 0) [] → Below w.heap.size w W → Calls Tryz.prog 75 #[.func (.func 45) #[] #[.pointer (some ⟨w.heap.size, 0, none⟩)], p, q] W (PutsPost W w.heap.size bs)) :
    Calls Tryz.prog 21 #[.func (.func 75) #[] #[p, q]] w (Told w bs) := by
  have HH := hidden H
  clear H
  go_enter Tryz.func21, Tryz.ntmps21
  go_wp2_with fail
  refine (HH.out _ ?g1 ?g2).mono ?_
  case g1 => exact ⟨heap_alloc_new _ _, OwnB.nil _ _⟩
  case g2 => exact below_one _ _
  rintro e w1 ⟨rfl, ⟨v1, hg1⟩, hb1⟩
  have hc1 : w1.cell? ⟨w.heap.size, 0, none⟩ = some v1 := by rw [cell_block hg1.1]; rfl
  have HG1 := hidden hg1
  have HB1 := hidden ((below_one w (.cells #[.slice none 0 0] 24)).trans hb1)
  clear hg1 hb1
  go_wp2_with fail
  go_ret
  exact ⟨⟨_, rfl, HG1.out.2.low (by omega)⟩, HB1.out⟩
end Go.Proofs.YtcmmednihoaekaaGreat
