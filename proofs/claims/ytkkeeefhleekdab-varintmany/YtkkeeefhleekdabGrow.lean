/- Bytes put behind bytes of the call's own; a part of a slice. -/
import Derived.Test.YtkkeeefhleekdabLift
import Derived.Laws.OwnMore
set_option linter.unusedVariables false
namespace Go.Proofs.Ytkkeeefhleekdab
open Go.ChangeShapes Go.WideShapes Go.ChangeAt Go.RowKit Go.Lib

/-- A slice whose bytes are l: nil, or with an address. -/
def Sn (W : World) (v : Value) (l : List UInt8) : Prop := Sl W v l ∧ (v = .slice none 0 0 ∨ ∃ ad cap, v = .slice (some ad) l.length cap)

theorem Sn.kept {W W' : World} {v : Value} {l : List UInt8} (h : Sn W v l) (hb : Below W.heap.size W W') : Sn W' v l := ⟨h.1.kept hb, h.2⟩

theorem Sn.of_own {W : World} {B n : Nat} {v : Value} {l : List UInt8} (h : W.ownsRow B 5 1 v n (byteVals l)) : Sn W v l := by
  refine ⟨Sl.of_own h, ?_⟩
  have hl : l.length = n := by have := h.1; simpa [byteVals] using this
  rcases h.2 with ⟨rfl, rfl⟩ | ⟨g, cap, cur, rfl, _⟩
  · exact Or.inl rfl
  · exact Or.inr ⟨_, cap, by rw [hl]⟩

theorem wpList_append_sn {w : World} {ops : Array Oper} {rest : List Oper} {o : Oper} {a : Act} {Q : Exit → Act → World → Prop} (hgd : o.guard = none) (s x : Operand)
    (ho : o.op = .call { callee := .builtin .append, args := #[s, x], argTypes := #[24, 24] })
    (base : Nat) (v vx : Value) (n : Nat) (l0 l : List UInt8) (hs : a.eval s = v) (hown : w.ownsRow base 5 1 v n (byteVals l0)) (hx : a.eval x = vx) (hsl : Sn w vx l)
    (hbytes : n + l.length ≤ 140737488355328) (hbase : base ≤ w.heap.size)
    (h : ∀ v' w', w'.ownsRow base 5 1 v' (n + l.length) (byteVals (l0 ++ l)) → Below base w w' → wpList Try.prog ops Q rest (a.put o.dst v') w') :
    wpList Try.prog ops Q (o :: rest) a w := by
  obtain ⟨i0, hi, hz0, hz1', hz2⟩ := info_parts info5
  rcases hsl.2 with rfl | ⟨ad, cap, rfl⟩
  · have hl : l = [] := by
      obtain ⟨_, _, h1, _⟩ := hsl.1
      simp only [Value.slice.injEq] at h1
      exact List.eq_nil_of_length_eq_zero h1.2.1.symm
    subst hl
    refine wpList_plain hgd fun K hK => ?_
    have hr := run_append_owned_none (P := Try.prog) (w := w) base 24 o.type 5 i0 1 Try.underlying24 hi v n (byteVals l0) hown
    unfold Oper.wp execOp
    simp only [ho, resolve, invoke, builtin, Sem.run_bind, Sem.run_pure, Result.andThen_ok, List.map_toArray, List.map_cons, List.map_nil, hs, hx, hr]
    refine hK _ _ (h v w ?_ (Below.refl _ _))
    rw [List.append_nil]
    exact hown
  · refine wpList_append_own_at (w := w) hgd s x 24 ho base 5 i0 (.int .u8 0) 1 1 Try.underlying24 hi hz0 hz1' hz2 rfl (by decide) v n (byteVals l0) hs hown ad l.length cap (byteVals l) hx (by rw [byteVals_length]; omega) ?_ (fun u hu => by
        obtain ⟨b, _, rfl⟩ := List.mem_map.1 hu
        rfl) (by unfold maxLen; omega) (by omega) hbase ?_
    · intro j u hu
      have hj : j < l.length := by
        have := (List.getElem?_eq_some_iff.1 hu).1
        rwa [byteVals_length] at this
      obtain ⟨a1, c1, h1, _, _, h3⟩ := hsl.1
      simp only [Value.slice.injEq] at h1
      obtain ⟨rfl, _, rfl⟩ := h1
      obtain ⟨b, off, h4, _, h5⟩ := h3 (by omega)
      cases h4
      have hadd : (⟨b, off, none⟩ : Addr).add j = ⟨b, off + j, none⟩ := by unfold Addr.add; split <;> simp_all
      rw [hadd, h5 j hj]
      rw [byteVals_get hj] at hu
      exact hu
    · intro v' w' o1 g1 _ _
      refine h v' w' ?_ ((Below.refl base w).grown g1 hbase (fun k hk => (hown.lt k hk).1))
      rw [byteVals_append]
      exact o1

theorem Sl.take {W : World} {b off cap : Nat} {l : List UInt8} (h : Sl W (.slice (some ⟨b, off, none⟩) l.length cap) l) {k : Nat} (hk : k ≤ l.length) : Sl W (.slice (some ⟨b, off, none⟩) k cap) (l.take k) := by
  obtain ⟨a, c, h1, h2, h3, h4⟩ := h
  simp only [Value.slice.injEq] at h1
  obtain ⟨rfl, _, rfl⟩ := h1
  have hl : (l.take k).length = k := by rw [List.length_take]; omega
  refine ⟨_, cap, by rw [hl], by omega, h3, fun h0 => ?_⟩
  obtain ⟨b', off', h5, h6, h7⟩ := h4 (by omega)
  cases h5
  refine ⟨b, off, rfl, h6, fun j hj => ?_⟩
  rw [h7 j (by omega)]
  simp
end Go.Proofs.Ytkkeeefhleekdab
