/- Rows: lists of lists of cells, and lists of statistics of the call's own; rows opened out of a reading. -/
import Derived.Test.YtfcnoeehfhncjaaOpn
set_option linter.unusedVariables false
set_option linter.unusedSimpArgs false
namespace Go.Proofs.Ytfcnoeehfhncjaa
open Go.ChangeShapes Go.WideShapes Go.ChangeAt Go.RowKit Go.Lib Go.Joins

theorem info22 : (Try.prog.info? 22).map (fun i => (i.zero, i.size, i.bytes)) = some (some (.slice none 0 0), 1, 24) := by kernel_rfl
theorem info29 : (Try.prog.info? 29).map (fun i => (i.zero, i.size, i.bytes)) = some (some (.agg #[.int .i64 0, .int .i64 0, .bool false, .bool false, .int .u8 0, .int .i64 0, .string ⟨#[]⟩, .int .u8 0, .int .i64 0, .string ⟨#[]⟩]), 10, 88) := by kernel_rfl

/-- Rows that came in. -/
def Sr (W : World) (v : Value) (rs : List (List Cl)) : Prop :=
  ∃ a cap, v = .slice a rs.length cap ∧ rs.length ≤ cap ∧ cap ≤ maxLen ∧ (0 < rs.length → ∃ b off, a = some ⟨b, off, none⟩ ∧ b < W.heap.size ∧ ∀ j (h : j < rs.length), ∃ rv, W.cell? ⟨b, off + j, none⟩ = some rv ∧ Sc W rv rs[j])
theorem Sr.kept {W W' : World} {v : Value} {rs : List (List Cl)} (h : Sr W v rs) (hb : Below W.heap.size W W') : Sr W' v rs := by
  obtain ⟨a, cap, h1, h2, h3, h4⟩ := h
  refine ⟨a, cap, h1, h2, h3, fun h0 => ?_⟩
  obtain ⟨b, off, h5, h6, h7⟩ := h4 h0
  refine ⟨b, off, h5, Nat.lt_of_lt_of_le h6 hb.size, fun j hj => ?_⟩
  obtain ⟨rv, h8, h9⟩ := h7 j hj
  exact ⟨rv, (hb.cell (p := ⟨b, off + j, none⟩) h6).trans h8, h9.kept hb⟩
theorem Sr.form {W : World} {v : Value} {rs : List (List Cl)} (h : Sr W v rs) : ∃ a cap, v = .slice a rs.length cap ∧ rs.length ≤ cap ∧ cap ≤ maxLen := by
  obtain ⟨a, cap, h1, h2, h3, _⟩ := h
  exact ⟨a, cap, h1, h2, h3⟩
theorem Sr.at {W : World} {a : Option Addr} {n cap : Nat} {rs : List (List Cl)} (h : Sr W (.slice a n cap) rs) {k : Nat} (hk : k < rs.length) :
    ∃ b off rv, a = some ⟨b, off, none⟩ ∧ b < W.heap.size ∧ W.cell? ⟨b, off + k, none⟩ = some rv ∧ Sc W rv rs[k] := by
  obtain ⟨a', cap', e, h1, h2, h4⟩ := h
  simp only [Value.slice.injEq] at e
  obtain ⟨rfl, _, _⟩ := e
  obtain ⟨b, off, rfl, h5, h6⟩ := h4 (by omega)
  obtain ⟨rv, h7, h8⟩ := h6 k hk
  exact ⟨b, off, rv, rfl, h5, h7, h8⟩

set_option maxRecDepth 100000 in
theorem open_rows {H : Type} {enc : TypeId × Value → H} {W : World} {spare : Nat → Bool} {held : Bool} {a : Option Addr} {len cap : Nat} {d : DataW H} {p : List MemPlace}
    (h : DataW.Trod enc Try.prog W 0 spare held 43 (.slice a len cap) d p) : ∃ l : List (List Cl), Sr W (.slice a len cap) l ∧ ∀ x ∈ l, ∀ c ∈ x, Okc c := by
  obtain ⟨fuel, hf⟩ := h
  rcases Deep.open_slice Try.underlying43 hf with ⟨h1, _⟩ | ⟨a1, l1, c1, m, n, D, Pl, h1, _, hlc, hm, hmm, _, hcells⟩
  · simp [Value.cells] at h1
    obtain ⟨rfl, rfl, rfl⟩ := h1
    exact ⟨[], ⟨none, 0, rfl, Nat.le_refl _, by unfold maxLen; omega, fun h => by simp at h⟩, fun x hx => by simp at hx⟩
  · simp [Value.cells] at h1
    obtain ⟨rfl, rfl, rfl⟩ := h1
    have cells22 : Try.prog.cellsOf 22 = 1 := by kernel_rfl
    rw [cells22] at hcells
    have hlm : len ≤ m := by rw [hmm]; split <;> omega
    have hone : ∀ i, i < len → ∃ x : List Cl, (∀ c ∈ x, Okc c) ∧ ∃ rv, W.cell? (a1.add i) = some rv ∧ Sc W rv x := by
      intro i hi
      obtain ⟨cs, hc, ht⟩ := hcells i (by omega)
      rw [Nat.mul_one] at hc
      obtain ⟨c0, rfl, e0⟩ := cells_one hc
      rcases DataW.trod_slice Try.underlying22 ht with ⟨h1, _⟩ | ⟨a', len', cap', elems, rest, n', hnn, h1, _⟩
      · simp at h1
        subst h1
        exact ⟨[], fun c hc => by simp at hc, _, e0, none, 0, rfl, Nat.le_refl _, by unfold maxLen; omega, fun h => by simp at h⟩
      · simp at h1
        subst h1
        obtain ⟨x, hx, hox⟩ := open_cells (d := _) (p := _) ⟨_, ht⟩
        exact ⟨x, hox, _, e0, hx⟩
    obtain ⟨f, hf2⟩ := Deep.choose_lt hone
    have hll : ((List.range len).map f).length = len := by simp
    refine ⟨(List.range len).map f, ⟨some a1, cap, by rw [hll], by rw [hll]; omega, by omega, fun h0 => ?_⟩, ?_⟩
    · rw [hll] at h0
      obtain ⟨b, off, spot⟩ := a1
      have hspot : spot = none := by
        obtain ⟨_, rv, h1, _⟩ := hf2 0 (by omega)
        have := World.cell?_spot h1
        simpa [Addr.add] using this
      subst hspot
      have hb : b < W.heap.size := by
        obtain ⟨cs, hc, _⟩ := hcells 0 (by omega)
        have := World.cells?_block hc (by omega)
        simpa [Addr.add] using this
      refine ⟨b, off, rfl, hb, fun j hj => ?_⟩
      have hj2 : j < len := by rwa [hll] at hj
      obtain ⟨_, rv, h1, h2⟩ := hf2 j hj2
      rw [addj] at h1
      exact ⟨rv, h1, by simpa using h2⟩
    · intro x hx
      obtain ⟨i, hi, rfl⟩ := List.mem_map.1 hx
      exact (hf2 i (by simpa using hi)).1

theorem own_lower {W : World} {B B' e size n : Nat} {v : Value} {xs : List Value} (h : W.ownsRow B e size v n xs) (hb : B' ≤ B) : W.ownsRow B' e size v n xs := by
  rcases h with ⟨h0, h1 | ⟨g, cap, cur, rfl, h2, h3⟩⟩
  · exact ⟨h0, .inl h1⟩
  · exact ⟨h0, .inr ⟨g, cap, cur, rfl, Nat.le_trans hb h2, h3⟩⟩
/-- Rows of the call's own. -/
def Rr (W : World) (B : Nat) (v : Value) (l : List (Value × List Cl)) : Prop := W.ownsRow B 22 1 v l.length (l.map Prod.fst) ∧ ∀ x ∈ l, OwnC W B x.1 x.2 ∧ Apart x.1 v
theorem Rr.nil (W : World) (B : Nat) : Rr W B (.slice none 0 0) [] := ⟨World.ownsRow_nil _ _ _ _, fun x hx => by simp at hx⟩
theorem Rr.kept {W W' : World} {B : Nat} {v : Value} {l : List (Value × List Cl)} (h : Rr W B v l) (hb : Below W.heap.size W W') : Rr W' B v l := ⟨own_kept h.1 hb, fun x hx => ⟨(h.2 x hx).1.kept hb, (h.2 x hx).2⟩⟩
theorem Rr.form {W : World} {B : Nat} {v : Value} {l : List (Value × List Cl)} (h : Rr W B v l) : ∃ a cap, v = .slice a l.length cap ∧ l.length ≤ cap ∧ cap ≤ maxLen := by
  rcases h.1 with ⟨h0, ⟨h1, h2⟩ | ⟨g, cap, cur, h1, h2, h3, h4, h5, _⟩⟩
  · exact ⟨none, 0, by rw [h1, h2], by omega, by unfold maxLen; omega⟩
  · exact ⟨_, cap, h1, h4, h5⟩
theorem Rr.at {W : World} {B : Nat} {a : Option Addr} {n cap : Nat} {l : List (Value × List Cl)} (h : Rr W B (.slice a n cap) l) {k : Nat} (hk : k < l.length) :
    ∃ g, a = some ⟨g, 0, none⟩ ∧ g < W.heap.size ∧ W.cell? ⟨g, k, none⟩ = some l[k].1 ∧ OwnC W B l[k].1 l[k].2 := by
  rcases h with ⟨⟨h0, ⟨h1, h2⟩ | ⟨g, cap', cur, h1, h2, h3, h4, h5, h6, h7⟩⟩, hr⟩
  · omega
  · simp only [Value.slice.injEq] at h1
    obtain ⟨rfl, rfl, rfl⟩ := h1
    refine ⟨g, rfl, (Array.getElem?_eq_some_iff.1 h3).1, ?_, (hr _ (List.getElem_mem hk)).1⟩
    have hj : (l.map Prod.fst)[k]? = some l[k].1 := by simp [hk]
    simp only [World.cell?, h3]
    rw [← h7] at hj
    have hlt := (List.getElem?_eq_some_iff.1 hj).1
    rw [List.length_take] at hlt
    rw [List.getElem?_take_of_lt (by omega)] at hj
    simpa using hj

theorem apart_fresh {W : World} {B B' : Nat} {v z : Value} {l : List (Value × List Cl)} {r : List Cl} (h : Rr W B v l) {W' : World} (hz : OwnC W' B' z r) (hb : W.heap.size ≤ B') : Apart z v := by
  intro g hg h2
  have h1 := (hz.lt g hg).1
  have h3 := (h.1.lt g h2).2
  omega

/-- A row put behind rows of the call's own. -/
theorem wpList_append_r {w : World} {ops : Array Oper} {rest : List Oper} {o : Oper} {a : Act} {Q : Exit → Act → World → Prop} (hgd : o.guard = none) (s x : Operand)
    (ho : o.op = .call { callee := .builtin .append, args := #[s, x], argTypes := #[43, 43] })
    (base : Nat) (v : Value) (g : Nat) (z : Value) (r : List Cl) (l0 : List (Value × List Cl)) (hs : a.eval s = v) (hown : Rr w base v l0) (hx : a.eval x = .slice (some ⟨g, 0, none⟩) 1 1) (hc : w.cell? ⟨g, 0, none⟩ = some z)
    (hz : OwnC w base z r) (hap : Apart z v) (hbytes : l0.length ≤ 100000) (hbase : base ≤ w.heap.size)
    (h : ∀ v' w', Rr w' base v' (l0 ++ [(z, r)]) → Below base w w' → wpList Try.prog ops Q rest (a.put o.dst v') w') :
    wpList Try.prog ops Q (o :: rest) a w := by
  obtain ⟨i0, hi, hz0, hz1', hz2⟩ := info_parts info22
  have hz1 : z.oneCell' = true := by
    obtain ⟨b, cap, e, _⟩ := hz.sc.form
    rw [e]
    rfl
  refine wpList_append_own_at (w := w) hgd s x 43 ho base 22 i0 (.slice none 0 0) 1 24 Try.underlying43 hi hz0 hz1' hz2 rfl (by decide) v l0.length (l0.map Prod.fst) hs hown.1 ⟨g, 0, none⟩ 1 1 [z] hx rfl ?_ (fun u hu => by
    have : u = z := by simpa using hu
    subst this
    exact hz1) (by unfold maxLen; omega) (by omega) hbase ?_
  · intro j u hu
    rw [add0]
    cases j with
    | zero =>
      simp only [List.getElem?_cons_zero, Option.some.injEq] at hu
      rw [← hu]
      exact hc
    | succ j => simp at hu
  · intro v' w' o1 g1 _ e1
    have hkeep : ∀ y : Value × List Cl, OwnC w base y.1 y.2 ∧ Apart y.1 v → OwnC w' base y.1 y.2 ∧ Apart y.1 v' := fun y hy =>
      ⟨World.ownsRow.kept hy.1 g1 hy.2.ne, (hy.2.symm.grow e1 (fun k hk => (hy.1.lt k hk).2)).symm⟩
    refine h v' w' ⟨?_, fun y hy => ?_⟩ ((Below.refl base w).grown g1 hbase (fun k hk => (hown.1.lt k hk).1))
    · rw [List.length_append, List.map_append]
      exact o1
    · rcases List.mem_append.1 hy with hy | hy
      · exact hkeep y (hown.2 y hy)
      · rw [List.mem_singleton.1 hy]
        exact hkeep (z, r) ⟨hz, hap⟩

def svals (l : List Stt) : List Value := l.flatMap celS
theorem svals_append (a b : List Stt) : svals (a ++ b) = svals a ++ svals b := List.flatMap_append
theorem svals_length : ∀ l : List Stt, (svals l).length = l.length * 10
  | [] => rfl
  | c :: t => by
    show (celS c ++ svals t).length = _
    rw [List.length_append, svals_length t, List.length_cons]
    simp [celS]
    omega
theorem svals_get : ∀ {l : List Stt} {j : Nat} (h : j < l.length) {i : Nat} (hi : i < 10), (svals l)[j * 10 + i]? = (celS l[j])[i]?
  | c :: t, 0, h, i, hi => by
    show (celS c ++ svals t)[0 * 10 + i]? = _
    rw [List.getElem?_append_left (by simp [celS]; omega)]
    simp
  | c :: t, j + 1, h, i, hi => by
    have ih := svals_get (l := t) (j := j) (by simpa using h) hi
    show (celS c ++ svals t)[(j + 1) * 10 + i]? = _
    rw [List.getElem?_append_right (by simp [celS]; omega)]
    simp only [celS, List.length_cons, List.length_nil]
    rw [show (j + 1) * 10 + i - (0 + 1 + 1 + 1 + 1 + 1 + 1 + 1 + 1 + 1 + 1) = j * 10 + i by omega, ih]
    rfl
/-- Statistics of the call's own. -/
def OwnT (W : World) (B : Nat) (v : Value) (l : List Stt) : Prop := W.ownsRow B 29 10 v l.length (svals l)
theorem OwnT.nil (W : World) (B : Nat) : OwnT W B (.slice none 0 0) [] := World.ownsRow_nil _ _ _ _
theorem OwnT.kept {w w' : World} {B : Nat} {v : Value} {l : List Stt} (h : OwnT w B v l) (hb : Below w.heap.size w w') : OwnT w' B v l := own_kept h hb
theorem OwnT.ss {W : World} {B : Nat} {v : Value} {l : List Stt} (h : OwnT W B v l) : Ss W v l := by
  rcases h with ⟨h0, ⟨rfl, h1⟩ | ⟨g, cap, cur, rfl, h2, h3, h4, h5, h6, h7⟩⟩
  · refine ⟨none, 0, by rw [h1], by omega, by unfold maxLen; omega, fun h => by omega⟩
  · refine ⟨_, cap, rfl, h4, h5, fun _ => ⟨g, 0, rfl, fun j hj => ?_⟩⟩
    have hc : ∀ i, i < 10 → W.cell? ⟨g, 0 + j * 10 + i, none⟩ = (celS l[j])[i]? := fun i hi => by
      rw [Nat.zero_add, ← svals_get hj hi]
      have hlt : j * 10 + i < (svals l).length := by rw [svals_length]; omega
      obtain ⟨x, hx⟩ : ∃ x, (svals l)[j * 10 + i]? = some x := ⟨_, List.getElem?_eq_getElem hlt⟩
      rw [hx]
      simp only [World.cell?, h3]
      have hj2 : (svals l)[j * 10 + i]? = some x := by rw [hx]
      rw [← h7] at hj2
      have hlt2 := (List.getElem?_eq_some_iff.1 hj2).1
      rw [List.length_take] at hlt2
      rw [List.getElem?_take_of_lt (by omega)] at hj2
      simpa using hj2
    exact ⟨(Array.getElem?_eq_some_iff.1 h3).1, ⟨hc 0 (by omega), hc 1 (by omega), hc 2 (by omega), hc 3 (by omega)⟩, ⟨hc 4 (by omega), hc 5 (by omega), hc 6 (by omega)⟩, hc 7 (by omega), hc 8 (by omega), hc 9 (by omega)⟩

/-- Statistics put behind statistics of the call's own. -/
theorem wpList_append_t {w : World} {ops : Array Oper} {rest : List Oper} {o : Oper} {a : Act} {Q : Exit → Act → World → Prop} (hgd : o.guard = none) (s x : Operand)
    (ho : o.op = .call { callee := .builtin .append, args := #[s, x], argTypes := #[50, 50] })
    (base : Nat) (v : Value) (g : Nat) (z : Stt) (l0 : List Stt) (hs : a.eval s = v) (hown : OwnT w base v l0) (hx : a.eval x = .slice (some ⟨g, 0, none⟩) 1 1)
    (hc : Stb w g z) (hbytes : l0.length ≤ 100000) (hbase : base ≤ w.heap.size)
    (h : ∀ v' w', OwnT w' base v' (l0 ++ [z]) → Below base w w' → wpList Try.prog ops Q rest (a.put o.dst v') w') :
    wpList Try.prog ops Q (o :: rest) a w := by
  obtain ⟨i0, hi, hz0, hz1', hz2⟩ := info_parts info29
  unfold OwnT at *
  refine wpList_append_own_at (w := w) hgd s x 50 ho base 29 i0 (.agg #[.int .i64 0, .int .i64 0, .bool false, .bool false, .int .u8 0, .int .i64 0, .string ⟨#[]⟩, .int .u8 0, .int .i64 0, .string ⟨#[]⟩]) 10 88 Try.underlying50 hi hz0 hz1' hz2 rfl (by decide) v l0.length (svals l0) hs hown ⟨g, 0, none⟩ 1 1 (celS z) hx rfl ?_ (fun u hu => by
    unfold celS at hu
    simp only [List.mem_cons, List.not_mem_nil, or_false] at hu
    rcases hu with rfl | rfl | rfl | rfl | rfl | rfl | rfl | rfl | rfl | rfl <;> rfl) (by unfold maxLen; omega) (by omega) hbase ?_
  · intro j u hu
    rw [add0]
    unfold Stb at hc
    rw [cell_block hc]
    unfold celS at hu
    simpa using hu
  · intro v' w' o1 g1 _ _
    refine h v' w' ?_ ((Below.refl base w).grown g1 hbase (fun k hk => (hown.lt k hk).1))
    rw [svals_append, List.length_append]
    have : svals [z] = celS z := by simp [svals]
    rw [this]
    exact o1
end Go.Proofs.Ytfcnoeehfhncjaa
