/- Fields of a schema in memory. -/
import Derived.Test.YtfcnoeehfhncjaaVals
import Derived.Test.YtfcnoeehfhncjaaSgn
set_option linter.unusedVariables false
set_option linter.unusedSimpArgs false
namespace Go.Proofs.Ytfcnoeehfhncjaa
open Go.RowKit Go.Lib

/-- A field's cells, in memory and as one value. -/
def celF (f : Fd) : List Value := [.int .u32 (f.1 : Int), .string f.2.1, .int .u8 (f.2.2.1 : Int), .bool f.2.2.2]

def aggF (f : Fd) : Value := .agg #[.int .u32 (f.1 : Int), .string f.2.1, .int .u8 (f.2.2.1 : Int), .bool f.2.2.2]

def fvals (l : List Fd) : List Value := l.flatMap celF

theorem fvals_append (a b : List Fd) : fvals (a ++ b) = fvals a ++ fvals b := List.flatMap_append

theorem fvals_cons (c : Fd) (l : List Fd) : fvals (c :: l) = celF c ++ fvals l := List.flatMap_cons

theorem fvals_length : ∀ l : List Fd, (fvals l).length = l.length * 4
  | [] => rfl
  | c :: t => by
    rw [fvals_cons, List.length_append, fvals_length t, List.length_cons]
    simp [celF]
    omega

theorem fvals_get : ∀ {l : List Fd} {j : Nat} (h : j < l.length), (fvals l)[j * 4]? = some (.int .u32 (l[j].1 : Int)) ∧ (fvals l)[j * 4 + 1]? = some (.string l[j].2.1) ∧ (fvals l)[j * 4 + 2]? = some (.int .u8 (l[j].2.2.1 : Int)) ∧ (fvals l)[j * 4 + 3]? = some (.bool l[j].2.2.2)
  | c :: t, 0, h => by simp [fvals_cons, celF]
  | c :: t, j + 1, h => by
    have ih := fvals_get (l := t) (j := j) (by simpa using h)
    rw [fvals_cons]
    have e : ∀ k, (celF c ++ fvals t)[(j + 1) * 4 + k]? = (fvals t)[j * 4 + k]? := fun k => by
      rw [List.getElem?_append_right (by simp [celF]; omega)]
      simp only [celF, List.length_cons, List.length_nil]
      congr 1
      omega
    have e0 := e 0
    simp only [Nat.add_zero] at e0
    rw [e0, e 1, e 2, e 3]
    simpa using ih

theorem celF_oneCell (f : Fd) : ∀ u ∈ celF f, u.oneCell' = true := by
  intro u hu
  unfold celF at hu
  simp only [List.mem_cons, List.not_mem_nil, or_false] at hu
  rcases hu with rfl | rfl | rfl | rfl <;> rfl

theorem fvals_oneCell (l : List Fd) : ∀ u ∈ fvals l, u.oneCell' = true := by
  intro u hu
  obtain ⟨f, _, h⟩ := List.mem_flatMap.1 hu
  exact celF_oneCell f u h

theorem fvals_take (l : List Fd) (k : Nat) : fvals (l.take k) = (fvals l).take (k * 4) := by
  induction l generalizing k with
  | nil => simp [fvals]
  | cons f t ih =>
    cases k with
    | zero => simp [fvals]
    | succ k =>
      have hl : (celF f).length = 4 := rfl
      rw [List.take_succ_cons, fvals_cons, fvals_cons, ih, List.take_append, hl, List.take_of_length_le (l := celF f) (by rw [hl]; omega)]
      congr 2
      omega

/-- Fields that came in. -/
def Sf (W : World) (v : Value) (l : List Fd) : Prop :=
  ∃ a cap, v = .slice a l.length cap ∧ l.length ≤ cap ∧ cap ≤ maxLen ∧ (a = none → cap = 0) ∧ (0 < l.length → ∃ b off, a = some ⟨b, off, none⟩ ∧ b < W.heap.size ∧ ∀ j x, (fvals l)[j]? = some x → W.cell? ⟨b, off + j, none⟩ = some x)

theorem Sf.kept {W W' : World} {v : Value} {l : List Fd} (h : Sf W v l) (hb : Below W.heap.size W W') : Sf W' v l := by
  obtain ⟨a, cap, h1, h2, h3, h0, h4⟩ := h
  refine ⟨a, cap, h1, h2, h3, h0, fun h0 => ?_⟩
  obtain ⟨b, off, h5, h6, h7⟩ := h4 h0
  exact ⟨b, off, h5, Nat.lt_of_lt_of_le h6 hb.size, fun j x hj => (hb.cell (p := ⟨b, off + j, none⟩) h6).trans (h7 j x hj)⟩

theorem Sf.nil (W : World) : Sf W (.slice none 0 0) [] := ⟨none, 0, rfl, Nat.le_refl _, by unfold maxLen; omega, fun _ => rfl, fun h => by simp at h⟩

theorem Sf.form {W : World} {v : Value} {l : List Fd} (h : Sf W v l) : ∃ a cap, v = .slice a l.length cap ∧ l.length ≤ cap ∧ cap ≤ 9223372036854775807 := by
  obtain ⟨a, cap, h1, h2, h3, _⟩ := h
  exact ⟨a, cap, h1, h2, by unfold maxLen at h3; omega⟩

theorem Sf.at {W : World} {a : Option Addr} {n cap : Nat} {l : List Fd} (h : Sf W (.slice a n cap) l) {k : Nat} (hk : k < l.length) :
    ∃ b off, a = some ⟨b, off, none⟩ ∧ b < W.heap.size ∧ W.cell? ⟨b, off + k * 4, none⟩ = some (.int .u32 (l[k].1 : Int)) ∧ W.cell? ⟨b, off + k * 4 + 1, none⟩ = some (.string l[k].2.1) ∧ W.cell? ⟨b, off + k * 4 + 2, none⟩ = some (.int .u8 (l[k].2.2.1 : Int)) ∧ W.cell? ⟨b, off + k * 4 + 3, none⟩ = some (.bool l[k].2.2.2) := by
  obtain ⟨a', cap', e, h1, h2, h0, h4⟩ := h
  simp only [Value.slice.injEq] at e
  obtain ⟨rfl, _, _⟩ := e
  obtain ⟨b, off, rfl, h5, h6⟩ := h4 (by omega)
  obtain ⟨c0, c1, c2, c3⟩ := fvals_get hk
  refine ⟨b, off, rfl, h5, h6 _ _ c0, ?_, ?_, ?_⟩
  · rw [Nat.add_assoc]
    exact h6 _ _ c1
  · rw [Nat.add_assoc]
    exact h6 _ _ c2
  · rw [Nat.add_assoc]
    exact h6 _ _ c3

theorem Sf.take {W : World} {a : Option Addr} {n cap : Nat} {l : List Fd} (h : Sf W (.slice a n cap) l) {k : Nat} (hk : k ≤ l.length) : Sf W (.slice a k cap) (l.take k) := by
  obtain ⟨a', c, h1, h2, h3, h4, h5⟩ := h
  simp only [Value.slice.injEq] at h1
  obtain ⟨rfl, _, rfl⟩ := h1
  have hl : (l.take k).length = k := by rw [List.length_take]; omega
  refine ⟨_, cap, by rw [hl], by omega, h3, h4, fun h0 => ?_⟩
  obtain ⟨b', off', h6, h7, h8⟩ := h5 (by omega)
  refine ⟨b', off', h6, h7, fun j x hj => h8 j x ?_⟩
  rw [fvals_take, List.getElem?_take] at hj
  split at hj
  · exact hj
  · cases hj

/-- Fields of the call's own. -/
def OwnF (W : World) (B : Nat) (v : Value) (l : List Fd) : Prop := W.ownsRow B 80 4 v l.length (fvals l)

theorem OwnF.nil (W : World) (B : Nat) : OwnF W B (.slice none 0 0) [] := World.ownsRow_nil _ _ _ _

theorem OwnF.kept {w w' : World} {B : Nat} {v : Value} {l : List Fd} (h : OwnF w B v l) (hb : Below w.heap.size w w') : OwnF w' B v l := own_kept h hb

theorem OwnF.low {W : World} {B B' : Nat} {v : Value} {l : List Fd} (h : OwnF W B' v l) (hb : B ≤ B') : OwnF W B v l := own_low h hb

theorem OwnF.sf {W : World} {B : Nat} {v : Value} {l : List Fd} (h : OwnF W B v l) : Sf W v l := by
  rcases h with ⟨h0, ⟨rfl, h1⟩ | ⟨g, cap, cur, rfl, h2, h3, h4, h5, h6, h7⟩⟩
  · refine ⟨none, 0, by rw [h1], by omega, by unfold maxLen; omega, fun _ => rfl, fun h => by omega⟩
  · refine ⟨_, cap, rfl, h4, h5, fun h => by (cases h), fun _ => ⟨g, 0, rfl, (Array.getElem?_eq_some_iff.1 h3).1, fun j x hj => ?_⟩⟩
    rw [Nat.zero_add]
    simp only [World.cell?, h3]
    rw [← h7] at hj
    have hlt := (List.getElem?_eq_some_iff.1 hj).1
    rw [List.length_take] at hlt
    rw [List.getElem?_take_of_lt (by omega)] at hj
    simpa using hj

theorem lit_fields (w : World) (l : List Fd) (hl : l.length ≤ maxLen) : OwnF (w.alloc (.cells (fvals l).toArray 80)) w.heap.size (.slice (some ⟨w.heap.size, 0, none⟩) l.length l.length) l := by
  have := World.ownsRow_lit (e := 80) (size := 4) w (fvals l).toArray l.length (base := w.heap.size) (Nat.le_refl _) hl (by simp [fvals_length])
  exact this

theorem info80 : (Try.prog.info? 80).map (fun i => (i.zero, i.size, i.bytes)) = some (some (.agg #[.int .u32 0, .string ⟨#[]⟩, .int .u8 0, .bool false]), 4, 32) := by kernel_rfl

/-- Fields put behind fields of the call's own. -/
theorem wpList_append_fs {w : World} {ops : Array Oper} {rest : List Oper} {o : Oper} {a : Act} {Q : Exit → Act → World → Prop} (hgd : o.guard = none) (s x : Operand)
    (ho : o.op = .call { callee := .builtin .append, args := #[s, x], argTypes := #[40, 40] })
    (base : Nat) (v vx : Value) (l0 l : List Fd) (hs : a.eval s = v) (hown : OwnF w base v l0) (hx : a.eval x = vx) (hsl : Sf w vx l)
    (hbytes : l0.length + l.length ≤ 100000) (hbase : base ≤ w.heap.size)
    (h : ∀ v' w', OwnF w' base v' (l0 ++ l) → Below base w w' → wpList Try.prog ops Q rest (a.put o.dst v') w') :
    wpList Try.prog ops Q (o :: rest) a w := by
  obtain ⟨i0, hi, hz0, hz1', hz2⟩ := info_parts info80
  unfold OwnF at *
  obtain ⟨ad, cap, rfl, h1, h2, h3, h4⟩ := hsl
  cases ad with
  | none =>
    have hc := h3 rfl
    subst hc
    have hl : l = [] := List.eq_nil_of_length_eq_zero (by omega)
    subst hl
    refine wpList_plain hgd fun K hK => ?_
    have hr := run_append_owned_none (P := Try.prog) (w := w) base 40 o.type 80 i0 4 Try.underlying40 hi v l0.length (fvals l0) hown
    unfold Oper.wp execOp
    simp only [ho, resolve, invoke, builtin, Sem.run_bind, Sem.run_pure, Result.andThen_ok, List.map_toArray, List.map_cons, List.map_nil, hs, hx, hr, List.length_nil]
    refine hK _ _ (h v w ?_ (Below.refl _ _))
    rw [List.append_nil]
    exact hown
  | some ad =>
    refine wpList_append_own_at (w := w) hgd s x 40 ho base 80 i0 (.agg #[.int .u32 0, .string ⟨#[]⟩, .int .u8 0, .bool false]) 4 32 Try.underlying40 hi hz0 hz1' hz2 rfl (by decide) v l0.length (fvals l0) hs hown ad l.length cap (fvals l) hx (by rw [fvals_length]) ?_ (fvals_oneCell _) (by unfold maxLen; omega) (by omega) hbase ?_
    · intro j u hu
      have hj : j < l.length * 4 := by
        have := (List.getElem?_eq_some_iff.1 hu).1
        rwa [fvals_length] at this
      obtain ⟨b, off, h5, _, h6⟩ := h4 (by omega)
      cases h5
      rw [addj]
      exact h6 j u hu
    · intro v' w' o1 g1 _ _
      refine h v' w' ?_ ((Below.refl base w).grown g1 hbase (fun k hk => (hown.lt k hk).1))
      rw [fvals_append, List.length_append]
      exact o1

theorem lit_one (w : World) (f : Fd) : OwnF (w.alloc (.cells #[.int .u32 (f.1 : Int), .string f.2.1, .int .u8 (f.2.2.1 : Int), .bool f.2.2.2] 80)) w.heap.size (.slice (some ⟨w.heap.size, 0, none⟩) 1 1) [f] := lit_fields w [f] (by unfold maxLen; simp)

theorem str_eq (s t : ByteArray) : (s.toList == t.toList) = decide (s = t) := by
  rw [Bool.eq_iff_iff]
  simp only [beq_iff_eq, decide_eq_true_eq]
  constructor
  · intro h
    rw [ByteArray.toList_eq, ByteArray.toList_eq] at h
    exact lb_inj h
  · intro h; rw [h]
end Go.Proofs.Ytfcnoeehfhncjaa
