/- Readers that go on: what the state says of the whole; appending whole numbers and numbers. -/
import Derived.Test.YtnlanilejhjkkaaRdNum
set_option linter.unusedVariables false
set_option linter.unusedSimpArgs false
namespace Go.Proofs.Ytnlanilejhjkkaa
open Go.RowKit Go.Lib

/-- The whole reading is what goes on from here, or the fault. -/
def Goes (D : Except Nat (List Int × List Nat)) (K : List Nat → Except Nat (List Int × List Nat)) (b : List Nat) (f : Nat) : Prop := (f = 0 → D = K b) ∧ (f ≠ 0 → D = .error f)

theorem orf_zero (e : Nat) : orf 0 e = e := rfl
theorem orf_keep {f : Nat} (h : f ≠ 0) (e : Nat) : orf f e = f := by unfold orf; rw [if_neg h]

theorem Goes.wh {D : Except Nat (List Int × List Nat)} {g : Int → List Nat → Except Nat (List Int × List Nat)} {b : List Nat} {f : Nat} (h : Goes D (bindR wh g) b f) : Goes D (g (unzig (gt b).1)) (b.drop (gt b).2.1) (orf f (gt b).2.2) := by
  obtain ⟨h1, h2⟩ := h
  by_cases hf : f = 0
  · subst hf
    have h3 := h1 rfl
    rw [orf_zero]
    unfold bindR Go.Proofs.Ytnlanilejhjkkaa.wh at h3
    refine ⟨fun e => ?_, fun e => ?_⟩
    · rw [if_pos e] at h3
      exact h3
    · rw [if_neg e] at h3
      exact h3
  · rw [orf_keep hf]
    exact ⟨fun e => absurd e hf, h2⟩

theorem Goes.num {D : Except Nat (List Int × List Nat)} {C : Nat → Prop} [DecidablePred C] {g : Nat → List Nat → Except Nat (List Int × List Nat)} {lo hi : Nat} {b : List Nat} {f : Nat} (hC : ∀ v, C v ↔ (v < lo ∨ hi < v))
    (h : Goes D (bindR num (fun k => if C k then (fun _ => .error 40) else g k)) b f) : Goes D (g (within lo hi (gt b).1)) (b.drop (gt b).2.1) (withinF lo hi (gt b).1 (orf f (gt b).2.2)) := by
  obtain ⟨h1, h2⟩ := h
  unfold within withinF
  by_cases hf : f = 0
  · subst hf
    have h3 := h1 rfl
    rw [orf_zero]
    unfold bindR Go.Proofs.Ytnlanilejhjkkaa.num at h3
    by_cases he : (gt b).2.2 = 0
    · rw [if_pos he] at h3
      simp only at h3
      by_cases hc : (gt b).1 < lo ∨ hi < (gt b).1
      · rw [if_pos ((hC _).2 hc)] at h3
        rw [if_pos hc, if_pos hc, he, orf_zero]
        exact ⟨fun e => by omega, fun _ => h3⟩
      · rw [if_neg (fun e => hc ((hC _).1 e))] at h3
        rw [if_neg hc, if_neg hc, he]
        exact ⟨fun _ => h3, fun e => absurd rfl e⟩
    · rw [if_neg he] at h3
      have h4 : (if (gt b).1 < lo ∨ hi < (gt b).1 then orf (gt b).2.2 40 else (gt b).2.2) = (gt b).2.2 := by
        split
        · exact orf_keep he _
        · rfl
      rw [h4]
      exact ⟨fun e => absurd e he, fun _ => h3⟩
  · have h4 : (if (gt b).1 < lo ∨ hi < (gt b).1 then orf (orf f (gt b).2.2) 40 else orf f (gt b).2.2) = f := by
      rw [orf_keep hf, orf_keep hf]
      split <;> rfl
    rw [h4]
    exact ⟨fun e => absurd e hf, h2⟩

theorem Goes.pkd {D : Except Nat (List Int × List Nat)} {n w : Nat} {g : List Nat → List Nat → Except Nat (List Int × List Nat)} {b : List Nat} {f : Nat} (h : Goes D (bindR (pkd n w) g) b f) : Goes D (g (pkL n w b)) (pkB n w b) (pkF n w b f) := by
  obtain ⟨h1, h2⟩ := h
  unfold pkL pkB pkF
  by_cases hf : f = 0
  · subst hf
    have h3 := h1 rfl
    rw [orf_zero, orf_zero]
    unfold bindR Go.Proofs.Ytnlanilejhjkkaa.pkd at h3
    by_cases hs : b.length < by8 (n * w)
    · rw [if_pos hs] at h3
      rw [if_pos hs, if_pos hs, if_pos hs]
      exact ⟨fun e => by omega, fun _ => h3⟩
    · rw [if_neg hs] at h3
      rw [if_neg hs, if_neg hs, if_neg hs]
      by_cases hm : by8 (n * w) < b.length
      · rw [if_pos hm] at h3
        rw [if_neg (by rw [List.length_drop]; omega), orf_keep (by omega)]
        exact ⟨fun e => by omega, fun _ => h3⟩
      · rw [if_neg hm] at h3
        have e1 : b.take (by8 (n * w)) = b := List.take_of_length_le (by omega)
        have e2 : b.drop (by8 (n * w)) = [] := List.drop_of_length_le (by omega)
        rw [e1, e2, if_pos (by rfl), orf_zero]
        refine ⟨fun e => ?_, fun e => ?_⟩
        · rw [if_pos e] at h3
          exact h3
        · rw [if_neg e] at h3
          exact h3
  · have h4 : (if b.length < by8 (n * w) then orf f 30 else orf (orf f (if (b.drop (by8 (n * w))).length = 0 then 0 else 32)) (unE (b.take (by8 (n * w))) n w)) = f := by
      rw [orf_keep hf, orf_keep hf, orf_keep hf]
      split <;> rfl
    rw [h4]
    exact ⟨fun e => absurd e hf, h2⟩

theorem bindR_assoc {α β γ : Type} (d : List Nat → Except Nat (α × List Nat)) (f : α → List Nat → Except Nat (β × List Nat)) (g : β → List Nat → Except Nat (γ × List Nat)) : bindR (bindR d f) g = bindR d (fun x => bindR (f x) g) := by
  funext b
  unfold bindR
  cases d b with
  | error e => rfl
  | ok x => rfl

theorem bindR_ok_left {α β : Type} (x : α) (f : α → List Nat → Except Nat (β × List Nat)) : bindR (fun r => .ok (x, r)) f = f x := by
  funext b
  rfl

/-- The last looks: nothing is left, and it is written so again. -/
def fin (c : Nat) (b0 : List Nat) (l : List Int) (r : List Nat) : Except Nat (List Int × List Nat) := if r.length = 0 then (if encC c l = b0 then .ok (l, []) else .error 40) else .error 32

theorem fin_more (c : Nat) (b0 : List Nat) (l : List Int) {r : List Nat} (h : r.length ≠ 0) : fin c b0 l r = .error 32 := by unfold fin; rw [if_neg h]

theorem rdAll_fin (c n : Nat) (b0 : List Nat) : bindR (rdC c n) (fin c b0) b0 = (match rdAll c n b0 with | .ok l => .ok (l, []) | .error e => .error e) := by
  unfold bindR rdAll
  cases rdC c n b0 with
  | error e => rfl
  | ok x =>
    obtain ⟨l, r⟩ := x
    simp only [fin]
    split
    · split <;> rfl
    · rfl

theorem St.over {T : Nat} {W W' : World} {p : Nat} {b : List Nat} {f B : Nat} (h : St T W p b f) (hb : Below B W W') (hp : p < B) : St T W' p b f := h.kept hb hp
theorem St.set_other {T : Nat} {W : World} {p : Nat} {b : List Nat} {f : Nat} (h : St T W p b f) {g : Nat} (hg : p < g) (i : Nat) (v : Value) : St T (W.setCell ⟨g, i, none⟩ v) p b f :=
  h.kept ((Below.refl (p + 1) W).setCell (p := ⟨g, i, none⟩) hg v) (Nat.lt_succ_self p)
theorem Fr.then {p B : Nat} {w w1 w2 : World} (h : Fr p B w w1) (hb : Below B w1 w2) : Fr p B w w2 := h.trans (Fr.of_below hb)
theorem OwnI.fr {p : Nat} {w w' : World} {B : Nat} {v : Value} {l : List Int} (h : OwnI w B v l) (hf : Fr p w.heap.size w w') (hp : p < B) : OwnI w' B v l := hf.own h hp
theorem OwnU.fr {p : Nat} {w w' : World} {B : Nat} {v : Value} {l : List Nat} (h : OwnU w B v l) (hf : Fr p w.heap.size w w') (hp : p < B) : OwnU w' B v l := hf.own h hp
theorem OwnI.low {W : World} {B B' : Nat} {v : Value} {l : List Int} (h : OwnI W B' v l) (hb : B ≤ B') : OwnI W B v l := by
  obtain ⟨h1, h2⟩ := h
  refine ⟨h1, ?_⟩
  rcases h2 with h | ⟨g, cap, cur, e1, e2, e3⟩
  · exact Or.inl h
  · exact Or.inr ⟨g, cap, cur, e1, Nat.le_trans hb e2, e3⟩
theorem OwnU.low {W : World} {B B' : Nat} {v : Value} {l : List Nat} (h : OwnU W B' v l) (hb : B ≤ B') : OwnU W B v l := by
  obtain ⟨h1, h2⟩ := h
  refine ⟨h1, ?_⟩
  rcases h2 with h | ⟨g, cap, cur, e1, e2, e3⟩
  · exact Or.inl h
  · exact Or.inr ⟨g, cap, cur, e1, Nat.le_trans hb e2, e3⟩

theorem info2 : (Try.prog.info? 2).map (fun i => (i.zero, i.size, i.bytes)) = some (some (.int .i64 0), 1, 8) := by kernel_rfl

/-- A number put behind numbers of the call's own. -/
theorem wpList_append_i {w : World} {ops : Array Oper} {rest : List Oper} {o : Oper} {a : Act} {Q : Exit → Act → World → Prop} (hgd : o.guard = none) (s x : Operand)
    (ho : o.op = .call { callee := .builtin .append, args := #[s, x], argTypes := #[22, 22] })
    (base : Nat) (v : Value) (g : Nat) (z : Int) (l0 : List Int) (hs : a.eval s = v) (hown : OwnI w base v l0) (hx : a.eval x = .slice (some ⟨g, 0, none⟩) 1 1) (hc : w.cell? ⟨g, 0, none⟩ = some (.int .i64 z))
    (hbytes : l0.length ≤ 100000) (hbase : base ≤ w.heap.size)
    (h : ∀ v' w', OwnI w' base v' (l0 ++ [z]) → Below base w w' → wpList Try.prog ops Q rest (a.put o.dst v') w') :
    wpList Try.prog ops Q (o :: rest) a w := by
  obtain ⟨i0, hi, hz0, hz1', hz2⟩ := info_parts info2
  unfold OwnI at *
  refine wpList_append_own_at (w := w) hgd s x 22 ho base 2 i0 (.int .i64 0) 1 8 Try.underlying22 hi hz0 hz1' hz2 rfl (by decide) v l0.length (ivals l0) hs hown ⟨g, 0, none⟩ 1 1 [.int .i64 z] hx rfl ?_ (fun u hu => by
    have : u = .int .i64 z := by simpa using hu
    subst this
    rfl) (by unfold maxLen; omega) (by omega) hbase ?_
  · intro j u hu
    rw [add0]
    cases j with
    | zero =>
      simp only [List.getElem?_cons_zero, Option.some.injEq] at hu
      rw [← hu]
      exact hc
    | succ j => simp at hu
  · intro v' w' o1 g1 _ _
    refine h v' w' ?_ ((Below.refl base w).grown g1 hbase (fun k hk => (hown.lt k hk).1))
    rw [ivals_append, List.length_append]
    exact o1

/-- A number put behind numbers of the call's own. -/
theorem wpList_append_u {w : World} {ops : Array Oper} {rest : List Oper} {o : Oper} {a : Act} {Q : Exit → Act → World → Prop} (hgd : o.guard = none) (s x : Operand)
    (ho : o.op = .call { callee := .builtin .append, args := #[s, x], argTypes := #[47, 47] })
    (base : Nat) (v : Value) (g : Nat) (z : Nat) (l0 : List Nat) (hs : a.eval s = v) (hown : OwnU w base v l0) (hx : a.eval x = .slice (some ⟨g, 0, none⟩) 1 1) (hc : w.cell? ⟨g, 0, none⟩ = some (.int .u64 (z : Int)))
    (hbytes : l0.length ≤ 100000) (hbase : base ≤ w.heap.size)
    (h : ∀ v' w', OwnU w' base v' (l0 ++ [z]) → Below base w w' → wpList Try.prog ops Q rest (a.put o.dst v') w') :
    wpList Try.prog ops Q (o :: rest) a w := by
  obtain ⟨i0, hi, hz0, hz1', hz2⟩ := info_parts info44
  unfold OwnU at *
  refine wpList_append_own_at (w := w) hgd s x 47 ho base 44 i0 (.int .u64 0) 1 8 Try.underlying47 hi hz0 hz1' hz2 rfl (by decide) v l0.length (vals .u64 l0) hs hown ⟨g, 0, none⟩ 1 1 [.int .u64 (z : Int)] hx rfl ?_ (fun u hu => by
    have : u = .int .u64 (z : Int) := by simpa using hu
    subst this
    rfl) (by unfold maxLen; omega) (by omega) hbase ?_
  · intro j u hu
    rw [add0]
    cases j with
    | zero =>
      simp only [List.getElem?_cons_zero, Option.some.injEq] at hu
      rw [← hu]
      exact hc
    | succ j => simp at hu
  · intro v' w' o1 g1 _ _
    refine h v' w' ?_ ((Below.refl base w).grown g1 hbase (fun k hk => (hown.lt k hk).1))
    rw [vals_append, List.length_append]
    exact o1
end Go.Proofs.Ytnlanilejhjkkaa
