/- Slices of bytes: what they hold, whoever made them; lists of the call's own; bytes put behind bytes; the table of half bytes as it lies in memory. -/
import Derived.Test.YtnedlogfgpgchaaDoorRows
import Derived.Test.YtnedlogfgpgchaaDoorMath
import Derived.WalkKit
import Derived.WalkLawsBesides
import Derived.Outline
import Derived.WalkSpells
import Derived.Lib.OthersKept
import Derived.Maps.AppendAt
import Derived.Laws.OwnMore
import Derived.BigQuiet
import Derived.BigRegion
import Derived.Lib.VarintBits
set_option linter.unusedVariables false
set_option linter.unusedSimpArgs false
namespace Go.Proofs.YtnedlogfgpgchaaDoor
open Go.RowKit Go.Lib

theorem hidden {p : Prop} (h : p) : Hid p := h
def Bs (l : List Nat) : Prop := ∀ x ∈ l, x < 256

def vals (k : IntKind) (l : List Nat) : List Value := l.map fun (n : Nat) => Value.int k (n : Int)
theorem vals_append (k : IntKind) (a b : List Nat) : vals k (a ++ b) = vals k a ++ vals k b := List.map_append
theorem vals_length (k : IntKind) (a : List Nat) : (vals k a).length = a.length := List.length_map _
theorem vals_get {k : IntKind} {l : List Nat} {j : Nat} (h : j < l.length) : (vals k l)[j]? = some (.int k (l[j] : Int)) := by simp [vals, h]
theorem vals_set (k : IntKind) (l : List Nat) (j c : Nat) : (vals k l).set j (.int k (c : Int)) = vals k (l.set j c) := by simp [vals, List.map_set]
theorem vals_take (k : IntKind) (l : List Nat) (j : Nat) : (vals k l).take j = vals k (l.take j) := by simp [vals, List.map_take]
theorem vals_oneCell (k : IntKind) (l : List Nat) : ∀ u ∈ vals k l, u.oneCell' = true := by
  intro u hu
  obtain ⟨b, _, rfl⟩ := List.mem_map.1 hu
  rfl

theorem info5 : (Tryd.prog.info? 5).map (fun i => (i.zero, i.size, i.bytes)) = some (some (.int .u8 0), 1, 1) := by kernel_rfl

theorem add0 (g j : Nat) : (⟨g, 0, none⟩ : Addr).add j = ⟨g, j, none⟩ := by unfold Addr.add; split <;> simp_all
theorem addj (b off j : Nat) : (⟨b, off, none⟩ : Addr).add j = ⟨b, off + j, none⟩ := by unfold Addr.add; split <;> simp_all

theorem own_kept {w w' : World} {B e size n : Nat} {v : Value} {xs : List Value} (h : w.ownsRow B e size v n xs) (hb : Below w.heap.size w w') : w'.ownsRow B e size v n xs := by
  obtain ⟨hl, h⟩ := h
  refine ⟨hl, ?_⟩
  rcases h with h | ⟨g, cap, cur, h1, h2, h3, h4⟩
  · exact Or.inl h
  · have hg : g < w.heap.size := by
      rcases Nat.lt_or_ge g w.heap.size with hg | hg
      · exact hg
      · rw [Array.getElem?_eq_none hg] at h3; cases h3
    exact Or.inr ⟨g, cap, cur, h1, h2, (hb.block g hg).trans h3, h4⟩

/-- A slice that holds the bytes l. -/
def Sv (W : World) (v : Value) (l : List Nat) : Prop :=
  ∃ a cap, v = .slice a l.length cap ∧ l.length ≤ cap ∧ cap ≤ maxLen ∧ (a = none → cap = 0) ∧
    (0 < l.length → ∃ b off, a = some ⟨b, off, none⟩ ∧ b < W.heap.size ∧ ∀ j (h : j < l.length), W.cell? ⟨b, off + j, none⟩ = some (.int .u8 (l[j] : Int)))

theorem Sv.kept {W W' : World} {v : Value} {l : List Nat} (h : Sv W v l) (hb : Below W.heap.size W W') : Sv W' v l := by
  obtain ⟨a, cap, rfl, h1, h2, h3, h4⟩ := h
  refine ⟨a, cap, rfl, h1, h2, h3, fun h0 => ?_⟩
  obtain ⟨b, off, rfl, h5, h6⟩ := h4 h0
  exact ⟨b, off, rfl, Nat.lt_of_lt_of_le h5 hb.size, fun j hj => (hb.cell (p := ⟨b, off + j, none⟩) h5).trans (h6 j hj)⟩

theorem Sv.nil (W : World) : Sv W (.slice none 0 0) [] := ⟨none, 0, rfl, Nat.le_refl _, by unfold maxLen; omega, fun _ => rfl, fun h => by simp at h⟩

theorem Sv.of_own {W : World} {B e n : Nat} {v : Value} {l : List Nat} (h : W.ownsRow B e 1 v n (vals .u8 l)) : Sv W v l := by
  have hl : l.length = n := by have := h.1; simpa [vals] using this
  obtain ⟨_, h1⟩ := id h
  rcases h1 with ⟨rfl, rfl⟩ | ⟨g, cap, cur, rfl, hb, hg, h4, h5, _⟩
  · exact ⟨none, 0, by rw [hl], by omega, by unfold maxLen; omega, fun _ => rfl, fun h0 => by omega⟩
  · refine ⟨_, cap, by rw [hl], by omega, h5, fun h => (by cases h), fun _ => ⟨g, 0, rfl, (Array.getElem?_eq_some_iff.1 hg).1, fun j hj => ?_⟩⟩
    have := h.cells (g := g) rfl j _ (vals_get hj)
    rw [add0] at this
    rwa [Nat.zero_add]

theorem Sv.len {W : World} {v : Value} {l : List Nat} (h : Sv W v l) : l.length ≤ maxLen := by obtain ⟨_, _, _, h1, h2, _⟩ := h; omega

/-- Its form. -/
theorem Sv.form {W : World} {v : Value} {l : List Nat} (h : Sv W v l) : ∃ a cap, v = .slice a l.length cap ∧ l.length ≤ cap ∧ cap ≤ maxLen := by
  obtain ⟨a, cap, h0, h1, h2, _⟩ := h
  exact ⟨a, cap, h0, h1, h2⟩

/-- A part from the beginning. -/
theorem Sv.take {W : World} {a : Option Addr} {n cap : Nat} {l : List Nat} (h : Sv W (.slice a n cap) l) {k : Nat} (hk : k ≤ l.length) : Sv W (.slice a k cap) (l.take k) := by
  obtain ⟨a', c, h1, h2, h3, h4, h5⟩ := h
  simp only [Value.slice.injEq] at h1
  obtain ⟨rfl, _, rfl⟩ := h1
  have hl : (l.take k).length = k := by rw [List.length_take]; omega
  refine ⟨_, cap, by rw [hl], by omega, h3, h4, fun h0 => ?_⟩
  obtain ⟨b', off', h6, h7, h8⟩ := h5 (by omega)
  refine ⟨b', off', h6, h7, fun j hj => ?_⟩
  rw [h8 j (by omega), List.getElem_take]

/-- The text of bytes. -/
def txt (l : List Nat) : Value := .string ⟨(l.map Nat.toUInt8).toArray⟩

theorem Sv.conv {W : World} {v : Value} {l : List Nat} (h : Sv W v l) (h8 : Bs l) : (convert 23 9 v).run Tryd.prog W = .ok (txt l) W := by
  obtain ⟨a, cap, rfl, h1, h2, _, h3⟩ := h
  rcases Nat.eq_zero_or_pos l.length with h0 | hp
  · obtain rfl : l = [] := List.eq_nil_of_length_eq_zero h0
    first
      | exact run_convert_bytes_back_empty W 23 9 5 a cap Tryd.underlying23 Tryd.underlying5 Tryd.underlying9
      | (cases a <;> rfl)
      | (cases a <;> kernel_rfl)
  · obtain ⟨b, off, rfl, h4, h5⟩ := h3 hp
    have := run_convert_bytes_back W 23 9 5 ⟨b, off, none⟩ cap (l.map Nat.toUInt8) Tryd.underlying23 Tryd.underlying5 Tryd.underlying9 (fun j hj => by
      have hj' : j < l.length := by simpa using hj
      rw [addj, h5 j hj']
      have h9 := h8 l[j] (List.getElem_mem hj')
      congr 2
      simp [Nat.mod_eq_of_lt h9])
    rw [List.length_map] at this
    exact this

theorem toU8_inj {x y : Nat} (hx : x < 256) (hy : y < 256) (h : x.toUInt8 = y.toUInt8) : x = y := by
  have := congrArg UInt8.toNat h
  simpa [Nat.mod_eq_of_lt hx, Nat.mod_eq_of_lt hy] using this
theorem map_u8_inj : ∀ {a b : List Nat}, Bs a → Bs b → a.map Nat.toUInt8 = b.map Nat.toUInt8 → a = b
  | [], [], _, _, _ => rfl
  | [], _ :: _, _, _, h => by simp at h
  | _ :: _, [], _, _, h => by simp at h
  | x :: a, y :: b, ha, hb, h => by
    simp only [List.map_cons, List.cons.injEq] at h
    rw [toU8_inj (ha x (by simp)) (hb y (by simp)) h.1, map_u8_inj (fun z hz => ha z (by simp [hz])) (fun z hz => hb z (by simp [hz])) h.2]

/-- Bytes of the call's own. -/
def OwnB (W : World) (B : Nat) (v : Value) (bs : List Nat) : Prop := W.ownsRow B 5 1 v bs.length (vals .u8 bs)
theorem OwnB.nil (W : World) (B : Nat) : OwnB W B (.slice none 0 0) [] := World.ownsRow_nil _ _ _ _
theorem OwnB.kept {w w' : World} {B : Nat} {v : Value} {bs : List Nat} (h : OwnB w B v bs) (hb : Below w.heap.size w w') : OwnB w' B v bs := own_kept h hb
theorem OwnB.sv {W : World} {B : Nat} {v : Value} {bs : List Nat} (h : OwnB W B v bs) : Sv W v bs := Sv.of_own h

theorem OwnB.low {W : World} {B B' : Nat} {v : Value} {bs : List Nat} (h : OwnB W B v bs) (hB : B' ≤ B) : OwnB W B' v bs := by
  obtain ⟨hl, h⟩ := h
  refine ⟨hl, ?_⟩
  rcases h with h | ⟨g, cap, cur, h1, h2, h3⟩
  · exact Or.inl h
  · exact Or.inr ⟨g, cap, cur, h1, Nat.le_trans hB h2, h3⟩

theorem OwnB.form {W : World} {B : Nat} {v : Value} {bs : List Nat} (h : OwnB W B v bs) (hp : 0 < bs.length) : ∃ g cap, v = .slice (some ⟨g, 0, none⟩) bs.length cap ∧ B ≤ g ∧ g < W.heap.size := by
  obtain ⟨hl, h1⟩ := id h
  rcases h1 with ⟨rfl, h0⟩ | ⟨g, cap, cur, rfl, hb, hg, h4⟩
  · omega
  · exact ⟨g, cap, rfl, hb, (Array.getElem?_eq_some_iff.1 hg).1⟩
theorem OwnB.at {W : World} {B g n cap : Nat} {bs : List Nat} (h : OwnB W B (.slice (some ⟨g, 0, none⟩) n cap) bs) {j : Nat} (hj : j < bs.length) : W.cell? ⟨g, j, none⟩ = some (.int .u8 (bs[j] : Int)) ∧ W.frozen? ⟨g, j, none⟩ = false := by
  have hn : n = bs.length := by
    obtain ⟨a, cap, h1, _⟩ := h.sv
    simp only [Value.slice.injEq] at h1
    exact h1.2.1
  subst hn
  unfold OwnB at h
  exact ⟨(h.cellAt j (by omega)).trans (vals_get hj), h.frozenAt j⟩
theorem OwnB.stored {W : World} {B g n cap : Nat} {bs : List Nat} (h : OwnB W B (.slice (some ⟨g, 0, none⟩) n cap) bs) (j c : Nat) : OwnB (W.setCell ⟨g, j, none⟩ (.int .u8 (c : Int))) B (.slice (some ⟨g, 0, none⟩) n cap) (bs.set j c) := by
  have hn : n = bs.length := by
    obtain ⟨a, cap, h1, _⟩ := h.sv
    simp only [Value.slice.injEq] at h1
    exact h1.2.1
  subst hn
  unfold OwnB at *
  have := (h.stored j (.int .u8 (c : Int))).1
  rw [vals_set] at this
  rw [List.length_set]
  exact this

/-- What a call tells: bytes of its own, and all else as it was. -/
def Told (w : World) (bs : List Nat) (e : Ending) (w' : World) : Prop := (∃ v, e = .returned v ∧ OwnB w' w.heap.size v bs) ∧ Below w.heap.size w w'

theorem below_alloc (w : World) (o : Obj) : Below w.heap.size w (w.alloc o) := (Below.refl _ _).alloc (Nat.le_refl _) _
theorem below_then {a w w2 : World} (h : Below a.heap.size a w) (h2 : Below w.heap.size w w2) : Below a.heap.size a w2 := h.trans (h2.mono h.size)

theorem lit_bytes (w : World) (l : List Nat) (hl : l.length ≤ maxLen) : OwnB (w.alloc (.cells (vals .u8 l).toArray 5)) w.heap.size (.slice (some ⟨w.heap.size, 0, none⟩) l.length l.length) l := by
  have := World.ownsRow_lit (e := 5) (size := 1) w (vals .u8 l).toArray l.length (base := w.heap.size) (Nat.le_refl _) hl (by simp [vals])
  exact this
theorem lit_none (w : World) : OwnB (w.alloc (.cells #[] 5)) w.heap.size (.slice (some ⟨w.heap.size, 0, none⟩) 0 0) [] := lit_bytes w [] (by unfold maxLen; simp)

theorem wpList_append_sv {w : World} {ops : Array Oper} {rest : List Oper} {o : Oper} {a : Act} {Q : Exit → Act → World → Prop} (hgd : o.guard = none) (s x : Operand)
    (ho : o.op = .call { callee := .builtin .append, args := #[s, x], argTypes := #[23, 23] })
    (base : Nat) (v vx : Value) (l0 l : List Nat) (hs : a.eval s = v) (hown : OwnB w base v l0) (hx : a.eval x = vx) (hsl : Sv w vx l)
    (hbytes : l0.length + l.length ≤ 140737488355328) (hbase : base ≤ w.heap.size)
    (h : ∀ v' w', OwnB w' base v' (l0 ++ l) → Below base w w' → wpList Tryd.prog ops Q rest (a.put o.dst v') w') :
    wpList Tryd.prog ops Q (o :: rest) a w := by
  obtain ⟨i0, hi, hz0, hz1', hz2⟩ := info_parts info5
  unfold OwnB at *
  obtain ⟨ad, cap, rfl, h1, h2, h3, h4⟩ := hsl
  cases ad with
  | none =>
    have hc := h3 rfl
    subst hc
    have hl : l = [] := List.eq_nil_of_length_eq_zero (by omega)
    subst hl
    refine wpList_plain hgd fun K hK => ?_
    have hr := run_append_owned_none (P := Tryd.prog) (w := w) base 23 o.type 5 i0 1 Tryd.underlying23 hi v l0.length (vals .u8 l0) hown
    unfold Oper.wp execOp
    simp only [ho, resolve, invoke, builtin, Sem.run_bind, Sem.run_pure, Result.andThen_ok, List.map_toArray, List.map_cons, List.map_nil, hs, hx, hr, List.length_nil]
    refine hK _ _ (h v w ?_ (Below.refl _ _))
    rw [List.append_nil]
    exact hown
  | some ad =>
    refine wpList_append_own_at (w := w) hgd s x 23 ho base 5 i0 (.int .u8 0) 1 1 Tryd.underlying23 hi hz0 hz1' hz2 rfl (by decide) v l0.length (vals .u8 l0) hs hown ad l.length cap (vals .u8 l) hx (by rw [vals_length]; omega) ?_ (vals_oneCell _ _) (by unfold maxLen; omega) (by omega) hbase ?_
    · intro j u hu
      have hj : j < l.length := by
        have := (List.getElem?_eq_some_iff.1 hu).1
        rwa [vals_length] at this
      obtain ⟨b, off, h5, _, h6⟩ := h4 (by omega)
      cases h5
      rw [addj, h6 j hj]
      rw [vals_get hj] at hu
      exact hu
    · intro v' w' o1 g1 _ _
      refine h v' w' ?_ ((Below.refl base w).grown g1 hbase (fun k hk => (hown.lt k hk).1))
      rw [vals_append, List.length_append]
      exact o1

/-- The table of half bytes, as it lies in memory. -/
def Tab (W : World) : Prop := 0 < W.heap.size ∧ ∀ i : Nat, i < 16 → W.cell? ⟨0, i, none⟩ = some (.int .u32 ((stpN 4 i : Nat) : Int))
theorem Tab.kept {W W' : World} (h : Tab W) (hb : Below W.heap.size W W') : Tab W' :=
  ⟨Nat.lt_of_lt_of_le h.1 hb.size, fun i hi => (hb.cell (p := ⟨0, i, none⟩) h.1).trans (h.2 i hi)⟩
end Go.Proofs.YtnedlogfgpgchaaDoor
