/- Slices and what they hold, whoever made them: of any values, of whole numbers; parts of them; bytes put behind bytes. -/
import Derived.Test.YtnlanilejhjkkaaBRefUnpack
import Derived.Test.YtnlanilejhjkkaaVRefGet
import Derived.Test.YtnlanilejhjkkaaForms
set_option linter.unusedVariables false
set_option linter.unusedSimpArgs false
namespace Go.Proofs.Ytnlanilejhjkkaa
open Go.RowKit Go.Lib

/-- Whole numbers as values. -/
def ivals (l : List Int) : List Value := l.map fun z => Value.int .i64 z
theorem ivals_append (a b : List Int) : ivals (a ++ b) = ivals a ++ ivals b := List.map_append
theorem ivals_length (a : List Int) : (ivals a).length = a.length := List.length_map _
theorem ivals_get {l : List Int} {j : Nat} (h : j < l.length) : (ivals l)[j]? = some (.int .i64 l[j]) := by simp [ivals, h]
theorem ivals_set (l : List Int) (j : Nat) (c : Int) : (ivals l).set j (.int .i64 c) = ivals (l.set j c) := by simp [ivals, List.map_set]
theorem ivals_oneCell (l : List Int) : ∀ u ∈ ivals l, u.oneCell' = true := by
  intro u hu
  obtain ⟨b, _, rfl⟩ := List.mem_map.1 hu
  rfl

/-- A slice that holds xs. -/
def Sv (W : World) (v : Value) (xs : List Value) : Prop :=
  ∃ a cap, v = .slice a xs.length cap ∧ xs.length ≤ cap ∧ cap ≤ maxLen ∧ (a = none → cap = 0) ∧
    (0 < xs.length → ∃ b off, a = some ⟨b, off, none⟩ ∧ b < W.heap.size ∧ ∀ j x, xs[j]? = some x → W.cell? ⟨b, off + j, none⟩ = some x)

theorem Sv.kept {W W' : World} {v : Value} {xs : List Value} (h : Sv W v xs) (hb : Below W.heap.size W W') : Sv W' v xs := by
  obtain ⟨a, cap, rfl, h1, h2, h3, h4⟩ := h
  refine ⟨a, cap, rfl, h1, h2, h3, fun h0 => ?_⟩
  obtain ⟨b, off, rfl, h5, h6⟩ := h4 h0
  exact ⟨b, off, rfl, Nat.lt_of_lt_of_le h5 hb.size, fun j x hj => (hb.cell (p := ⟨b, off + j, none⟩) h5).trans (h6 j x hj)⟩

theorem Sv.nil (W : World) : Sv W (.slice none 0 0) [] := ⟨none, 0, rfl, Nat.le_refl _, by unfold maxLen; omega, fun _ => rfl, fun h => by simp at h⟩

theorem Sv.of_own {W : World} {B e n : Nat} {v : Value} {xs : List Value} (h : W.ownsRow B e 1 v n xs) : Sv W v xs := by
  have hl : xs.length = n := by have := h.1; simpa using this
  obtain ⟨_, h1⟩ := id h
  rcases h1 with ⟨rfl, rfl⟩ | ⟨g, cap, cur, rfl, hb, hg, h4, h5, _⟩
  · exact ⟨none, 0, by rw [hl], by omega, by unfold maxLen; omega, fun _ => rfl, fun h0 => by omega⟩
  · refine ⟨_, cap, by rw [hl], by omega, h5, fun h => (by cases h), fun _ => ⟨g, 0, rfl, (Array.getElem?_eq_some_iff.1 hg).1, fun j x hj => ?_⟩⟩
    have := h.cells (g := g) rfl j _ hj
    rw [add0] at this
    rwa [Nat.zero_add]

theorem Sv.len {W : World} {v : Value} {xs : List Value} (h : Sv W v xs) : xs.length ≤ maxLen := by obtain ⟨_, _, _, h1, h2, _⟩ := h; omega

theorem Sv.sx {k : IntKind} {W : World} {v : Value} {l : List Nat} (h : Sv W v (vals k l)) : Sx k W v l := by
  have hm := h.len
  obtain ⟨a, cap, rfl, h1, h2, h3, h4⟩ := h
  rw [vals_length] at *
  refine ⟨a, cap, rfl, hm, fun h0 => ?_⟩
  obtain ⟨b, off, rfl, h5, h6⟩ := h4 h0
  exact ⟨b, off, rfl, h5, fun j hj => h6 j _ (vals_get hj)⟩

theorem vals_bytes (l : List UInt8) : vals .u8 (l.map UInt8.toNat) = byteVals l := by simp [vals, byteVals]
theorem bytes_vals {l : List Nat} (h : Bs l) : byteVals (l.map Nat.toUInt8) = vals .u8 l := by rw [← vals_bytes, map_fwd h]

theorem Sv.sl {W : World} {v : Value} {l : List Nat} (hb : Bs l) (h : Sv W v (vals .u8 l)) : Sl W v (l.map Nat.toUInt8) := by
  rw [← bytes_vals hb] at h
  obtain ⟨a, cap, rfl, h1, h2, h3, h4⟩ := h
  rw [byteVals_length] at *
  refine ⟨a, cap, rfl, h1, h2, fun h0 => ?_⟩
  obtain ⟨b, off, rfl, h5, h6⟩ := h4 h0
  exact ⟨b, off, rfl, h5, fun j hj => h6 j _ (byteVals_get hj)⟩

/-- A part from the beginning; a part to the end. -/
theorem Sv.take {W : World} {a : Option Addr} {n cap : Nat} {xs : List Value} (h : Sv W (.slice a n cap) xs) {k : Nat} (hk : k ≤ xs.length) : Sv W (.slice a k cap) (xs.take k) := by
  obtain ⟨a', c, h1, h2, h3, h4, h5⟩ := h
  simp only [Value.slice.injEq] at h1
  obtain ⟨rfl, _, rfl⟩ := h1
  have hl : (xs.take k).length = k := by rw [List.length_take]; omega
  refine ⟨_, cap, by rw [hl], by omega, h3, h4, fun h0 => ?_⟩
  obtain ⟨b', off', h6, h7, h8⟩ := h5 (by omega)
  refine ⟨b', off', h6, h7, fun j x hj => h8 j x ?_⟩
  have hjl := (List.getElem?_eq_some_iff.1 hj).1
  rw [List.getElem?_take] at hj
  rwa [if_pos (by omega)] at hj

theorem Sv.drop {W : World} {b off n cap : Nat} {xs : List Value} (h : Sv W (.slice (some ⟨b, off, none⟩) n cap) xs) {k : Nat} (hk : k ≤ xs.length) {a : Addr} (ha : a = if cap = k then ⟨b, off, none⟩ else ⟨b, off + k, none⟩) :
    Sv W (.slice (some a) (n - k) (cap - k)) (xs.drop k) := by
  obtain ⟨a', c, h1, h2, h3, h4, h5⟩ := h
  simp only [Value.slice.injEq] at h1
  obtain ⟨rfl, rfl, rfl⟩ := h1
  have hl : (xs.drop k).length = xs.length - k := by rw [List.length_drop]
  refine ⟨_, _, by rw [hl], by omega, by omega, fun h => (by cases h), fun h0 => ?_⟩
  obtain ⟨b', off', h6, h7, h8⟩ := h5 (by omega)
  cases h6
  rw [if_neg (by omega)] at ha
  refine ⟨b, off + k, by rw [ha], h7, fun j x hj => ?_⟩
  rw [List.getElem?_drop] at hj
  have := h8 (k + j) x hj
  rwa [← Nat.add_assoc] at this

/-- Bytes, numbers, whole numbers of the call's own. -/
def OwnB (W : World) (B : Nat) (v : Value) (bs : List Nat) : Prop := W.ownsRow B 5 1 v bs.length (vals .u8 bs)
def OwnU (W : World) (B : Nat) (v : Value) (bs : List Nat) : Prop := W.ownsRow B 44 1 v bs.length (vals .u64 bs)
def OwnI (W : World) (B : Nat) (v : Value) (l : List Int) : Prop := W.ownsRow B 2 1 v l.length (ivals l)

theorem OwnB.nil (W : World) (B : Nat) : OwnB W B (.slice none 0 0) [] := World.ownsRow_nil _ _ _ _
theorem OwnU.nil (W : World) (B : Nat) : OwnU W B (.slice none 0 0) [] := World.ownsRow_nil _ _ _ _
theorem OwnI.nil (W : World) (B : Nat) : OwnI W B (.slice none 0 0) [] := World.ownsRow_nil _ _ _ _
theorem OwnB.kept {w w' : World} {B : Nat} {v : Value} {bs : List Nat} (h : OwnB w B v bs) (hb : Below w.heap.size w w') : OwnB w' B v bs := own_kept h hb
theorem OwnU.kept {w w' : World} {B : Nat} {v : Value} {bs : List Nat} (h : OwnU w B v bs) (hb : Below w.heap.size w w') : OwnU w' B v bs := own_kept h hb
theorem OwnI.kept {w w' : World} {B : Nat} {v : Value} {bs : List Int} (h : OwnI w B v bs) (hb : Below w.heap.size w w') : OwnI w' B v bs := own_kept h hb
theorem OwnB.sv {W : World} {B : Nat} {v : Value} {bs : List Nat} (h : OwnB W B v bs) : Sv W v (vals .u8 bs) := Sv.of_own h
theorem OwnU.sv {W : World} {B : Nat} {v : Value} {bs : List Nat} (h : OwnU W B v bs) : Sv W v (vals .u64 bs) := Sv.of_own h
theorem OwnI.sv {W : World} {B : Nat} {v : Value} {l : List Int} (h : OwnI W B v l) : Sv W v (ivals l) := Sv.of_own h

/-- What a call tells: bytes of its own, and all else as it was. -/
def Told (w : World) (bs : List Nat) (e : Ending) (w' : World) : Prop := (∃ v, e = .returned v ∧ OwnB w' w.heap.size v bs) ∧ Below w.heap.size w w'

theorem uv_vals (n : Nat) : vals .u8 (uv n) = byteVals (uvarint n) := vals_bytes _

theorem vput_told (n : Nat) (hn : n < 18446744073709551616) (w : World) : Calls Try.prog 45 #[.int .u64 (n : Int)] w (Told w (uv n)) := by
  refine (vput_any n hn w).mono ?_
  rintro e w' ⟨⟨v, rfl, h⟩, hb⟩
  exact ⟨⟨v, rfl, by unfold OwnB; rw [uv_vals, uv_len]; exact h⟩, hb⟩

theorem refPut_told (n : Nat) (hn : n < 18446744073709551616) (w : World) : Calls Try.prog 19 #[.int .u64 (n : Int)] w (Told w (uv n)) := by
  refine (refPut_any n hn w).mono ?_
  rintro e w' ⟨⟨v, rfl, h⟩, hb⟩
  exact ⟨⟨v, rfl, by unfold OwnB; rw [uv_vals, uv_len]; exact h⟩, hb⟩

theorem putInt_told {z : Int} (hz : I64 z) (w : World) : Calls Try.prog 43 #[.int .i64 z] w (Told w (wv z)) := by
  refine (putInt_any z hz.1 hz.2 w).mono ?_
  rintro e w' ⟨⟨v, rfl, h⟩, hb⟩
  exact ⟨⟨v, rfl, by unfold OwnB; rw [wv, uv_vals, uv_len]; exact h⟩, hb⟩

theorem refPutInt_told {z : Int} (hz : I64 z) (w : World) : Calls Try.prog 18 #[.int .i64 z] w (Told w (wv z)) := by
  refine (refPutInt_any z hz.1 hz.2 w).mono ?_
  rintro e w' ⟨⟨v, rfl, h⟩, hb⟩
  exact ⟨⟨v, rfl, by unfold OwnB; rw [wv, uv_vals, uv_len]; exact h⟩, hb⟩

theorem wpList_append_sv {w : World} {ops : Array Oper} {rest : List Oper} {o : Oper} {a : Act} {Q : Exit → Act → World → Prop} (hgd : o.guard = none) (s x : Operand)
    (ho : o.op = .call { callee := .builtin .append, args := #[s, x], argTypes := #[24, 24] })
    (base : Nat) (v vx : Value) (l0 l : List Nat) (hs : a.eval s = v) (hown : OwnB w base v l0) (hx : a.eval x = vx) (hsl : Sv w vx (vals .u8 l))
    (hbytes : l0.length + l.length ≤ 140737488355328) (hbase : base ≤ w.heap.size)
    (h : ∀ v' w', OwnB w' base v' (l0 ++ l) → Below base w w' → wpList Try.prog ops Q rest (a.put o.dst v') w') :
    wpList Try.prog ops Q (o :: rest) a w := by
  obtain ⟨i0, hi, hz0, hz1', hz2⟩ := info_parts info5
  unfold OwnB at *
  obtain ⟨ad, cap, rfl, h1, h2, h3, h4⟩ := hsl
  rw [vals_length] at *
  cases ad with
  | none =>
    have hc := h3 rfl
    subst hc
    have hl : l = [] := List.eq_nil_of_length_eq_zero (by omega)
    subst hl
    refine wpList_plain hgd fun K hK => ?_
    have hr := run_append_owned_none (P := Try.prog) (w := w) base 24 o.type 5 i0 1 Try.underlying24 hi v l0.length (vals .u8 l0) hown
    unfold Oper.wp execOp
    simp only [ho, resolve, invoke, builtin, Sem.run_bind, Sem.run_pure, Result.andThen_ok, List.map_toArray, List.map_cons, List.map_nil, hs, hx, hr, List.length_nil]
    refine hK _ _ (h v w ?_ (Below.refl _ _))
    rw [List.append_nil]
    exact hown
  | some ad =>
    refine wpList_append_own_at (w := w) hgd s x 24 ho base 5 i0 (.int .u8 0) 1 1 Try.underlying24 hi hz0 hz1' hz2 rfl (by decide) v l0.length (vals .u8 l0) hs hown ad l.length cap (vals .u8 l) hx (by rw [vals_length]; omega) ?_ (vals_oneCell _ _) (by unfold maxLen; omega) (by omega) hbase ?_
    · intro j u hu
      have hj : j < l.length := by
        have := (List.getElem?_eq_some_iff.1 hu).1
        rwa [vals_length] at this
      obtain ⟨b, off, h5, _, h6⟩ := h4 (by omega)
      cases h5
      rw [addj]
      exact h6 j u hu
    · intro v' w' o1 g1 _ _
      refine h v' w' ?_ ((Below.refl base w).grown g1 hbase (fun k hk => (hown.lt k hk).1))
      rw [vals_append, List.length_append]
      exact o1
end Go.Proofs.Ytnlanilejhjkkaa
