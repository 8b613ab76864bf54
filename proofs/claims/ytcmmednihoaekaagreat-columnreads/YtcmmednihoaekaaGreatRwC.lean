/- The document's Write: what it gathers: no program. -/
import Derived.Test.YtcmmednihoaekaaGreatRwB
set_option linter.unusedVariables false
set_option linter.unusedSimpArgs false
namespace Go.Proofs.YtcmmednihoaekaaGreat
open Go.RowKit Go.Lib

/-- A value that may be, its text of any length. -/
def Finew (c : Nat × Int × List Nat) : Prop :=
  c = nul ∨ (∃ n, c = (1, n, []) ∧ I64 n) ∨ (∃ n : Nat, c = (2, (n : Int), []) ∧ n < 2) ∨ (∃ s, c = (3, 0, s) ∧ Bs s)

theorem Fine.wide {c : Nat × Int × List Nat} (h : Fine c) : Finew c := by
  rcases h with h | h | h | ⟨s, h, _, h2⟩
  · exact Or.inl h
  · exact Or.inr (Or.inl h)
  · exact Or.inr (Or.inr (Or.inl h))
  · exact Or.inr (Or.inr (Or.inr ⟨s, h, h2⟩))
theorem Cellw.wide {k : Nat} {c : Nat × Int × List Nat} (h : Cellw k c) : Finew c := by
  rcases h with h | ⟨_, h⟩ | ⟨_, h⟩ | ⟨_, h⟩
  · exact Or.inl h
  · exact Or.inr (Or.inl h)
  · exact Or.inr (Or.inr (Or.inl h))
  · exact Or.inr (Or.inr (Or.inr h))
theorem Finew.fine {c : Nat × Int × List Nat} (h : Finew c) (hs : c.2.2.length ≤ 64) : Fine c := by
  rcases h with h | h | h | ⟨s, rfl, h2⟩
  · exact Or.inl h
  · exact Or.inr (Or.inl h)
  · exact Or.inr (Or.inr (Or.inl h))
  · exact Or.inr (Or.inr (Or.inr ⟨s, rfl, hs, h2⟩))
theorem Finew.null {c : Nat × Int × List Nat} (h : Finew c) (h0 : c.1 = 0) : c = nul := by
  rcases h with h | ⟨n, rfl, _⟩ | ⟨n, rfl, _⟩ | ⟨s, rfl, _⟩
  · exact h
  · simp at h0
  · simp at h0
  · simp at h0
theorem Finew.parts {c : Nat × Int × List Nat} (h : Finew c) : c.1 ≤ 3 ∧ I64 c.2.1 ∧ Bs c.2.2 := by
  rcases h with rfl | ⟨n, rfl, h⟩ | ⟨n, rfl, h⟩ | ⟨s, rfl, h⟩
  · exact ⟨by simp [nul], by simp [nul, I64], fun x hx => by simp [nul] at hx⟩
  · exact ⟨by simp, h, fun x hx => by simp at hx⟩
  · exact ⟨by simp, by simp only [I64]; omega, fun x hx => by simp at hx⟩
  · exact ⟨by simp, by simp [I64], h⟩

/-- A whole number as a number of 64 bits. -/
def uwrap (z : Int) : Nat := (z % 18446744073709551616).toNat
theorem uwrap_lt (z : Int) : uwrap z < 18446744073709551616 := by unfold uwrap; omega
theorem uwrap_wrap (z : Int) : IntKind.u64.wrap z = (uwrap z : Int) := by rw [IntKind.wrap_u64]; unfold uwrap; omega

def tr4 (l : List (Nat × Int × List Nat)) : List Nat := (ownC l).map fun c => uwrap c.2.1
def wh4 (l : List (Nat × Int × List Nat)) : List Int := (ownC l).map fun c => c.2.1
def wd4 (l : List (Nat × Int × List Nat)) : List (List Nat) := (ownC l).map fun c => c.2.2

theorem four_null {l : List (Nat × Int × List Nat)} {j : Nat} (h : j < l.length) (h0 : l[j].1 = 0) : there (l.take (j + 1)) = there (l.take j) ++ [0] ∧ tr4 (l.take (j + 1)) = tr4 (l.take j) ∧ wh4 (l.take (j + 1)) = wh4 (l.take j) ∧ wd4 (l.take (j + 1)) = wd4 (l.take j) := by
  have h1 := there_take_succ h
  have h2 := ownC_take_succ h
  rw [if_pos h0] at h1 h2
  rw [List.append_nil] at h2
  unfold tr4 wh4 wd4
  rw [h2]
  exact ⟨h1, rfl, rfl, rfl⟩
theorem four_some {l : List (Nat × Int × List Nat)} {j : Nat} (h : j < l.length) (h0 : l[j].1 ≠ 0) : there (l.take (j + 1)) = there (l.take j) ++ [1] ∧ tr4 (l.take (j + 1)) = tr4 (l.take j) ++ [uwrap l[j].2.1] ∧ wh4 (l.take (j + 1)) = wh4 (l.take j) ++ [l[j].2.1] ∧ wd4 (l.take (j + 1)) = wd4 (l.take j) ++ [l[j].2.2] := by
  have h1 := there_take_succ h
  have h2 := ownC_take_succ h
  rw [if_neg h0] at h1 h2
  unfold tr4 wh4 wd4
  rw [h2, List.map_append, List.map_append, List.map_append]
  exact ⟨h1, rfl, rfl, rfl⟩
theorem four_len (l : List (Nat × Int × List Nat)) (j : Nat) : (there (l.take j)).length ≤ l.length ∧ (tr4 (l.take j)).length ≤ l.length ∧ (wh4 (l.take j)).length ≤ l.length ∧ (wd4 (l.take j)).length ≤ l.length := by
  have h := ownC_take_len l j
  refine ⟨by rw [there_length, List.length_take]; omega, ?_, ?_, ?_⟩
  · unfold tr4; rw [List.length_map]; exact h
  · unfold wh4; rw [List.length_map]; exact h
  · unfold wd4; rw [List.length_map]; exact h

/-- Four lists of the call's own. -/
def Four (W : World) (B : Nat) (a b c d : Value) (L1 L2 : List Nat) (L3 : List Int) (L4 : List (List Nat)) : Prop := OwnU W B a L1 ∧ OwnU W B b L2 ∧ OwnI W B c L3 ∧ OwnS W B d L4 ∧ Ap a b

theorem Four.nil (W : World) (B : Nat) : Four W B (.slice none 0 0) (.slice none 0 0) (.slice none 0 0) (.slice none 0 0) [] [] [] [] := ⟨OwnU.nil _ _, OwnU.nil _ _, OwnI.nil _ _, OwnS.nil _ _, fun g hg => by cases hg⟩
theorem Four.kept {W W' : World} {B : Nat} {a b c d : Value} {L1 L2 : List Nat} {L3 : List Int} {L4 : List (List Nat)} (h : Four W B a b c d L1 L2 L3 L4) (hb : Below W.heap.size W W') : Four W' B a b c d L1 L2 L3 L4 := ⟨h.1.kept hb, h.2.1.kept hb, h.2.2.1.kept hb, h.2.2.2.1.kept hb, h.2.2.2.2⟩
theorem Four.g1 {W W' : World} {B : Nat} {a a' b c d : Value} {L1 L1' L2 : List Nat} {L3 : List Int} {L4 : List (List Nat)} (h : Four W B a b c d L1 L2 L3 L4) (ho : OwnU W' B a' L1') (hg : W.grownBy W' a.ownBlock) (hn : a'.ownBlock = a.ownBlock ∨ a'.ownBlock = some W.heap.size) : Four W' B a' b c d L1' L2 L3 L4 := by
  obtain ⟨h1, h2, h3, h4, h5⟩ := h
  exact ⟨ho, own_grown h2 hg h5.symm, own_grown h3 hg (Ap.of_types h3 h1 (by decide)), own_grown h4 hg (Ap.of_types h4 h1 (by decide)), h5.grow hn (fun k hk => (h2.lt k hk).2)⟩
theorem Four.g2 {W W' : World} {B : Nat} {a b b' c d : Value} {L1 L2 L2' : List Nat} {L3 : List Int} {L4 : List (List Nat)} (h : Four W B a b c d L1 L2 L3 L4) (ho : OwnU W' B b' L2') (hg : W.grownBy W' b.ownBlock) (hn : b'.ownBlock = b.ownBlock ∨ b'.ownBlock = some W.heap.size) : Four W' B a b' c d L1 L2' L3 L4 := by
  obtain ⟨h1, h2, h3, h4, h5⟩ := h
  exact ⟨own_grown h1 hg h5, ho, own_grown h3 hg (Ap.of_types h3 h2 (by decide)), own_grown h4 hg (Ap.of_types h4 h2 (by decide)), (h5.symm.grow hn (fun k hk => (h1.lt k hk).2)).symm⟩
theorem Four.g3 {W W' : World} {B : Nat} {a b c c' d : Value} {L1 L2 : List Nat} {L3 L3' : List Int} {L4 : List (List Nat)} (h : Four W B a b c d L1 L2 L3 L4) (ho : OwnI W' B c' L3') (hg : W.grownBy W' c.ownBlock) : Four W' B a b c' d L1 L2 L3' L4 := by
  obtain ⟨h1, h2, h3, h4, h5⟩ := h
  exact ⟨own_grown h1 hg (Ap.of_types h1 h3 (by decide)), own_grown h2 hg (Ap.of_types h2 h3 (by decide)), ho, own_grown h4 hg (Ap.of_types h4 h3 (by decide)), h5⟩
theorem Four.g4 {W W' : World} {B : Nat} {a b c d d' : Value} {L1 L2 : List Nat} {L3 : List Int} {L4 L4' : List (List Nat)} (h : Four W B a b c d L1 L2 L3 L4) (ho : OwnS W' B d' L4') (hg : W.grownBy W' d.ownBlock) : Four W' B a b c d' L1 L2 L3 L4' := by
  obtain ⟨h1, h2, h3, h4, h5⟩ := h
  exact ⟨own_grown h1 hg (Ap.of_types h1 h4 (by decide)), own_grown h2 hg (Ap.of_types h2 h4 (by decide)), own_grown h3 hg (Ap.of_types h3 h4 (by decide)), ho, h5⟩

theorem plT_ne {x : List Nat} : ∀ {u : List (List Nat)} {q : Nat} (h : q < u.length), q < plT u x → u[q] ≠ x
  | y :: t, 0, h, hq => by
    intro e
    unfold plT at hq
    rw [if_pos (by simpa using e)] at hq
    omega
  | y :: t, q + 1, h, hq => by
    unfold plT at hq
    split at hq
    · omega
    · have := plT_ne (x := x) (u := t) (q := q) (by simpa using h) (by omega)
      simpa using this

theorem tr4_two {l : List (Nat × Int × List Nat)} (h : ∀ c ∈ l, Cellk 2 c) : tr4 l = (ownC l).map fun c => c.2.1.toNat := by
  unfold tr4
  apply List.map_congr_left
  intro c hc
  obtain ⟨h1, h2⟩ := ownC_mem hc
  rcases h c h1 with rfl | ⟨e, _⟩ | ⟨_, n, rfl, hn⟩ | ⟨e, _⟩
  · exact absurd rfl h2
  · omega
  · simp only [uwrap]; omega
  · omega

theorem writeC_kind {k : Nat} {l : List (Nat × Int × List Nat)} (h : ¬ (1 ≤ k ∧ k ≤ 3 ∧ ∀ c ∈ l, c.1 = 0 ∨ c.1 = k)) : writeC k l = ([], 10) := if_neg h
theorem writeC_long {k : Nat} {l : List (Nat × Int × List Nat)} (h : 1 ≤ k ∧ k ≤ 3 ∧ ∀ c ∈ l, c.1 = 0 ∨ c.1 = k) (h2 : ¬ (l.length ≤ 256 ∧ ∀ c ∈ l, c.2.2.length ≤ 64)) : writeC k l = ([], 5) := by
  unfold writeC
  rw [if_pos h, if_neg h2]
end Go.Proofs.YtcmmednihoaekaaGreat
