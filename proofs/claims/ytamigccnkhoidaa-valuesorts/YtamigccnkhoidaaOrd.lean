/- The order of cells, as plain mathematics: it is total, and the law's own one is the same. -/
import Derived.Test.YtamigccnkhoidaaLeaf
namespace Go.Proofs.Ytamigccnkhoidaa

theorem less_irrefl (l : List UInt8) : Op.bytesLess l l = false := by
  induction l with
  | nil => rfl
  | cons a l ih => simp [Op.bytesLess, ih, UInt8.lt_irrefl]

theorem less_asymm : (l m : List UInt8) → Op.bytesLess l m = true → Op.bytesLess m l = false
  | [], [], h => by simp [Op.bytesLess] at h
  | [], _ :: _, _ => by simp [Op.bytesLess]
  | _ :: _, [], h => by simp [Op.bytesLess] at h
  | a :: l, b :: m, h => by
    have ih := less_asymm l m
    simp only [Op.bytesLess, Bool.or_eq_true, decide_eq_true_eq, Bool.and_eq_true, beq_iff_eq] at h
    simp only [Op.bytesLess, Bool.or_eq_false_iff, decide_eq_false_iff_not, Bool.and_eq_false_iff, beq_eq_false_iff_ne]
    rcases h with h | ⟨rfl, h⟩
    · refine ⟨fun h2 => UInt8.lt_irrefl _ (UInt8.lt_trans h h2), Or.inl ?_⟩
      rintro rfl
      exact UInt8.lt_irrefl _ h
    · exact ⟨UInt8.lt_irrefl _, Or.inr (ih h)⟩

theorem less_total : (l m : List UInt8) → Op.bytesLess l m = false → Op.bytesLess m l = false → l = m
  | [], [], _, _ => rfl
  | [], _ :: _, h, _ => by simp [Op.bytesLess] at h
  | _ :: _, [], _, h => by simp [Op.bytesLess] at h
  | a :: l, b :: m, h, h2 => by
    have ih := less_total l m
    simp only [Op.bytesLess, Bool.or_eq_false_iff, decide_eq_false_iff_not, Bool.and_eq_false_iff, beq_eq_false_iff_ne] at h h2
    have e : a = b := UInt8.le_antisymm (UInt8.not_lt.mp h2.1) (UInt8.not_lt.mp h.1)
    subst e
    rw [ih (by rcases h.2 with h | h; exact absurd rfl h; exact h) (by rcases h2.2 with h | h; exact absurd rfl h; exact h)]

theorem less_trans : (l m p : List UInt8) → Op.bytesLess l m = true → Op.bytesLess m p = true → Op.bytesLess l p = true
  | [], [], _, h, _ => by simp [Op.bytesLess] at h
  | [], _ :: _, [], _, h => by simp [Op.bytesLess] at h
  | [], _ :: _, _ :: _, _, _ => by simp [Op.bytesLess]
  | _ :: _, [], _, h, _ => by simp [Op.bytesLess] at h
  | _ :: _, _ :: _, [], _, h => by simp [Op.bytesLess] at h
  | a :: l, b :: m, c :: p, h, h2 => by
    have ih := less_trans l m p
    simp only [Op.bytesLess, Bool.or_eq_true, decide_eq_true_eq, Bool.and_eq_true, beq_iff_eq] at h h2 ⊢
    rcases h with h | ⟨rfl, h⟩
    · rcases h2 with h2 | ⟨rfl, h2⟩
      · exact Or.inl (UInt8.lt_trans h h2)
      · exact Or.inl h
    · rcases h2 with h2 | ⟨rfl, h2⟩
      · exact Or.inl h2
      · exact Or.inr ⟨rfl, ih h h2⟩

theorem bytes_ext {a b : ByteArray} (h : a.toList = b.toList) : a = b := by
  rw [ByteArray.toList_eq, ByteArray.toList_eq] at h
  cases a with
  | mk x => cases b with
    | mk y => congr; exact Array.toList_inj.mp h

/-- Two texts: three ways. -/
theorem cS_ways (a b : ByteArray) : (cS a b = -1 ∧ Op.bytesLess a.toList b.toList = true ∧ Op.bytesLess b.toList a.toList = false ∧ a ≠ b) ∨ (cS a b = 0 ∧ a = b) ∨ (cS a b = 1 ∧ Op.bytesLess a.toList b.toList = false ∧ Op.bytesLess b.toList a.toList = true ∧ a ≠ b) := by
  unfold cS
  cases h1 : Op.bytesLess a.toList b.toList
  · by_cases h2 : a = b
    · subst h2; exact Or.inr (Or.inl (by simp))
    · have h3 : (a.toList == b.toList) = false := by
        rw [beq_eq_false_iff_ne]; exact fun h => h2 (bytes_ext h)
      refine Or.inr (Or.inr ⟨by simp [h3], rfl, ?_, h2⟩)
      cases h4 : Op.bytesLess b.toList a.toList
      · exact absurd (bytes_ext (less_total _ _ h1 h4)) h2
      · rfl
  · refine Or.inl ⟨by simp, rfl, less_asymm _ _ h1, ?_⟩
    rintro rfl
    rw [less_irrefl] at h1
    cases h1

theorem cS_swap (a b : ByteArray) : cS b a = - cS a b := by
  rcases cS_ways a b with ⟨h1, h2, h3, h4⟩ | ⟨h1, rfl⟩ | ⟨h1, h2, h3, h4⟩
  · rcases cS_ways b a with ⟨g1, g2, _⟩ | ⟨g1, rfl⟩ | ⟨g1, _⟩
    · rw [h3] at g2; cases g2
    · exact absurd rfl h4
    · omega
  · omega
  · rcases cS_ways b a with ⟨g1, _⟩ | ⟨g1, rfl⟩ | ⟨g1, _, g2, _⟩
    · omega
    · exact absurd rfl h4
    · rw [h2] at g2; cases g2

theorem cS_self (a : ByteArray) : cS a a = 0 := by
  have := cS_swap a a; omega

theorem cS_zero {a b : ByteArray} (h : cS a b = 0) : a = b := by
  rcases cS_ways a b with ⟨h1, _⟩ | ⟨_, h1⟩ | ⟨h1, _⟩
  · omega
  · exact h1
  · omega

theorem cS_trans {a b c : ByteArray} (h : cS a b ≤ 0) (h2 : cS b c ≤ 0) : cS a c ≤ 0 ∧ (cS a c = 0 → cS a b = 0 ∧ cS b c = 0) := by
  rcases cS_ways a b with ⟨e1, l1, _, _⟩ | ⟨e1, rfl⟩ | ⟨e1, _⟩
  · rcases cS_ways b c with ⟨e2, l2, _, _⟩ | ⟨e2, rfl⟩ | ⟨e2, _⟩
    · have := less_trans _ _ _ l1 l2
      rcases cS_ways a c with ⟨e3, _⟩ | ⟨e3, rfl⟩ | ⟨e3, l3, _⟩
      · omega
      · rw [less_irrefl] at this; cases this
      · rw [this] at l3; cases l3
    · omega
    · omega
  · omega
  · omega

/-- Two cells. -/
def cv (k n : Int) (s : ByteArray) (k' n' : Int) (s' : ByteArray) : Int := or3 (c3 k k') (c3 n n') (cS s s')

theorem c3_ways (a b : Int) : (c3 a b = -1 ∧ a < b) ∨ (c3 a b = 0 ∧ a = b) ∨ (c3 a b = 1 ∧ b < a) := by
  unfold c3
  by_cases h : a < b
  · rw [if_pos h]; omega
  · rw [if_neg h]
    by_cases h2 : b < a
    · rw [if_pos h2]; omega
    · rw [if_neg h2]; omega

theorem or3_ways (x y z : Int) : (x ≠ 0 ∧ or3 x y z = x) ∨ (x = 0 ∧ y ≠ 0 ∧ or3 x y z = y) ∨ (x = 0 ∧ y = 0 ∧ or3 x y z = z) := by
  unfold or3
  by_cases h : x ≠ 0
  · rw [if_pos h]; exact Or.inl ⟨h, rfl⟩
  · rw [if_neg h]
    by_cases h2 : y ≠ 0
    · rw [if_pos h2]; exact Or.inr (Or.inl ⟨by omega, h2, rfl⟩)
    · rw [if_neg h2]; exact Or.inr (Or.inr ⟨by omega, by omega, rfl⟩)

theorem cS_range (a b : ByteArray) : cS a b = -1 ∨ cS a b = 0 ∨ cS a b = 1 := by
  rcases cS_ways a b with h | h | h
  · exact Or.inl h.1
  · exact Or.inr (Or.inl h.1)
  · exact Or.inr (Or.inr h.1)

theorem cv_range (k n : Int) (s : ByteArray) (k' n' : Int) (s' : ByteArray) : cv k n s k' n' s' = -1 ∨ cv k n s k' n' s' = 0 ∨ cv k n s k' n' s' = 1 := by
  unfold cv
  have h1 := or3_ways (c3 k k') (c3 n n') (cS s s')
  have h2 := c3_ways k k'
  have h3 := c3_ways n n'
  have h4 := cS_range s s'
  omega

theorem cv_swap (k n : Int) (s : ByteArray) (k' n' : Int) (s' : ByteArray) : cv k' n' s' k n s = - cv k n s k' n' s' := by
  unfold cv
  have h1 := or3_ways (c3 k k') (c3 n n') (cS s s')
  have h2 := c3_ways k k'
  have h3 := c3_ways n n'
  have h4 := cS_swap s s'
  have g1 := or3_ways (c3 k' k) (c3 n' n) (cS s' s)
  have g2 := c3_ways k' k
  have g3 := c3_ways n' n
  omega

theorem cv_zero (k n : Int) (s : ByteArray) (k' n' : Int) (s' : ByteArray) : cv k n s k' n' s' = 0 ↔ k = k' ∧ n = n' ∧ s = s' := by
  unfold cv
  have h1 := or3_ways (c3 k k') (c3 n n') (cS s s')
  have h2 := c3_ways k k'
  have h3 := c3_ways n n'
  constructor
  · intro h
    have h4 : cS s s' = 0 := by omega
    exact ⟨by omega, by omega, cS_zero h4⟩
  · rintro ⟨rfl, rfl, rfl⟩
    have := cS_self s
    omega

theorem cv_trans (k n : Int) (s : ByteArray) (k' n' : Int) (s' : ByteArray) (k2 n2 : Int) (s2 : ByteArray) (h : cv k n s k' n' s' ≤ 0) (h' : cv k' n' s' k2 n2 s2 ≤ 0) : cv k n s k2 n2 s2 ≤ 0 := by
  unfold cv at *
  have a1 := or3_ways (c3 k k') (c3 n n') (cS s s')
  have a2 := c3_ways k k'
  have a3 := c3_ways n n'
  have b1 := or3_ways (c3 k' k2) (c3 n' n2) (cS s' s2)
  have b2 := c3_ways k' k2
  have b3 := c3_ways n' n2
  have d1 := or3_ways (c3 k k2) (c3 n n2) (cS s s2)
  have d2 := c3_ways k k2
  have d3 := c3_ways n n2
  have t := @cS_trans s s' s2
  omega

/-- The law's own order. -/
def ls (k n : Int) (s : ByteArray) (k' n' : Int) (s' : ByteArray) : Bool := if (k != k') = true then decide (k < k') else if n < n' then true else if (n == n') = true then Op.bytesLess s.toList s'.toList else false

theorem ls_cv (k n : Int) (s : ByteArray) (k' n' : Int) (s' : ByteArray) : ls k n s k' n' s' = decide (cv k n s k' n' s' = -1) := by
  unfold ls cv
  have h1 := or3_ways (c3 k k') (c3 n n') (cS s s')
  have h2 := c3_ways k k'
  have h3 := c3_ways n n'
  by_cases e : k = k'
  · rw [if_neg (by simpa using e)]
    by_cases f : n < n'
    · rw [if_pos f]; symm; rw [decide_eq_true_eq]; omega
    · rw [if_neg f]
      by_cases g : n = n'
      · rw [if_pos (by simpa using g)]
        have h4 : or3 (c3 k k') (c3 n n') (cS s s') = cS s s' := by omega
        rw [h4]
        rcases cS_ways s s' with ⟨q1, q2, _⟩ | ⟨q1, rfl⟩ | ⟨q1, q2, _⟩
        · rw [q1, q2]; rfl
        · rw [q1, less_irrefl]; rfl
        · rw [q1, q2]; rfl
      · rw [if_neg (by simpa using g)]; symm; rw [decide_eq_false_iff_not]; omega
  · rw [if_pos (by simpa using e)]
    rw [decide_eq_decide]; omega
end Go.Proofs.Ytamigccnkhoidaa
