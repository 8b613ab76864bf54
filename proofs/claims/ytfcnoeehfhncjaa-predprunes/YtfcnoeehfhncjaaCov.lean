/- What statistics leave holds the answer of each row that they cover; no program. -/
import Derived.Test.YtfcnoeehfhncjaaPw
set_option linter.unusedVariables false
set_option linter.unusedSimpArgs false
namespace Go.Proofs.Ytfcnoeehfhncjaa
open Go.RowKit Go.Lib

/-- Statistics cover a cell. -/
def Cov (st : Stt) (x : Cl) : Prop := (x.1 = 0 → 0 < st.nulls) ∧ (x.1 ≠ 0 → st.some = true ∧ cmpC (fixC st.lo) x ≤ 0 ∧ (st.high = true → cmpC x (fixC st.hi) ≤ 0))
theorem cmpC_swap (a b : Cl) : cmpC b a = - cmpC a b := cv_swap _ _ _ _ _ _
theorem cmpC_trans {a b c : Cl} (h : cmpC a b ≤ 0) (h2 : cmpC b c ≤ 0) : cmpC a c ≤ 0 := cv_trans _ _ _ _ _ _ _ _ _ h h2
theorem cmpC_range (a b : Cl) : cmpC a b = -1 ∨ cmpC a b = 0 ∨ cmpC a b = 1 := cv_range _ _ _ _ _ _
theorem togA_get {a b : B3} {x y : Nat} (hx : x ≤ 2) (hy : y ≤ 2) (ha : getB a x = true) (hb : getB b y = true) : getB (togA a b) (min x y) = true := by
  obtain ⟨a0, a1, a2⟩ := a
  obtain ⟨b0, b1, b2⟩ := b
  obtain rfl | rfl | rfl : x = 0 ∨ x = 1 ∨ x = 2 := by omega
  all_goals
    obtain rfl | rfl | rfl : y = 0 ∨ y = 1 ∨ y = 2 := by omega
    all_goals
      simp [getB] at ha hb
      subst ha hb
      simp [getB, togA]
theorem togO_get {a b : B3} {x y : Nat} (hx : x ≤ 2) (hy : y ≤ 2) (ha : getB a x = true) (hb : getB b y = true) : getB (togO a b) (max x y) = true := by
  obtain ⟨a0, a1, a2⟩ := a
  obtain ⟨b0, b1, b2⟩ := b
  obtain rfl | rfl | rfl : x = 0 ∨ x = 1 ∨ x = 2 := by omega
  all_goals
    obtain rfl | rfl | rfl : y = 0 ∨ y = 1 ∨ y = 2 := by omega
    all_goals
      simp [getB] at ha hb
      subst ha hb
      simp [getB, togO]
theorem conM_get {a : B3} {x : Nat} (hx : x ≤ 2) (ha : getB a x = true) : getB (conM a) (2 - x) = true := by
  obtain ⟨a0, a1, a2⟩ := a
  obtain rfl | rfl | rfl : x = 0 ∨ x = 1 ∨ x = 2 := by omega
  all_goals
    simp [getB] at ha
    subst ha
    simp [getB, conM]
theorem isM_get {a : B3} {b : Bool} (hn : b = false → a.1 = true) (hy : b = true → a.2.2 = true) : getB a (isM b) = true := by
  cases b
  · simpa [isM, getB] using hn rfl
  · simpa [isM, getB] using hy rfl
theorem leaf_cov {st : Stt} {x : Cl} (h : Cov st x) (op : Nat) (c : Cl) : getB (mleafX op c st) (leafX op c x) = true := by
  unfold mleafX leafX
  by_cases h5 : op = 5
  · rw [if_pos h5, if_pos h5]
    refine isM_get (fun hb => ?_) (fun hb => ?_)
    · exact (h.2 (by simpa using hb)).1
    · simpa using h.1 (by simpa using hb)
  · rw [if_neg h5, if_neg h5]
    by_cases hx : x.1 = 0
    · rw [if_pos hx]
      have hn := h.1 hx
      split
      · unfold withM
        repeat' split
        all_goals simp [getB, hn]
      · simp [getB, hn]
    · rw [if_neg hx]
      obtain ⟨hs, hlo, hhi⟩ := h.2 hx
      rw [if_pos hs]
      have r1 := cmpC_range x (fixC c)
      have s1 := cmpC_swap x (fixC c)
      have s2 := cmpC_swap (fixC st.lo) (fixC c)
      have s3 := cmpC_swap (fixC st.hi) (fixC c)
      have t1 : cmpC x (fixC c) ≤ 0 → cmpC (fixC st.lo) (fixC c) ≤ 0 := fun h => cmpC_trans hlo h
      have t2 : st.high = true → cmpC (fixC c) x ≤ 0 → cmpC (fixC c) (fixC st.hi) ≤ 0 := fun hh h => cmpC_trans h (hhi hh)
      have t3 : cmpC (fixC c) (fixC st.lo) ≤ 0 → cmpC (fixC c) x ≤ 0 := fun h => cmpC_trans h hlo
      have t4 : st.high = true → cmpC (fixC st.hi) (fixC c) ≤ 0 → cmpC x (fixC c) ≤ 0 := fun hh h => cmpC_trans (hhi hh) h
      unfold heldM
      by_cases h1 : op = 1
      · subst h1
        rw [if_pos rfl, withM1]
        refine isM_get (fun hb => ?_) (fun hb => ?_)
        · have hb' : ¬ cmpC x (fixC c) = 0 := by simpa using hb
          simp only [Bool.not_eq_true', Bool.and_eq_false_imp, decide_eq_true_eq, Bool.and_eq_true]
          intro h
          exfalso
          obtain ⟨⟨hh, hm⟩, hM⟩ := h
          have := t3 (by omega)
          have := t4 hh (by omega)
          omega
        · have hb' : cmpC x (fixC c) = 0 := by simpa using hb
          have q1 := t1 (by omega)
          simp only [Bool.and_eq_true, decide_eq_true_eq, Bool.not_eq_true', Bool.and_eq_false_imp, decide_eq_false_iff_not]
          refine ⟨by omega, fun hh => ?_⟩
          have := t2 hh (by omega)
          omega
      rw [if_neg h1]
      by_cases h2 : op = 2
      · subst h2
        rw [if_pos rfl, withM2]
        refine isM_get (fun hb => ?_) (fun hb => ?_)
        · have hb' : ¬ cmpC x (fixC c) < 0 := by simpa using hb
          simp only [Bool.not_eq_true', Bool.and_eq_false_imp, decide_eq_false_iff_not]
          intro hh
          have := t2 hh (by omega)
          omega
        · have hb' : cmpC x (fixC c) < 0 := by simpa using hb
          have q1 := t1 (by omega)
          simp only [decide_eq_true_eq]
          by_cases hz : cmpC (fixC c) (fixC st.lo) ≤ 0
          · have := t3 hz
            omega
          · omega
      rw [if_neg h2]
      by_cases h3 : op = 3
      · subst h3
        rw [if_pos rfl, withM3]
        refine isM_get (fun hb => ?_) (fun hb => ?_)
        · have hb' : ¬ cmpC x (fixC c) ≤ 0 := by simpa using hb
          simp only [Bool.not_eq_true', Bool.and_eq_false_imp, decide_eq_false_iff_not]
          intro hh hM
          have := t4 hh (by omega)
          omega
        · have hb' : cmpC x (fixC c) ≤ 0 := by simpa using hb
          have q1 := t1 (by omega)
          simp only [decide_eq_true_eq]
          omega
      rw [if_neg h3]
      by_cases h4 : op = 4
      · subst h4
        rw [if_pos rfl, withM4]
        exact isM_get (fun _ => rfl) (fun _ => rfl)
      · rw [if_neg h4, withM5 _ _ _ _ (by omega)]
        rfl
theorem leafM_cov {l : List Fd} {r : List Cl} {sts : List Stt} (hl : r.length = sts.length) (h : ∀ (j : Nat) (x : Cl) (st : Stt), r[j]? = some x → sts[j]? = some st → Cov st x) (op f : Nat) (c : Cl) : getB (mleafM l sts op f c) (leafM l r op f c) = true := by
  have hle := leafM_le l r op f c
  cases hp : place l f with
  | none =>
    unfold mleafM leafM
    rw [hp]
    rfl
  | some j =>
    by_cases hj : j < r.length
    · unfold mleafM leafM
      rw [hp]
      simp only
      rw [List.getElem?_eq_getElem hj, List.getElem?_eq_getElem (by omega)]
      exact leaf_cov (h j _ _ (List.getElem?_eq_getElem hj) (List.getElem?_eq_getElem (by omega))) op c
    · unfold mleafM leafM
      rw [hp]
      simp only
      rw [List.getElem?_eq_none (by omega), List.getElem?_eq_none (by omega)]
      rfl
theorem andM_cov {l : List Fd} {r : List Cl} {sts : List Stt} : ∀ {ks : List PT} {a : B3} {x : Nat}, (∀ k ∈ ks, getB (mayM l sts k) (evalM l r k) = true) → x ≤ 2 → getB a x = true → getB (mayAnd l sts ks a) (evalAnd l r ks x) = true
  | [], a, x, _, _, h => by simpa only [mayAnd, evalAnd] using h
  | k :: ks, a, x, hk, hx, h => by
    simp only [mayAnd, evalAnd]
    exact andM_cov (fun k' hk' => hk k' (by simp [hk'])) (by omega) (togA_get hx (evalM_le l r k) h (hk k (by simp)))
theorem orM_cov {l : List Fd} {r : List Cl} {sts : List Stt} : ∀ {ks : List PT} {a : B3} {x : Nat}, (∀ k ∈ ks, getB (mayM l sts k) (evalM l r k) = true) → x ≤ 2 → getB a x = true → getB (mayOr l sts ks a) (evalOr l r ks x) = true
  | [], a, x, _, _, h => by simpa only [mayOr, evalOr] using h
  | k :: ks, a, x, hk, hx, h => by
    simp only [mayOr, evalOr]
    exact orM_cov (fun k' hk' => hk k' (by simp [hk'])) (by have := evalM_le l r k; omega) (togO_get hx (evalM_le l r k) h (hk k (by simp)))
/-- What statistics leave holds the answer of each row that they cover. -/
theorem cover {l : List Fd} {r : List Cl} {sts : List Stt} (hl : r.length = sts.length) (h : ∀ (j : Nat) (x : Cl) (st : Stt), r[j]? = some x → sts[j]? = some st → Cov st x) : ∀ t, getB (mayM l sts t) (evalM l r t) = true := by
  refine PT.ind fun op f c ks ih => ?_
  simp only [mayM, evalM]
  by_cases h6 : op = 6
  · rw [if_pos h6, if_pos h6]
    exact andM_cov ih (by omega) rfl
  rw [if_neg h6, if_neg h6]
  by_cases h7 : op = 7
  · rw [if_pos h7, if_pos h7]
    exact orM_cov ih (by omega) rfl
  rw [if_neg h7, if_neg h7]
  by_cases h8 : op = 8
  · rw [if_pos h8, if_pos h8]
    cases ks with
    | nil => simp [mayNot, evalNot, getB]
    | cons k ks =>
      simp only [mayNot, evalNot]
      exact conM_get (evalM_le l r k) (ih k (by simp))
  rw [if_neg h8, if_neg h8]
  exact leafM_cov hl h op f c
end Go.Proofs.Ytfcnoeehfhncjaa
