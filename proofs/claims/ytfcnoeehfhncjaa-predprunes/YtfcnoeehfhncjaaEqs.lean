/- The two Stats tell the same, of values of one kind; no program. -/
import Derived.Test.YtfcnoeehfhncjaaRs
import Derived.Test.YtfcnoeehfhncjaaCo
set_option linter.unusedVariables false
set_option linter.unusedSimpArgs false
namespace Go.Proofs.Ytfcnoeehfhncjaa
open Go.RowKit Go.Lib

theorem minC_in : ∀ (r : List Cl) (m : Cl), minC m r ∈ m :: r
  | [], m => by simp [minC]
  | x :: r, m => by
    unfold minC
    have := minC_in r (if cmpC x m < 0 then x else m)
    rcases List.mem_cons.1 this with h | h
    · rw [h]
      split
      · simp
      · simp
    · simp [h]
theorem maxC_in : ∀ (r : List Cl) (m : Cl), maxC m r ∈ m :: r
  | [], m => by simp [maxC]
  | x :: r, m => by
    unfold maxC
    have := maxC_in r (if 0 < cmpC x m then x else m)
    rcases List.mem_cons.1 this with h | h
    · rw [h]
      split
      · simp
      · simp
    · simp [h]
theorem stats_same {cs : List Cl} {k : Nat} (hf : ∀ c ∈ cs, Fine c) (hk : ∀ c ∈ cs, c.1 = k ∨ c = nul) : refStatM cs = statM cs := by
  have hfn : ∀ c ∈ nonN cs, Fine c ∧ c.1 = k := fun c hc => by
    unfold nonN at hc
    obtain ⟨h1, h2⟩ := List.mem_filter.1 hc
    refine ⟨hf c h1, ?_⟩
    rcases hk c h1 with h | h
    · exact h
    · rw [h] at h2
      simp [nul] at h2
  unfold refStatM statM
  cases hn : nonN cs with
  | nil => simp [soM]
  | cons x r =>
    rw [hn] at hfn
    have hmi := hfn _ (minC_in r x)
    have hma := hfn _ (maxC_in r x)
    rw [if_neg (by simp [soM])]
    show (if (minC x r).1 = 3 then _ else _) = _
    rw [hmi.2]
    have e1 : (leM (x :: r)) = minC x r := rfl
    have e2 : (moM (x :: r)) = maxC x r := rfl
    rw [e1, e2]
    show _ = (⟨cs.length, (cs.length : Int) - ((x :: r).length : Nat), true, (highM (maxC x r) ((x :: r).all cleanC)).2, lowM (minC x r) ((x :: r).all cleanC), (highM (maxC x r) ((x :: r).all cleanC)).1⟩ : Stt)
    by_cases h3 : k = 3
    · rw [if_pos h3]
      have hck : ckM (x :: r) = (x :: r).all cleanC := by
        unfold ckM
        rw [Bool.eq_iff_iff, List.all_eq_true, List.all_eq_true]
        constructor
        · intro h c hc
          have := h c hc
          have h4 := (hfn c hc).2
          rw [h4, h3] at this
          simpa using this
        · intro h c hc
          rw [h c hc]
          simp
      rw [hck]
      subst h3
      have hmz : (minC x r).2.1 = 0 ∧ (maxC x r).2.1 = 0 := by
        constructor
        · rcases hmi.1 with h | ⟨n, h, _⟩ | ⟨n, h, _⟩ | ⟨s, h, _⟩
          · rw [h]; rfl
          · have := hmi.2; rw [h] at this; simp at this
          · have := hmi.2; rw [h] at this; simp at this
          · rw [h]
        · rcases hma.1 with h | ⟨n, h, _⟩ | ⟨n, h, _⟩ | ⟨s, h, _⟩
          · rw [h]; rfl
          · have := hma.2; rw [h] at this; simp at this
          · have := hma.2; rw [h] at this; simp at this
          · rw [h]
      have el : ∀ cl, lowM (minC x r) cl = if cl = false then (3, 0, []) else (3, 0, nb (firstL (lb (bytesT (minC x r).2.2)) 4)) := fun cl => by
        unfold lowM
        rw [hmi.2, hmz.1]
        cases cl
        · rw [if_pos ⟨rfl, rfl⟩, if_pos rfl]
        · rw [if_neg (by simp), if_neg (by simp)]
      have eh : ∀ cl, highM (maxC x r) cl = match aboveL (lb (bytesT (maxC x r).2.2)) 4 with
        | none => (nul, false)
        | some a => if cl = true then ((3, 0, nb a), true) else (nul, false) := fun cl => by
        unfold highM
        rw [if_pos hma.2]
        cases aboveL (lb (bytesT (maxC x r).2.2)) 4 <;> rfl
      rw [el, eh, hmi.2, hma.2, hmz.1, hmz.2, ← above_eq]
      cases hc : (x :: r).all cleanC
      · rw [if_pos rfl, if_pos rfl]
        cases aboveL (lb (bytesT (maxC x r).2.2)) 4 <;> rfl
      · rw [if_neg (by simp), if_neg (by simp)]
        cases aboveL (lb (bytesT (maxC x r).2.2)) 4 <;> rfl
    · rw [if_neg h3]
      have ht : (minC x r).2.2 = [] := by
        rcases hmi.1 with h | ⟨n, h, _⟩ | ⟨n, h, _⟩ | ⟨s, h, _⟩
        · rw [h]; rfl
        · rw [h]
        · rw [h]
        · have := hmi.2; rw [h] at this; exact absurd this.symm h3
      have el : ∀ cl, lowM (minC x r) cl = minC x r := fun cl => by
        unfold lowM
        rw [if_neg (fun h => h3 (hmi.2.symm.trans h.1)), ht]
        have h0 : lb (bytesT ([] : List Nat)) = [] := rfl
        rw [h0]
        have h1 : nb (firstL [] 4) = [] := by simp [firstL, nb]
        rw [h1, ← ht]
      have eh : ∀ cl, highM (maxC x r) cl = (maxC x r, true) := fun cl => by
        unfold highM
        rw [if_neg (fun h => h3 (hma.2.symm.trans h))]
      rw [el, eh]
end Go.Proofs.Ytfcnoeehfhncjaa
