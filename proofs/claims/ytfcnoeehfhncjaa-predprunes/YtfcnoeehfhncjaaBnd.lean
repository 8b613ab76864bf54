/- The least and the greatest value; no program. -/
import Derived.Test.YtfcnoeehfhncjaaCov
import Derived.Test.YtfcnoeehfhncjaaPs2
set_option linter.unusedVariables false
set_option linter.unusedSimpArgs false
namespace Go.Proofs.Ytfcnoeehfhncjaa
open Go.RowKit Go.Lib

theorem cmpC_self (a : Cl) : cmpC a a = 0 := (cv_zero _ _ _ _ _ _).2 ⟨rfl, rfl, rfl⟩
theorem minC_le : ∀ (cs : List Cl) (m : Cl), cmpC (minC m cs) m ≤ 0 ∧ ∀ x ∈ cs, cmpC (minC m cs) x ≤ 0
  | [], m => ⟨by unfold minC; rw [cmpC_self]; omega, fun x hx => by simp at hx⟩
  | y :: r, m => by
    unfold minC
    obtain ⟨h1, h2⟩ := minC_le r (if cmpC y m < 0 then y else m)
    by_cases h : cmpC y m < 0
    · rw [if_pos h] at h1 h2 ⊢
      refine ⟨cmpC_trans h1 (by omega), fun x hx => ?_⟩
      rcases List.mem_cons.1 hx with rfl | hx
      · exact h1
      · exact h2 x hx
    · rw [if_neg h] at h1 h2 ⊢
      have hs := cmpC_swap y m
      refine ⟨h1, fun x hx => ?_⟩
      rcases List.mem_cons.1 hx with rfl | hx
      · exact cmpC_trans h1 (by omega)
      · exact h2 x hx
theorem maxC_ge : ∀ (cs : List Cl) (m : Cl), cmpC m (maxC m cs) ≤ 0 ∧ ∀ x ∈ cs, cmpC x (maxC m cs) ≤ 0
  | [], m => ⟨by unfold maxC; rw [cmpC_self]; omega, fun x hx => by simp at hx⟩
  | y :: r, m => by
    unfold maxC
    obtain ⟨h1, h2⟩ := maxC_ge r (if 0 < cmpC y m then y else m)
    have hs := cmpC_swap y m
    by_cases h : 0 < cmpC y m
    · rw [if_pos h] at h1 h2 ⊢
      refine ⟨cmpC_trans (by omega) h1, fun x hx => ?_⟩
      rcases List.mem_cons.1 hx with rfl | hx
      · exact h1
      · exact h2 x hx
    · rw [if_neg h] at h1 h2 ⊢
      refine ⟨h1, fun x hx => ?_⟩
      rcases List.mem_cons.1 hx with rfl | hx
      · exact cmpC_trans (by omega) h1
      · exact h2 x hx
theorem cS_le {a b : ByteArray} (h : Op.bytesLess b.toList a.toList = false) : cS a b ≤ 0 := by
  rcases cS_ways a b with ⟨h1, _⟩ | ⟨h1, _⟩ | ⟨h1, _, h3, _⟩
  · omega
  · omega
  · rw [h] at h3
    cases h3
end Go.Proofs.Ytfcnoeehfhncjaa
