/- Contracts: Get over any bytes, GetInt. -/
import Derived.Test.YtkkeeefhleekdabGet
set_option linter.unusedVariables false
set_option linter.unusedSimpArgs false
namespace Go.Proofs.Ytkkeeefhleekdab
open Go.RowKit Go.Lib

theorem get_any {w : World} {v : Value} {l : List UInt8} (h : Sl w v l) : Calls Try.prog 6 #[v] w fun e w' => e = tell .u64 ((getL l).1 : Int) (getL l).2.1 (getL l).2.2 ∧ w' = w := by
  obtain ⟨a, cap, rfl, h1, h2, h3⟩ := h
  cases l with
  | nil => exact get_empty a cap w
  | cons x r =>
    obtain ⟨b, off, rfl, _, h5⟩ := h3 (by simp)
    exact get_full b off cap (x :: r) w (by omega) h1 h5

/-- The lead of bytes that aren't refused by the tenth one. -/
theorem lead_nine {l : List UInt8} (h : ¬ (9 ≤ lead l ∧ 9 < l.length ∧ 1 < (l.getD 9 0).toNat)) (hl : lead l < l.length) : lead l ≤ 9 ∧ (lead l = 9 → l[lead l].toNat ≤ 1) := by
  have h9 : lead l ≤ 9 := by
    rcases Nat.lt_or_ge 9 (lead l) with h1 | h1
    · exfalso
      apply h
      refine ⟨by omega, by omega, ?_⟩
      rw [getD_at (by omega)]
      have := lead_big l 9 (by omega) h1
      omega
    · exact h1
  refine ⟨h9, fun e => ?_⟩
  have h3 : ¬ 1 < (l.getD 9 0).toNat := fun h2 => h ⟨by omega, by omega, h2⟩
  rw [getD_at (by omega)] at h3
  simp only [e]
  omega

theorem getL_form (l : List UInt8) : (getL l).1 < 18446744073709551616 ∧ (getL l).2.1 ≤ l.length ∧ (getL l).2.1 ≤ 10 ∧ ((getL l).2.2 = 0 ∨ (((getL l).2.2 = 30 ∨ (getL l).2.2 = 31) ∧ (getL l).1 = 0 ∧ (getL l).2.1 = 0)) := by
  have hle := lead_le l
  unfold getL
  split
  · simp
  · rename_i h1
    split
    · simp
    · rename_i h2
      have hl : lead l < l.length := by omega
      obtain ⟨h9, ht⟩ := lead_nine h1 hl
      split
      · simp
      · refine ⟨val64 h9 hl ht, ?_, ?_, Or.inl rfl⟩ <;> simp only <;> omega

def unzig (u : Nat) : Int := if u % 2 = 0 then ((u / 2 : Nat) : Int) else -((u / 2 : Nat) : Int) - 1

theorem unzig_zig (z : Int) : unzig (zigzag z) = z := by
  unfold unzig zigzag
  split <;> split <;> omega

theorem err_code {e : Nat} (h : e = 0 ∨ e = 30 ∨ e = 31) (h0 : ¬ e = 0) : ((e : Int) != 0) = true := by simp; omega
end Go.Proofs.Ytkkeeefhleekdab
