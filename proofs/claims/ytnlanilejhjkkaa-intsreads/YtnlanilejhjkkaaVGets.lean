/- Contracts: Get over any bytes, GetInt. -/
import Derived.Test.YtnlanilejhjkkaaVGet
set_option linter.unusedVariables false
set_option linter.unusedSimpArgs false
namespace Go.Proofs.Ytnlanilejhjkkaa
open Go.RowKit Go.Lib

theorem get_any {w : World} {v : Value} {l : List UInt8} (h : Sl w v l) : Calls Try.prog 68 #[v] w fun e w' => e = tell .u64 ((getL l).1 : Int) (getL l).2.1 (getL l).2.2 ∧ w' = w := by
  obtain ⟨a, cap, rfl, h1, h2, h3⟩ := h
  cases l with
  | nil => exact get_empty a cap w
  | cons x r =>
    obtain ⟨b, off, rfl, _, h5⟩ := h3 (by simp)
    exact get_full b off cap (x :: r) w (by omega) h1 h5

/-- The lead of bytes that aren't refused by the tenth one. -/
theorem lead_nine {l : List UInt8} (h : ¬ (9 ≤ lead l ∧ 9 < l.length ∧ 1 < (l.getD 9 0).toNat)) (hl : lead l < l.length) : lead l ≤ 9 ∧ (lead l = 9 → l[lead l].toNat ≤ 1) := by
  have h9 : lead l ≤ 9 := by
    rcases Nat.lt_or_ge 9 (lead l) with h1 | h1
    · exfalso
      apply h
      refine ⟨by omega, by omega, ?_⟩
      rw [getD_at (by omega)]
      have := lead_big l 9 (by omega) h1
      omega
    · exact h1
  refine ⟨h9, fun e => ?_⟩
  have h3 : ¬ 1 < (l.getD 9 0).toNat := fun h2 => h ⟨by omega, by omega, h2⟩
  rw [getD_at (by omega)] at h3
  simp only [e]
  omega

theorem getL_form (l : List UInt8) : (getL l).1 < 18446744073709551616 ∧ (getL l).2.1 ≤ l.length ∧ (getL l).2.1 ≤ 10 ∧ ((getL l).2.2 = 0 ∨ (((getL l).2.2 = 30 ∨ (getL l).2.2 = 31) ∧ (getL l).1 = 0 ∧ (getL l).2.1 = 0)) := by
  have hle := lead_le l
  unfold getL
  split
  · simp
  · rename_i h1
    split
    · simp
    · rename_i h2
      have hl : lead l < l.length := by omega
      obtain ⟨h9, ht⟩ := lead_nine h1 hl
      split
      · simp
      · refine ⟨val64 h9 hl ht, ?_, ?_, Or.inl rfl⟩ <;> simp only <;> omega

theorem err_code {e : Nat} (h : e = 0 ∨ e = 30 ∨ e = 31) (h0 : ¬ e = 0) : ((e : Int) != 0) = true := by simp; omega

set_option maxRecDepth 100000 in
theorem getInt_any {w : World} {v : Value} {l : List UInt8} (h : Sl w v l) : Calls Try.prog 67 #[v] w fun e w' => e = tell .i64 (unzig (getL l).1) (getL l).2.1 (getL l).2.2 ∧ w' = w := by
  have HG := hidden (get_any h)
  obtain ⟨f1, f2, f3, f4⟩ := getL_form l
  clear h
  generalize getL l = x at *
  obtain ⟨n, u, c⟩ := x
  simp only at *
  unfold tell at *
  clear f2
  go_enter Try.func67, Try.ntmps67
  go_wp2_with fail
  refine HG.out.mono ?_
  rintro e w1 ⟨rfl, rfl⟩
  by_cases h0 : c = 0
  · subst h0
    clear f4
    have HU : Hid (∀ m : Int, m = unzig n → m = unzig n) := fun m h => h
    have ha := u64_and1 (n : Int) (by omega) (by omega)
    by_cases hp : n % 2 = 0
    · have hb : ((n : Int) % 2 == 1) = false := by simp; omega
      go_wp2_with fail
      go_ret3
      unfold unzig
      rw [if_pos hp]
      exact ⟨rfl, rfl⟩
    · have hb : ((n : Int) % 2 == 1) = true := by simp; omega
      have hx := i64_xor ((n : Int) / 2) (by omega) (by omega)
      go_wp2_with fail
      go_ret3
      unfold unzig
      rw [if_neg hp]
      exact ⟨rfl, rfl⟩
  · have hne : ((c : Int) != 0) = true := err_code (by omega) h0
    obtain ⟨rfl, rfl⟩ : n = 0 ∧ u = 0 := by omega
    go_wp2_with fail
    go_ret3
    exact ⟨rfl, rfl⟩
end Go.Proofs.Ytnlanilejhjkkaa
