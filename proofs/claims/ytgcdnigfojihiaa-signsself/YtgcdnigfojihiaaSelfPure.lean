/- Patterns without % and _, and such of _ alone. No program here. -/
import Derived.Test.YtgcdnigfojihiaaAlive
set_option linter.unusedVariables false
set_option linter.unusedSimpArgs false
namespace Go.Proofs.Ytgcdnigfojihiaa

def wld (rs : List Nat) : Bool := rs.any fun r => r == 37 || r == 95

theorem lk_plain : ∀ (P T : List Nat), wld P = false → lk P T = decide (P = T) := by
  intro P
  induction P with
  | nil => intro T _; cases T <;> simp [lk]
  | cons c P ih =>
    intro T h
    simp only [wld, List.any_cons, Bool.or_eq_false_iff] at h
    obtain ⟨⟨h1, h2⟩, h3⟩ := h
    have hc : c ≠ 37 := by simpa using h1
    cases T with
    | nil => rw [lk_short hc]; simp
    | cons x T =>
      rw [lk_one hc, ih T h3, fit, h2]
      by_cases hx : c = x
      · subst hx; simp
      · simp [hx]

theorem lk_bars : ∀ (n : Nat) (T : List Nat), lk (List.replicate n 95) T = decide (T.length = n) := by
  intro n
  induction n with
  | zero => intro T; cases T <;> simp [lk]
  | succ n ih =>
    intro T
    rw [List.replicate_succ]
    cases T with
    | nil => rw [lk_short (by decide)]; simp
    | cons x T => rw [lk_one (by decide), ih]; simp [fit]

theorem flat_bars (n : Nat) : flat (List.replicate n 95) = List.replicate n 95 := by
  induction n with
  | zero => rfl
  | succ n ih =>
    rw [List.replicate_succ, flat_cons, ih, List.replicate_succ]
    have : encL 95 = [95] := by decide
    rw [this]
    rfl

theorem runes_bars (n : Nat) : runes (List.replicate n 95) = List.replicate n 95 := by
  rw [← flat_bars]
  exact runes_flat _ (fun r hr => by
    have := (List.mem_replicate.1 hr).2
    subst this
    simp [vr])

theorem lk_percent (T : List Nat) : lk [37] T = true := (lk_any _ _).2 ⟨T.length, by omega, by simp [lk]⟩

theorem runes_percent : runes [37] = [37] := by decide +kernel

theorem clean_inj {a b : List UInt8} (ha : clean a = true) (hb : clean b = true) : decide (runes a = runes b) = (a == b) := by
  by_cases h : a = b
  · subst h; simp
  · have : runes a ≠ runes b := fun h2 => h (by rw [clean_eq ha, clean_eq hb, h2])
    simp [h, this]

def BS (k : Nat) : ByteArray := ⟨(List.replicate k 95).toArray⟩
theorem lb_BS (k : Nat) : lb (BS k) = List.replicate k 95 := by simp [lb, BS]
theorem BS_size (k : Nat) : (BS k).size = k := by rw [← lb_size, lb_BS]; simp
theorem BS_succ (k : Nat) : BS k ++ ({ data := #[95] } : ByteArray) = BS (k + 1) := lb_inj (by rw [lb_append, lb_BS, lb_BS, List.replicate_succ']; rfl)
theorem BS_zero : BS 0 = { data := #[] } := rfl

theorem wld_snoc (l : List Nat) (r : Nat) : wld (l ++ [r]) = (wld l || r == 37 || r == 95) := by simp [wld, Bool.or_assoc]
end Go.Proofs.Ytgcdnigfojihiaa
