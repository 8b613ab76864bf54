/- The steps of packing and unpacking, as numbers, without the program. -/
import Derived.Test.YtnlanilejhjkkaaPure4
set_option linter.unusedVariables false
namespace Go.Proofs.Ytnlanilejhjkkaa

theorem pow_at (t : Nat) : 2 ^ t = 2 ^ (t % 8) * 2 ^ (8 * (t / 8)) := by
  rw [← Nat.pow_add]
  congr 1
  omega

theorem byte_low {bs : List Nat} {t : Nat} (h : ∀ x ∈ bs, x < 256) (ht : pk 8 bs < 2 ^ t) (hj : t / 8 < bs.length) : bs[t / 8] < 2 ^ (t % 8) := by
  rw [pk_get (w := 8) h hj]
  refine Nat.lt_of_le_of_lt (Nat.mod_le _ _) ?_
  rw [Nat.div_lt_iff_lt_mul (Nat.two_pow_pos _), ← pow_at]
  exact ht

theorem pow_split {r : Nat} (h : r < 8) : 2 ^ r * 2 ^ (8 - r) = 256 := by
  rw [← Nat.pow_add, show r + (8 - r) = 8 by omega]

/-- The byte that a step of put lays. -/
theorem low_lt {x n r : Nat} (hr : r < 8) (hx : x < 2 ^ r) : x + n % 2 ^ (8 - r) * 2 ^ r < 256 := by
  have h1 := Nat.mod_lt n (Nat.two_pow_pos (8 - r))
  have h2 : (n % 2 ^ (8 - r) + 1) * 2 ^ r ≤ 2 ^ (8 - r) * 2 ^ r := Nat.mul_le_mul_right _ h1
  rw [Nat.mul_comm (2 ^ (8 - r)), pow_split hr, Nat.add_mul, Nat.one_mul] at h2
  omega

theorem set_pk {bs : List Nat} {t : Nat} (hj : t / 8 < bs.length) (c : Nat) : pk 8 (bs.set (t / 8) (bs[t / 8] + c * 2 ^ (t % 8))) = pk 8 bs + c * 2 ^ t := by
  have h := pk_set 8 (bs[t / 8] + c * 2 ^ (t % 8)) hj
  rw [Nat.add_mul, Nat.mul_assoc, ← pow_at] at h
  omega

theorem set_lt {bs : List Nat} {j c : Nat} (h : ∀ x ∈ bs, x < 256) (hc : c < 256) : ∀ x ∈ bs.set j c, x < 256 := by
  intro x hx
  rcases List.mem_or_eq_of_mem_set hx with hx | rfl
  · exact h x hx
  · exact hc

/-- What is left of a number behind a step of put. -/
theorem put_sum (V n t s : Nat) : V + n % 2 ^ s * 2 ^ t + n / 2 ^ s * 2 ^ (t + s) = V + n * 2 ^ t := by
  have h := Nat.mod_add_div n (2 ^ s)
  have h2 := congrArg (· * 2 ^ t) h
  simp only [Nat.add_mul] at h2
  rw [Nat.pow_add, Nat.mul_comm (2 ^ t), ← Nat.mul_assoc, Nat.mul_comm (n / 2 ^ s)]
  omega

theorem put_below {V n t s : Nat} (h : V < 2 ^ t) : V + n % 2 ^ s * 2 ^ t < 2 ^ (t + s) := by
  have h1 := Nat.mod_lt n (Nat.two_pow_pos s)
  have h2 : (n % 2 ^ s + 1) * 2 ^ t ≤ 2 ^ s * 2 ^ t := Nat.mul_le_mul_right _ h1
  rw [Nat.pow_add, Nat.mul_comm (2 ^ t)]
  rw [Nat.add_mul, Nat.one_mul] at h2
  omega

theorem put_rest {n w s : Nat} (h : n < 2 ^ w) : n / 2 ^ s < 2 ^ (w - s) := by
  rw [Nat.div_lt_iff_lt_mul (Nat.two_pow_pos _), ← Nat.pow_add]
  exact Nat.lt_of_lt_of_le h (Nat.pow_le_pow_right (by omega) (by omega))

/-- What a byte has from a bit on. -/
theorem byte_from {bs : List Nat} {t : Nat} (h : ∀ x ∈ bs, x < 256) (hj : t / 8 < bs.length) : bs[t / 8] / 2 ^ (t % 8) = pk 8 bs / 2 ^ t % 2 ^ (8 - t % 8) := by
  rw [pk_get (w := 8) h hj, show (2 : Nat) ^ 8 = 2 ^ (t % 8) * 2 ^ (8 - t % 8) from (pow_split (by omega)).symm, Nat.mod_mul_right_div_self, Nat.div_div_eq_div_mul,
    Nat.mul_comm (2 ^ (8 * (t / 8))), ← pow_at]

theorem byte_bit {bs : List Nat} {t : Nat} (h : ∀ x ∈ bs, x < 256) (hj : t / 8 < bs.length) : bs[t / 8] / 2 ^ (t % 8) % 2 = pk 8 bs / 2 ^ t % 2 := by
  rw [byte_from h hj, show 8 - t % 8 = (7 - t % 8) + 1 by omega, Nat.pow_succ, Nat.mul_comm, Nat.mod_mul_right_mod]

theorem take_sum (D t a s : Nat) : D / 2 ^ t % 2 ^ a + D / 2 ^ (t + a) % 2 ^ s * 2 ^ a = D / 2 ^ t % 2 ^ (a + s) := by
  rw [Nat.pow_add 2 a s, Nat.mod_mul, Nat.div_div_eq_div_mul, ← Nat.pow_add, Nat.mul_comm (2 ^ a)]

theorem bit_sum (D t m : Nat) : 2 * (D / 2 ^ (t + 1) % 2 ^ m) + D / 2 ^ t % 2 = D / 2 ^ t % 2 ^ (m + 1) := by
  rw [Nat.pow_succ 2 m, Nat.mul_comm (2 ^ m) 2, Nat.mod_mul, Nat.div_div_eq_div_mul, ← Nat.pow_succ]
  exact Nat.add_comm _ _

/-- Which bits are behind: those of the last byte alone. -/
theorem clear_zero {bs : List Nat} {c : Nat} (h : ∀ x ∈ bs, x < 256) (hl : bs.length = by8 c) (h0 : c % 8 = 0) : pk 8 bs < 2 ^ c := by
  have := pk_lt (w := 8) h
  rw [hl] at this
  rwa [show 8 * by8 c = c by unfold by8; omega] at this

theorem clear_last {bs : List Nat} {c : Nat} (h : ∀ x ∈ bs, x < 256) (hl : bs.length = by8 c) (h0 : c % 8 ≠ 0) (hj : bs.length - 1 < bs.length) :
    bs[bs.length - 1] / 2 ^ (c % 8) = 0 ↔ pk 8 bs < 2 ^ c := by
  have hlt := pk_lt (w := 8) h
  have e : bs.length - 1 = c / 8 := by rw [hl]; unfold by8; omega
  have hc : c / 8 < bs.length := by omega
  have e2 : bs[bs.length - 1] = bs[c / 8] := by simp only [e]
  rw [e2, byte_from h hc, Nat.mod_eq_of_lt]
  · rw [Nat.div_eq_zero_iff]
    have := Nat.two_pow_pos c
    omega
  · rw [Nat.div_lt_iff_lt_mul (Nat.two_pow_pos _), ← Nat.pow_add, show 8 - c % 8 + c = 8 * bs.length by rw [hl]; unfold by8; omega]
    exact hlt

/-- A bit that is 1 behind the last one, or none. -/
theorem tail_step {D c t : Nat} (h : D % 2 ^ t = D % 2 ^ c) (hb : D / 2 ^ t % 2 = 0) : D % 2 ^ (t + 1) = D % 2 ^ c := by
  rw [Nat.mod_pow_succ, hb, Nat.mul_zero, Nat.add_zero, h]

theorem tail_bad {D c t : Nat} (hc : c ≤ t) (hb : D / 2 ^ t % 2 = 1) : ¬ D < 2 ^ c := by
  intro h
  have h1 : D < 2 ^ t := Nat.lt_of_lt_of_le h (Nat.pow_le_pow_right (by omega) hc)
  rw [Nat.div_eq_of_lt h1] at hb
  omega

theorem tail_end {bs : List Nat} {c t : Nat} (hl : ∀ x ∈ bs, x < 256) (h : pk 8 bs % 2 ^ t = pk 8 bs % 2 ^ c) (ht : 8 * bs.length ≤ t) : pk 8 bs < 2 ^ c := by
  have h1 := pk_lt (w := 8) hl
  have h2 : pk 8 bs < 2 ^ t := Nat.lt_of_lt_of_le h1 (Nat.pow_le_pow_right (by omega) ht)
  rw [Nat.mod_eq_of_lt h2] at h
  rw [h]
  exact Nat.mod_lt _ (Nat.two_pow_pos c)

theorem by8_step0 {t : Nat} (h : t % 8 = 0) : by8 (t + 1) = by8 t + 1 ∧ t / 8 = by8 t := by unfold by8; omega
theorem by8_step1 {t : Nat} (h : t % 8 ≠ 0) : by8 (t + 1) = by8 t ∧ t / 8 < by8 t := by unfold by8; omega

theorem mod_succ_bit (x k : Nat) : x % 2 ^ (k + 1) = x % 2 ^ k + 2 ^ k * (x / 2 ^ k % 2) := Nat.mod_pow_succ

/-- A row that is filled from its start on. -/
def fill (l : List Nat) (i : Nat) : List Nat := l.take i ++ List.replicate (l.length - i) 0

theorem fill_zero (l : List Nat) : fill l 0 = List.replicate l.length 0 := by simp [fill]
theorem fill_all (l : List Nat) : fill l l.length = l := by simp [fill]
theorem fill_length {l : List Nat} {i : Nat} (h : i ≤ l.length) : (fill l i).length = l.length := by simp [fill]; omega
theorem fill_set {l : List Nat} {i : Nat} (h : i < l.length) : (fill l i).set i l[i] = fill l (i + 1) := by
  unfold fill
  rw [List.set_append_right _ _ (by simp; omega), List.length_take, Nat.min_eq_left (by omega), Nat.sub_self, show l.length - i = (l.length - (i + 1)) + 1 by omega,
    List.replicate_succ, List.set_cons_zero, List.take_succ_eq_append_getElem h, List.append_assoc]
  rfl

/-- What a row of digits is, whoever reckoned it. -/
theorem packed_is {l bs : List Nat} {w : Nat} (hc : can l w = true) (hb : ∀ x ∈ bs, x < 256) (hl : bs.length = by8 (l.length * w)) (h : pk 8 bs = pk w l) : bs = packR l w := by
  unfold packR
  rw [if_pos hc, Int.toNat_natCast, ← h, ← hl]
  exact (dig_pk hb).symm
end Go.Proofs.Ytnlanilejhjkkaa
