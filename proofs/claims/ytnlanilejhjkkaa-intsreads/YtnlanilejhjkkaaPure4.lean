/- The mathematics of packed numbers, without the program: lists of digits, the number that they make, how wide numbers are. -/
set_option linter.unusedVariables false
namespace Go.Proofs.Ytnlanilejhjkkaa

/-- The number whose digits of w bits are l, the lowest one first. -/
def pk (w : Nat) : List Nat → Nat
  | [] => 0
  | n :: t => n + 2 ^ w * pk w t

/-- The n lowest digits of w bits of a number. -/
def dig (w : Nat) : Nat → Nat → List Nat
  | 0, _ => []
  | n + 1, N => N % 2 ^ w :: dig w n (N / 2 ^ w)

theorem dig_length (w : Nat) : ∀ n N, (dig w n N).length = n
  | 0, _ => rfl
  | n + 1, N => by simp [dig, dig_length w n]

theorem pow_succ_mul (w n : Nat) : 2 ^ (w * (n + 1)) = 2 ^ w * 2 ^ (w * n) := by
  rw [Nat.mul_add, Nat.mul_one, Nat.add_comm, Nat.pow_add]

theorem pk_dig (w : Nat) : ∀ n N, pk w (dig w n N) = N % 2 ^ (w * n)
  | 0, N => by simp [dig, pk, Nat.mod_one]
  | n + 1, N => by
    show N % 2 ^ w + 2 ^ w * pk w (dig w n (N / 2 ^ w)) = _
    rw [pk_dig w n, pow_succ_mul, Nat.mod_mul]

theorem dig_pk {w : Nat} : ∀ {l : List Nat}, (∀ x ∈ l, x < 2 ^ w) → dig w l.length (pk w l) = l
  | [], _ => rfl
  | n :: t, h => by
    have hn := h n (by simp)
    show (n + 2 ^ w * pk w t) % 2 ^ w :: dig w t.length ((n + 2 ^ w * pk w t) / 2 ^ w) = _
    rw [Nat.add_mul_mod_self_left, Nat.mod_eq_of_lt hn, Nat.add_mul_div_left _ _ (Nat.two_pow_pos w), Nat.div_eq_of_lt hn, Nat.zero_add,
      dig_pk (fun x hx => h x (by simp [hx]))]

theorem pk_lt {w : Nat} : ∀ {l : List Nat}, (∀ x ∈ l, x < 2 ^ w) → pk w l < 2 ^ (w * l.length)
  | [], _ => by simp [pk]
  | n :: t, h => by
    have hn := h n (by simp)
    have ht := pk_lt (w := w) (l := t) (fun x hx => h x (by simp [hx]))
    show n + 2 ^ w * pk w t < 2 ^ (w * (t.length + 1))
    rw [pow_succ_mul]
    have : 2 ^ w * (pk w t + 1) ≤ 2 ^ w * 2 ^ (w * t.length) := Nat.mul_le_mul_left _ ht
    rw [Nat.mul_add, Nat.mul_one] at this
    omega

theorem dig_get (w : Nat) : ∀ n N i, i < n → (dig w n N)[i]? = some (N / 2 ^ (w * i) % 2 ^ w)
  | n + 1, N, 0, _ => by simp [dig]
  | n + 1, N, i + 1, h => by
    show (dig w n (N / 2 ^ w))[i]? = _
    rw [dig_get w n _ i (by omega), Nat.div_div_eq_div_mul, pow_succ_mul]

theorem dig_lt {w x : Nat} : ∀ {n N}, x ∈ dig w n N → x < 2 ^ w
  | n + 1, N, h => by
    simp only [dig, List.mem_cons] at h
    rcases h with rfl | h
    · exact Nat.mod_lt _ (Nat.two_pow_pos w)
    · exact dig_lt h

theorem pk_append (w : Nat) : ∀ (a b : List Nat), pk w (a ++ b) = pk w a + 2 ^ (w * a.length) * pk w b
  | [], b => by simp [pk]
  | n :: t, b => by
    show n + 2 ^ w * pk w (t ++ b) = n + 2 ^ w * pk w t + 2 ^ (w * (t.length + 1)) * pk w b
    rw [pk_append w t, pow_succ_mul, Nat.mul_add, Nat.mul_assoc, Nat.add_assoc]

theorem pk_take_succ (w : Nat) {l : List Nat} {i : Nat} (h : i < l.length) : pk w (l.take (i + 1)) = pk w (l.take i) + l[i] * 2 ^ (w * i) := by
  rw [List.take_succ_eq_append_getElem h, pk_append, List.length_take, Nat.min_eq_left (by omega)]
  simp [pk, Nat.mul_comm]

theorem pk_set (w : Nat) : ∀ {l : List Nat} {i : Nat} (c : Nat) (h : i < l.length), pk w (l.set i c) + l[i] * 2 ^ (w * i) = pk w l + c * 2 ^ (w * i)
  | n :: t, 0, c, _ => by simp [pk]; omega
  | n :: t, i + 1, c, h => by
    have hi : i < t.length := by simpa using h
    show n + 2 ^ w * pk w (t.set i c) + t[i] * 2 ^ (w * (i + 1)) = n + 2 ^ w * pk w t + c * 2 ^ (w * (i + 1))
    have := congrArg (2 ^ w * ·) (pk_set w (l := t) (i := i) c hi)
    simp only [Nat.mul_add] at this
    rw [pow_succ_mul, ← Nat.mul_assoc, ← Nat.mul_assoc, Nat.mul_comm t[i], Nat.mul_comm c, Nat.mul_assoc, Nat.mul_assoc]
    omega

theorem pk_get {w : Nat} {l : List Nat} (h : ∀ x ∈ l, x < 2 ^ w) {i : Nat} (hi : i < l.length) : l[i] = pk w l / 2 ^ (w * i) % 2 ^ w := by
  have h1 := dig_get w l.length (pk w l) i hi
  rw [dig_pk h, List.getElem?_eq_getElem hi] at h1
  exact Option.some.inj h1

theorem pk_inj {w : Nat} {a b : List Nat} (ha : ∀ x ∈ a, x < 2 ^ w) (hb : ∀ x ∈ b, x < 2 ^ w) (hl : a.length = b.length) (h : pk w a = pk w b) : a = b := by
  rw [← dig_pk ha, ← dig_pk hb, hl, h]

theorem pk_zeros (w : Nat) : ∀ n, pk w (List.replicate n 0) = 0
  | 0 => rfl
  | n + 1 => by
    show 0 + 2 ^ w * pk w (List.replicate n 0) = 0
    rw [pk_zeros w n]; simp

theorem pk_snoc0 (w : Nat) (l : List Nat) : pk w (l ++ [0]) = pk w l := by rw [pk_append]; simp [pk]

/-- How many bits a number has. -/
def blen (n : Nat) : Nat := if n = 0 then 0 else n.log2 + 1

theorem blen_le {n w : Nat} : blen n ≤ w ↔ n < 2 ^ w := by
  unfold blen
  split
  · next h => subst h; simp [Nat.two_pow_pos]
  · next h => rw [Nat.add_one_le_iff, Nat.log2_lt h]

theorem blen_half {n : Nat} (h : n ≠ 0) : blen n = blen (n / 2) + 1 := by
  have e : ∀ k, blen (n / 2) ≤ k ↔ blen n ≤ k + 1 := fun k => by
    rw [blen_le, blen_le, Nat.pow_succ, Nat.div_lt_iff_lt_mul (by omega)]
  have h1 := (e (blen (n / 2))).1 (Nat.le_refl _)
  have hp : 0 < blen n := by unfold blen; rw [if_neg h]; omega
  have h2 := (e (blen n - 1)).2 (by omega)
  omega

theorem blen_or (a b : Nat) : blen (a ||| b) = max (blen a) (blen b) := by
  have e : ∀ k, blen (a ||| b) ≤ k ↔ blen a ≤ k ∧ blen b ≤ k := fun k => by
    rw [blen_le, blen_le, blen_le]
    constructor
    · intro h
      exact ⟨Nat.lt_of_le_of_lt Nat.left_le_or h, Nat.lt_of_le_of_lt Nat.right_le_or h⟩
    · intro h
      exact Nat.or_lt_two_pow h.1 h.2
  have h1 := (e _).1 (Nat.le_refl _)
  have h2 := (e (max (blen a) (blen b))).2 ⟨by omega, by omega⟩
  omega

/-- All numbers laid over each other. -/
def orAll (l : List Nat) : Nat := l.foldl (· ||| ·) 0

theorem orAll_take_succ {l : List Nat} {i : Nat} (h : i < l.length) : orAll (l.take (i + 1)) = orAll (l.take i) ||| l[i] := by
  unfold orAll
  rw [List.take_succ_eq_append_getElem h, List.foldl_append]
  rfl

/-- The least width in which each number fits. -/
def wd (l : List Nat) : Nat := blen (orAll l)

theorem wd_take_succ {l : List Nat} {i : Nat} (h : i < l.length) : wd (l.take (i + 1)) = max (wd (l.take i)) (blen l[i]) := by
  unfold wd
  rw [orAll_take_succ h, blen_or]

theorem wd_nil : wd [] = 0 := by decide

theorem wd_take_le {l : List Nat} {w : Nat} : ∀ i, i ≤ l.length → (wd (l.take i) ≤ w ↔ ∀ x ∈ l.take i, x < 2 ^ w)
  | 0, _ => by simp [wd_nil]
  | i + 1, h => by
    rw [wd_take_succ (by omega), List.take_succ_eq_append_getElem (by omega)]
    simp only [List.mem_append, List.mem_singleton]
    have ih := wd_take_le (l := l) (w := w) i (by omega)
    constructor
    · intro h1 x hx
      rcases hx with hx | rfl
      · exact ih.1 (by omega) x hx
      · exact blen_le.1 (by omega)
    · intro h1
      have h2 := ih.2 (fun x hx => h1 x (Or.inl hx))
      have h3 := blen_le.2 (h1 _ (Or.inr rfl))
      omega

theorem wd_le {l : List Nat} {w : Nat} : wd l ≤ w ↔ ∀ x ∈ l, x < 2 ^ w := by
  have := wd_take_le (l := l) (w := w) l.length (Nat.le_refl _)
  rwa [List.take_length] at this

theorem wd64 {l : List Nat} (h : ∀ x ∈ l, x < 18446744073709551616) : wd l ≤ 64 := wd_le.2 h

theorem or64 {l : List Nat} (h : ∀ x ∈ l, x < 18446744073709551616) (i : Nat) : orAll (l.take i) < 18446744073709551616 := by
  have h1 : wd (l.take i) ≤ 64 := wd64 (fun x hx => h x (List.mem_of_mem_take hx))
  exact blen_le.1 h1

/-- How many bytes hold the bits. -/
def by8 (c : Nat) : Nat := (c + 7) / 8

/-- May the numbers be packed with the width? -/
def can (l : List Nat) (w : Int) : Bool := decide (0 ≤ w ∧ w ≤ 64 ∧ l.length ≤ 256 ∧ wd l ≤ w.toNat)

/-- The numbers packed; none, if they can't be. -/
def packR (l : List Nat) (w : Int) : List Nat := if can l w then dig 8 (by8 (l.length * w.toNat)) (pk w.toNat l) else []

/-- The error of what is unpacked. -/
def unE (b : List Nat) (n w : Int) : Nat :=
  if 0 ≤ n ∧ n ≤ 256 ∧ 0 ≤ w ∧ w ≤ 64 then (if b.length = by8 (n.toNat * w.toNat) ∧ pk 8 b < 2 ^ (n.toNat * w.toNat) then 0 else 40) else 1

/-- The numbers unpacked. -/
def unR (b : List Nat) (n w : Int) : List Nat := if unE b n w = 0 then dig w.toNat n.toNat (pk 8 b) else []

theorem unR_lt {b : List Nat} {n w : Int} : ∀ x ∈ unR b n w, x < 18446744073709551616 := by
  intro x hx
  unfold unR at hx
  split at hx
  · next h =>
    have h1 := dig_lt hx
    have hw : w.toNat ≤ 64 := by
      unfold unE at h
      split at h
      · omega
      · omega
    exact Nat.lt_of_lt_of_le h1 (Nat.pow_le_pow_right (by omega) hw)
  · simp at hx

theorem packR_lt {l : List Nat} {w : Int} : ∀ x ∈ packR l w, x < 256 := by
  intro x hx
  unfold packR at hx
  split at hx
  · exact dig_lt hx
  · simp at hx

theorem by8_ge (c : Nat) : c ≤ 8 * by8 c := by unfold by8; omega

/-- What is packed is unpacked. -/
theorem back_one {l : List Nat} {w : Nat} (h : can l w = true) : unE (packR l w) l.length w = 0 ∧ unR (packR l w) l.length w = l := by
  have hc := h
  unfold can at hc
  simp only [decide_eq_true_eq, Int.toNat_natCast] at hc
  obtain ⟨_, h64, hl, hw⟩ := hc
  have hlt := wd_le.1 hw
  have hpk := pk_lt hlt
  have hP : packR l w = dig 8 (by8 (l.length * w)) (pk w l) := by unfold packR; rw [if_pos h]; rfl
  have hB : pk 8 (packR l w) = pk w l := by
    rw [hP, pk_dig, Nat.mod_eq_of_lt]
    refine Nat.lt_of_lt_of_le hpk (Nat.pow_le_pow_right (by omega) ?_)
    have := by8_ge (l.length * w)
    rw [Nat.mul_comm w]
    exact this
  have hE : unE (packR l w) l.length w = 0 := by
    unfold unE
    rw [if_pos ⟨by omega, by omega, by omega, by omega⟩, if_pos]
    simp only [Int.toNat_natCast]
    exact ⟨by rw [hP, dig_length], by rw [hB, Nat.mul_comm]; exact hpk⟩
  refine ⟨hE, ?_⟩
  unfold unR
  rw [if_pos hE, hB]
  simp only [Int.toNat_natCast]
  exact dig_pk hlt

/-- What is unpacked is packed as it was. -/
theorem back_two {b : List Nat} {n w : Int} (hb : ∀ x ∈ b, x < 256) (h : unE b n w = 0) : can (unR b n w) w = true ∧ packR (unR b n w) w = b := by
  have hU : unR b n w = dig w.toNat n.toNat (pk 8 b) := by unfold unR; rw [if_pos h]
  unfold unE at h
  split at h
  · next hin =>
    split at h
    · next hok =>
      have hlen : (unR b n w).length = n.toNat := by rw [hU, dig_length]
      have hcan : can (unR b n w) w = true := by
        unfold can
        simp only [decide_eq_true_eq]
        exact ⟨by omega, by omega, by rw [hlen]; omega, wd_le.2 (fun x hx => by rw [hU] at hx; exact dig_lt hx)⟩
      refine ⟨hcan, ?_⟩
      unfold packR
      rw [if_pos hcan, hlen, hU, pk_dig, Nat.mod_eq_of_lt (by rw [Nat.mul_comm]; exact hok.2), ← hok.1]
      exact dig_pk hb
    · omega
  · omega
end Go.Proofs.Ytnlanilejhjkkaa
