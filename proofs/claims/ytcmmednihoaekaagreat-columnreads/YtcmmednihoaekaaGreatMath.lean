/- Numbers and their bytes, no program: what bytes say as a number, and that it undoes the number's bytes. Numbers of few bytes as lists of naturals; readers that go on one behind the other: no program. The five codecs of lists of whole numbers: what they write, how it is read: no program. The unlike numbers of a list, rising, and the places of its numbers among them: no program. The packed codecs, all of them together, and what follows: there and back, cut off, one more, no two forms: no program. What was read has n numbers; no two lists have one form by the first three codecs; the fewest bytes; sizes: no program. Columns as lists of naturals: what is written, and what is read of it, whatever stands behind: no program. Columns of cells (kind, number, text): their bytes; bytes are those of one list of so many values at most: no program. What bytes are read as, as a column: just the values whose bytes they are: no program. -/
import Derived.Lib.Zigzag
import Derived.Lib.VarintBits
set_option linter.unusedVariables false
set_option linter.unusedSimpArgs false
namespace Go.Proofs.YtcmmednihoaekaaGreat
open Go.Lib

theorem u8_nat {n : Nat} (h : n < 256) : (n.toUInt8).toNat = n := by
  show (UInt8.ofNat n).toNat = n
  rw [UInt8.toNat_ofNat']
  omega

/-- What bytes hold, seven bits each, the lowest first. -/
def val : List UInt8 → Nat
  | [] => 0
  | b :: r => b.toNat % 128 + 128 * val r

theorem val_nil : val [] = 0 := rfl
theorem val_cons (b : UInt8) (r : List UInt8) : val (b :: r) = b.toNat % 128 + 128 * val r := rfl

theorem val_lt : ∀ l, val l < 128 ^ l.length
  | [] => by simp [val]
  | b :: r => by
    have := val_lt r
    rw [val_cons, List.length_cons, Nat.pow_succ]
    omega

theorem val_append : ∀ a b, val (a ++ b) = val a + 128 ^ a.length * val b
  | [], b => by simp [val]
  | x :: a, b => by
    rw [List.cons_append, val_cons, val_append a b, val_cons, List.length_cons, Nat.pow_succ, Nat.mul_add]
    have : 128 * (128 ^ a.length * val b) = 128 ^ a.length * 128 * val b := by rw [Nat.mul_comm (128 ^ a.length) 128, Nat.mul_assoc]
    omega

theorem val_take_succ {l : List UInt8} {k : Nat} (h : k < l.length) : val (l.take (k + 1)) = val (l.take k) + (l[k].toNat % 128) * 128 ^ k := by
  rw [List.take_succ_eq_append_getElem h, val_append, val_cons, val_nil, List.length_take, Nat.min_eq_left (by omega)]
  simp [Nat.mul_comm]

theorem val_drop {l : List UInt8} {k : Nat} (h : k < l.length) : val (l.drop k) = l[k].toNat % 128 + 128 * val (l.drop (k + 1)) := by
  rw [List.drop_eq_getElem_cons h, val_cons]

theorem val_drop_le : ∀ (l : List UInt8) (k : Nat), val (l.drop k) ≤ val l
  | [], k => by simp
  | b :: r, 0 => by simp
  | b :: r, k + 1 => by
    rw [List.drop_succ_cons, val_cons]
    have := val_drop_le r k
    omega

/-- How many bytes at the front go on. -/
def lead : List UInt8 → Nat
  | [] => 0
  | b :: r => if 128 ≤ b.toNat then lead r + 1 else 0

theorem lead_le : ∀ l, lead l ≤ l.length
  | [] => by simp [lead]
  | b :: r => by
    have := lead_le r
    unfold lead
    split <;> simp <;> omega

theorem lead_big : ∀ (l : List UInt8) (k : Nat) (h : k < l.length), k < lead l → 128 ≤ l[k].toNat
  | [], k, h, _ => by simp at h
  | b :: r, 0, h, hk => by
    unfold lead at hk
    split at hk
    · simpa
    · omega
  | b :: r, k + 1, h, hk => by
    unfold lead at hk
    split at hk
    · simpa using lead_big r k (by simpa using h) (by omega)
    · omega

theorem lead_small : ∀ (l : List UInt8) (h : lead l < l.length), l[lead l].toNat < 128
  | [], h => by simp at h
  | b :: r, h => by
    by_cases hb : 128 ≤ b.toNat
    · have e : lead (b :: r) = lead r + 1 := by rw [lead, if_pos hb]
      have hr : lead r < r.length := by rw [e] at h; simpa using h
      have := lead_small r hr
      simpa [e] using this
    · have e : lead (b :: r) = 0 := by rw [lead, if_neg hb]
      simpa [e] using hb

theorem lead_eq {l : List UInt8} {k : Nat} (hk : k ≤ lead l) (h : k < l.length) (hs : l[k].toNat < 128) : lead l = k := by
  rcases Nat.lt_or_ge k (lead l) with h1 | h1
  · have := lead_big l k h h1; omega
  · omega

theorem lead_succ {l : List UInt8} {k : Nat} (hk : k ≤ lead l) (h : k < l.length) (hs : 128 ≤ l[k].toNat) : k + 1 ≤ lead l := by
  rcases Nat.lt_or_ge k (lead l) with h1 | h1
  · exact h1
  · have e : lead l = k := by omega
    have h2 := lead_small l (by omega)
    simp only [e] at h2
    omega

/-- The document's Get: the number, how many bytes it has, the error's number. -/
def getL (l : List UInt8) : Nat × Nat × Nat :=
  if 9 ≤ lead l ∧ 9 < l.length ∧ 1 < (l.getD 9 0).toNat then (0, 0, 31)
  else if lead l = l.length then (0, 0, 30)
  else if (l.getD (lead l) 0).toNat = 0 ∧ 0 < lead l then (0, 0, 31)
  else (val (l.take (lead l + 1)), lead l + 1, 0)

theorem getD_at {l : List UInt8} {k : Nat} (h : k < l.length) : l.getD k 0 = l[k] := by
  rw [List.getD_eq_getElem?_getD, List.getElem?_eq_getElem h]; rfl

theorem getL_tenth {l : List UInt8} (hk : 9 ≤ lead l) (h : 9 < l.length) (hs : 1 < l[9].toNat) : getL l = (0, 0, 31) := by
  unfold getL
  rw [if_pos ⟨hk, h, by rwa [getD_at h]⟩]

theorem getL_end {l : List UInt8} {k : Nat} (hk : k ≤ lead l) (h9 : k ≤ 9) (h : ¬ k < l.length) : getL l = (0, 0, 30) := by
  have := lead_le l
  unfold getL
  rw [if_neg (fun h => by omega), if_pos (by omega)]

theorem getL_last {l : List UInt8} {k : Nat} (hk : k ≤ lead l) (h9 : k ≤ 9) (h : k < l.length) (hs : l[k].toNat < 128) (ht : k = 9 → l[k].toNat ≤ 1) :
    getL l = if l[k].toNat = 0 ∧ 0 < k then (0, 0, 31) else (val (l.take (k + 1)), k + 1, 0) := by
  have e := lead_eq hk h hs
  unfold getL
  rw [e, if_neg, if_neg (by omega), getD_at h]
  rintro ⟨h1, h2, h3⟩
  obtain rfl : k = 9 := by omega
  rw [getD_at h2] at h3
  have := ht rfl
  omega

/-- What Get took is a uint64. -/
theorem val64 {l : List UInt8} {k : Nat} (h9 : k ≤ 9) (h : k < l.length) (ht : k = 9 → l[k].toNat ≤ 1) : val (l.take (k + 1)) < 18446744073709551616 := by
  rcases Nat.lt_or_ge k 9 with h1 | h1
  · have h2 := val_lt (l.take (k + 1))
    rw [List.length_take, Nat.min_eq_left (by omega)] at h2
    have h3 : 128 ^ (k + 1) ≤ 128 ^ 9 := Nat.pow_le_pow_right (by omega) (by omega)
    have h4 : (128 : Nat) ^ 9 = 9223372036854775808 := by decide
    omega
  · obtain rfl : k = 9 := by omega
    rw [val_take_succ h]
    have h2 := val_lt (l.take 9)
    rw [List.length_take, Nat.min_eq_left (by omega)] at h2
    have h4 : (128 : Nat) ^ 9 = 9223372036854775808 := by decide
    rw [h4] at *
    have := ht rfl
    omega

/-- A number's bytes: each but the last goes on, and they say the number. -/
theorem uv_val : ∀ (n x : Nat), x ≤ n → val (uvarint x) = x ∧ lead (uvarint x) + 1 = (uvarint x).length
  | n, x, hn => by
    by_cases h : x < 128
    · rw [uvarint_small h, val_cons, u8_nat (by omega), val_nil, lead, u8_nat (by omega), if_neg (by omega)]
      simp; omega
    · cases n with
      | zero => omega
      | succ n =>
        obtain ⟨h1, h2⟩ := uv_val n (x / 128) (by omega)
        rw [uvarint_big (by omega), val_cons, u8_nat (by omega), lead, u8_nat (by omega), if_pos (by omega), h1, h2, List.length_cons]
        omega

theorem val_uv (x : Nat) : val (uvarint x) = x := (uv_val x x (Nat.le_refl _)).1
theorem lead_uv (x : Nat) : lead (uvarint x) + 1 = (uvarint x).length := (uv_val x x (Nat.le_refl _)).2

theorem uv_inj {a b : Nat} (h : uvarint a = uvarint b) : a = b := by rw [← val_uv a, h, val_uv]

/-- Bytes that are as few as may be are their number's own. -/
theorem uv_of : ∀ (l : List UInt8) (h : lead l + 1 = l.length), ¬ (l[lead l].toNat = 0 ∧ 0 < lead l) → uvarint (val l) = l
  | [], h, _ => by simp at h
  | b :: r, h, hc => by
    have hb := b.toNat_lt
    by_cases hg : 128 ≤ b.toNat
    · have e : lead (b :: r) = lead r + 1 := by rw [lead, if_pos hg]
      have hr : lead r + 1 = r.length := by rw [e] at h; simpa using h
      simp only [e, List.getElem_cons_succ] at hc
      have hz : r[lead r].toNat ≠ 0 := fun h1 => hc ⟨h1, by omega⟩
      have ih := uv_of r hr (fun h1 => hz h1.1)
      have hv : 0 < val r := by
        rcases Nat.eq_zero_or_pos (val r) with h0 | h0
        · exfalso
          have h3 := val_take_succ (l := r) (k := lead r) (by omega)
          rw [List.take_of_length_le (by omega), h0] at h3
          have h4 := lead_small r (by omega)
          have h5 : r[lead r].toNat % 128 = r[lead r].toNat := by omega
          rw [h5] at h3
          have h6 : 0 < r[lead r].toNat * 128 ^ lead r := Nat.mul_pos (by omega) (Nat.pow_pos (by omega))
          omega
        · exact h0
      rw [val_cons, uvarint_big (by omega)]
      have e1 : (b.toNat % 128 + 128 * val r) / 128 = val r := by omega
      have e2 : (b.toNat % 128 + 128 * val r) % 128 + 128 = b.toNat := by omega
      rw [e1, e2, ih]
      simp
    · have e : lead (b :: r) = 0 := by rw [lead, if_neg hg]
      rw [e] at h
      have hr : r = [] := by cases r with | nil => rfl | cons _ _ => simp at h
      subst hr
      rw [val_cons, val_nil, uvarint_small (by omega)]
      have : b.toNat % 128 + 128 * 0 = b.toNat := by omega
      rw [this]
      simp

/-- The last byte of a number's bytes is 0 just of 0. -/
theorem uv_last : ∀ (n x : Nat), x ≤ n → ∀ h : lead (uvarint x) < (uvarint x).length, ¬ ((uvarint x)[lead (uvarint x)].toNat = 0 ∧ 0 < lead (uvarint x))
  | n, x, hn, h => by
    by_cases hx : x < 128
    · rintro ⟨_, h2⟩
      rw [uvarint_small hx, lead, u8_nat (by omega), if_neg (by omega)] at h2
      omega
    · cases n with
      | zero => omega
      | succ n =>
        have ih := uv_last n (x / 128) (by omega)
        have e0 := uvarint_big (x := x) (by omega)
        have e : lead (uvarint x) = lead (uvarint (x / 128)) + 1 := by rw [e0, lead, u8_nat (by omega), if_pos (by omega)]
        have hl := lead_uv (x / 128)
        rintro ⟨h1, _⟩
        have ih2 := ih (by omega)
        have h3 : (uvarint (x / 128))[lead (uvarint (x / 128))].toNat = 0 := by
          have h4 : (uvarint x)[lead (uvarint x)] = (uvarint (x / 128))[lead (uvarint (x / 128))] := by
            simp only [e]
            simp [e0]
          rw [← h4]; exact h1
        rcases Nat.eq_zero_or_pos (lead (uvarint (x / 128))) with h0 | h0
        · have h5 := val_take_succ (l := uvarint (x / 128)) (k := 0) (by omega)
          have h6 : (uvarint (x / 128))[0].toNat = 0 := by simpa [h0] using h3
          rw [h6, List.take_of_length_le (by omega), val_uv] at h5
          simp [val] at h5
          omega
        · exact ih2 ⟨h3, h0⟩

theorem uv_spare {l : List UInt8} (h : lead l + 1 = l.length) : uvarint (val l) = l ↔ ¬ (l[lead l].toNat = 0 ∧ 0 < lead l) := by
  constructor
  · intro e
    have := uv_last (val l) (val l) (Nat.le_refl _) (by rw [e]; omega)
    simp only [e] at this
    exact this
  · exact uv_of l h

theorem lead_append : ∀ (a b : List UInt8), lead a < a.length → lead (a ++ b) = lead a
  | [], b, h => by simp at h
  | x :: a, b, h => by
    rw [List.cons_append]
    by_cases hx : 128 ≤ x.toNat
    · rw [lead, if_pos hx] at h ⊢
      rw [lead, if_pos hx, lead_append a b (by simpa using h)]
    · rw [lead, if_neg hx, lead, if_neg hx]

theorem lead_take : ∀ (l : List UInt8) (k : Nat), k ≤ lead l → lead (l.take k) = k
  | l, 0, _ => by simp [lead]
  | [], k + 1, h => by simp [lead] at h
  | b :: r, k + 1, h => by
    unfold lead at h
    split at h
    · rename_i hb
      rw [List.take_succ_cons, lead, if_pos hb, lead_take r k (by omega)]
    · omega

/-- P3.3: Get of Put is the number, whatever stands behind. -/
theorem get_put (n : Nat) (hn : n < 18446744073709551616) (r : List UInt8) : getL (uvarint n ++ r) = (n, (uvarint n).length, 0) := by
  have h1 := lead_uv n
  have h10 := uvarint_length64 hn
  have hl := lead_append (uvarint n) r (by omega)
  have hk : lead (uvarint n) < (uvarint n ++ r).length := by simp; omega
  have hget : (uvarint n ++ r)[lead (uvarint n)] = (uvarint n)[lead (uvarint n)] := List.getElem_append_left (by omega)
  have hsm := lead_small (uvarint n) (by omega)
  have htk : (uvarint n ++ r).take (lead (uvarint n) + 1) = uvarint n := by rw [h1]; simp
  have ht : lead (uvarint n) = 9 → (uvarint n ++ r)[lead (uvarint n)].toNat ≤ 1 := by
    intro h9
    rw [hget]
    have h5 := val_take_succ (l := uvarint n) (k := lead (uvarint n)) (by omega)
    rw [h1, List.take_length, val_uv] at h5
    have h4 : (128 : Nat) ^ lead (uvarint n) = 9223372036854775808 := by rw [h9]
    rw [h4] at h5
    omega
  rw [getL_last (k := lead (uvarint n)) (by omega) (by omega) hk (by rw [hget]; exact hsm) ht, htk, val_uv, if_neg, h1]
  rw [hget]
  exact uv_last n n (Nat.le_refl _) (by omega)

/-- P3.3: what is cut off ends. -/
theorem get_cut (n : Nat) (hn : n < 18446744073709551616) (k : Nat) (hk : k < (uvarint n).length) : getL ((uvarint n).take k) = (0, 0, 30) := by
  have h1 := lead_uv n
  have h10 := uvarint_length64 hn
  have hl := lead_take (uvarint n) k (by omega)
  exact getL_end (k := k) (by omega) (by omega) (by simp; omega)

/-- A greater number has no fewer bytes. -/
theorem uv_mono : ∀ (n a b : Nat), a ≤ n → a ≤ b → (uvarint a).length ≤ (uvarint b).length
  | n, a, b, hn, h => by
    by_cases ha : a < 128
    · rw [uvarint_small ha]
      exact uvarint_pos b
    · cases n with
      | zero => omega
      | succ n =>
        rw [uvarint_big (x := a) (by omega), uvarint_big (x := b) (by omega), List.length_cons, List.length_cons]
        have := uv_mono n (a / 128) (b / 128) (by omega) (by omega)
        omega

theorem uv_step (n : Nat) : (n < 128 → (uvarint n).length = 1) ∧ (128 ≤ n → (uvarint n).length = (uvarint (n / 128)).length + 1) := by
  constructor
  · intro h; rw [uvarint_small h]; rfl
  · intro h; rw [uvarint_big h]; rfl

theorem bits_andNot128 : ∀ a : Fin 256, bits .andNot .u8 (a.val : Int) 128 = ((a.val % 128 : Nat) : Int) := by decide +kernel

theorem u8_andNot (c : UInt8) : bits .andNot .u8 (c.toNat : Int) 128 = ((c.toNat % 128 : Nat) : Int) := bits_andNot128 ⟨c.toNat, c.toNat_lt⟩

theorem pow7 (k : Nat) : (2 : Nat) ^ (7 * k) = 128 ^ k := by rw [Nat.pow_mul]

theorem or_shift {n c k : Nat} (hk : k ≤ 9) (hn : n < 128 ^ k) (h : c * 128 ^ k < 18446744073709551616) :
    bits .or .u64 (n : Int) ((c * 128 ^ k : Nat) : Int) = ((n + c * 128 ^ k : Nat) : Int) := by
  have h9 : 128 ^ k ≤ 128 ^ 9 := Nat.pow_le_pow_right (by omega) hk
  have h4 : (128 : Nat) ^ 9 = 9223372036854775808 := by decide
  have e : bits .or .u64 (n : Int) ((c * 128 ^ k : Nat) : Int) = (n : Int) + ((c * 128 ^ k : Nat) : Int) := by
    apply bits_join_low .u64 64 (by decide) wraps_u64 (7 * k)
    · omega
    · have : (n : Int) < ((2 ^ (7 * k) : Nat) : Int) := by rw [pow7]; omega
      simpa using this
    · omega
    · omega
    · have : (((c * 128 ^ k : Nat) : Int) % ((2 ^ (7 * k) : Nat) : Int)) = 0 := by rw [pow7, ← Int.natCast_emod]; simp
      simpa using this
    · omega
  rw [e]
  omega
end Go.Proofs.YtcmmednihoaekaaGreat
/- The mathematics of packed numbers, without the program: lists of digits, the number that they make, how wide numbers are. -/
set_option linter.unusedVariables false
namespace Go.Proofs.YtcmmednihoaekaaGreat

/-- The number whose digits of w bits are l, the lowest one first. -/
def pk (w : Nat) : List Nat → Nat
  | [] => 0
  | n :: t => n + 2 ^ w * pk w t

/-- The n lowest digits of w bits of a number. -/
def dig (w : Nat) : Nat → Nat → List Nat
  | 0, _ => []
  | n + 1, N => N % 2 ^ w :: dig w n (N / 2 ^ w)

theorem dig_length (w : Nat) : ∀ n N, (dig w n N).length = n
  | 0, _ => rfl
  | n + 1, N => by simp [dig, dig_length w n]

theorem pow_succ_mul (w n : Nat) : 2 ^ (w * (n + 1)) = 2 ^ w * 2 ^ (w * n) := by
  rw [Nat.mul_add, Nat.mul_one, Nat.add_comm, Nat.pow_add]

theorem pk_dig (w : Nat) : ∀ n N, pk w (dig w n N) = N % 2 ^ (w * n)
  | 0, N => by simp [dig, pk, Nat.mod_one]
  | n + 1, N => by
    show N % 2 ^ w + 2 ^ w * pk w (dig w n (N / 2 ^ w)) = _
    rw [pk_dig w n, pow_succ_mul, Nat.mod_mul]

theorem dig_pk {w : Nat} : ∀ {l : List Nat}, (∀ x ∈ l, x < 2 ^ w) → dig w l.length (pk w l) = l
  | [], _ => rfl
  | n :: t, h => by
    have hn := h n (by simp)
    show (n + 2 ^ w * pk w t) % 2 ^ w :: dig w t.length ((n + 2 ^ w * pk w t) / 2 ^ w) = _
    rw [Nat.add_mul_mod_self_left, Nat.mod_eq_of_lt hn, Nat.add_mul_div_left _ _ (Nat.two_pow_pos w), Nat.div_eq_of_lt hn, Nat.zero_add,
      dig_pk (fun x hx => h x (by simp [hx]))]

theorem pk_lt {w : Nat} : ∀ {l : List Nat}, (∀ x ∈ l, x < 2 ^ w) → pk w l < 2 ^ (w * l.length)
  | [], _ => by simp [pk]
  | n :: t, h => by
    have hn := h n (by simp)
    have ht := pk_lt (w := w) (l := t) (fun x hx => h x (by simp [hx]))
    show n + 2 ^ w * pk w t < 2 ^ (w * (t.length + 1))
    rw [pow_succ_mul]
    have : 2 ^ w * (pk w t + 1) ≤ 2 ^ w * 2 ^ (w * t.length) := Nat.mul_le_mul_left _ ht
    rw [Nat.mul_add, Nat.mul_one] at this
    omega

theorem dig_get (w : Nat) : ∀ n N i, i < n → (dig w n N)[i]? = some (N / 2 ^ (w * i) % 2 ^ w)
  | n + 1, N, 0, _ => by simp [dig]
  | n + 1, N, i + 1, h => by
    show (dig w n (N / 2 ^ w))[i]? = _
    rw [dig_get w n _ i (by omega), Nat.div_div_eq_div_mul, pow_succ_mul]

theorem dig_lt {w x : Nat} : ∀ {n N}, x ∈ dig w n N → x < 2 ^ w
  | n + 1, N, h => by
    simp only [dig, List.mem_cons] at h
    rcases h with rfl | h
    · exact Nat.mod_lt _ (Nat.two_pow_pos w)
    · exact dig_lt h

theorem pk_append (w : Nat) : ∀ (a b : List Nat), pk w (a ++ b) = pk w a + 2 ^ (w * a.length) * pk w b
  | [], b => by simp [pk]
  | n :: t, b => by
    show n + 2 ^ w * pk w (t ++ b) = n + 2 ^ w * pk w t + 2 ^ (w * (t.length + 1)) * pk w b
    rw [pk_append w t, pow_succ_mul, Nat.mul_add, Nat.mul_assoc, Nat.add_assoc]

theorem pk_take_succ (w : Nat) {l : List Nat} {i : Nat} (h : i < l.length) : pk w (l.take (i + 1)) = pk w (l.take i) + l[i] * 2 ^ (w * i) := by
  rw [List.take_succ_eq_append_getElem h, pk_append, List.length_take, Nat.min_eq_left (by omega)]
  simp [pk, Nat.mul_comm]

theorem pk_set (w : Nat) : ∀ {l : List Nat} {i : Nat} (c : Nat) (h : i < l.length), pk w (l.set i c) + l[i] * 2 ^ (w * i) = pk w l + c * 2 ^ (w * i)
  | n :: t, 0, c, _ => by simp [pk]; omega
  | n :: t, i + 1, c, h => by
    have hi : i < t.length := by simpa using h
    show n + 2 ^ w * pk w (t.set i c) + t[i] * 2 ^ (w * (i + 1)) = n + 2 ^ w * pk w t + c * 2 ^ (w * (i + 1))
    have := congrArg (2 ^ w * ·) (pk_set w (l := t) (i := i) c hi)
    simp only [Nat.mul_add] at this
    rw [pow_succ_mul, ← Nat.mul_assoc, ← Nat.mul_assoc, Nat.mul_comm t[i], Nat.mul_comm c, Nat.mul_assoc, Nat.mul_assoc]
    omega

theorem pk_get {w : Nat} {l : List Nat} (h : ∀ x ∈ l, x < 2 ^ w) {i : Nat} (hi : i < l.length) : l[i] = pk w l / 2 ^ (w * i) % 2 ^ w := by
  have h1 := dig_get w l.length (pk w l) i hi
  rw [dig_pk h, List.getElem?_eq_getElem hi] at h1
  exact Option.some.inj h1

theorem pk_inj {w : Nat} {a b : List Nat} (ha : ∀ x ∈ a, x < 2 ^ w) (hb : ∀ x ∈ b, x < 2 ^ w) (hl : a.length = b.length) (h : pk w a = pk w b) : a = b := by
  rw [← dig_pk ha, ← dig_pk hb, hl, h]

theorem pk_zeros (w : Nat) : ∀ n, pk w (List.replicate n 0) = 0
  | 0 => rfl
  | n + 1 => by
    show 0 + 2 ^ w * pk w (List.replicate n 0) = 0
    rw [pk_zeros w n]; simp

theorem pk_snoc0 (w : Nat) (l : List Nat) : pk w (l ++ [0]) = pk w l := by rw [pk_append]; simp [pk]

/-- How many bits a number has. -/
def blen (n : Nat) : Nat := if n = 0 then 0 else n.log2 + 1

theorem blen_le {n w : Nat} : blen n ≤ w ↔ n < 2 ^ w := by
  unfold blen
  split
  · next h => subst h; simp [Nat.two_pow_pos]
  · next h => rw [Nat.add_one_le_iff, Nat.log2_lt h]

theorem blen_half {n : Nat} (h : n ≠ 0) : blen n = blen (n / 2) + 1 := by
  have e : ∀ k, blen (n / 2) ≤ k ↔ blen n ≤ k + 1 := fun k => by
    rw [blen_le, blen_le, Nat.pow_succ, Nat.div_lt_iff_lt_mul (by omega)]
  have h1 := (e (blen (n / 2))).1 (Nat.le_refl _)
  have hp : 0 < blen n := by unfold blen; rw [if_neg h]; omega
  have h2 := (e (blen n - 1)).2 (by omega)
  omega

theorem blen_or (a b : Nat) : blen (a ||| b) = max (blen a) (blen b) := by
  have e : ∀ k, blen (a ||| b) ≤ k ↔ blen a ≤ k ∧ blen b ≤ k := fun k => by
    rw [blen_le, blen_le, blen_le]
    constructor
    · intro h
      exact ⟨Nat.lt_of_le_of_lt Nat.left_le_or h, Nat.lt_of_le_of_lt Nat.right_le_or h⟩
    · intro h
      exact Nat.or_lt_two_pow h.1 h.2
  have h1 := (e _).1 (Nat.le_refl _)
  have h2 := (e (max (blen a) (blen b))).2 ⟨by omega, by omega⟩
  omega

/-- All numbers laid over each other. -/
def orAll (l : List Nat) : Nat := l.foldl (· ||| ·) 0

theorem orAll_take_succ {l : List Nat} {i : Nat} (h : i < l.length) : orAll (l.take (i + 1)) = orAll (l.take i) ||| l[i] := by
  unfold orAll
  rw [List.take_succ_eq_append_getElem h, List.foldl_append]
  rfl

/-- The least width in which each number fits. -/
def wd (l : List Nat) : Nat := blen (orAll l)

theorem wd_take_succ {l : List Nat} {i : Nat} (h : i < l.length) : wd (l.take (i + 1)) = max (wd (l.take i)) (blen l[i]) := by
  unfold wd
  rw [orAll_take_succ h, blen_or]

theorem wd_nil : wd [] = 0 := by decide

theorem wd_take_le {l : List Nat} {w : Nat} : ∀ i, i ≤ l.length → (wd (l.take i) ≤ w ↔ ∀ x ∈ l.take i, x < 2 ^ w)
  | 0, _ => by simp [wd_nil]
  | i + 1, h => by
    rw [wd_take_succ (by omega), List.take_succ_eq_append_getElem (by omega)]
    simp only [List.mem_append, List.mem_singleton]
    have ih := wd_take_le (l := l) (w := w) i (by omega)
    constructor
    · intro h1 x hx
      rcases hx with hx | rfl
      · exact ih.1 (by omega) x hx
      · exact blen_le.1 (by omega)
    · intro h1
      have h2 := ih.2 (fun x hx => h1 x (Or.inl hx))
      have h3 := blen_le.2 (h1 _ (Or.inr rfl))
      omega

theorem wd_le {l : List Nat} {w : Nat} : wd l ≤ w ↔ ∀ x ∈ l, x < 2 ^ w := by
  have := wd_take_le (l := l) (w := w) l.length (Nat.le_refl _)
  rwa [List.take_length] at this

theorem wd64 {l : List Nat} (h : ∀ x ∈ l, x < 18446744073709551616) : wd l ≤ 64 := wd_le.2 h

theorem or64 {l : List Nat} (h : ∀ x ∈ l, x < 18446744073709551616) (i : Nat) : orAll (l.take i) < 18446744073709551616 := by
  have h1 : wd (l.take i) ≤ 64 := wd64 (fun x hx => h x (List.mem_of_mem_take hx))
  exact blen_le.1 h1

/-- How many bytes hold the bits. -/
def by8 (c : Nat) : Nat := (c + 7) / 8

/-- May the numbers be packed with the width? -/
def can (l : List Nat) (w : Int) : Bool := decide (0 ≤ w ∧ w ≤ 64 ∧ l.length ≤ 256 ∧ wd l ≤ w.toNat)

/-- The numbers packed; none, if they can't be. -/
def packR (l : List Nat) (w : Int) : List Nat := if can l w then dig 8 (by8 (l.length * w.toNat)) (pk w.toNat l) else []

/-- The error of what is unpacked. -/
def unE (b : List Nat) (n w : Int) : Nat :=
  if 0 ≤ n ∧ n ≤ 256 ∧ 0 ≤ w ∧ w ≤ 64 then (if b.length = by8 (n.toNat * w.toNat) ∧ pk 8 b < 2 ^ (n.toNat * w.toNat) then 0 else 40) else 1

/-- The numbers unpacked. -/
def unR (b : List Nat) (n w : Int) : List Nat := if unE b n w = 0 then dig w.toNat n.toNat (pk 8 b) else []

theorem unR_lt {b : List Nat} {n w : Int} : ∀ x ∈ unR b n w, x < 18446744073709551616 := by
  intro x hx
  unfold unR at hx
  split at hx
  · next h =>
    have h1 := dig_lt hx
    have hw : w.toNat ≤ 64 := by
      unfold unE at h
      split at h
      · omega
      · omega
    exact Nat.lt_of_lt_of_le h1 (Nat.pow_le_pow_right (by omega) hw)
  · simp at hx

theorem packR_lt {l : List Nat} {w : Int} : ∀ x ∈ packR l w, x < 256 := by
  intro x hx
  unfold packR at hx
  split at hx
  · exact dig_lt hx
  · simp at hx

theorem by8_ge (c : Nat) : c ≤ 8 * by8 c := by unfold by8; omega

/-- What is packed is unpacked. -/
theorem back_one {l : List Nat} {w : Nat} (h : can l w = true) : unE (packR l w) l.length w = 0 ∧ unR (packR l w) l.length w = l := by
  have hc := h
  unfold can at hc
  simp only [decide_eq_true_eq, Int.toNat_natCast] at hc
  obtain ⟨_, h64, hl, hw⟩ := hc
  have hlt := wd_le.1 hw
  have hpk := pk_lt hlt
  have hP : packR l w = dig 8 (by8 (l.length * w)) (pk w l) := by unfold packR; rw [if_pos h]; rfl
  have hB : pk 8 (packR l w) = pk w l := by
    rw [hP, pk_dig, Nat.mod_eq_of_lt]
    refine Nat.lt_of_lt_of_le hpk (Nat.pow_le_pow_right (by omega) ?_)
    have := by8_ge (l.length * w)
    rw [Nat.mul_comm w]
    exact this
  have hE : unE (packR l w) l.length w = 0 := by
    unfold unE
    rw [if_pos ⟨by omega, by omega, by omega, by omega⟩, if_pos]
    simp only [Int.toNat_natCast]
    exact ⟨by rw [hP, dig_length], by rw [hB, Nat.mul_comm]; exact hpk⟩
  refine ⟨hE, ?_⟩
  unfold unR
  rw [if_pos hE, hB]
  simp only [Int.toNat_natCast]
  exact dig_pk hlt

/-- What is unpacked is packed as it was. -/
theorem back_two {b : List Nat} {n w : Int} (hb : ∀ x ∈ b, x < 256) (h : unE b n w = 0) : can (unR b n w) w = true ∧ packR (unR b n w) w = b := by
  have hU : unR b n w = dig w.toNat n.toNat (pk 8 b) := by unfold unR; rw [if_pos h]
  unfold unE at h
  split at h
  · next hin =>
    split at h
    · next hok =>
      have hlen : (unR b n w).length = n.toNat := by rw [hU, dig_length]
      have hcan : can (unR b n w) w = true := by
        unfold can
        simp only [decide_eq_true_eq]
        exact ⟨by omega, by omega, by rw [hlen]; omega, wd_le.2 (fun x hx => by rw [hU] at hx; exact dig_lt hx)⟩
      refine ⟨hcan, ?_⟩
      unfold packR
      rw [if_pos hcan, hlen, hU, pk_dig, Nat.mod_eq_of_lt (by rw [Nat.mul_comm]; exact hok.2), ← hok.1]
      exact dig_pk hb
    · omega
  · omega
end Go.Proofs.YtcmmednihoaekaaGreat
set_option linter.unusedVariables false
set_option linter.unusedSimpArgs false
namespace Go.Proofs.YtcmmednihoaekaaGreat
open Go.Lib

/-- A number's bytes. -/
def uv (n : Nat) : List Nat := (uvarint n).map UInt8.toNat

/-- What bytes say as a number: the number, how many bytes it has, the error's number. -/
def gt (l : List Nat) : Nat × Nat × Nat := getL (l.map Nat.toUInt8)

theorem map_back (l : List UInt8) : (l.map UInt8.toNat).map Nat.toUInt8 = l := by
  rw [List.map_map]
  conv => rhs; rw [← List.map_id l]
  apply List.map_congr_left
  intro a _
  simp

theorem map_fwd {l : List Nat} (h : ∀ x ∈ l, x < 256) : (l.map Nat.toUInt8).map UInt8.toNat = l := by
  rw [List.map_map]
  conv => rhs; rw [← List.map_id l]
  apply List.map_congr_left
  intro a ha
  exact u8_nat (h a ha)

theorem uv_lt {n : Nat} : ∀ x ∈ uv n, x < 256 := by
  intro x hx
  obtain ⟨a, _, rfl⟩ := List.mem_map.1 hx
  exact a.toNat_lt

theorem uv_len (n : Nat) : (uv n).length = (uvarint n).length := List.length_map _
theorem uv_pos (n : Nat) : 0 < (uv n).length := by rw [uv_len]; exact uvarint_pos n
theorem uv_ten {n : Nat} (h : n < 18446744073709551616) : (uv n).length ≤ 10 := by rw [uv_len]; exact uvarint_length64 h

theorem gt_put (n : Nat) (hn : n < 18446744073709551616) (r : List Nat) : gt (uv n ++ r) = (n, (uv n).length, 0) := by
  unfold gt uv
  rw [List.map_append, map_back, get_put n hn, List.length_map]

theorem gt_cut (n : Nat) (hn : n < 18446744073709551616) (k : Nat) (hk : k < (uv n).length) : gt ((uv n).take k) = (0, 0, 30) := by
  unfold gt uv
  rw [List.map_take, map_back, get_cut n hn k (by rwa [uv_len] at hk)]

theorem uv_small {n : Nat} (h : n < 128) : uv n = [n] := by
  unfold uv
  rw [uvarint_small h]
  simp [u8_nat (show n < 256 by omega)]

/-- What was read is just how it is written. -/
theorem getL_ok {l : List UInt8} {n u : Nat} (h : getL l = (n, u, 0)) : n < 18446744073709551616 ∧ l.take u = uvarint n ∧ u ≤ l.length := by
  have hle := lead_le l
  unfold getL at h
  split at h
  · simp at h
  · next h1 =>
    split at h
    · simp at h
    · next h2 =>
      split at h
      · simp at h
      · next h3 =>
        have hl : lead l < l.length := by omega
        simp only [Prod.mk.injEq, and_true] at h
        obtain ⟨rfl, rfl⟩ := h
        rw [getD_at hl] at h3
        have hlt : lead l ≤ 9 := by
          rcases Nat.lt_or_ge 9 (lead l) with h9 | h9
          · exfalso
            apply h1
            have := lead_big l 9 (by omega) h9
            exact ⟨by omega, by omega, by rw [getD_at (by omega)]; omega⟩
          · exact h9
        have ht : lead l = 9 → l[lead l].toNat ≤ 1 := by
          intro e
          rcases Nat.lt_or_ge 1 l[lead l].toNat with h9 | h9
          · exfalso
            apply h1
            have h10 : 9 < l.length := by omega
            have e2 : l[9] = l[lead l] := by simp only [e]
            exact ⟨by omega, h10, by rw [getD_at h10, e2]; exact h9⟩
          · exact h9
        refine ⟨val64 hlt hl ht, ?_, by omega⟩
        have hlen : (l.take (lead l + 1)).length = lead l + 1 := by rw [List.length_take]; omega
        have hld : lead (l.take (lead l + 1)) = lead l := by
          have hsm := lead_small l hl
          refine lead_eq (l := l.take (lead l + 1)) ?_ (by omega) (by simpa using hsm)
          rcases Nat.lt_or_ge (lead (l.take (lead l + 1))) (lead l) with hh | hh
          · exfalso
            have hs2 := lead_small (l.take (lead l + 1)) (by omega)
            have hb := lead_big l _ (by omega) hh
            simp at hs2
            omega
          · exact hh
        refine ((uv_spare (l := l.take (lead l + 1)) (by omega)).2 ?_).symm
        simp only [hld]
        rintro ⟨h4, h5⟩
        exact h3 ⟨by simpa using h4, h5⟩

theorem gt_ok {l : List Nat} {n u : Nat} (hl : ∀ x ∈ l, x < 256) (h : gt l = (n, u, 0)) : n < 18446744073709551616 ∧ l = uv n ++ l.drop u ∧ u = (uv n).length := by
  obtain ⟨h1, h2, h3⟩ := getL_ok h
  have e : l.take u = uv n := by
    unfold uv
    rw [← h2, ← List.map_take, map_fwd (fun x hx => hl x (List.mem_of_mem_take hx))]
  refine ⟨h1, ?_, ?_⟩
  · rw [← e, List.take_append_drop]
  · rw [← e, List.length_take]
    rw [List.length_map] at h3
    omega

theorem gt_errs (l : List Nat) : (gt l).2.2 = 0 ∨ (gt l).2.2 = 30 ∨ (gt l).2.2 = 31 := by
  unfold gt getL
  split
  · simp
  · split
    · simp
    · split
      · simp
      · simp

/-- One reader, then another. -/
def bindR {α β : Type} (d : List Nat → Except Nat (α × List Nat)) (f : α → List Nat → Except Nat (β × List Nat)) (b : List Nat) : Except Nat (β × List Nat) :=
  match d b with
  | .ok (x, r) => f x r
  | .error e => .error e

theorem bindR_ok {α β : Type} {d : List Nat → Except Nat (α × List Nat)} {f : α → List Nat → Except Nat (β × List Nat)} {b r : List Nat} {x : α} (h : d b = .ok (x, r)) : bindR d f b = f x r := by
  unfold bindR; rw [h]

theorem bindR_error {α β : Type} {d : List Nat → Except Nat (α × List Nat)} {f : α → List Nat → Except Nat (β × List Nat)} {b : List Nat} {e : Nat} (h : d b = .error e) : bindR d f b = .error e := by
  unfold bindR; rw [h]

/-- The reader takes just these bytes, whatever stands behind them; of what is cut off it misses the end. -/
def Reads {α : Type} (d : List Nat → Except Nat (α × List Nat)) (e : List Nat) (x : α) : Prop :=
  (∀ r, d (e ++ r) = .ok (x, r)) ∧ ∀ k, k < e.length → d (e.take k) = .error 30

/-- The reader takes these bytes if nothing stands behind them. -/
def Ends {α : Type} (d : List Nat → Except Nat (α × List Nat)) (e : List Nat) (x : α) : Prop :=
  d e = .ok (x, []) ∧ (∀ y r, d (e ++ y :: r) = .error 32 ∨ d (e ++ y :: r) = .ok (x, y :: r)) ∧ ∀ k, k < e.length → d (e.take k) = .error 30

theorem Reads.ends {α : Type} {d : List Nat → Except Nat (α × List Nat)} {e : List Nat} {x : α} (h : Reads d e x) : Ends d e x :=
  ⟨by have := h.1 []; rwa [List.append_nil] at this, fun y r => Or.inr (h.1 _), h.2⟩

theorem Reads.pure {α : Type} (x : α) : Reads (fun b => .ok (x, b)) [] x := ⟨fun r => rfl, fun k h => by simp at h⟩

theorem Reads.bind {α β : Type} {d : List Nat → Except Nat (α × List Nat)} {f : α → List Nat → Except Nat (β × List Nat)} {e e' : List Nat} {x : α} {y : β} (h1 : Reads d e x) (h2 : Reads (f x) e' y) :
    Reads (bindR d f) (e ++ e') y := by
  refine ⟨fun r => ?_, fun k hk => ?_⟩
  · rw [List.append_assoc, bindR_ok (h1.1 _)]
    exact h2.1 r
  · rw [List.take_append]
    rcases Nat.lt_or_ge k e.length with h | h
    · rw [show k - e.length = 0 by omega, List.take_zero, List.append_nil]
      exact bindR_error (h1.2 k h)
    · rw [List.take_of_length_le h, bindR_ok (h1.1 _)]
      exact h2.2 _ (by rw [List.length_append] at hk; omega)

theorem Reads.then {α β : Type} {d : List Nat → Except Nat (α × List Nat)} {f : α → List Nat → Except Nat (β × List Nat)} {e e' : List Nat} {x : α} {y : β} (h1 : Reads d e x) (h2 : Ends (f x) e' y) :
    Ends (bindR d f) (e ++ e') y := by
  refine ⟨?_, fun z r => ?_, fun k hk => ?_⟩
  · rw [bindR_ok (h1.1 _)]
    exact h2.1
  · rw [List.append_assoc, bindR_ok (h1.1 _)]
    exact h2.2.1 z r
  · rw [List.take_append]
    rcases Nat.lt_or_ge k e.length with h | h
    · rw [show k - e.length = 0 by omega, List.take_zero, List.append_nil]
      exact bindR_error (h1.2 k h)
    · rw [List.take_of_length_le h, bindR_ok (h1.1 _)]
      exact h2.2.2 _ (by rw [List.length_append] at hk; omega)

theorem Reads.map {α β : Type} {d : List Nat → Except Nat (α × List Nat)} {e : List Nat} {x : α} (g : α → β) (h : Reads d e x) : Reads (bindR d fun a r => .ok (g a, r)) e (g x) := by
  have := h.bind (f := fun a r => .ok (g a, r)) (e' := []) (y := g x) (Reads.pure (g x))
  rwa [List.append_nil] at this

theorem Ends.map {α β : Type} {d : List Nat → Except Nat (α × List Nat)} {e : List Nat} {x : α} (g : α → β) (h : Ends d e x) : Ends (bindR d fun a r => .ok (g a, r)) e (g x) := by
  refine ⟨by rw [bindR_ok h.1], fun y r => ?_, fun k hk => bindR_error (h.2.2 k hk)⟩
  rcases h.2.1 y r with h1 | h1
  · exact Or.inl (bindR_error h1)
  · exact Or.inr (by rw [bindR_ok h1])

/-- A number is read. -/
def num (b : List Nat) : Except Nat (Nat × List Nat) := if (gt b).2.2 = 0 then .ok ((gt b).1, b.drop (gt b).2.1) else .error (gt b).2.2

theorem num_reads {n : Nat} (hn : n < 18446744073709551616) : Reads num (uv n) n := by
  refine ⟨fun r => ?_, fun k hk => ?_⟩
  · unfold num
    rw [gt_put n hn r, if_pos rfl, List.drop_left]
  · unfold num
    rw [gt_cut n hn k hk, if_neg (by simp)]

def unzig (u : Nat) : Int := if u % 2 = 0 then ((u / 2 : Nat) : Int) else -((u / 2 : Nat) : Int) - 1

theorem unzig_zig (z : Int) : unzig (zigzag z) = z := by
  unfold unzig zigzag
  split <;> split <;> omega

theorem zig_unzig (u : Nat) : zigzag (unzig u) = u := by
  unfold unzig zigzag
  split <;> split <;> omega

/-- A whole number of 64 bits. -/
def I64 (x : Int) : Prop := -9223372036854775808 ≤ x ∧ x ≤ 9223372036854775807

theorem unzig_i64 {u : Nat} (h : u < 18446744073709551616) : I64 (unzig u) := by
  unfold unzig I64
  split <;> omega

/-- A whole number's bytes. -/
def wv (x : Int) : List Nat := uv (zigzag x)

/-- A whole number is read. -/
def wh (b : List Nat) : Except Nat (Int × List Nat) := if (gt b).2.2 = 0 then .ok (unzig (gt b).1, b.drop (gt b).2.1) else .error (gt b).2.2

theorem wh_reads {x : Int} (hx : I64 x) : Reads wh (wv x) x := by
  have hn := zigzag_lt hx.1 hx.2
  refine ⟨fun r => ?_, fun k hk => ?_⟩
  · unfold wh wv
    rw [gt_put _ hn r, if_pos rfl, List.drop_left, unzig_zig]
  · unfold wh
    rw [wv, gt_cut _ hn k hk, if_neg (by simp)]

theorem num_ok {b r : List Nat} {n : Nat} (hb : ∀ x ∈ b, x < 256) (h : num b = .ok (n, r)) : n < 18446744073709551616 ∧ b = uv n ++ r := by
  unfold num at h
  split at h
  · next h0 =>
    simp only [Except.ok.injEq, Prod.mk.injEq] at h
    obtain ⟨h1, h2⟩ := h
    obtain ⟨g1, g2, _⟩ := gt_ok (n := (gt b).1) (u := (gt b).2.1) hb (by rw [← h0])
    rw [h1] at g1 g2
    exact ⟨g1, by rw [← h2]; exact g2⟩
  · simp at h

theorem wh_ok {b r : List Nat} {x : Int} (hb : ∀ x ∈ b, x < 256) (h : wh b = .ok (x, r)) : I64 x ∧ b = wv x ++ r := by
  unfold wh at h
  split at h
  · next h0 =>
    simp only [Except.ok.injEq, Prod.mk.injEq] at h
    obtain ⟨rfl, h2⟩ := h
    obtain ⟨g1, g2, _⟩ := gt_ok (n := (gt b).1) (u := (gt b).2.1) hb (by rw [← h0])
    refine ⟨unzig_i64 g1, ?_⟩
    unfold wv
    rw [zig_unzig, ← h2]
    exact g2
  · simp at h

theorem wv_pos (x : Int) : 0 < (wv x).length := uv_pos _
theorem wv_lt {x : Int} : ∀ y ∈ wv x, y < 256 := uv_lt
theorem wv_ten {x : Int} (h : I64 x) : (wv x).length ≤ 10 := uv_ten (zigzag_lt h.1 h.2)
end Go.Proofs.YtcmmednihoaekaaGreat
set_option linter.unusedVariables false
set_option linter.unusedSimpArgs false
namespace Go.Proofs.YtcmmednihoaekaaGreat
open Go.Lib

/-- Modulo 2^64, as a whole number of 64 bits. -/
def w64 (x : Int) : Int := (x + 9223372036854775808) % 18446744073709551616 - 9223372036854775808

theorem w64_i64 (x : Int) : I64 (w64 x) := by unfold w64 I64; omega
theorem w64_id {x : Int} (h : I64 x) : w64 x = x := by unfold I64 at h; unfold w64; omega
theorem w64_back {x last : Int} (h : I64 x) : w64 (last + w64 (x - last)) = x := by unfold I64 at h; unfold w64; omega

/-- Codec 0. -/
def enc0 : List Int → List Nat
  | [] => []
  | x :: t => wv x ++ enc0 t

def rd0 : Nat → List Nat → Except Nat (List Int × List Nat)
  | 0, b => .ok ([], b)
  | n + 1, b => bindR wh (fun x => bindR (rd0 n) (fun l r => .ok (x :: l, r))) b

theorem reads0 : ∀ {l : List Int}, (∀ x ∈ l, I64 x) → Reads (rd0 l.length) (enc0 l) l
  | [], _ => Reads.pure []
  | x :: t, h => by
    have ht := reads0 (l := t) (fun y hy => h y (by simp [hy]))
    exact (wh_reads (h x (by simp))).bind (f := fun x => bindR (rd0 t.length) (fun l r => .ok (x :: l, r))) (ht.map (x :: ·))

/-- Codec 1, from the number ahead on. -/
def enc1 : Int → List Int → List Nat
  | _, [] => []
  | last, x :: t => wv (w64 (x - last)) ++ enc1 x t

def rd1 : Nat → Int → List Nat → Except Nat (List Int × List Nat)
  | 0, _, b => .ok ([], b)
  | n + 1, last, b => bindR wh (fun d => bindR (rd1 n (w64 (last + d))) (fun l r => .ok (w64 (last + d) :: l, r))) b

theorem reads1 : ∀ {l : List Int} (last : Int), (∀ x ∈ l, I64 x) → Reads (rd1 l.length last) (enc1 last l) l
  | [], _, _ => Reads.pure []
  | x :: t, last, h => by
    have hx := h x (by simp)
    have ht := reads1 (l := t) x (fun y hy => h y (by simp [hy]))
    refine (wh_reads (w64_i64 (x - last))).bind (f := fun d => bindR (rd1 t.length (w64 (last + d))) (fun l r => .ok (w64 (last + d) :: l, r))) ?_
    simp only [w64_back hx]
    exact ht.map (x :: ·)

/-- Codec 2: a run of x that has c numbers yet, and what follows. -/
def enc2c : Int → Nat → List Int → List Nat
  | x, c, [] => wv x ++ uv c
  | x, c, y :: t => if y = x then enc2c x (c + 1) t else wv x ++ uv c ++ enc2c y 1 t

def enc2 : List Int → List Nat
  | [] => []
  | x :: t => enc2c x 1 t

def rd2 : Nat → Nat → List Nat → Except Nat (List Int × List Nat)
  | 0, _, b => .ok ([], b)
  | f + 1, n, b => if n = 0 then .ok ([], b) else bindR wh (fun x => bindR num (fun k => if k = 0 ∨ n < k then (fun _ => .error 40) else bindR (rd2 f (n - k)) (fun l r => .ok (List.replicate k x ++ l, r)))) b

theorem rd2_zero (f : Nat) (b : List Nat) : rd2 f 0 b = .ok ([], b) := by
  cases f with
  | zero => rfl
  | succ f => unfold rd2; rw [if_pos rfl]

theorem reads2c : ∀ {t : List Int} {x : Int} {c f : Nat}, (∀ y ∈ t, I64 y) → I64 x → 1 ≤ c → c + t.length ≤ 1000000 → t.length + 1 ≤ f →
    Reads (rd2 f (c + t.length)) (enc2c x c t) (List.replicate c x ++ t)
  | [], x, c, f, _, hx, hc, hm, hf => by
    obtain ⟨f, rfl⟩ : ∃ g, f = g + 1 := ⟨f - 1, by simp at hf; omega⟩
    have h1 : Reads (fun b => bindR wh (fun x => bindR num (fun k => if k = 0 ∨ c < k then (fun _ => .error 40) else bindR (rd2 f (c - k)) (fun l r => .ok (List.replicate k x ++ l, r)))) b) (wv x ++ uv c) (List.replicate c x ++ []) := by
      refine (wh_reads hx).bind ?_
      have h2 := (num_reads (n := c) (by simp at hm; omega)).bind (f := fun k => if k = 0 ∨ c < k then (fun _ => .error 40) else bindR (rd2 f (c - k)) (fun l r => .ok (List.replicate k x ++ l, r))) (e' := []) (y := List.replicate c x ++ [])
        (by
          rw [if_neg (by omega), Nat.sub_self]
          have h3 : Reads (rd2 f 0) [] [] := ⟨fun r => rd2_zero f _, fun k h => by simp at h⟩
          exact h3.map (List.replicate c x ++ ·))
      rwa [List.append_nil] at h2
    have e : rd2 (f + 1) (c + ([] : List Int).length) = (fun b => bindR wh (fun x => bindR num (fun k => if k = 0 ∨ c < k then (fun _ => .error 40) else bindR (rd2 f (c - k)) (fun l r => .ok (List.replicate k x ++ l, r)))) b) := by
      funext b
      show (if c = 0 then _ else _) = _
      rw [if_neg (by omega)]
      rfl
    rw [e]
    exact h1
  | y :: t, x, c, f, ht, hx, hc, hm, hf => by
    by_cases hxy : y = x
    · subst hxy
      have := reads2c (t := t) (x := y) (c := c + 1) (f := f) (fun z hz => ht z (by simp [hz])) hx (by omega) (by simp at hm; omega) (by simp at hf; omega)
      rw [show enc2c y c (y :: t) = enc2c y (c + 1) t by rw [enc2c, if_pos rfl], show c + (y :: t).length = c + 1 + t.length by simp; omega]
      rw [show List.replicate c y ++ y :: t = List.replicate (c + 1) y ++ t by rw [List.replicate_succ']; simp]
      exact this
    · obtain ⟨f, rfl⟩ : ∃ g, f = g + 1 := ⟨f - 1, by simp at hf; omega⟩
      have ih := reads2c (t := t) (x := y) (c := 1) (f := f) (fun z hz => ht z (by simp [hz])) (ht y (by simp)) (by omega) (by simp at hm; omega) (by simp at hf; omega)
      rw [show enc2c x c (y :: t) = wv x ++ uv c ++ enc2c y 1 t by rw [enc2c, if_neg hxy], List.append_assoc]
      have e : rd2 (f + 1) (c + (y :: t).length) = (fun b => bindR wh (fun x => bindR num (fun k => if k = 0 ∨ c + (y :: t).length < k then (fun _ => .error 40) else bindR (rd2 f (c + (y :: t).length - k)) (fun l r => .ok (List.replicate k x ++ l, r)))) b) := by
        funext b
        rw [rd2, if_neg (by omega)]
      rw [e]
      refine (wh_reads hx).bind ?_
      refine (num_reads (n := c) (by omega)).bind ?_
      rw [if_neg (by omega), show c + (y :: t).length - c = 1 + t.length by simp; omega]
      exact ih.map (List.replicate c x ++ ·)

theorem reads2 {l : List Int} (h : ∀ x ∈ l, I64 x) (hm : l.length ≤ 1000000) : Reads (rd2 l.length l.length) (enc2 l) l := by
  cases l with
  | nil => exact Reads.pure []
  | cons x t =>
    have := reads2c (t := t) (x := x) (c := 1) (f := (x :: t).length) (fun z hz => h z (by simp [hz])) (h x (by simp)) (by omega) (by simp at hm; omega) (by simp)
    rw [show 1 + t.length = (x :: t).length by simp; omega] at this
    exact this
end Go.Proofs.YtcmmednihoaekaaGreat
set_option linter.unusedVariables false
set_option linter.unusedSimpArgs false
namespace Go.Proofs.YtcmmednihoaekaaGreat
open Go.Lib

/-- A number laid among rising ones, if it isn't there. -/
def ins (x : Int) : List Int → List Int
  | [] => [x]
  | y :: t => if x = y then y :: t else if x < y then x :: y :: t else y :: ins x t

/-- The unlike numbers, rising. -/
def uniq (l : List Int) : List Int := l.foldl (fun u x => ins x u) []

def Rising (l : List Int) : Prop := l.Pairwise (· < ·)

theorem mem_ins {x z : Int} : ∀ {u : List Int}, z ∈ ins x u ↔ z = x ∨ z ∈ u
  | [] => by simp [ins]
  | y :: t => by
    have ih := mem_ins (x := x) (z := z) (u := t)
    unfold ins
    split
    · next h =>
      subst h
      simp
    · split
      · simp
      · simp only [List.mem_cons, ih]
        constructor
        · rintro (h | h | h)
          · exact Or.inr (Or.inl h)
          · exact Or.inl h
          · exact Or.inr (Or.inr h)
        · rintro (h | h | h)
          · exact Or.inr (Or.inl h)
          · exact Or.inl h
          · exact Or.inr (Or.inr h)

theorem rising_ins {x : Int} : ∀ {u : List Int}, Rising u → Rising (ins x u)
  | [], _ => by simp [ins, Rising]
  | y :: t, h => by
    have h1 : (∀ z ∈ t, y < z) ∧ Rising t := List.pairwise_cons.1 h
    unfold ins
    split
    · exact h
    · next hne =>
      split
      · next hlt =>
        refine List.pairwise_cons.2 ⟨fun z hz => ?_, h⟩
        rcases List.mem_cons.1 hz with rfl | hz
        · exact hlt
        · exact Int.lt_trans hlt (h1.1 z hz)
      · next hlt =>
        refine List.pairwise_cons.2 ⟨fun z hz => ?_, rising_ins h1.2⟩
        rcases mem_ins.1 hz with rfl | hz
        · omega
        · exact h1.1 z hz

theorem uniq_take_succ {l : List Int} {i : Nat} (h : i < l.length) : uniq (l.take (i + 1)) = ins l[i] (uniq (l.take i)) := by
  unfold uniq
  rw [List.take_succ_eq_append_getElem h, List.foldl_append]
  rfl

theorem uniq_fold : ∀ (l u : List Int), Rising u → Rising (l.foldl (fun u x => ins x u) u) ∧ ∀ z, z ∈ l.foldl (fun u x => ins x u) u ↔ z ∈ u ∨ z ∈ l
  | [], u, h => ⟨h, fun z => by simp⟩
  | x :: t, u, h => by
    obtain ⟨h1, h2⟩ := uniq_fold t (ins x u) (rising_ins h)
    refine ⟨h1, fun z => ?_⟩
    have := h2 z
    rw [mem_ins] at this
    simp only [List.foldl_cons, List.mem_cons]
    rw [this]
    constructor
    · rintro ((h | h) | h)
      · exact Or.inr (Or.inl h)
      · exact Or.inl h
      · exact Or.inr (Or.inr h)
    · rintro (h | h | h)
      · exact Or.inl (Or.inr h)
      · exact Or.inl (Or.inl h)
      · exact Or.inr h

theorem uniq_rising (l : List Int) : Rising (uniq l) := (uniq_fold l [] List.Pairwise.nil).1
theorem mem_uniq {l : List Int} {z : Int} : z ∈ uniq l ↔ z ∈ l := by
  have := (uniq_fold l [] List.Pairwise.nil).2 z
  unfold uniq
  rw [this]
  simp

theorem ins_length {x : Int} : ∀ {u : List Int}, (ins x u).length ≤ u.length + 1
  | [] => by simp [ins]
  | y :: t => by
    have := ins_length (x := x) (u := t)
    unfold ins
    split
    · simp
    · split
      · simp
      · simp; omega

theorem uniq_fold_length : ∀ (l u : List Int), (l.foldl (fun u x => ins x u) u).length ≤ u.length + l.length
  | [], u => by simp
  | x :: t, u => by
    have h1 := uniq_fold_length t (ins x u)
    have h2 := ins_length (x := x) (u := u)
    simp only [List.foldl_cons, List.length_cons]
    omega

theorem uniq_length (l : List Int) : (uniq l).length ≤ l.length := by
  have := uniq_fold_length l []
  unfold uniq
  simpa using this

theorem uniq_pos {l : List Int} (h : 0 < l.length) : 0 < (uniq l).length := by
  have : l[0] ∈ uniq l := mem_uniq.2 (List.getElem_mem h)
  exact List.length_pos_of_mem this

theorem uniq_i64 {l : List Int} (h : ∀ x ∈ l, I64 x) : ∀ x ∈ uniq l, I64 x := fun x hx => h x (mem_uniq.1 hx)

/-- The place of a number. -/
def pl : List Int → Int → Nat
  | [], _ => 0
  | y :: t, x => if y = x then 0 else pl t x + 1

theorem pl_get {x : Int} : ∀ {u : List Int}, x ∈ u → pl u x < u.length ∧ u[pl u x]? = some x
  | y :: t, h => by
    unfold pl
    split
    · next e => subst e; simp
    · next hne =>
      have ht : x ∈ t := by
        rcases List.mem_cons.1 h with rfl | h
        · exact absurd rfl hne
        · exact h
      obtain ⟨h1, h2⟩ := pl_get ht
      simp only [List.length_cons, List.getElem?_cons_succ]
      exact ⟨by omega, h2⟩

theorem pl_at : ∀ {u : List Int} {i : Nat} (h : i < u.length), Rising u → pl u u[i] = i
  | y :: t, 0, _, _ => by simp [pl]
  | y :: t, i + 1, h, hr => by
    have hi : i < t.length := by simpa using h
    have h1 : (∀ z ∈ t, y < z) ∧ Rising t := List.pairwise_cons.1 hr
    have h2 := h1.1 t[i] (List.getElem_mem hi)
    show pl (y :: t) t[i] = i + 1
    unfold pl
    rw [if_neg (by omega), pl_at hi h1.2]

/-- The places of a list's numbers. -/
def places (l : List Int) : List Nat := l.map (pl (uniq l))

theorem places_length (l : List Int) : (places l).length = l.length := List.length_map _

theorem places_lt {l : List Int} : ∀ p ∈ places l, p < (uniq l).length := by
  intro p hp
  obtain ⟨x, hx, rfl⟩ := List.mem_map.1 hp
  exact (pl_get (mem_uniq.2 hx)).1

/-- The greatest place is there. -/
theorem places_top {l : List Int} (h : 0 < l.length) : (uniq l).length - 1 ∈ places l := by
  have hu := uniq_pos h
  have hi : (uniq l).length - 1 < (uniq l).length := by omega
  refine List.mem_map.2 ⟨(uniq l)[(uniq l).length - 1], mem_uniq.1 (List.getElem_mem hi), ?_⟩
  exact pl_at hi (uniq_rising l)

theorem places_wd {l : List Int} (h : 0 < l.length) : wd (places l) = blen ((uniq l).length - 1) := by
  have hu := uniq_pos h
  have e : ∀ w, wd (places l) ≤ w ↔ blen ((uniq l).length - 1) ≤ w := fun w => by
    rw [wd_le, blen_le]
    constructor
    · intro h1
      exact h1 _ (places_top h)
    · intro h1 p hp
      have := places_lt p hp
      omega
  have h1 := (e _).1 (Nat.le_refl _)
  have h2 := (e _).2 (Nat.le_refl _)
  omega

theorem places_back (l : List Int) : (places l).map (fun q => (uniq l).getD q 0) = l := by
  unfold places
  rw [List.map_map]
  conv => rhs; rw [← List.map_id l]
  apply List.map_congr_left
  intro x hx
  have := (pl_get (mem_uniq.2 hx)).2
  simp [List.getD_eq_getElem?_getD, this]

/-- The least number. -/
def least (l : List Int) : Int := (uniq l).headD 0

theorem least_mem {l : List Int} (h : 0 < l.length) : least l ∈ l := by
  have hu := uniq_pos h
  unfold least
  cases hq : uniq l with
  | nil => rw [hq] at hu; simp at hu
  | cons y t =>
    have : y ∈ uniq l := by rw [hq]; simp
    exact mem_uniq.1 this

theorem least_le {l : List Int} : ∀ x ∈ l, least l ≤ x := by
  intro x hx
  have h1 := mem_uniq.2 hx
  have h2 := uniq_rising l
  unfold least
  cases hq : uniq l with
  | nil => rw [hq] at h1; simp at h1
  | cons y t =>
    rw [hq] at h1 h2
    have h3 : (∀ z ∈ t, y < z) ∧ Rising t := List.pairwise_cons.1 h2
    rcases List.mem_cons.1 h1 with rfl | h1
    · exact Int.le_refl _
    · exact Int.le_of_lt (h3.1 x h1)

/-- The numbers less the least one. -/
def mores (l : List Int) : List Nat := l.map fun x => (x - least l).toNat

theorem mores_length (l : List Int) : (mores l).length = l.length := List.length_map _

theorem mores_lt {l : List Int} (h : ∀ x ∈ l, I64 x) : ∀ p ∈ mores l, p < 18446744073709551616 := by
  intro p hp
  obtain ⟨x, hx, rfl⟩ := List.mem_map.1 hp
  have h1 := h x hx
  have h2 := h _ (least_mem (List.length_pos_of_mem hx))
  have h3 := least_le x hx
  unfold I64 at h1 h2
  omega

theorem mores_back {l : List Int} (h : ∀ x ∈ l, I64 x) : (mores l).map (fun (q : Nat) => w64 (least l + (q : Int))) = l := by
  unfold mores
  rw [List.map_map]
  conv => rhs; rw [← List.map_id l]
  apply List.map_congr_left
  intro x hx
  have h1 := h x hx
  have h3 := least_le x hx
  simp only [Function.comp, id]
  rw [show least l + ((x - least l).toNat : Int) = x by omega]
  exact w64_id h1
end Go.Proofs.YtcmmednihoaekaaGreat
set_option linter.unusedVariables false
set_option linter.unusedSimpArgs false
namespace Go.Proofs.YtcmmednihoaekaaGreat
open Go.Lib

/-- Packed numbers that must be all that is left. -/
def pkd (n w : Nat) (b : List Nat) : Except Nat (List Nat × List Nat) :=
  if b.length < by8 (n * w) then .error 30
  else if by8 (n * w) < b.length then .error 32
  else if unE b n w = 0 then .ok (unR b n w, []) else .error (unE b n w)

theorem can_of {p : List Nat} {w : Nat} (hl : p.length ≤ 256) (hw : w ≤ 64) (hp : wd p ≤ w) : can p w = true := by
  unfold can
  exact decide_eq_true ⟨by omega, by omega, hl, by omega⟩

theorem packR_length {p : List Nat} {w : Nat} (h : can p w = true) : (packR p w).length = by8 (p.length * w) := by
  unfold packR
  rw [if_pos h, dig_length]
  rfl

theorem pkd_ends {p : List Nat} {w : Nat} (hl : p.length ≤ 256) (hw : w ≤ 64) (hp : wd p ≤ w) : Ends (pkd p.length w) (packR p w) p := by
  have hcan := can_of hl hw hp
  have hlen := packR_length hcan
  obtain ⟨h1, h2⟩ := back_one hcan
  refine ⟨?_, fun y r => Or.inl ?_, fun k hk => ?_⟩
  · unfold pkd
    rw [if_neg (by omega), if_neg (by omega), if_pos h1, h2]
  · unfold pkd
    rw [if_neg (by simp; omega), if_pos (by simp; omega)]
  · unfold pkd
    rw [if_pos (by rw [List.length_take]; omega)]

/-- Rising numbers behind the first one. -/
def encD : Int → List Int → List Nat
  | _, [] => []
  | last, y :: t => uv (y - last).toNat ++ encD y t

def encU : List Int → List Nat
  | [] => []
  | x :: t => wv x ++ encD x t

def rdU : Nat → Int → List Nat → Except Nat (List Int × List Nat)
  | 0, _, b => .ok ([], b)
  | m + 1, last, b => bindR num (fun (d : Nat) => if d = 0 ∨ 9223372036854775807 - last < (d : Int) then (fun _ => .error 40) else bindR (rdU m (last + d)) (fun l r => .ok ((last + d) :: l, r))) b

theorem readsU : ∀ {t : List Int} {last : Int}, Rising (last :: t) → I64 last → (∀ x ∈ t, I64 x) → Reads (rdU t.length last) (encD last t) t
  | [], _, _, _, _ => Reads.pure []
  | y :: t, last, hr, hl, ht => by
    have h1 : (∀ z ∈ y :: t, last < z) ∧ Rising (y :: t) := List.pairwise_cons.1 hr
    have hy := h1.1 y (by simp)
    have hyi := ht y (by simp)
    have ih := readsU (t := t) (last := y) h1.2 hyi (fun x hx => ht x (by simp [hx]))
    unfold I64 at hl hyi
    refine (num_reads (n := (y - last).toNat) (by omega)).bind (f := fun (d : Nat) => if d = 0 ∨ 9223372036854775807 - last < (d : Int) then (fun _ => .error 40) else bindR (rdU t.length (last + d)) (fun l r => .ok ((last + d) :: l, r))) ?_
    rw [if_neg (by omega), show last + ((y - last).toNat : Int) = y by omega]
    exact ih.map (y :: ·)

/-- Codec 3. -/
def enc3 (l : List Int) : List Nat := uv (uniq l).length ++ (encU (uniq l) ++ packR (places l) (wd (places l) : Int))

/-- The numbers whose places these are. -/
def picked (u : List Int) (p r : List Nat) : Except Nat (List Int × List Nat) := if ∀ q ∈ p, q < u.length then .ok (p.map (fun q => u.getD q 0), r) else .error 40

def rd3 (n : Nat) (b : List Nat) : Except Nat (List Int × List Nat) :=
  bindR num (fun many => if n < many ∨ many = 0 ∧ 0 < n then (fun _ => .error 40) else if n = 0 then (fun r => .ok ([], r)) else
    bindR wh (fun x => bindR (rdU (many - 1) x) (fun u => bindR (pkd n (blen (many - 1))) (fun p r => picked (x :: u) p r)))) b

theorem Ends.picked {d : List Nat → Except Nat (List Nat × List Nat)} {e p : List Nat} {u : List Int} (h : Ends d e p) (hp : ∀ q ∈ p, q < u.length) : Ends (bindR d (picked u)) e (p.map fun q => u.getD q 0) := by
  have hk : ∀ r, YtcmmednihoaekaaGreat.picked u p r = .ok (p.map (fun q => u.getD q 0), r) := fun r => by unfold YtcmmednihoaekaaGreat.picked; rw [if_pos hp]
  refine ⟨by rw [bindR_ok h.1, hk], fun y r => ?_, fun k hk => bindR_error (h.2.2 k hk)⟩
  rcases h.2.1 y r with h1 | h1
  · exact Or.inl (bindR_error h1)
  · exact Or.inr (by rw [bindR_ok h1, hk])

theorem wd_places64 {l : List Int} (hm : l.length ≤ 256) : wd (places l) ≤ 64 := by
  refine wd_le.2 (fun p hp => ?_)
  have := places_lt p hp
  have := uniq_length l
  have : p < 256 := by omega
  exact Nat.lt_of_lt_of_le this (by decide)

theorem ends3 {l : List Int} (h : ∀ x ∈ l, I64 x) (hm : l.length ≤ 256) : Ends (rd3 l.length) (enc3 l) l := by
  have hul := uniq_length l
  have hpl := places_length l
  have hwp := wd_places64 hm
  have hnum := num_reads (n := (uniq l).length) (by omega)
  refine hnum.then ?_
  rcases Nat.eq_zero_or_pos l.length with h0 | h0
  · obtain rfl : l = [] := List.eq_nil_of_length_eq_zero h0
    rw [if_neg (by simp [uniq]), if_pos (show ([] : List Int).length = 0 from rfl)]
    have e : encU (uniq []) ++ packR (places []) (wd (places []) : Int) = [] := by
      have : packR (places []) (wd (places []) : Int) = [] := by
        have hc := can_of (p := places []) (w := wd (places [])) (by simp [places]) hwp (Nat.le_refl _)
        have h1 := packR_length hc
        refine List.eq_nil_of_length_eq_zero (h1.trans ?_)
        simp [places, by8]
      rw [this]
      simp [uniq, encU]
    rw [e]
    exact (Reads.pure []).ends
  · have hup := uniq_pos h0
    rw [if_neg (by omega), if_neg (by omega)]
    have hr := uniq_rising l
    have hi := uniq_i64 h
    have hb := places_back l
    have hlt := places_lt (l := l)
    have hwd := places_wd h0
    generalize places l = p at *
    cases hu : uniq l with
    | nil => rw [hu] at hup; simp at hup
    | cons x t =>
      rw [hu] at hr hi hb hlt hwd
      have hkd := pkd_ends (p := p) (w := wd p) (by omega) hwp (Nat.le_refl _)
      rw [hpl] at hkd
      rw [show encU (x :: t) = wv x ++ encD x t from rfl, List.append_assoc]
      refine (wh_reads (hi x (by simp))).then ?_
      refine (readsU hr (hi x (by simp)) (fun z hz => hi z (by simp [hz]))).then (f := fun u => bindR (pkd l.length (blen ((x :: t).length - 1))) (fun p r => picked (x :: u) p r)) ?_
      rw [← hwd]
      have := hkd.picked (u := x :: t) hlt
      rw [hb] at this
      exact this

/-- Codec 4. -/
def enc4 (l : List Int) : List Nat := if l.length = 0 then [] else wv (least l) ++ (uv (wd (mores l)) ++ packR (mores l) (wd (mores l) : Int))

def rd4 (n : Nat) (b : List Nat) : Except Nat (List Int × List Nat) :=
  if n = 0 then .ok ([], b) else
    bindR wh (fun x => bindR num (fun w => if 64 < w then (fun _ => .error 40) else bindR (pkd n w) (fun p r => .ok (p.map (fun (q : Nat) => w64 (x + (q : Int))), r)))) b

theorem ends4 {l : List Int} (h : ∀ x ∈ l, I64 x) (hm : l.length ≤ 256) : Ends (rd4 l.length) (enc4 l) l := by
  rcases Nat.eq_zero_or_pos l.length with h0 | h0
  · obtain rfl : l = [] := List.eq_nil_of_length_eq_zero h0
    exact (Reads.pure ([] : List Int)).ends
  · have hml := mores_length l
    have hw := wd64 (mores_lt h)
    have hkd := pkd_ends (p := mores l) (w := wd (mores l)) (by omega) hw (Nat.le_refl _)
    rw [hml] at hkd
    have hk2 := hkd.map (fun p => p.map (fun (q : Nat) => w64 (least l + (q : Int))))
    rw [mores_back h] at hk2
    have hnum : Ends (bindR num (fun w => if 64 < w then (fun _ => .error 40) else bindR (pkd l.length w) (fun p r => .ok (p.map (fun (q : Nat) => w64 (least l + (q : Int))), r)))) (uv (wd (mores l)) ++ packR (mores l) (wd (mores l) : Int)) l := by
      refine (num_reads (n := wd (mores l)) (by omega)).then ?_
      rw [if_neg (by omega)]
      exact hk2
    have hall := (wh_reads (h _ (least_mem h0))).then (f := fun x => bindR num (fun w => if 64 < w then (fun _ => .error 40) else bindR (pkd l.length w) (fun p r => .ok (p.map (fun (q : Nat) => w64 (x + (q : Int))), r)))) hnum
    have e1 : enc4 l = wv (least l) ++ (uv (wd (mores l)) ++ packR (mores l) (wd (mores l) : Int)) := by unfold enc4; rw [if_neg (by omega)]
    have e2 : rd4 l.length = bindR wh (fun x => bindR num (fun w => if 64 < w then (fun _ => .error 40) else bindR (pkd l.length w) (fun p r => .ok (p.map (fun (q : Nat) => w64 (x + (q : Int))), r)))) := by
      funext b
      unfold rd4
      rw [if_neg (by omega)]
    rw [e1, e2]
    exact hall

/-- The bytes of a codec. -/
def encC (c : Nat) (l : List Int) : List Nat :=
  match c with
  | 0 => enc0 l
  | 1 => enc1 0 l
  | 2 => enc2 l
  | 3 => enc3 l
  | _ => enc4 l

/-- A list of n numbers by a codec. -/
def rdC (c n : Nat) : List Nat → Except Nat (List Int × List Nat) :=
  match c with
  | 0 => rd0 n
  | 1 => rd1 n 0
  | 2 => rd2 n n
  | 3 => rd3 n
  | _ => rd4 n

theorem endsC (c : Nat) {l : List Int} (h : ∀ x ∈ l, I64 x) (hm : l.length ≤ 256) : Ends (rdC c l.length) (encC c l) l := by
  unfold rdC encC
  split
  · exact (reads0 h).ends
  · exact (reads1 0 h).ends
  · exact (reads2 h (by omega)).ends
  · exact ends3 h hm
  · exact ends4 h hm

/-- All that is read, by a codec: nothing left, and written so again. -/
def rdAll (c n : Nat) (b : List Nat) : Except Nat (List Int) :=
  match rdC c n b with
  | .error e => .error e
  | .ok (l, r) => if r.length = 0 then (if encC c l = b then .ok l else .error 40) else .error 32

/-- The document's Read: the numbers, and the error's number. -/
def readM (b : List Nat) (n : Int) : List Int × Nat :=
  if 0 ≤ n ∧ n ≤ 256 then
    match b with
    | [] => ([], 30)
    | c :: t => if 4 < c then ([], 50) else match rdAll c n.toNat t with
      | .ok l => (l, 0)
      | .error e => ([], e)
  else ([], 1)

theorem rdAll_back (c : Nat) {l : List Int} (h : ∀ x ∈ l, I64 x) (hm : l.length ≤ 256) : rdAll c l.length (encC c l) = .ok l := by
  unfold rdAll
  rw [(endsC c h hm).1]
  simp

theorem rdAll_more (c : Nat) {l : List Int} (h : ∀ x ∈ l, I64 x) (hm : l.length ≤ 256) (y : Nat) (r : List Nat) : rdAll c l.length (encC c l ++ y :: r) = .error 32 := by
  unfold rdAll
  rcases (endsC c h hm).2.1 y r with h1 | h1
  · rw [h1]
  · rw [h1]
    simp

theorem rdAll_cut (c : Nat) {l : List Int} (h : ∀ x ∈ l, I64 x) (hm : l.length ≤ 256) (k : Nat) (hk : k < (encC c l).length) : rdAll c l.length ((encC c l).take k) = .error 30 := by
  unfold rdAll
  rw [(endsC c h hm).2.2 k hk]

theorem readM_back {c : Nat} (hc : c ≤ 4) {l : List Int} (h : ∀ x ∈ l, I64 x) (hm : l.length ≤ 256) : readM (c :: encC c l) l.length = (l, 0) := by
  unfold readM
  rw [if_pos (by omega)]
  simp only [Int.toNat_natCast]
  rw [if_neg (by omega), rdAll_back c h hm]

theorem readM_more {c : Nat} (hc : c ≤ 4) {l : List Int} (h : ∀ x ∈ l, I64 x) (hm : l.length ≤ 256) (y : Nat) (r : List Nat) : readM (c :: encC c l ++ y :: r) l.length = ([], 32) := by
  unfold readM
  rw [if_pos (by omega)]
  simp only [Int.toNat_natCast, List.cons_append]
  rw [if_neg (by omega), rdAll_more c h hm]

theorem readM_cut {c : Nat} (hc : c ≤ 4) {l : List Int} (h : ∀ x ∈ l, I64 x) (hm : l.length ≤ 256) (k : Nat) (hk : k < (c :: encC c l).length) : readM ((c :: encC c l).take k) l.length = ([], 30) := by
  unfold readM
  rw [if_pos (by omega)]
  cases k with
  | zero => rfl
  | succ k =>
    simp only [Int.toNat_natCast, List.take_succ_cons]
    rw [if_neg (by omega), rdAll_cut c h hm k (by simpa using hk)]
end Go.Proofs.YtcmmednihoaekaaGreat
set_option linter.unusedVariables false
set_option linter.unusedSimpArgs false
namespace Go.Proofs.YtcmmednihoaekaaGreat
open Go.Lib

theorem bindR_inv {α β : Type} {d : List Nat → Except Nat (α × List Nat)} {f : α → List Nat → Except Nat (β × List Nat)} {b r : List Nat} {y : β} (h : bindR d f b = .ok (y, r)) :
    ∃ x q, d b = .ok (x, q) ∧ f x q = .ok (y, r) := by
  unfold bindR at h
  split at h
  · next x q e => exact ⟨x, q, e, h⟩
  · simp at h

/-- Bytes. -/
def Bs (b : List Nat) : Prop := ∀ x ∈ b, x < 256

theorem Bs.right {a b : List Nat} (h : Bs (a ++ b)) : Bs b := fun x hx => h x (List.mem_append.2 (Or.inr hx))

theorem num_inv {b r : List Nat} {n : Nat} (hb : Bs b) (h : num b = .ok (n, r)) : n < 18446744073709551616 ∧ Bs r := by
  obtain ⟨h1, h2⟩ := num_ok hb h
  exact ⟨h1, by rw [h2] at hb; exact hb.right⟩

theorem wh_inv {b r : List Nat} {x : Int} (hb : Bs b) (h : wh b = .ok (x, r)) : I64 x ∧ Bs r := by
  obtain ⟨h1, h2⟩ := wh_ok hb h
  exact ⟨h1, by rw [h2] at hb; exact hb.right⟩

def Is (l : List Int) : Prop := ∀ x ∈ l, I64 x

theorem Is.cons {x : Int} {l : List Int} (h : I64 x) (hl : Is l) : Is (x :: l) := fun y hy => by
  rcases List.mem_cons.1 hy with rfl | hy
  · exact h
  · exact hl y hy

theorem rd0_inv : ∀ {n : Nat} {b r : List Nat} {l : List Int}, Bs b → rd0 n b = .ok (l, r) → l.length = n ∧ Is l ∧ Bs r
  | 0, b, r, l, hb, h => by
    simp only [rd0, Except.ok.injEq, Prod.mk.injEq] at h
    obtain ⟨rfl, rfl⟩ := h
    exact ⟨rfl, fun x hx => by simp at hx, hb⟩
  | n + 1, b, r, l, hb, h => by
    rw [rd0] at h
    obtain ⟨x, q, h1, h2⟩ := bindR_inv h
    obtain ⟨m, q2, h3, h4⟩ := bindR_inv h2
    obtain ⟨i1, i2⟩ := wh_inv hb h1
    obtain ⟨j1, j2, j3⟩ := rd0_inv i2 h3
    simp only [Except.ok.injEq, Prod.mk.injEq] at h4
    obtain ⟨rfl, rfl⟩ := h4
    exact ⟨by simp [j1], j2.cons i1, j3⟩

theorem rd1_inv : ∀ {n : Nat} {last : Int} {b r : List Nat} {l : List Int}, Bs b → rd1 n last b = .ok (l, r) → l.length = n ∧ Is l ∧ Bs r
  | 0, last, b, r, l, hb, h => by
    simp only [rd1, Except.ok.injEq, Prod.mk.injEq] at h
    obtain ⟨rfl, rfl⟩ := h
    exact ⟨rfl, fun x hx => by simp at hx, hb⟩
  | n + 1, last, b, r, l, hb, h => by
    rw [rd1] at h
    obtain ⟨x, q, h1, h2⟩ := bindR_inv h
    obtain ⟨m, q2, h3, h4⟩ := bindR_inv h2
    obtain ⟨i1, i2⟩ := wh_inv hb h1
    obtain ⟨j1, j2, j3⟩ := rd1_inv i2 h3
    simp only [Except.ok.injEq, Prod.mk.injEq] at h4
    obtain ⟨rfl, rfl⟩ := h4
    exact ⟨by simp [j1], j2.cons (w64_i64 _), j3⟩

theorem rd2_inv : ∀ {f n : Nat} {b r : List Nat} {l : List Int}, n ≤ f → Bs b → rd2 f n b = .ok (l, r) → l.length = n ∧ Is l ∧ Bs r
  | 0, n, b, r, l, hf, hb, h => by
    simp only [rd2, Except.ok.injEq, Prod.mk.injEq] at h
    obtain ⟨rfl, rfl⟩ := h
    exact ⟨by simp; omega, fun x hx => by simp at hx, hb⟩
  | f + 1, n, b, r, l, hf, hb, h => by
    rw [rd2] at h
    split at h
    · simp only [Except.ok.injEq, Prod.mk.injEq] at h
      obtain ⟨rfl, rfl⟩ := h
      exact ⟨by simp; omega, fun x hx => by simp at hx, hb⟩
    · obtain ⟨x, q, h1, h2⟩ := bindR_inv h
      obtain ⟨i1, i2⟩ := wh_inv hb h1
      obtain ⟨k, q2, h3, h4⟩ := bindR_inv h2
      obtain ⟨_, i3⟩ := num_inv i2 h3
      split at h4
      · simp at h4
      · obtain ⟨m, q3, h5, h6⟩ := bindR_inv h4
        obtain ⟨j1, j2, j3⟩ := rd2_inv (by omega) i3 h5
        simp only [Except.ok.injEq, Prod.mk.injEq] at h6
        obtain ⟨rfl, rfl⟩ := h6
        refine ⟨by simp [j1]; omega, fun y hy => ?_, j3⟩
        rcases List.mem_append.1 hy with hy | hy
        · rw [List.eq_of_mem_replicate hy]; exact i1
        · exact j2 y hy

theorem rdU_inv : ∀ {m : Nat} {last : Int} {b r : List Nat} {l : List Int}, I64 last → Bs b → rdU m last b = .ok (l, r) → l.length = m ∧ Is l ∧ Bs r
  | 0, last, b, r, l, hl, hb, h => by
    simp only [rdU, Except.ok.injEq, Prod.mk.injEq] at h
    obtain ⟨rfl, rfl⟩ := h
    exact ⟨rfl, fun x hx => by simp at hx, hb⟩
  | m + 1, last, b, r, l, hl, hb, h => by
    rw [rdU] at h
    obtain ⟨d, q, h1, h2⟩ := bindR_inv h
    obtain ⟨_, i2⟩ := num_inv hb h1
    split at h2
    · simp at h2
    · next hd =>
      have hi : I64 (last + d) := by unfold I64 at hl ⊢; omega
      obtain ⟨m', q2, h3, h4⟩ := bindR_inv h2
      obtain ⟨j1, j2, j3⟩ := rdU_inv hi i2 h3
      simp only [Except.ok.injEq, Prod.mk.injEq] at h4
      obtain ⟨rfl, rfl⟩ := h4
      exact ⟨by simp [j1], j2.cons hi, j3⟩

theorem pkd_inv {n w : Nat} {b r p : List Nat} (h : pkd n w b = .ok (p, r)) : p.length = n ∧ r = [] := by
  unfold pkd at h
  split at h
  · simp at h
  · split at h
    · simp at h
    · split at h
      · next hE =>
        simp only [Except.ok.injEq, Prod.mk.injEq] at h
        obtain ⟨rfl, rfl⟩ := h
        refine ⟨?_, rfl⟩
        rw [unR, if_pos hE, dig_length]
        rfl
      · simp at h

theorem rd3_inv {n : Nat} {b r : List Nat} {l : List Int} (hb : Bs b) (h : rd3 n b = .ok (l, r)) : l.length = n ∧ Is l ∧ Bs r := by
  unfold rd3 at h
  obtain ⟨many, q, h1, h2⟩ := bindR_inv h
  obtain ⟨_, i2⟩ := num_inv hb h1
  split at h2
  · simp at h2
  · split at h2
    · simp only [Except.ok.injEq, Prod.mk.injEq] at h2
      obtain ⟨rfl, rfl⟩ := h2
      exact ⟨by simp; omega, fun x hx => by simp at hx, i2⟩
    · obtain ⟨x, q2, h3, h4⟩ := bindR_inv h2
      obtain ⟨i3, i4⟩ := wh_inv i2 h3
      obtain ⟨u, q3, h5, h6⟩ := bindR_inv h4
      obtain ⟨j1, j2, j3⟩ := rdU_inv i3 i4 h5
      obtain ⟨p, q4, h7, h8⟩ := bindR_inv h6
      obtain ⟨k1, rfl⟩ := pkd_inv h7
      unfold picked at h8
      split at h8
      · next hp =>
        simp only [Except.ok.injEq, Prod.mk.injEq] at h8
        obtain ⟨rfl, rfl⟩ := h8
        refine ⟨by simp [k1], fun y hy => ?_, fun y hy => by simp at hy⟩
        obtain ⟨z, hz, rfl⟩ := List.mem_map.1 hy
        have hlt := hp z hz
        rw [List.getD_eq_getElem?_getD, List.getElem?_eq_getElem hlt]
        exact (j2.cons i3) _ (List.getElem_mem hlt)
      · simp at h8

theorem rd4_inv {n : Nat} {b r : List Nat} {l : List Int} (hb : Bs b) (h : rd4 n b = .ok (l, r)) : l.length = n ∧ Is l ∧ Bs r := by
  unfold rd4 at h
  split at h
  · simp only [Except.ok.injEq, Prod.mk.injEq] at h
    obtain ⟨rfl, rfl⟩ := h
    exact ⟨by simp; omega, fun x hx => by simp at hx, hb⟩
  · obtain ⟨x, q, h1, h2⟩ := bindR_inv h
    obtain ⟨i1, i2⟩ := wh_inv hb h1
    obtain ⟨w, q2, h3, h4⟩ := bindR_inv h2
    split at h4
    · simp at h4
    · obtain ⟨p, q3, h5, h6⟩ := bindR_inv h4
      obtain ⟨k1, rfl⟩ := pkd_inv h5
      simp only [Except.ok.injEq, Prod.mk.injEq] at h6
      obtain ⟨rfl, rfl⟩ := h6
      refine ⟨by simp [k1], fun y hy => ?_, fun y hy => by simp at hy⟩
      obtain ⟨z, _, rfl⟩ := List.mem_map.1 hy
      exact w64_i64 _

theorem rdC_inv {c n : Nat} {b r : List Nat} {l : List Int} (hb : Bs b) (h : rdC c n b = .ok (l, r)) : l.length = n ∧ Is l ∧ Bs r := by
  unfold rdC at h
  split at h
  · exact rd0_inv hb h
  · exact rd1_inv hb h
  · exact rd2_inv (Nat.le_refl _) hb h
  · exact rd3_inv hb h
  · exact rd4_inv hb h

theorem rdAll_inv {c n : Nat} {b : List Nat} {l : List Int} (hb : Bs b) (h : rdAll c n b = .ok l) : l.length = n ∧ Is l ∧ encC c l = b := by
  unfold rdAll at h
  split at h
  · simp at h
  · next l' r e =>
    split at h
    · split at h
      · next h2 =>
        simp only [Except.ok.injEq] at h
        subst h
        obtain ⟨h3, h4, _⟩ := rdC_inv hb e
        exact ⟨h3, h4, h2⟩
      · simp at h
    · simp at h

theorem bindR_nz {α β : Type} {d : List Nat → Except Nat (α × List Nat)} {f : α → List Nat → Except Nat (β × List Nat)} (h1 : ∀ b, d b ≠ .error 0) (h2 : ∀ x b, f x b ≠ .error 0) (b : List Nat) : bindR d f b ≠ .error 0 := by
  unfold bindR
  split
  · exact h2 _ _
  · next e he =>
    intro h
    simp only [Except.error.injEq] at h
    subst h
    exact h1 b he

theorem num_nz (b : List Nat) : num b ≠ .error 0 := by
  unfold num
  split
  · simp
  · next h => intro e; simp only [Except.error.injEq] at e; exact h e

theorem wh_nz (b : List Nat) : wh b ≠ .error 0 := by
  unfold wh
  split
  · simp
  · next h => intro e; simp only [Except.error.injEq] at e; exact h e

theorem pkd_nz (n w : Nat) (b : List Nat) : pkd n w b ≠ .error 0 := by
  unfold pkd
  split
  · simp
  · split
    · simp
    · split
      · simp
      · next h => intro e; simp only [Except.error.injEq] at e; exact h e

theorem rd0_nz : ∀ (n : Nat) (b : List Nat), rd0 n b ≠ .error 0
  | 0, b => by simp [rd0]
  | n + 1, b => bindR_nz wh_nz (fun x => bindR_nz (rd0_nz n) (fun l r => by simp)) b

theorem rd1_nz : ∀ (n : Nat) (last : Int) (b : List Nat), rd1 n last b ≠ .error 0
  | 0, last, b => by simp [rd1]
  | n + 1, last, b => bindR_nz wh_nz (fun d => bindR_nz (rd1_nz n _) (fun l r => by simp)) b

theorem rd2_nz : ∀ (f n : Nat) (b : List Nat), rd2 f n b ≠ .error 0
  | 0, n, b => by simp [rd2]
  | f + 1, n, b => by
    rw [rd2]
    split
    · simp
    · refine bindR_nz wh_nz (fun x => bindR_nz num_nz (fun k q => ?_)) b
      split
      · simp
      · exact bindR_nz (rd2_nz f _) (fun l r => by simp) q

theorem rdU_nz : ∀ (m : Nat) (last : Int) (b : List Nat), rdU m last b ≠ .error 0
  | 0, last, b => by simp [rdU]
  | m + 1, last, b => by
    rw [rdU]
    refine bindR_nz num_nz (fun d q => ?_) b
    split
    · simp
    · exact bindR_nz (rdU_nz m _) (fun l r => by simp) q

theorem rd3_nz (n : Nat) (b : List Nat) : rd3 n b ≠ .error 0 := by
  unfold rd3
  refine bindR_nz num_nz (fun many q => ?_) b
  split
  · simp
  · split
    · simp
    · refine bindR_nz wh_nz (fun x => bindR_nz (rdU_nz _ _) (fun u => bindR_nz (pkd_nz _ _) (fun p r => ?_))) q
      unfold picked
      split <;> simp

theorem rd4_nz (n : Nat) (b : List Nat) : rd4 n b ≠ .error 0 := by
  unfold rd4
  split
  · simp
  · refine bindR_nz wh_nz (fun x => bindR_nz num_nz (fun w q => ?_)) b
    split
    · simp
    · exact bindR_nz (pkd_nz _ _) (fun p r => by simp) q

theorem rdC_nz (c n : Nat) (b : List Nat) : rdC c n b ≠ .error 0 := by
  unfold rdC
  split
  · exact rd0_nz n b
  · exact rd1_nz n 0 b
  · exact rd2_nz n n b
  · exact rd3_nz n b
  · exact rd4_nz n b

theorem rdAll_nz (c n : Nat) (b : List Nat) : rdAll c n b ≠ .error 0 := by
  unfold rdAll
  split
  · next e he =>
    intro h
    simp only [Except.error.injEq] at h
    subst h
    exact rdC_nz c n b he
  · split
    · split <;> simp
    · simp

/-- What was read, as a whole. -/
theorem readM_inv {b : List Nat} {n : Int} {l : List Int} (hb : Bs b) (h : readM b n = (l, 0)) : 0 ≤ n ∧ n ≤ 256 ∧ ∃ c t, b = c :: t ∧ c ≤ 4 ∧ (l.length : Int) = n ∧ Is l ∧ encC c l = t := by
  unfold readM at h
  split at h
  · next hn =>
    refine ⟨hn.1, hn.2, ?_⟩
    split at h
    · simp at h
    · next c t =>
      split at h
      · simp at h
      · next hc =>
        split at h
        · next l' e =>
          simp only [Prod.mk.injEq, and_true] at h
          subst h
          obtain ⟨h1, h2, h3⟩ := rdAll_inv (fun x hx => hb x (by simp [hx])) e
          exact ⟨c, t, rfl, by omega, by omega, h2, h3⟩
        · next e he =>
          simp only [Prod.mk.injEq] at h
          rw [h.2] at he
          exact absurd he (rdAll_nz _ _ _)
  · simp at h

/-- Beside an error there is no list. -/
theorem readM_none {b : List Nat} {n : Int} (h : (readM b n).2 ≠ 0) : (readM b n).1 = [] := by
  unfold readM at h ⊢
  split
  · next hn =>
    rw [if_pos hn] at h
    split
    · rfl
    · next c t =>
      simp only at h
      split
      · rfl
      · next hc =>
        rw [if_neg hc] at h
        split
        · next l e => rw [e] at h; simp at h
        · rfl
  · rfl

/-- By the first three codecs no two lists have one form. -/
def D0 : Nat → List Nat → List Int
  | 0, _ => []
  | f + 1, b => match wh b with
    | .ok (x, r) => x :: D0 f r
    | .error _ => []

def D1 : Nat → Int → List Nat → List Int
  | 0, _, _ => []
  | f + 1, last, b => match wh b with
    | .ok (d, r) => w64 (last + d) :: D1 f (w64 (last + d)) r
    | .error _ => []

def D2 : Nat → List Nat → List Int
  | 0, _ => []
  | f + 1, b => match bindR wh (fun x => bindR num (fun k r => .ok ((x, k), r))) b with
    | .ok ((x, k), r) => List.replicate k x ++ D2 f r
    | .error _ => []

theorem wh_nil : wh [] = .error 30 := rfl

theorem D0_enc : ∀ {l : List Int} {f : Nat}, Is l → l.length < f → D0 f (enc0 l) = l
  | [], f + 1, _, _ => by
    show (match wh [] with | .ok (x, r) => x :: D0 f r | .error _ => []) = []
    rw [wh_nil]
  | x :: t, f + 1, h, hf => by
    rw [enc0, D0, (wh_reads (h x (by simp))).1]
    simp only
    rw [D0_enc (fun y hy => h y (by simp [hy])) (by simpa using hf)]

theorem D1_enc : ∀ {l : List Int} {f : Nat} {last : Int}, Is l → l.length < f → D1 f last (enc1 last l) = l
  | [], f + 1, last, _, _ => by
    show (match wh [] with | .ok (d, r) => w64 (last + d) :: D1 f (w64 (last + d)) r | .error _ => []) = []
    rw [wh_nil]
  | x :: t, f + 1, last, h, hf => by
    rw [enc1, D1, (wh_reads (w64_i64 _)).1]
    simp only
    rw [w64_back (h x (by simp)), D1_enc (fun y hy => h y (by simp [hy])) (by simpa using hf)]

theorem pair_reads {x : Int} {c : Nat} (hx : I64 x) (hc : c < 18446744073709551616) : Reads (bindR wh (fun x => bindR num (fun k r => .ok ((x, k), r)))) (wv x ++ uv c) (x, c) :=
  (wh_reads hx).bind (f := fun x => bindR num (fun k r => .ok ((x, k), r))) ((num_reads hc).map (fun k => (x, k)))

theorem D2_nil (f : Nat) : D2 f [] = [] := by
  cases f with
  | zero => rfl
  | succ f => rw [D2, bindR_error wh_nil]

theorem D2_enc : ∀ {t : List Int} {x : Int} {c f : Nat}, Is t → I64 x → c + t.length ≤ 1000000 → t.length < f → D2 f (enc2c x c t) = List.replicate c x ++ t
  | [], x, c, f + 1, ht, hx, hc, hf => by
    have := (pair_reads (c := c) hx (by simp at hc; omega)).1 []
    rw [List.append_nil] at this
    rw [enc2c, D2, this]
    simp only
    rw [D2_nil]
  | y :: t, x, c, f + 1, ht, hx, hc, hf => by
    by_cases hxy : y = x
    · subst hxy
      rw [enc2c, if_pos rfl, D2_enc (fun z hz => ht z (by simp [hz])) hx (by simp at hc; omega) (by simp at hf; omega), List.replicate_succ']
      simp
    · rw [enc2c, if_neg hxy, D2, (pair_reads (c := c) hx (by omega)).1]
      simp only
      rw [D2_enc (fun z hz => ht z (by simp [hz])) (ht y (by simp)) (by simp at hc; omega) (by simpa using hf)]
      rfl

theorem enc2_inj {l m : List Int} (hl : Is l) (hm : Is m) (hl2 : l.length ≤ 256) (hm2 : m.length ≤ 256) (h : enc2 l = enc2 m) : l = m := by
  have key : ∀ k : List Int, Is k → k.length ≤ 256 → D2 300 (enc2 k) = k := by
    intro k hk hk2
    cases k with
    | nil => exact D2_nil _
    | cons x t =>
      rw [enc2, D2_enc (fun z hz => hk z (by simp [hz])) (hk x (by simp)) (by simp at hk2; omega) (by simp at hk2; omega)]
      rfl
  rw [← key l hl hl2, h, key m hm hm2]

theorem encC_inj {c : Nat} (hc : c ≤ 2) {l m : List Int} (hl : Is l) (hm : Is m) (hl2 : l.length ≤ 256) (hm2 : m.length ≤ 256) (h : encC c l = encC c m) : l = m := by
  match c, hc with
  | 0, _ => rw [← D0_enc (f := 300) hl (by omega), show enc0 l = enc0 m from h, D0_enc hm (by omega)]
  | 1, _ => rw [← D1_enc (f := 300) (last := 0) hl (by omega), show enc1 0 l = enc1 0 m from h, D1_enc hm (by omega)]
  | 2, _ => exact enc2_inj hl hm hl2 hm2 h

/-- No list has two counts by the first three codecs. -/
theorem readM_other {c : Nat} {t : List Nat} {n o : Int} {l m : List Int} (hb : Bs (c :: t)) (hc : c ≤ 2) (h1 : readM (c :: t) n = (l, 0)) (h2 : readM (c :: t) o = (m, 0)) : n = o := by
  obtain ⟨_, a1, c1, t1, e1, _, a2, a3, a4⟩ := readM_inv hb h1
  obtain ⟨_, b1, c2, t2, e2, _, b2, b3, b4⟩ := readM_inv hb h2
  cases e1
  cases e2
  have := encC_inj hc a3 b3 (by omega) (by omega) (a4.trans b4.symm)
  subst this
  omega

/-- The fewest bytes among the codecs up to one. -/
def bestUp (l : List Int) : Nat → List Nat
  | 0 => 0 :: encC 0 l
  | c + 1 => if (encC (c + 1) l).length + 1 < (bestUp l c).length then (c + 1) :: encC (c + 1) l else bestUp l c

theorem bestUp_form (l : List Int) : ∀ k, ∃ c, c ≤ k ∧ bestUp l k = c :: encC c l
  | 0 => ⟨0, Nat.le_refl _, rfl⟩
  | k + 1 => by
    rw [bestUp]
    split
    · exact ⟨k + 1, Nat.le_refl _, rfl⟩
    · obtain ⟨c, h1, h2⟩ := bestUp_form l k
      exact ⟨c, by omega, h2⟩

theorem bestUp_le (l : List Int) : ∀ k c, c ≤ k → (bestUp l k).length ≤ (encC c l).length + 1
  | 0, c, h => by
    obtain rfl : c = 0 := by omega
    simp [bestUp]
  | k + 1, c, h => by
    rw [bestUp]
    split
    · next hlt =>
      rcases Nat.lt_or_ge k c with h1 | h1
      · obtain rfl : c = k + 1 := by omega
        simp
      · have := bestUp_le l k c h1
        simp
        omega
    · next hlt =>
      rcases Nat.lt_or_ge k c with h1 | h1
      · obtain rfl : c = k + 1 := by omega
        omega
      · exact bestUp_le l k c h1

/-- Sizes, and that they are bytes. -/
theorem enc0_size : ∀ {l : List Int}, Is l → (enc0 l).length ≤ 10 * l.length ∧ Bs (enc0 l)
  | [], _ => ⟨by simp [enc0], fun x hx => by simp [enc0] at hx⟩
  | x :: t, h => by
    obtain ⟨h1, h2⟩ := enc0_size (l := t) (fun y hy => h y (by simp [hy]))
    have h3 := wv_ten (h x (by simp))
    refine ⟨by simp [enc0]; omega, fun y hy => ?_⟩
    rcases List.mem_append.1 hy with hy | hy
    · exact wv_lt y hy
    · exact h2 y hy

theorem enc1_size : ∀ {l : List Int} {last : Int}, (enc1 last l).length ≤ 10 * l.length ∧ Bs (enc1 last l)
  | [], _ => ⟨by simp [enc1], fun x hx => by simp [enc1] at hx⟩
  | x :: t, last => by
    obtain ⟨h1, h2⟩ := enc1_size (l := t) (last := x)
    have h3 := wv_ten (w64_i64 (x - last))
    refine ⟨by simp [enc1]; omega, fun y hy => ?_⟩
    rcases List.mem_append.1 hy with hy | hy
    · exact wv_lt y hy
    · exact h2 y hy

theorem Bs.append {a b : List Nat} (ha : Bs a) (hb : Bs b) : Bs (a ++ b) := fun x hx => by
  rcases List.mem_append.1 hx with hx | hx
  · exact ha x hx
  · exact hb x hx

theorem enc2c_size : ∀ {t : List Int} {x : Int} {c : Nat}, Is t → I64 x → c + t.length ≤ 1000000 → (enc2c x c t).length ≤ 20 * (t.length + 1) ∧ Bs (enc2c x c t)
  | [], x, c, ht, hx, hc => by
    have h3 := wv_ten hx
    have h4 := uv_ten (n := c) (by simp at hc; omega)
    refine ⟨by simp [enc2c]; omega, ?_⟩
    rw [enc2c]
    exact Bs.append wv_lt uv_lt
  | y :: t, x, c, ht, hx, hc => by
    have h3 := wv_ten hx
    have h4 := uv_ten (n := c) (by omega)
    rw [enc2c]
    split
    · obtain ⟨h1, h2⟩ := enc2c_size (t := t) (x := x) (c := c + 1) (fun z hz => ht z (by simp [hz])) hx (by simp at hc; omega)
      exact ⟨by simp; omega, h2⟩
    · obtain ⟨h1, h2⟩ := enc2c_size (t := t) (x := y) (c := 1) (fun z hz => ht z (by simp [hz])) (ht y (by simp)) (by simp at hc; omega)
      exact ⟨by simp; omega, Bs.append (Bs.append wv_lt uv_lt) h2⟩

theorem encD_size : ∀ {t : List Int} {last : Int}, I64 last → Is t → (encD last t).length ≤ 10 * t.length ∧ Bs (encD last t)
  | [], _, _, _ => ⟨by simp [encD], fun x hx => by simp [encD] at hx⟩
  | y :: t, last, hl, ht => by
    have hy := ht y (by simp)
    obtain ⟨h1, h2⟩ := encD_size (t := t) (last := y) hy (fun z hz => ht z (by simp [hz]))
    have h3 := uv_ten (n := (y - last).toNat) (by unfold I64 at hy hl; omega)
    exact ⟨by simp [encD]; omega, Bs.append uv_lt h2⟩

theorem encU_size {u : List Int} (h : Is u) : (encU u).length ≤ 10 * u.length ∧ Bs (encU u) := by
  cases u with
  | nil => exact ⟨by simp [encU], fun x hx => by simp [encU] at hx⟩
  | cons x t =>
    have hx := h x (by simp)
    obtain ⟨h1, h2⟩ := encD_size (t := t) hx (fun z hz => h z (by simp [hz]))
    have h3 := wv_ten hx
    exact ⟨by simp [encU]; omega, Bs.append wv_lt h2⟩

theorem packR_size {p : List Nat} {w : Nat} (hl : p.length ≤ 256) : (packR p w).length ≤ 2048 := by
  unfold packR
  split
  · next h =>
    unfold can at h
    simp only [decide_eq_true_eq] at h
    rw [dig_length]
    have : p.length * w ≤ 256 * 64 := Nat.mul_le_mul hl (by omega)
    unfold by8
    simp only [Int.toNat_natCast]
    omega
  · simp

theorem encC_size (c : Nat) {l : List Int} (h : Is l) (hl : l.length ≤ 256) : (encC c l).length ≤ 5130 ∧ Bs (encC c l) := by
  unfold encC
  split
  · obtain ⟨h1, h2⟩ := enc0_size h
    exact ⟨by omega, h2⟩
  · obtain ⟨h1, h2⟩ := enc1_size (l := l) (last := 0)
    exact ⟨by omega, h2⟩
  · cases l with
    | nil => exact ⟨by simp [enc2], fun x hx => by simp [enc2] at hx⟩
    | cons x t =>
      obtain ⟨h1, h2⟩ := enc2c_size (t := t) (x := x) (c := 1) (fun z hz => h z (by simp [hz])) (h x (by simp)) (by simp at hl; omega)
      simp at hl
      exact ⟨by rw [enc2]; omega, h2⟩
  · have hu := uniq_length l
    obtain ⟨h1, h2⟩ := encU_size (uniq_i64 h)
    have h3 := uv_ten (n := (uniq l).length) (by omega)
    have h4 := packR_size (p := places l) (w := wd (places l)) (by rw [places_length]; exact hl)
    refine ⟨by simp [enc3]; omega, Bs.append uv_lt (Bs.append h2 packR_lt)⟩
  · unfold enc4
    split
    · exact ⟨by simp, fun x hx => by simp at hx⟩
    · next h0 =>
      have h3 := wv_ten (h _ (least_mem (by omega)))
      have h4 := packR_size (p := mores l) (w := wd (mores l)) (by rw [mores_length]; exact hl)
      have h5 := uv_ten (n := wd (mores l)) (by have := wd64 (mores_lt h); omega)
      refine ⟨by simp; omega, Bs.append wv_lt (Bs.append uv_lt packR_lt)⟩
end Go.Proofs.YtcmmednihoaekaaGreat
set_option linter.unusedVariables false
set_option linter.unusedSimpArgs false
namespace Go.Proofs.YtcmmednihoaekaaGreat
open Go.Lib

/-- The fewest bytes of a list. -/
def bstC (l : List Int) : List Nat := bestUp l 4

theorem bstC_back {l : List Int} (h : Is l) (hm : l.length ≤ 256) : readM (bstC l) l.length = (l, 0) := by
  obtain ⟨c, hc, e⟩ := bestUp_form l 4
  unfold bstC
  rw [e]
  exact readM_back hc h hm

theorem bstC_more {l : List Int} (h : Is l) (hm : l.length ≤ 256) (y : Nat) (r : List Nat) : readM (bstC l ++ y :: r) l.length = ([], 32) := by
  obtain ⟨c, hc, e⟩ := bestUp_form l 4
  unfold bstC
  rw [e]
  exact readM_more hc h hm y r

theorem bstC_size {l : List Int} (h : Is l) (hm : l.length ≤ 256) : (bstC l).length ≤ 5131 ∧ Bs (bstC l) := by
  obtain ⟨c, hc, e⟩ := bestUp_form l 4
  obtain ⟨h1, h2⟩ := encC_size c h hm
  unfold bstC
  rw [e]
  refine ⟨by simp only [List.length_cons]; omega, fun x hx => ?_⟩
  rcases List.mem_cons.1 hx with rfl | hx
  · omega
  · exact h2 x hx

/-- A list's fewest bytes, and how many they are ahead of them. -/
def cnt (l : List Int) : List Nat := uv (bstC l).length ++ bstC l

/-- Counted numbers off bytes. -/
def cutM (b : List Nat) (n : Int) : Option (List Int × List Nat) :=
  if (gt b).2.2 = 0 ∧ (gt b).1 ≤ b.length - (gt b).2.1 then
    (if (readM ((b.drop (gt b).2.1).take (gt b).1) n).2 = 0 then some ((readM ((b.drop (gt b).2.1).take (gt b).1) n).1, b.drop ((gt b).2.1 + (gt b).1)) else none)
  else none

theorem cutM_cnt {l : List Int} (h : Is l) (hm : l.length ≤ 256) (r : List Nat) : cutM (cnt l ++ r) l.length = some (l, r) := by
  have hs := (bstC_size h hm).1
  have hg : gt (cnt l ++ r) = ((bstC l).length, (uv (bstC l).length).length, 0) := by
    unfold cnt
    rw [List.append_assoc]
    exact gt_put _ (by omega) _
  have hd : (cnt l ++ r).drop (uv (bstC l).length).length = bstC l ++ r := by
    unfold cnt
    rw [List.append_assoc, List.drop_left]
  have hd2 : (cnt l ++ r).drop ((uv (bstC l).length).length + (bstC l).length) = r := by
    rw [← List.drop_drop, hd, List.drop_left]
  have hb := bstC_back h hm
  unfold cutM
  rw [hg]
  simp only
  rw [hd, hd2, List.take_left, hb, if_pos, if_pos rfl]
  refine ⟨trivial, ?_⟩
  unfold cnt
  simp only [List.length_append]
  omega

/-- The lengths of texts. -/
def sizes (l : List (List Nat)) : List Int := l.map fun s => (s.length : Int)

/-- Texts: their counted lengths, their bytes. -/
def txts (l : List (List Nat)) : List Nat := cnt (sizes l) ++ l.flatten

/-- Texts off bytes, by their lengths. -/
def strM : List Nat → List Int → Option (List (List Nat) × List Nat)
  | b, [] => some ([], b)
  | b, s :: t => if s < 0 ∨ (b.length : Int) < s then none else (strM (b.drop s.toNat) t).map fun p => (b.take s.toNat :: p.1, p.2)

theorem strM_flat (r : List Nat) : ∀ l : List (List Nat), strM (l.flatten ++ r) (sizes l) = some (l, r)
  | [] => rfl
  | s :: t => by
    have ih := strM_flat r t
    have e : (s :: t).flatten ++ r = s ++ (t.flatten ++ r) := by simp [List.append_assoc]
    rw [e]
    unfold sizes at ih ⊢
    simp only [List.map_cons, strM]
    rw [if_neg (by simp only [List.length_append]; omega), Int.toNat_natCast, List.drop_left, List.take_left, ih]
    rfl

/-- A text laid among rising ones, if it isn't there. -/
def insT (x : List Nat) : List (List Nat) → List (List Nat)
  | [] => [x]
  | y :: t => if x = y then y :: t else if x < y then x :: y :: t else y :: insT x t

/-- The unlike texts, rising. -/
def tuq (l : List (List Nat)) : List (List Nat) := l.foldl (fun u x => insT x u) []

def RisT (l : List (List Nat)) : Prop := l.Pairwise (· < ·)

theorem mem_insT {x z : List Nat} : ∀ {u : List (List Nat)}, z ∈ insT x u ↔ z = x ∨ z ∈ u
  | [] => by simp [insT]
  | y :: t => by
    have ih := mem_insT (x := x) (z := z) (u := t)
    unfold insT
    split
    · next h =>
      subst h
      simp
    · split
      · simp
      · simp only [List.mem_cons, ih]
        constructor
        · rintro (h | h | h)
          · exact Or.inr (Or.inl h)
          · exact Or.inl h
          · exact Or.inr (Or.inr h)
        · rintro (h | h | h)
          · exact Or.inr (Or.inl h)
          · exact Or.inl h
          · exact Or.inr (Or.inr h)

theorem txt_trans {x y z : List Nat} (h1 : x < y) (h2 : y < z) : x < z := List.lt_trans h1 h2

theorem txt_three {x y : List Nat} (h1 : x ≠ y) (h2 : ¬ x < y) : y < x := by
  have h3 : y ≤ x := h2
  rcases List.le_iff_lt_or_eq.1 h3 with h | h
  · exact h
  · exact absurd h.symm h1

theorem rising_insT {x : List Nat} : ∀ {u : List (List Nat)}, RisT u → RisT (insT x u)
  | [], _ => by simp [insT, RisT]
  | y :: t, h => by
    have h1 : (∀ z ∈ t, y < z) ∧ RisT t := List.pairwise_cons.1 h
    unfold insT
    split
    · exact h
    · next hne =>
      split
      · next hlt =>
        refine List.pairwise_cons.2 ⟨fun z hz => ?_, h⟩
        rcases List.mem_cons.1 hz with rfl | hz
        · exact hlt
        · exact txt_trans hlt (h1.1 z hz)
      · next hlt =>
        refine List.pairwise_cons.2 ⟨fun z hz => ?_, rising_insT h1.2⟩
        rcases mem_insT.1 hz with rfl | hz
        · exact txt_three hne hlt
        · exact h1.1 z hz

theorem tuq_take_succ {l : List (List Nat)} {i : Nat} (h : i < l.length) : tuq (l.take (i + 1)) = insT l[i] (tuq (l.take i)) := by
  unfold tuq
  rw [List.take_add_one, List.getElem?_eq_getElem h, List.foldl_append]
  rfl

theorem tuq_fold : ∀ (l u : List (List Nat)), RisT u → RisT (l.foldl (fun u x => insT x u) u) ∧ ∀ z, z ∈ l.foldl (fun u x => insT x u) u ↔ z ∈ u ∨ z ∈ l
  | [], u, h => ⟨h, fun z => by simp⟩
  | x :: t, u, h => by
    obtain ⟨h1, h2⟩ := tuq_fold t (insT x u) (rising_insT h)
    refine ⟨h1, fun z => ?_⟩
    rw [List.foldl_cons, h2, mem_insT, List.mem_cons]
    constructor
    · rintro ((h | h) | h)
      · exact Or.inr (Or.inl h)
      · exact Or.inl h
      · exact Or.inr (Or.inr h)
    · rintro (h | h | h)
      · exact Or.inl (Or.inr h)
      · exact Or.inl (Or.inl h)
      · exact Or.inr h

theorem tuq_rising (l : List (List Nat)) : RisT (tuq l) := (tuq_fold l [] List.Pairwise.nil).1
theorem mem_tuq {l : List (List Nat)} {z : List Nat} : z ∈ tuq l ↔ z ∈ l := by
  unfold tuq
  rw [(tuq_fold l [] List.Pairwise.nil).2]
  simp

/-- Rising texts with the same members are the same. -/
theorem rising_same : ∀ {u v : List (List Nat)}, RisT u → RisT v → (∀ z, z ∈ u ↔ z ∈ v) → u = v
  | [], [], _, _, _ => rfl
  | [], y :: t, _, _, h => absurd ((h y).2 (by simp)) (by simp)
  | x :: s, [], _, _, h => absurd ((h x).1 (by simp)) (by simp)
  | x :: s, y :: t, hu, hv, h => by
    obtain ⟨a1, a2⟩ := List.pairwise_cons.1 hu
    obtain ⟨b1, b2⟩ := List.pairwise_cons.1 hv
    have e : x = y := by
      rcases List.mem_cons.1 ((h x).1 (by simp)) with e | e
      · exact e
      · rcases List.mem_cons.1 ((h y).2 (by simp)) with e2 | e2
        · exact e2.symm
        · exact absurd (txt_trans (a1 y e2) (b1 x e)) (List.lt_irrefl x)
    subst e
    congr 1
    refine rising_same a2 b2 fun z => ?_
    constructor
    · intro hz
      rcases List.mem_cons.1 ((h z).1 (List.mem_cons_of_mem _ hz)) with e | e
      · subst e
        exact absurd (a1 z hz) (List.lt_irrefl z)
      · exact e
    · intro hz
      rcases List.mem_cons.1 ((h z).2 (List.mem_cons_of_mem _ hz)) with e | e
      · subst e
        exact absurd (b1 z hz) (List.lt_irrefl z)
      · exact e

theorem insT_length {x : List Nat} : ∀ {u : List (List Nat)}, (insT x u).length ≤ u.length + 1
  | [] => by simp [insT]
  | y :: t => by
    have := insT_length (x := x) (u := t)
    unfold insT
    split
    · simp
    · split
      · simp
      · simp only [List.length_cons]
        omega

theorem tuq_fold_length : ∀ (l u : List (List Nat)), (l.foldl (fun u x => insT x u) u).length ≤ u.length + l.length
  | [], u => by simp
  | x :: t, u => by
    have h1 := tuq_fold_length t (insT x u)
    have h2 := insT_length (x := x) (u := u)
    rw [List.foldl_cons, List.length_cons]
    omega

theorem tuq_length (l : List (List Nat)) : (tuq l).length ≤ l.length := by
  have := tuq_fold_length l []
  simpa [tuq] using this

/-- A text's place. -/
def plT : List (List Nat) → List Nat → Nat
  | [], _ => 0
  | y :: t, x => if y = x then 0 else plT t x + 1

theorem plT_get {x : List Nat} : ∀ {u : List (List Nat)}, x ∈ u → plT u x < u.length ∧ u[plT u x]? = some x
  | [], h => by simp at h
  | y :: t, h => by
    unfold plT
    split
    · next e => exact ⟨by simp, by simp [e]⟩
    · next e =>
      rcases List.mem_cons.1 h with rfl | h
      · exact absurd rfl e
      · obtain ⟨h1, h2⟩ := plT_get h
        exact ⟨by simp only [List.length_cons]; omega, by simpa using h2⟩

/-- The places of texts among the unlike ones. -/
def placesT (l : List (List Nat)) : List Int := l.map fun s => (plT (tuq l) s : Int)

/-- Texts one by one. -/
def plain (l : List (List Nat)) : List Nat := 0 :: txts l

/-- The unlike ones, and the places. -/
def listed (l : List (List Nat)) : List Nat := 1 :: (uv (tuq l).length ++ (txts (tuq l) ++ bstC (placesT l)))

/-- Whichever has fewer bytes. -/
def wordsB (l : List (List Nat)) : List Nat := if (listed l).length < (plain l).length then listed l else plain l

/-- The texts that stand at places. -/
def pickT (u : List (List Nat)) (p : List Int) : Option (List (List Nat)) := if ∀ q ∈ p, 0 ≤ q ∧ q < (u.length : Int) then some (p.map fun q => u.getD q.toNat []) else none

/-- n texts that bytes may be. -/
def wordsM (b : List Nat) (n : Nat) : Option (List (List Nat)) :=
  match b with
  | [] => none
  | x :: t =>
    if x = 0 then ((cutM t n).bind fun p => strM p.2 p.1).map (·.1)
    else if x = 1 then
      (if (gt t).2.2 = 0 ∧ (gt t).1 ≤ n then
        (cutM (t.drop (gt t).2.1) (gt t).1).bind fun p => (strM p.2 p.1).bind fun q => if (readM q.2 n).2 = 0 then pickT q.1 (readM q.2 n).1 else none
      else none)
    else none

/-- Texts that may be in a column. -/
def Ts (l : List (List Nat)) : Prop := ∀ s ∈ l, s.length ≤ 64 ∧ Bs s

theorem sizes_length (l : List (List Nat)) : (sizes l).length = l.length := List.length_map _
theorem sizes_i64 {l : List (List Nat)} (h : Ts l) : Is (sizes l) := fun x hx => by
  obtain ⟨s, hs, rfl⟩ := List.mem_map.1 hx
  have := (h s hs).1
  unfold I64
  omega

theorem tuq_ts {l : List (List Nat)} (h : Ts l) : Ts (tuq l) := fun s hs => h s (mem_tuq.1 hs)

theorem placesT_length (l : List (List Nat)) : (placesT l).length = l.length := List.length_map _
theorem placesT_lt {l : List (List Nat)} : ∀ q ∈ placesT l, 0 ≤ q ∧ q < ((tuq l).length : Int) := fun q hq => by
  obtain ⟨s, hs, rfl⟩ := List.mem_map.1 hq
  have := (plT_get (mem_tuq.2 hs)).1
  omega
theorem placesT_i64 {l : List (List Nat)} (hm : l.length ≤ 256) : Is (placesT l) := fun q hq => by
  have h1 := placesT_lt q hq
  have h2 := tuq_length l
  unfold I64
  omega
theorem placesT_back (l : List (List Nat)) : (placesT l).map (fun q => (tuq l).getD q.toNat []) = l := by
  unfold placesT
  rw [List.map_map]
  conv => rhs; rw [← List.map_id l]
  apply List.map_congr_left
  intro s hs
  have h2 := (plT_get (mem_tuq.2 hs)).2
  simp only [Function.comp, Int.toNat_natCast, id]
  rw [List.getD_eq_getElem?_getD, h2]
  rfl

theorem plain_read {l : List (List Nat)} (h : Ts l) (hm : l.length ≤ 256) (r : List Nat) : wordsM (plain l ++ r) l.length = some l := by
  unfold plain txts
  simp only [List.cons_append, wordsM, if_pos]
  have h1 := cutM_cnt (sizes_i64 h) (by rw [sizes_length]; exact hm) (l.flatten ++ r)
  rw [sizes_length] at h1
  rw [List.append_assoc, h1]
  simp only [Option.bind_some, strM_flat, Option.map_some]

theorem listed_read {l : List (List Nat)} (h : Ts l) (hm : l.length ≤ 256) : wordsM (listed l) l.length = some l := by
  have hu := tuq_length l
  unfold listed txts
  have h0 := gt_put (tuq l).length (by omega) (cnt (sizes (tuq l)) ++ (tuq l).flatten ++ bstC (placesT l))
  have h1 := cutM_cnt (sizes_i64 (tuq_ts h)) (by rw [sizes_length]; omega) ((tuq l).flatten ++ bstC (placesT l))
  rw [sizes_length] at h1
  have h2 := bstC_back (placesT_i64 hm) (by rw [placesT_length]; exact hm)
  rw [placesT_length] at h2
  simp only [wordsM, show (1 : Nat) ≠ 0 from by omega, if_false, if_true, h0, List.drop_left]
  rw [if_pos ⟨trivial, hu⟩, List.append_assoc, h1]
  simp only [Option.bind_some, strM_flat, h2, if_true]
  unfold pickT
  rw [if_pos placesT_lt, placesT_back]

theorem listed_more {l : List (List Nat)} (h : Ts l) (hm : l.length ≤ 256) (y : Nat) (r : List Nat) : wordsM (listed l ++ y :: r) l.length = none := by
  have hu := tuq_length l
  unfold listed txts
  have h0 := gt_put (tuq l).length (by omega) (cnt (sizes (tuq l)) ++ (tuq l).flatten ++ bstC (placesT l) ++ y :: r)
  have h1 := cutM_cnt (sizes_i64 (tuq_ts h)) (by rw [sizes_length]; omega) ((tuq l).flatten ++ (bstC (placesT l) ++ y :: r))
  rw [sizes_length] at h1
  have h2 := bstC_more (placesT_i64 hm) (by rw [placesT_length]; exact hm) y r
  rw [placesT_length] at h2
  rw [List.cons_append, List.append_assoc]
  simp only [wordsM, show (1 : Nat) ≠ 0 from by omega, if_false, if_true, h0, List.drop_left]
  rw [if_pos ⟨trivial, hu⟩, List.append_assoc, List.append_assoc, h1]
  simp only [Option.bind_some, strM_flat, h2]
  rfl

theorem words_read {l : List (List Nat)} (h : Ts l) (hm : l.length ≤ 256) : wordsM (wordsB l) l.length = some l := by
  unfold wordsB
  split
  · exact listed_read h hm
  · have := plain_read h hm []
    rwa [List.append_nil] at this

theorem words_more {l : List (List Nat)} (h : Ts l) (hm : l.length ≤ 256) (r : List Nat) (hr : r ≠ []) : wordsM (wordsB l ++ r) l.length = some l ∨ wordsM (wordsB l ++ r) l.length = none := by
  unfold wordsB
  split
  · cases r with
    | nil => exact absurd rfl hr
    | cons y r => exact Or.inr (listed_more h hm y r)
  · exact Or.inl (plain_read h hm r)

theorem sum_sizes : ∀ {l : List (List Nat)}, Ts l → l.flatten.length ≤ 64 * l.length ∧ Bs l.flatten
  | [], _ => ⟨by simp, fun x hx => by simp at hx⟩
  | s :: t, h => by
    obtain ⟨h1, h2⟩ := sum_sizes (l := t) fun x hx => h x (List.mem_cons_of_mem _ hx)
    obtain ⟨h3, h4⟩ := h s (by simp)
    refine ⟨?_, ?_⟩
    · rw [List.flatten_cons, List.length_append, List.length_cons]
      omega
    · rw [List.flatten_cons]
      exact h4.append h2

theorem txts_size {l : List (List Nat)} (h : Ts l) (hm : l.length ≤ 256) : (txts l).length ≤ 21525 ∧ Bs (txts l) := by
  obtain ⟨a1, a2⟩ := bstC_size (sizes_i64 h) (by rw [sizes_length]; exact hm)
  obtain ⟨b1, b2⟩ := sum_sizes h
  have h10 := uv_ten (n := (bstC (sizes l)).length) (by omega)
  unfold txts cnt
  refine ⟨?_, Bs.append (Bs.append uv_lt a2) b2⟩
  simp only [List.length_append]
  omega

theorem words_size {l : List (List Nat)} (h : Ts l) (hm : l.length ≤ 256) : (wordsB l).length ≤ 21526 ∧ Bs (wordsB l) := by
  obtain ⟨a1, a2⟩ := txts_size h hm
  have hp : (plain l).length ≤ 21526 := by unfold plain; simp only [List.length_cons]; omega
  unfold wordsB
  split
  · next hlt =>
    refine ⟨by omega, ?_⟩
    obtain ⟨b1, b2⟩ := txts_size (tuq_ts h) (Nat.le_trans (tuq_length l) hm)
    obtain ⟨c1, c2⟩ := bstC_size (placesT_i64 hm) (by rw [placesT_length]; exact hm)
    intro x hx
    unfold listed at hx
    rcases List.mem_cons.1 hx with rfl | hx
    · omega
    · exact (Bs.append uv_lt (Bs.append b2 c2)) x hx
  · refine ⟨hp, fun x hx => ?_⟩
    unfold plain at hx
    rcases List.mem_cons.1 hx with rfl | hx
    · omega
    · exact a2 x hx
end Go.Proofs.YtcmmednihoaekaaGreat
set_option linter.unusedVariables false
set_option linter.unusedSimpArgs false
namespace Go.Proofs.YtcmmednihoaekaaGreat
open Go.Lib

/-- Null. -/
def nul : Nat × Int × List Nat := (0, 0, [])

/-- A cell that is null or of the kind. -/
def Cellk (k : Nat) (c : Nat × Int × List Nat) : Prop :=
  c = nul ∨ (k = 1 ∧ ∃ n, c = (1, n, []) ∧ I64 n) ∨ (k = 2 ∧ ∃ n : Nat, c = (2, (n : Int), []) ∧ n < 2) ∨ (k = 3 ∧ ∃ s, c = (3, 0, s) ∧ s.length ≤ 64 ∧ Bs s)

/-- A column's values. -/
def Col (k : Nat) (l : List (Nat × Int × List Nat)) : Prop := (1 ≤ k ∧ k ≤ 3) ∧ l.length ≤ 256 ∧ ∀ c ∈ l, Cellk k c

/-- Of each value, whether it is there. -/
def there (l : List (Nat × Int × List Nat)) : List Nat := l.map fun c => if c.1 = 0 then 0 else 1

/-- The values that are there. -/
def ownC (l : List (Nat × Int × List Nat)) : List (Nat × Int × List Nat) := l.filter fun c => c.1 != 0

def headB (l : List (Nat × Int × List Nat)) : List Nat := if 0 ∈ there l then 1 :: packR (there l) 1 else [0]
def tailB (k : Nat) (l : List (Nat × Int × List Nat)) : List Nat :=
  if k = 1 then bstC ((ownC l).map fun c => c.2.1) else if k = 2 then packR ((ownC l).map fun c => c.2.1.toNat) 1 else wordsB ((ownC l).map fun c => c.2.2)

/-- A column's bytes. -/
def colM (k : Nat) (l : List (Nat × Int × List Nat)) : List Nat := headB l ++ tailB k l

/-- Nulls laid between the values. -/
def fillC : List Nat → List (Nat × Int × List Nat) → List (Nat × Int × List Nat)
  | [], _ => []
  | x :: t, o => if x = 0 then nul :: fillC t o else o.headD nul :: fillC t o.tail

theorem there_length (l : List (Nat × Int × List Nat)) : (there l).length = l.length := List.length_map _

theorem sum_there : ∀ l : List (Nat × Int × List Nat), (there l).sum = (ownC l).length
  | [] => rfl
  | c :: t => by
    have ih := sum_there t
    unfold there ownC at ih ⊢
    by_cases h : c.1 = 0
    · simp [h, ih]
    · simp [h, ih]
      omega

theorem ownC_length (l : List (Nat × Int × List Nat)) : (ownC l).length ≤ l.length := List.length_filter_le _ _

theorem fillC_ownC {k : Nat} : ∀ {l : List (Nat × Int × List Nat)}, (∀ c ∈ l, Cellk k c) → fillC (there l) (ownC l) = l
  | [], _ => rfl
  | c :: t, h => by
    have ih := fillC_ownC (k := k) (l := t) fun x hx => h x (List.mem_cons_of_mem _ hx)
    have hc := h c (by simp)
    unfold there ownC at ih ⊢
    by_cases h0 : c.1 = 0
    · have e : c = nul := by
        rcases hc with e | ⟨_, n, e, _⟩ | ⟨_, n, e, _⟩ | ⟨_, s, e, _⟩
        · exact e
        · rw [e] at h0; simp at h0
        · rw [e] at h0; simp at h0
        · rw [e] at h0; simp at h0
      subst e
      simp [fillC, nul] at ih ⊢
      exact ih
    · simp [fillC, h0] at ih ⊢
      exact ih

theorem ownC_mem {l : List (Nat × Int × List Nat)} {c : Nat × Int × List Nat} (h : c ∈ ownC l) : c ∈ l ∧ c.1 ≠ 0 := by
  unfold ownC at h
  have := List.mem_filter.1 h
  exact ⟨this.1, by simpa using this.2⟩

theorem ownC_ints {l : List (Nat × Int × List Nat)} (h : ∀ c ∈ l, Cellk 1 c) : Is ((ownC l).map fun c => c.2.1) ∧ ((ownC l).map fun c => c.2.1).map (fun x => ((1, x, []) : Nat × Int × List Nat)) = ownC l := by
  have key : ∀ c ∈ ownC l, ∃ n, c = (1, n, []) ∧ I64 n := fun c hc => by
    obtain ⟨h1, h2⟩ := ownC_mem hc
    rcases h c h1 with e | ⟨_, n, e, hn⟩ | ⟨e, _⟩ | ⟨e, _⟩
    · rw [e] at h2; exact absurd rfl h2
    · exact ⟨n, e, hn⟩
    · omega
    · omega
  refine ⟨fun x hx => ?_, ?_⟩
  · obtain ⟨c, hc, rfl⟩ := List.mem_map.1 hx
    obtain ⟨n, rfl, hn⟩ := key c hc
    exact hn
  · rw [List.map_map]
    conv => rhs; rw [← List.map_id (ownC l)]
    apply List.map_congr_left
    intro c hc
    obtain ⟨n, rfl, hn⟩ := key c hc
    rfl

theorem ownC_truths {l : List (Nat × Int × List Nat)} (h : ∀ c ∈ l, Cellk 2 c) : (∀ x ∈ (ownC l).map fun c => c.2.1.toNat, x < 2) ∧ ((ownC l).map fun c => c.2.1.toNat).map (fun (x : Nat) => ((2, (x : Int), []) : Nat × Int × List Nat)) = ownC l := by
  have key : ∀ c ∈ ownC l, ∃ n : Nat, c = (2, (n : Int), []) ∧ n < 2 := fun c hc => by
    obtain ⟨h1, h2⟩ := ownC_mem hc
    rcases h c h1 with e | ⟨e, _⟩ | ⟨_, n, e, hn⟩ | ⟨e, _⟩
    · rw [e] at h2; exact absurd rfl h2
    · omega
    · exact ⟨n, e, hn⟩
    · omega
  refine ⟨fun x hx => ?_, ?_⟩
  · obtain ⟨c, hc, rfl⟩ := List.mem_map.1 hx
    obtain ⟨n, rfl, hn⟩ := key c hc
    simpa using hn
  · rw [List.map_map]
    conv => rhs; rw [← List.map_id (ownC l)]
    apply List.map_congr_left
    intro c hc
    obtain ⟨n, rfl, hn⟩ := key c hc
    rfl

theorem ownC_words {l : List (Nat × Int × List Nat)} (h : ∀ c ∈ l, Cellk 3 c) : Ts ((ownC l).map fun c => c.2.2) ∧ ((ownC l).map fun c => c.2.2).map (fun s => ((3, 0, s) : Nat × Int × List Nat)) = ownC l := by
  have key : ∀ c ∈ ownC l, ∃ s, c = (3, 0, s) ∧ s.length ≤ 64 ∧ Bs s := fun c hc => by
    obtain ⟨h1, h2⟩ := ownC_mem hc
    rcases h c h1 with e | ⟨e, _⟩ | ⟨e, _⟩ | ⟨_, s, e, hs⟩
    · rw [e] at h2; exact absurd rfl h2
    · omega
    · omega
    · exact ⟨s, e, hs⟩
  refine ⟨fun x hx => ?_, ?_⟩
  · obtain ⟨c, hc, rfl⟩ := List.mem_map.1 hx
    obtain ⟨n, rfl, hn⟩ := key c hc
    exact hn
  · rw [List.map_map]
    conv => rhs; rw [← List.map_id (ownC l)]
    apply List.map_congr_left
    intro c hc
    obtain ⟨n, rfl, hn⟩ := key c hc
    rfl

/-- Which of n values are there, and what stands behind. -/
def headM (b : List Nat) (n : Nat) : Option (List Nat × List Nat) :=
  match b with
  | [] => none
  | x :: t => if x = 0 then some (List.replicate n 1, t) else if x = 1 then
      (if by8 n ≤ t.length ∧ unE (t.take (by8 n)) n 1 = 0 then some (unR (t.take (by8 n)) n 1, t.drop (by8 n)) else none) else none

/-- So many values of the kind. -/
def ownM (k : Nat) (b : List Nat) (n : Nat) : Option (List (Nat × Int × List Nat)) :=
  if k = 1 then (if (readM b n).2 = 0 then some ((readM b n).1.map fun x => (1, x, [])) else none)
  else if k = 2 then (if unE b n 1 = 0 then some ((unR b n 1).map fun (x : Nat) => (2, (x : Int), [])) else none)
  else (wordsM b n).map fun l => l.map fun s => (3, 0, s)

/-- The values that bytes may be. -/
def parC (k : Nat) (b : List Nat) (n : Nat) : Option (List (Nat × Int × List Nat)) :=
  (headM b n).bind fun p => (ownM k p.2 p.1.sum).map (fillC p.1)

theorem bits_can {l : List Nat} (h : ∀ x ∈ l, x < 2) (hm : l.length ≤ 256) : can l ((1 : Nat) : Int) = true := can_of hm (by omega) (wd_le.2 (by simpa using h))

theorem bits_back {l : List Nat} (h : ∀ x ∈ l, x < 2) (hm : l.length ≤ 256) : unE (packR l 1) l.length 1 = 0 ∧ unR (packR l 1) l.length 1 = l := by
  have := back_one (bits_can h hm)
  rwa [show ((1 : Nat) : Int) = 1 from rfl] at this

theorem bits_length {l : List Nat} (h : ∀ x ∈ l, x < 2) (hm : l.length ≤ 256) : (packR l 1).length = by8 l.length := by
  have := packR_length (bits_can h hm)
  rwa [Nat.mul_one] at this

theorem there_two (l : List (Nat × Int × List Nat)) : ∀ x ∈ there l, x < 2 := fun x hx => by
  obtain ⟨c, _, rfl⟩ := List.mem_map.1 hx
  split <;> omega

theorem there_full {l : List (Nat × Int × List Nat)} (h : ¬ 0 ∈ there l) : there l = List.replicate l.length 1 := by
  rw [List.eq_replicate_iff]
  refine ⟨there_length l, fun x hx => ?_⟩
  have h1 := there_two l x hx
  have h2 : x ≠ 0 := fun e => h (e ▸ hx)
  omega

theorem head_read {l : List (Nat × Int × List Nat)} (hm : l.length ≤ 256) (r : List Nat) : headM (headB l ++ r) l.length = some (there l, r) := by
  unfold headB
  split
  · have hl := bits_length (there_two l) (by rw [there_length]; exact hm)
    rw [there_length] at hl
    have hb := bits_back (there_two l) (by rw [there_length]; exact hm)
    rw [there_length] at hb
    have ht : (packR (there l) 1 ++ r).take (by8 l.length) = packR (there l) 1 := by rw [← hl, List.take_left]
    have hd : (packR (there l) 1 ++ r).drop (by8 l.length) = r := by rw [← hl, List.drop_left]
    simp only [List.cons_append, headM, show (1 : Nat) ≠ 0 from by omega, if_false, if_true, ht, hd]
    rw [if_pos]
    · rw [hb.2]
    · exact ⟨by simp only [List.length_append]; omega, hb.1⟩
  · next h =>
    rw [there_full h]
    rfl

theorem tail_read {k : Nat} {l : List (Nat × Int × List Nat)} (h : Col k l) : ownM k (tailB k l) (ownC l).length = some (ownC l) := by
  obtain ⟨hk, hm, hc⟩ := h
  have ho := ownC_length l
  obtain rfl | rfl | rfl : k = 1 ∨ k = 2 ∨ k = 3 := by omega
  · obtain ⟨h1, h2⟩ := ownC_ints hc
    have hb := bstC_back h1 (by rw [List.length_map]; omega)
    rw [List.length_map] at hb
    simp only [ownM, tailB, if_true, hb]
    rw [h2]
  · obtain ⟨h1, h2⟩ := ownC_truths hc
    have hb := bits_back h1 (by rw [List.length_map]; omega)
    rw [List.length_map] at hb
    simp only [ownM, tailB, if_true, if_false, show (2 : Nat) ≠ 1 from by omega]
    rw [if_pos hb.1]
    rw [hb.2, h2]
  · obtain ⟨h1, h2⟩ := ownC_words hc
    have hb := words_read h1 (by rw [List.length_map]; omega)
    rw [List.length_map] at hb
    simp only [ownM, tailB, if_false, show (3 : Nat) ≠ 1 from by omega, show (3 : Nat) ≠ 2 from by omega, hb, Option.map_some]
    rw [h2]

theorem tail_more {k : Nat} {l : List (Nat × Int × List Nat)} (h : Col k l) (r : List Nat) (hr : r ≠ []) : ownM k (tailB k l ++ r) (ownC l).length = some (ownC l) ∨ ownM k (tailB k l ++ r) (ownC l).length = none := by
  obtain ⟨hk, hm, hc⟩ := h
  have ho := ownC_length l
  obtain rfl | rfl | rfl : k = 1 ∨ k = 2 ∨ k = 3 := by omega
  · obtain ⟨h1, h2⟩ := ownC_ints hc
    cases r with
    | nil => exact absurd rfl hr
    | cons y r =>
      have hb := bstC_more h1 (by rw [List.length_map]; omega) y r
      rw [List.length_map] at hb
      refine Or.inr ?_
      simp only [ownM, tailB, if_true, hb]
      rfl
  · obtain ⟨h1, h2⟩ := ownC_truths hc
    have hl := bits_length h1 (by rw [List.length_map]; omega)
    rw [List.length_map] at hl
    refine Or.inr ?_
    simp only [ownM, tailB, if_true, if_false, show (2 : Nat) ≠ 1 from by omega]
    rw [if_neg]
    unfold unE
    rw [if_pos (by omega), if_neg]
    · omega
    · have := List.length_pos_iff.2 hr
      simp only [List.length_append, hl, Int.toNat_natCast]
      intro hh
      have h3 := hh.1
      rw [show (1 : Int).toNat = 1 from rfl, Nat.mul_one] at h3
      omega
  · obtain ⟨h1, h2⟩ := ownC_words hc
    have hb := words_more h1 (by rw [List.length_map]; omega) r hr
    rw [List.length_map] at hb
    simp only [ownM, tailB, if_false, show (3 : Nat) ≠ 1 from by omega, show (3 : Nat) ≠ 2 from by omega]
    rcases hb with hb | hb
    · rw [hb]
      exact Or.inl (congrArg some h2)
    · rw [hb]
      exact Or.inr rfl

theorem col_read {k : Nat} {l : List (Nat × Int × List Nat)} (h : Col k l) : parC k (colM k l) l.length = some l := by
  unfold parC colM
  rw [head_read h.2.1, Option.bind_some]
  simp only
  rw [sum_there, tail_read h, Option.map_some, fillC_ownC h.2.2]

theorem col_more {k : Nat} {l : List (Nat × Int × List Nat)} (h : Col k l) (r : List Nat) (hr : r ≠ []) : parC k (colM k l ++ r) l.length = some l ∨ parC k (colM k l ++ r) l.length = none := by
  unfold parC colM
  rw [List.append_assoc, head_read h.2.1, Option.bind_some]
  simp only
  rw [sum_there]
  rcases tail_more h r hr with e | e
  · rw [e, Option.map_some, fillC_ownC h.2.2]
    exact Or.inl rfl
  · rw [e]
    exact Or.inr rfl

/-- Bytes are those of one list of so many values at most; none begins another one. -/
theorem col_inj {k : Nat} {l l' : List (Nat × Int × List Nat)} (h : Col k l) (h' : Col k l') (hn : l.length = l'.length) {r : List Nat} (e : colM k l ++ r = colM k l') : l = l' ∧ r = [] := by
  have h2 := col_read h'
  rw [← e, ← hn] at h2
  by_cases hr : r = []
  · subst hr
    rw [List.append_nil, col_read h] at h2
    exact ⟨Option.some.inj h2, rfl⟩
  · rcases col_more h r hr with h3 | h3
    · have hl := Option.some.inj (h3.symm.trans h2)
      subst hl
      have := congrArg List.length e
      rw [List.length_append] at this
      exact absurd (List.eq_nil_of_length_eq_zero (by omega)) hr
    · rw [h3] at h2
      exact absurd h2 (by simp)

theorem head_size {l : List (Nat × Int × List Nat)} (hm : l.length ≤ 256) : (headB l).length ≤ 33 ∧ Bs (headB l) := by
  unfold headB
  split
  · have hl := bits_length (there_two l) (by rw [there_length]; exact hm)
    rw [there_length] at hl
    refine ⟨?_, fun x hx => ?_⟩
    · rw [List.length_cons, hl]
      unfold by8
      omega
    · rcases List.mem_cons.1 hx with rfl | hx
      · omega
      · exact packR_lt x hx
  · exact ⟨by simp, fun x hx => by simp at hx; omega⟩

theorem tail_1 (l : List (Nat × Int × List Nat)) : tailB 1 l = bstC ((ownC l).map fun c => c.2.1) := if_pos rfl
theorem tail_2 (l : List (Nat × Int × List Nat)) : tailB 2 l = packR ((ownC l).map fun c => c.2.1.toNat) 1 := (if_neg (by omega)).trans (if_pos rfl)
theorem tail_3 (l : List (Nat × Int × List Nat)) : tailB 3 l = wordsB ((ownC l).map fun c => c.2.2) := (if_neg (by omega)).trans (if_neg (by omega))

theorem tail_size {k : Nat} {l : List (Nat × Int × List Nat)} (h : Col k l) : (tailB k l).length ≤ 21526 ∧ Bs (tailB k l) := by
  obtain ⟨hk, hm, hc⟩ := h
  have ho := ownC_length l
  obtain rfl | rfl | rfl : k = 1 ∨ k = 2 ∨ k = 3 := by omega
  · obtain ⟨b1, b2⟩ := bstC_size (ownC_ints hc).1 (by rw [List.length_map]; omega)
    rw [tail_1]
    exact ⟨by omega, b2⟩
  · have hl := bits_length (ownC_truths hc).1 (by rw [List.length_map]; omega)
    rw [List.length_map] at hl
    rw [tail_2]
    refine ⟨?_, packR_lt⟩
    rw [hl]
    unfold by8
    omega
  · have hw := words_size (ownC_words hc).1 (by rw [List.length_map]; omega)
    rw [tail_3]
    exact hw

theorem col_size {k : Nat} {l : List (Nat × Int × List Nat)} (h : Col k l) : (colM k l).length ≤ 21600 ∧ Bs (colM k l) := by
  obtain ⟨a1, a2⟩ := head_size h.2.1
  obtain ⟨b1, b2⟩ := tail_size h
  unfold colM
  refine ⟨?_, a2.append b2⟩
  rw [List.length_append]
  omega

/-- Nulls cost a bit each: the bytes of the values alone, behind the head. -/
theorem ownC_own (l : List (Nat × Int × List Nat)) : ownC (ownC l) = ownC l := by
  unfold ownC
  rw [List.filter_filter]
  simp

theorem col_ownC (k : Nat) (l : List (Nat × Int × List Nat)) : colM k (ownC l) = 0 :: tailB k l := by
  have h : ¬ 0 ∈ there (ownC l) := fun h => by
    obtain ⟨c, hc, e⟩ := List.mem_map.1 h
    rw [if_neg (ownC_mem hc).2] at e
    omega
  unfold colM headB
  rw [if_neg h]
  unfold tailB
  rw [ownC_own]
  rfl
end Go.Proofs.YtcmmednihoaekaaGreat
set_option linter.unusedVariables false
set_option linter.unusedSimpArgs false
namespace Go.Proofs.YtcmmednihoaekaaGreat
open Go.Lib

theorem Bs.drop {b : List Nat} (h : Bs b) (k : Nat) : Bs (b.drop k) := fun x hx => h x (List.mem_of_mem_drop hx)
theorem Bs.take {b : List Nat} (h : Bs b) (k : Nat) : Bs (b.take k) := fun x hx => h x (List.mem_of_mem_take hx)

/-- A cell that is null or of the kind, its text of any length. -/
def Cellw (k : Nat) (c : Nat × Int × List Nat) : Prop :=
  c = nul ∨ (k = 1 ∧ ∃ n, c = (1, n, []) ∧ I64 n) ∨ (k = 2 ∧ ∃ n : Nat, c = (2, (n : Int), []) ∧ n < 2) ∨ (k = 3 ∧ ∃ s, c = (3, 0, s) ∧ Bs s)

theorem Cellw.short {k : Nat} {c : Nat × Int × List Nat} (h : Cellw k c) (hs : c.2.2.length ≤ 64) : Cellk k c := by
  rcases h with h | h | h | ⟨h1, s, rfl, h2⟩
  · exact Or.inl h
  · exact Or.inr (Or.inl h)
  · exact Or.inr (Or.inr (Or.inl h))
  · exact Or.inr (Or.inr (Or.inr ⟨h1, s, rfl, hs, h2⟩))

theorem Cellk.short {k : Nat} {c : Nat × Int × List Nat} (h : Cellk k c) : c.2.2.length ≤ 64 := by
  rcases h with rfl | ⟨_, n, rfl, _⟩ | ⟨_, n, rfl, _⟩ | ⟨_, s, rfl, h, _⟩
  · simp [nul]
  · simp
  · simp
  · exact h

theorem readM_len {b : List Nat} {n : Int} (hb : Bs b) (h : (readM b n).2 = 0) : ((readM b n).1.length : Int) = n ∧ Is (readM b n).1 := by
  obtain ⟨_, _, c, t, _, _, h1, h2, _⟩ := readM_inv hb (l := (readM b n).1) (n := n) (by rw [← h])
  exact ⟨h1, h2⟩

theorem cutM_inv {b r : List Nat} {n : Int} {l : List Int} (hb : Bs b) (h : cutM b n = some (l, r)) : (l.length : Int) = n ∧ Is l ∧ Bs r := by
  unfold cutM at h
  split at h
  · split at h
    · next h1 =>
      simp only [Option.some.injEq, Prod.mk.injEq] at h
      obtain ⟨rfl, rfl⟩ := h
      have := readM_len ((hb.drop _).take _) h1
      exact ⟨this.1, this.2, hb.drop _⟩
    · simp at h
  · simp at h

theorem strM_inv : ∀ {s : List Int} {b r : List Nat} {l : List (List Nat)}, Bs b → strM b s = some (l, r) → l.length = s.length ∧ (∀ x ∈ l, Bs x) ∧ Bs r
  | [], b, r, l, hb, h => by
    simp only [strM, Option.some.injEq, Prod.mk.injEq] at h
    obtain ⟨rfl, rfl⟩ := h
    exact ⟨rfl, fun x hx => by simp at hx, hb⟩
  | x :: t, b, r, l, hb, h => by
    unfold strM at h
    split at h
    · simp at h
    · obtain ⟨⟨l2, r2⟩, h1, h2⟩ := Option.map_eq_some_iff.1 h
      simp only [Prod.mk.injEq] at h2
      obtain ⟨rfl, rfl⟩ := h2
      obtain ⟨a1, a2, a3⟩ := strM_inv (hb.drop _) h1
      refine ⟨by simp only [List.length_cons, a1], fun y hy => ?_, a3⟩
      rcases List.mem_cons.1 hy with rfl | hy
      · exact hb.take _
      · exact a2 y hy

theorem wordsM_inv {b : List Nat} {n : Nat} {l : List (List Nat)} (hb : Bs b) (h : wordsM b n = some l) : l.length = n ∧ ∀ x ∈ l, Bs x := by
  cases b with
  | nil => simp [wordsM] at h
  | cons x t =>
    have ht : Bs t := fun y hy => hb y (List.mem_cons_of_mem _ hy)
    simp only [wordsM] at h
    split at h
    · obtain ⟨⟨l2, r2⟩, h1, rfl⟩ := Option.map_eq_some_iff.1 h
      obtain ⟨⟨s, r⟩, h2, h3⟩ := Option.bind_eq_some_iff.1 h1
      obtain ⟨a1, a2, a3⟩ := cutM_inv ht h2
      obtain ⟨b1, b2, b3⟩ := strM_inv a3 h3
      have b4 : l2.length = s.length := b1
      exact ⟨by show l2.length = n; omega, b2⟩
    · split at h
      · split at h
        · obtain ⟨⟨s, r⟩, h2, h3⟩ := Option.bind_eq_some_iff.1 h
          obtain ⟨⟨u, r2⟩, h4, h5⟩ := Option.bind_eq_some_iff.1 h3
          obtain ⟨a1, a2, a3⟩ := cutM_inv (ht.drop _) h2
          obtain ⟨b1, b2, b3⟩ := strM_inv a3 h4
          simp only at h5
          split at h5
          · next h6 =>
            obtain ⟨c1, c2⟩ := readM_len b3 h6
            unfold pickT at h5
            split at h5
            · next h7 =>
              cases h5
              refine ⟨by rw [List.length_map]; omega, fun x hx => ?_⟩
              obtain ⟨q, hq, rfl⟩ := List.mem_map.1 hx
              have hq2 := h7 q hq
              have hlt : q.toNat < u.length := by omega
              rw [List.getD_eq_getElem?_getD, List.getElem?_eq_getElem hlt]
              exact b2 _ (List.getElem_mem hlt)
            · simp at h5
          · simp at h5
        · simp at h
      · simp at h

theorem unR_len {b : List Nat} {n : Nat} (h : unE b n 1 = 0) : (unR b n 1).length = n ∧ ∀ x ∈ unR b n 1, x < 2 := by
  unfold unR
  rw [if_pos h]
  refine ⟨by rw [dig_length]; simp, fun x hx => ?_⟩
  have := dig_lt hx
  simpa using this

theorem headM_inv {b r th : List Nat} {n : Nat} (hb : Bs b) (h : headM b n = some (th, r)) : th.length = n ∧ (∀ x ∈ th, x < 2) ∧ Bs r := by
  cases b with
  | nil => simp [headM] at h
  | cons x t =>
    have ht : Bs t := fun y hy => hb y (List.mem_cons_of_mem _ hy)
    simp only [headM] at h
    split at h
    · simp only [Option.some.injEq, Prod.mk.injEq] at h
      obtain ⟨rfl, rfl⟩ := h
      exact ⟨List.length_replicate, fun y hy => by have := List.eq_of_mem_replicate hy; omega, ht⟩
    · split at h
      · split at h
        · next h1 =>
          simp only [Option.some.injEq, Prod.mk.injEq] at h
          obtain ⟨rfl, rfl⟩ := h
          have := unR_len h1.2
          exact ⟨this.1, this.2, ht.drop _⟩
        · simp at h
      · simp at h

theorem ownM_inv {k : Nat} {b : List Nat} {n : Nat} {o : List (Nat × Int × List Nat)} (hk : 1 ≤ k ∧ k ≤ 3) (hb : Bs b) (h : ownM k b n = some o) : o.length = n ∧ ∀ c ∈ o, Cellw k c := by
  unfold ownM at h
  obtain rfl | rfl | rfl : k = 1 ∨ k = 2 ∨ k = 3 := by omega
  · rw [if_pos rfl] at h
    split at h
    · next h1 =>
      cases h
      obtain ⟨a1, a2⟩ := readM_len hb h1
      refine ⟨by rw [List.length_map]; omega, fun c hc => ?_⟩
      obtain ⟨x, hx, rfl⟩ := List.mem_map.1 hc
      exact Or.inr (Or.inl ⟨rfl, x, rfl, a2 x hx⟩)
    · simp at h
  · rw [if_neg (by omega), if_pos rfl] at h
    split at h
    · next h1 =>
      cases h
      obtain ⟨a1, a2⟩ := unR_len h1
      refine ⟨by rw [List.length_map]; exact a1, fun c hc => ?_⟩
      obtain ⟨x, hx, rfl⟩ := List.mem_map.1 hc
      exact Or.inr (Or.inr (Or.inl ⟨rfl, x, rfl, a2 x hx⟩))
    · simp at h
  · rw [if_neg (by omega), if_neg (by omega)] at h
    obtain ⟨l, h1, rfl⟩ := Option.map_eq_some_iff.1 h
    obtain ⟨a1, a2⟩ := wordsM_inv hb h1
    refine ⟨by rw [List.length_map]; exact a1, fun c hc => ?_⟩
    obtain ⟨x, hx, rfl⟩ := List.mem_map.1 hc
    exact Or.inr (Or.inr (Or.inr ⟨rfl, x, rfl, a2 x hx⟩))

theorem fillC_inv {P : Nat × Int × List Nat → Prop} (h0 : P nul) : ∀ {th : List Nat} {o : List (Nat × Int × List Nat)}, (∀ c ∈ o, P c) → (fillC th o).length = th.length ∧ ∀ c ∈ fillC th o, P c
  | [], o, h => ⟨rfl, fun c hc => by simp [fillC] at hc⟩
  | x :: t, o, h => by
    unfold fillC
    split
    · obtain ⟨a1, a2⟩ := fillC_inv h0 (th := t) h
      refine ⟨by simp only [List.length_cons, a1], fun c hc => ?_⟩
      rcases List.mem_cons.1 hc with rfl | hc
      · exact h0
      · exact a2 c hc
    · obtain ⟨a1, a2⟩ := fillC_inv h0 (th := t) (o := o.tail) fun c hc => h c (List.mem_of_mem_tail hc)
      refine ⟨by simp only [List.length_cons, a1], fun c hc => ?_⟩
      rcases List.mem_cons.1 hc with rfl | hc
      · cases o with
        | nil => exact h0
        | cons y s => exact h y (by simp)
      · exact a2 c hc

theorem parC_inv {k : Nat} {b : List Nat} {n : Nat} {l : List (Nat × Int × List Nat)} (hk : 1 ≤ k ∧ k ≤ 3) (hb : Bs b) (h : parC k b n = some l) : l.length = n ∧ ∀ c ∈ l, Cellw k c := by
  obtain ⟨⟨th, r⟩, h1, h2⟩ := Option.bind_eq_some_iff.1 h
  obtain ⟨o, h3, rfl⟩ := Option.map_eq_some_iff.1 h2
  obtain ⟨a1, a2, a3⟩ := headM_inv hb h1
  obtain ⟨b1, b2⟩ := ownM_inv hk a3 h3
  obtain ⟨c1, c2⟩ := fillC_inv (P := Cellw k) (Or.inl rfl) (th := th) b2
  exact ⟨c1.trans a1, c2⟩

/-- The values whose bytes these are. -/
def readC (k : Nat) (b : List Nat) (n : Nat) : Option (List (Nat × Int × List Nat)) :=
  (parC k b n).bind fun l => if (∀ c ∈ l, c.2.2.length ≤ 64) ∧ colM k l = b then some l else none

theorem readC_iff {k : Nat} {b : List Nat} {n : Nat} {l : List (Nat × Int × List Nat)} (hk : 1 ≤ k ∧ k ≤ 3) (hn : n ≤ 256) (hb : Bs b) : readC k b n = some l ↔ Col k l ∧ l.length = n ∧ colM k l = b := by
  constructor
  · intro h
    obtain ⟨l2, h1, h2⟩ := Option.bind_eq_some_iff.1 h
    split at h2
    · next h3 =>
      cases h2
      obtain ⟨a1, a2⟩ := parC_inv hk hb h1
      exact ⟨⟨hk, by omega, fun c hc => (a2 c hc).short (h3.1 c hc)⟩, a1, h3.2⟩
    · simp at h2
  · rintro ⟨h1, rfl, rfl⟩
    unfold readC
    rw [col_read h1, Option.bind_some]
    simp only
    rw [if_pos ⟨fun c hc => (h1.2.2 c hc).short, trivial⟩]

theorem readC_back {k : Nat} {l : List (Nat × Int × List Nat)} (h : Col k l) : readC k (colM k l) l.length = some l :=
  (readC_iff h.1 h.2.1 (col_size h).2).2 ⟨h, rfl, rfl⟩

theorem readC_cut {k : Nat} {l : List (Nat × Int × List Nat)} (h : Col k l) {c : Nat} (hc : c < (colM k l).length) : readC k ((colM k l).take c) l.length = none := by
  cases e : readC k ((colM k l).take c) l.length with
  | none => rfl
  | some m =>
    obtain ⟨h1, h2, h3⟩ := (readC_iff h.1 h.2.1 ((col_size h).2.take c)).1 e
    have := (col_inj h1 h h2 (r := (colM k l).drop c) (by rw [h3, List.take_append_drop])).2
    have h4 := congrArg List.length this
    rw [List.length_drop] at h4
    simp only [List.length_nil] at h4
    omega

theorem readC_more {k : Nat} {l : List (Nat × Int × List Nat)} (h : Col k l) {r : List Nat} (hr : r ≠ []) (hb : Bs r) : readC k (colM k l ++ r) l.length = none := by
  cases e : readC k (colM k l ++ r) l.length with
  | none => rfl
  | some m =>
    obtain ⟨h1, h2, h3⟩ := (readC_iff h.1 h.2.1 ((col_size h).2.append hb)).1 e
    exact absurd (col_inj h h1 h2.symm h3.symm).2 hr

/-- Write: the bytes, and the error's number. -/
def writeC (k : Nat) (l : List (Nat × Int × List Nat)) : List Nat × Nat :=
  if 1 ≤ k ∧ k ≤ 3 ∧ ∀ c ∈ l, c.1 = 0 ∨ c.1 = k then
    (if l.length ≤ 256 ∧ ∀ c ∈ l, c.2.2.length ≤ 64 then (colM k l, 0) else ([], 5))
  else ([], 10)

theorem Cellk.kind {k : Nat} {c : Nat × Int × List Nat} (h : Cellk k c) : c.1 = 0 ∨ c.1 = k := by
  rcases h with rfl | ⟨rfl, n, rfl, _⟩ | ⟨rfl, n, rfl, _⟩ | ⟨rfl, s, rfl, _⟩
  · exact Or.inl rfl
  · exact Or.inr rfl
  · exact Or.inr rfl
  · exact Or.inr rfl

theorem writeC_col {k : Nat} {l : List (Nat × Int × List Nat)} (h : Col k l) : writeC k l = (colM k l, 0) := by
  unfold writeC
  rw [if_pos ⟨h.1.1, h.1.2, fun c hc => (h.2.2 c hc).kind⟩, if_pos ⟨h.2.1, fun c hc => (h.2.2 c hc).short⟩]
end Go.Proofs.YtcmmednihoaekaaGreat
