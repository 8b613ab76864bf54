/- Signs of a list of bytes: what the model's decoding tells, one by one; bytes of a sign; clean texts are just the bytes of lists of signs. No program here. -/
import Derived.Lib.DecodeN
set_option linter.unusedVariables false
set_option linter.unusedSimpArgs false
namespace Go.Proofs.Ytgcdnigfojihiaa
open Go.Lib (decodeN)

/-- The first sign of a list of bytes: its number and how many bytes it has. -/
def unit (l : List UInt8) : Nat × Nat := decodeN l.length (l.getD 0 0).toNat (l.getD 1 0).toNat (l.getD 2 0).toNat (l.getD 3 0).toNat

def vr (c : Nat) : Prop := c < 55296 ∨ (57344 ≤ c ∧ c ≤ 1114111)

def bt (n : Nat) : UInt8 := UInt8.ofNat n
theorem bt_toNat {n : Nat} (h : n < 256) : (bt n).toNat = n := by
  simp [bt]; omega

/-- The bytes of a sign. -/
def encL (c : Nat) : List UInt8 :=
  if c < 128 then [bt c]
  else if c < 2048 then [bt (192 + c / 64), bt (128 + c % 64)]
  else if c < 65536 then [bt (224 + c / 4096), bt (128 + c / 64 % 64), bt (128 + c % 64)]
  else [bt (240 + c / 262144), bt (128 + c / 4096 % 64), bt (128 + c / 64 % 64), bt (128 + c % 64)]

theorem encode_eq (c : Nat) (h : vr c) : (Utf8.encode (c : Int)).data.toList = encL c := by
  have hv : Utf8.valid (c : Int) = true := by
    simp only [Utf8.valid, vr] at *
    rcases h with h | h
    · simp; omega
    · simp; omega
  simp only [Utf8.encode, hv, if_true, Int.toNat_natCast, encL]
  repeat' split
  all_goals rfl

theorem encL_pos (c : Nat) : 1 ≤ (encL c).length ∧ (encL c).length ≤ 4 := by
  unfold encL
  repeat' split
  all_goals simp

theorem byte_lt (l : List UInt8) (k : Nat) : (l.getD k 0).toNat < 256 := UInt8.toNat_lt _

set_option maxHeartbeats 1000000 in
theorem unit_enc (c : Nat) (h : vr c) (y : List UInt8) : unit (encL c ++ y) = (c, (encL c).length) := by
  unfold vr at h
  unfold encL
  split
  · simp only [unit, List.cons_append, List.nil_append, List.getD_cons_zero, List.length_cons]
    rw [bt_toNat (by omega)]
    simp only [decodeN]
    rw [if_pos (by omega)]
    rfl
  · split
    · simp only [unit, List.cons_append, List.nil_append, List.getD_cons_zero, List.getD_cons_succ, List.length_cons]
      rw [bt_toNat (by omega), bt_toNat (by omega)]
      simp only [decodeN]
      rw [if_neg (by omega), if_pos (by omega), if_pos (by omega)]
      congr 1
      omega
    · split
      · simp only [unit, List.cons_append, List.nil_append, List.getD_cons_zero, List.getD_cons_succ, List.length_cons]
        rw [bt_toNat (by omega), bt_toNat (by omega), bt_toNat (by omega)]
        simp only [decodeN]
        rw [if_neg (by omega), if_neg (by omega), if_pos (by omega), if_pos (by omega)]
        congr 1
        omega
      · simp only [unit, List.cons_append, List.nil_append, List.getD_cons_zero, List.getD_cons_succ, List.length_cons]
        rw [bt_toNat (by omega), bt_toNat (by omega), bt_toNat (by omega), bt_toNat (by omega)]
        simp only [decodeN]
        rw [if_neg (by omega), if_neg (by omega), if_neg (by omega), if_pos (by omega), if_pos (by omega)]
        congr 1
        omega

theorem bt_of (x : UInt8) (n : Nat) (h : x.toNat = n) : x = bt n := by
  subst h
  simp [bt]

/-- A sign is whole, or a byte that belongs to none. -/
def ok (u : Nat × Nat) : Bool := !(u.1 == 65533 && u.2 == 1)

theorem ok_of_wide {c w : Nat} (h : w ≠ 1) : ok (c, w) = true := by simp [ok, h]

set_option maxHeartbeats 1000000 in
theorem unit_cases (l : List UInt8) (hl : l ≠ []) : unit l = (65533, 1) ∨ (vr (unit l).1 ∧ (unit l).2 = (encL (unit l).1).length ∧ (unit l).1 ≠ 65533 ∨ unit l = (65533, 3)) ∧ ∃ y, l = encL (unit l).1 ++ y := by
  match l, hl with
  | b0 :: t, _ =>
    have h0 : b0.toNat < 256 := UInt8.toNat_lt _
    by_cases ha : b0.toNat < 128
    · right
      have hu : unit (b0 :: t) = (b0.toNat, 1) := by simp only [unit, List.getD_cons_zero, decodeN]; rw [if_pos ha]
      rw [hu]
      have he : encL b0.toNat = [b0] := by simp only [encL]; rw [if_pos ha, ← bt_of b0 _ rfl]
      refine ⟨Or.inl ⟨Or.inl (by show b0.toNat < 55296; omega), by simp [he], by simp; omega⟩, t, by simp [he]⟩
    · by_cases h2 : 194 ≤ b0.toNat ∧ b0.toNat < 224
      · cases t with
        | nil => left; simp only [unit, decodeN, List.getD_cons_zero, List.length_cons, List.length_nil]; rw [if_neg ha, if_neg (by omega), if_neg (by omega), if_neg (by omega)]
        | cons b1 t =>
          have h1 : b1.toNat < 256 := UInt8.toNat_lt _
          by_cases hc : b1.toNat / 64 = 2
          · right
            have hu : unit (b0 :: b1 :: t) = (b0.toNat % 32 * 64 + b1.toNat % 64, 2) := by simp only [unit, List.getD_cons_zero, List.getD_cons_succ, List.length_cons, decodeN]; rw [if_neg ha, if_pos (by omega), if_pos (by omega)]
            rw [hu]
            have he : encL (b0.toNat % 32 * 64 + b1.toNat % 64) = [b0, b1] := by
              simp only [encL]; rw [if_neg (by omega), if_pos (by omega), ← bt_of b0 _ (by omega), ← bt_of b1 _ (by omega)]
            refine ⟨Or.inl ⟨Or.inl (by simp only; omega), by simp [he], by simp only; omega⟩, t, by simp [he]⟩
          · left
            simp only [unit, List.getD_cons_zero, List.getD_cons_succ, List.length_cons, decodeN]; rw [if_neg ha, if_neg (by omega), if_neg (by omega), if_neg (by omega)]
      · by_cases h3 : 224 ≤ b0.toNat ∧ b0.toNat < 240
        · match t with
          | [] => left; simp only [unit, decodeN, List.getD_cons_zero, List.length_cons, List.length_nil]; rw [if_neg ha, if_neg (by omega), if_neg (by omega), if_neg (by omega)]
          | [b1] => left; simp only [unit, decodeN, List.getD_cons_zero, List.length_cons, List.length_nil]; rw [if_neg ha, if_neg (by omega), if_neg (by omega), if_neg (by omega)]
          | b1 :: b2 :: t =>
            have h1 : b1.toNat < 256 := UInt8.toNat_lt _
            have h2' : b2.toNat < 256 := UInt8.toNat_lt _
            generalize hn : b0.toNat % 16 * 4096 + b1.toNat % 64 * 64 + b2.toNat % 64 = n
            by_cases hc : b1.toNat / 64 = 2 ∧ b2.toNat / 64 = 2 ∧ n ≥ 2048 ∧ (n < 55296 ∨ (57344 ≤ n ∧ n ≤ 1114111))
            · right
              have hu : unit (b0 :: b1 :: b2 :: t) = (n, 3) := by simp only [unit, List.getD_cons_zero, List.getD_cons_succ, List.length_cons, decodeN]; rw [hn, if_neg ha, if_neg (by omega), if_pos (by omega), if_pos (by omega)]
              rw [hu]
              have he : encL n = [b0, b1, b2] := by
                simp only [encL]; rw [if_neg (by omega), if_neg (by omega), if_pos (by omega), ← bt_of b0 _ (by omega), ← bt_of b1 _ (by omega), ← bt_of b2 _ (by omega)]
              refine ⟨?_, t, by simp [he]⟩
              by_cases hne : n = 65533
              · right; rw [hne]
              · exact Or.inl ⟨by simp only [vr]; omega, by simp [he], hne⟩
            · left
              simp only [unit, List.getD_cons_zero, List.getD_cons_succ, List.length_cons, decodeN]
              rw [hn, if_neg ha, if_neg (by omega)]
              split
              · rw [if_neg (by omega)]
              · rw [if_neg (by omega)]
        · by_cases h4 : 240 ≤ b0.toNat ∧ b0.toNat < 248
          · match t with
            | [] => left; simp only [unit, decodeN, List.getD_cons_zero, List.length_cons, List.length_nil]; rw [if_neg ha, if_neg (by omega), if_neg (by omega), if_neg (by omega)]
            | [b1] => left; simp only [unit, decodeN, List.getD_cons_zero, List.length_cons, List.length_nil]; rw [if_neg ha, if_neg (by omega), if_neg (by omega), if_neg (by omega)]
            | [b1, b2] => left; simp only [unit, decodeN, List.getD_cons_zero, List.length_cons, List.length_nil]; rw [if_neg ha, if_neg (by omega), if_neg (by omega), if_neg (by omega)]
            | b1 :: b2 :: b3 :: t =>
              have h1 : b1.toNat < 256 := UInt8.toNat_lt _
              have h2' : b2.toNat < 256 := UInt8.toNat_lt _
              have h3' : b3.toNat < 256 := UInt8.toNat_lt _
              generalize hn : b0.toNat % 8 * 262144 + b1.toNat % 64 * 4096 + b2.toNat % 64 * 64 + b3.toNat % 64 = n
              by_cases hc : b1.toNat / 64 = 2 ∧ b2.toNat / 64 = 2 ∧ b3.toNat / 64 = 2 ∧ n ≥ 65536 ∧ (n < 55296 ∨ (57344 ≤ n ∧ n ≤ 1114111))
              · right
                have hu : unit (b0 :: b1 :: b2 :: b3 :: t) = (n, 4) := by simp only [unit, List.getD_cons_zero, List.getD_cons_succ, List.length_cons, decodeN]; rw [hn, if_neg ha, if_neg (by omega), if_neg (by omega), if_pos (by omega), if_pos (by omega)]
                rw [hu]
                have he : encL n = [b0, b1, b2, b3] := by
                  simp only [encL]; rw [if_neg (by omega), if_neg (by omega), if_neg (by omega), ← bt_of b0 _ (by omega), ← bt_of b1 _ (by omega), ← bt_of b2 _ (by omega), ← bt_of b3 _ (by omega)]
                refine ⟨?_, t, by simp [he]⟩
                exact Or.inl ⟨by simp only [vr]; omega, by simp [he], by omega⟩
              · left
                simp only [unit, List.getD_cons_zero, List.getD_cons_succ, List.length_cons, decodeN]
                rw [hn, if_neg ha, if_neg (by omega), if_neg (by omega)]
                split
                · rw [if_neg (by omega)]
                · rfl
          · left
            simp only [unit, List.getD_cons_zero, decodeN]
            rw [if_neg ha]
            split
            · rw [if_neg (by have := byte_lt (b0 :: t) 1; omega)]
            · rw [if_neg (by omega), if_neg (by omega)]
end Go.Proofs.Ytgcdnigfojihiaa
