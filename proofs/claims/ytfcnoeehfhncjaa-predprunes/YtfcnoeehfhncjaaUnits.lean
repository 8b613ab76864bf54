/- Signs of a list of bytes: what the model tells, one by one; bytes of a sign; clean texts. No program here. -/
import Derived.Lib.DecodeN
set_option linter.unusedVariables false
set_option linter.unusedSimpArgs false
namespace Go.Proofs.Ytfcnoeehfhncjaa
open Go

open Go.Lib (decodeN)
/-- The first sign of a list of bytes: its number and how many bytes it has. -/
def unit (l : List UInt8) : Nat × Nat := decodeN l.length (l.getD 0 0).toNat (l.getD 1 0).toNat (l.getD 2 0).toNat (l.getD 3 0).toNat

def vr (c : Nat) : Prop := c < 55296 ∨ (57344 ≤ c ∧ c ≤ 1114111)

def bt (n : Nat) : UInt8 := UInt8.ofNat n

theorem bt_toNat {n : Nat} (h : n < 256) : (bt n).toNat = n := by
  simp [bt]; omega

/-- The bytes of a sign. -/
def encL (c : Nat) : List UInt8 :=
  if c < 128 then [bt c]
  else if c < 2048 then [bt (192 + c / 64), bt (128 + c % 64)]
  else if c < 65536 then [bt (224 + c / 4096), bt (128 + c / 64 % 64), bt (128 + c % 64)]
  else [bt (240 + c / 262144), bt (128 + c / 4096 % 64), bt (128 + c / 64 % 64), bt (128 + c % 64)]

theorem encode_eq (c : Nat) (h : vr c) : (Utf8.encode (c : Int)).data.toList = encL c := by
  have hv : Utf8.valid (c : Int) = true := by
    simp only [Utf8.valid, vr] at *
    rcases h with h | h
    · simp; omega
    · simp; omega
  simp only [Utf8.encode, hv, if_true, Int.toNat_natCast, encL]
  repeat' split
  all_goals rfl

theorem encL_pos (c : Nat) : 1 ≤ (encL c).length ∧ (encL c).length ≤ 4 := by
  unfold encL
  repeat' split
  all_goals simp

theorem byte_lt (l : List UInt8) (k : Nat) : (l.getD k 0).toNat < 256 := UInt8.toNat_lt _

set_option maxHeartbeats 1000000 in
theorem unit_enc (c : Nat) (h : vr c) (y : List UInt8) : unit (encL c ++ y) = (c, (encL c).length) := by
  unfold vr at h
  unfold encL
  split
  · simp only [unit, List.cons_append, List.nil_append, List.getD_cons_zero, List.length_cons]
    rw [bt_toNat (by omega)]
    simp only [decodeN]
    rw [if_pos (by omega)]
    rfl
  · split
    · simp only [unit, List.cons_append, List.nil_append, List.getD_cons_zero, List.getD_cons_succ, List.length_cons]
      rw [bt_toNat (by omega), bt_toNat (by omega)]
      simp only [decodeN]
      rw [if_neg (by omega), if_pos (by omega), if_pos (by omega)]
      congr 1
      omega
    · split
      · simp only [unit, List.cons_append, List.nil_append, List.getD_cons_zero, List.getD_cons_succ, List.length_cons]
        rw [bt_toNat (by omega), bt_toNat (by omega), bt_toNat (by omega)]
        simp only [decodeN]
        rw [if_neg (by omega), if_neg (by omega), if_pos (by omega), if_pos (by omega)]
        congr 1
        omega
      · simp only [unit, List.cons_append, List.nil_append, List.getD_cons_zero, List.getD_cons_succ, List.length_cons]
        rw [bt_toNat (by omega), bt_toNat (by omega), bt_toNat (by omega), bt_toNat (by omega)]
        simp only [decodeN]
        rw [if_neg (by omega), if_neg (by omega), if_neg (by omega), if_pos (by omega), if_pos (by omega)]
        congr 1
        omega

theorem bt_of (x : UInt8) (n : Nat) (h : x.toNat = n) : x = bt n := by
  subst h
  simp [bt]

/-- A sign is whole, or a byte that belongs to none. -/
def ok (u : Nat × Nat) : Bool := !(u.1 == 65533 && u.2 == 1)

theorem ok_of_wide {c w : Nat} (h : w ≠ 1) : ok (c, w) = true := by simp [ok, h]

set_option maxHeartbeats 1000000 in
theorem unit_cases (l : List UInt8) (hl : l ≠ []) : unit l = (65533, 1) ∨ (vr (unit l).1 ∧ (unit l).2 = (encL (unit l).1).length ∧ (unit l).1 ≠ 65533 ∨ unit l = (65533, 3)) ∧ ∃ y, l = encL (unit l).1 ++ y := by
  match l, hl with
  | b0 :: t, _ =>
    have h0 : b0.toNat < 256 := UInt8.toNat_lt _
    by_cases ha : b0.toNat < 128
    · right
      have hu : unit (b0 :: t) = (b0.toNat, 1) := by simp only [unit, List.getD_cons_zero, decodeN]; rw [if_pos ha]
      rw [hu]
      have he : encL b0.toNat = [b0] := by simp only [encL]; rw [if_pos ha, ← bt_of b0 _ rfl]
      refine ⟨Or.inl ⟨Or.inl (by show b0.toNat < 55296; omega), by simp [he], by simp; omega⟩, t, by simp [he]⟩
    · by_cases h2 : 194 ≤ b0.toNat ∧ b0.toNat < 224
      · cases t with
        | nil => left; simp only [unit, decodeN, List.getD_cons_zero, List.length_cons, List.length_nil]; rw [if_neg ha, if_neg (by omega), if_neg (by omega), if_neg (by omega)]
        | cons b1 t =>
          have h1 : b1.toNat < 256 := UInt8.toNat_lt _
          by_cases hc : b1.toNat / 64 = 2
          · right
            have hu : unit (b0 :: b1 :: t) = (b0.toNat % 32 * 64 + b1.toNat % 64, 2) := by simp only [unit, List.getD_cons_zero, List.getD_cons_succ, List.length_cons, decodeN]; rw [if_neg ha, if_pos (by omega), if_pos (by omega)]
            rw [hu]
            have he : encL (b0.toNat % 32 * 64 + b1.toNat % 64) = [b0, b1] := by
              simp only [encL]; rw [if_neg (by omega), if_pos (by omega), ← bt_of b0 _ (by omega), ← bt_of b1 _ (by omega)]
            refine ⟨Or.inl ⟨Or.inl (by simp only; omega), by simp [he], by simp only; omega⟩, t, by simp [he]⟩
          · left
            simp only [unit, List.getD_cons_zero, List.getD_cons_succ, List.length_cons, decodeN]; rw [if_neg ha, if_neg (by omega), if_neg (by omega), if_neg (by omega)]
      · by_cases h3 : 224 ≤ b0.toNat ∧ b0.toNat < 240
        · match t with
          | [] => left; simp only [unit, decodeN, List.getD_cons_zero, List.length_cons, List.length_nil]; rw [if_neg ha, if_neg (by omega), if_neg (by omega), if_neg (by omega)]
          | [b1] => left; simp only [unit, decodeN, List.getD_cons_zero, List.length_cons, List.length_nil]; rw [if_neg ha, if_neg (by omega), if_neg (by omega), if_neg (by omega)]
          | b1 :: b2 :: t =>
            have h1 : b1.toNat < 256 := UInt8.toNat_lt _
            have h2' : b2.toNat < 256 := UInt8.toNat_lt _
            generalize hn : b0.toNat % 16 * 4096 + b1.toNat % 64 * 64 + b2.toNat % 64 = n
            by_cases hc : b1.toNat / 64 = 2 ∧ b2.toNat / 64 = 2 ∧ n ≥ 2048 ∧ (n < 55296 ∨ (57344 ≤ n ∧ n ≤ 1114111))
            · right
              have hu : unit (b0 :: b1 :: b2 :: t) = (n, 3) := by simp only [unit, List.getD_cons_zero, List.getD_cons_succ, List.length_cons, decodeN]; rw [hn, if_neg ha, if_neg (by omega), if_pos (by omega), if_pos (by omega)]
              rw [hu]
              have he : encL n = [b0, b1, b2] := by
                simp only [encL]; rw [if_neg (by omega), if_neg (by omega), if_pos (by omega), ← bt_of b0 _ (by omega), ← bt_of b1 _ (by omega), ← bt_of b2 _ (by omega)]
              refine ⟨?_, t, by simp [he]⟩
              by_cases hne : n = 65533
              · right; rw [hne]
              · exact Or.inl ⟨by simp only [vr]; omega, by simp [he], hne⟩
            · left
              simp only [unit, List.getD_cons_zero, List.getD_cons_succ, List.length_cons, decodeN]
              rw [hn, if_neg ha, if_neg (by omega)]
              split
              · rw [if_neg (by omega)]
              · rw [if_neg (by omega)]
        · by_cases h4 : 240 ≤ b0.toNat ∧ b0.toNat < 248
          · match t with
            | [] => left; simp only [unit, decodeN, List.getD_cons_zero, List.length_cons, List.length_nil]; rw [if_neg ha, if_neg (by omega), if_neg (by omega), if_neg (by omega)]
            | [b1] => left; simp only [unit, decodeN, List.getD_cons_zero, List.length_cons, List.length_nil]; rw [if_neg ha, if_neg (by omega), if_neg (by omega), if_neg (by omega)]
            | [b1, b2] => left; simp only [unit, decodeN, List.getD_cons_zero, List.length_cons, List.length_nil]; rw [if_neg ha, if_neg (by omega), if_neg (by omega), if_neg (by omega)]
            | b1 :: b2 :: b3 :: t =>
              have h1 : b1.toNat < 256 := UInt8.toNat_lt _
              have h2' : b2.toNat < 256 := UInt8.toNat_lt _
              have h3' : b3.toNat < 256 := UInt8.toNat_lt _
              generalize hn : b0.toNat % 8 * 262144 + b1.toNat % 64 * 4096 + b2.toNat % 64 * 64 + b3.toNat % 64 = n
              by_cases hc : b1.toNat / 64 = 2 ∧ b2.toNat / 64 = 2 ∧ b3.toNat / 64 = 2 ∧ n ≥ 65536 ∧ (n < 55296 ∨ (57344 ≤ n ∧ n ≤ 1114111))
              · right
                have hu : unit (b0 :: b1 :: b2 :: b3 :: t) = (n, 4) := by simp only [unit, List.getD_cons_zero, List.getD_cons_succ, List.length_cons, decodeN]; rw [hn, if_neg ha, if_neg (by omega), if_neg (by omega), if_pos (by omega), if_pos (by omega)]
                rw [hu]
                have he : encL n = [b0, b1, b2, b3] := by
                  simp only [encL]; rw [if_neg (by omega), if_neg (by omega), if_neg (by omega), ← bt_of b0 _ (by omega), ← bt_of b1 _ (by omega), ← bt_of b2 _ (by omega), ← bt_of b3 _ (by omega)]
                refine ⟨?_, t, by simp [he]⟩
                exact Or.inl ⟨by simp only [vr]; omega, by simp [he], by omega⟩
              · left
                simp only [unit, List.getD_cons_zero, List.getD_cons_succ, List.length_cons, decodeN]
                rw [hn, if_neg ha, if_neg (by omega), if_neg (by omega)]
                split
                · rw [if_neg (by omega)]
                · rfl
          · left
            simp only [unit, List.getD_cons_zero, decodeN]
            rw [if_neg ha]
            split
            · rw [if_neg (by have := byte_lt (b0 :: t) 1; omega)]
            · rw [if_neg (by omega), if_neg (by omega)]

theorem unit_width (l : List UInt8) (hl : l ≠ []) : 1 ≤ (unit l).2 ∧ (unit l).2 ≤ l.length := by
  have hpos : 1 ≤ l.length := by cases l with | nil => exact absurd rfl hl | cons => simp
  rcases unit_cases l hl with h | ⟨h, y, hy⟩
  · rw [h]; exact ⟨Nat.le_refl _, hpos⟩
  · rcases h with ⟨_, h, _⟩ | h
    · have := encL_pos (unit l).1
      have hlen := congrArg List.length hy
      simp at hlen
      omega
    · have hlen := congrArg List.length hy
      rw [h] at hlen ⊢
      have : (encL 65533).length = 3 := by decide
      simp [this] at hlen
      simp
      omega

theorem unit_vr (l : List UInt8) (hl : l ≠ []) : vr (unit l).1 := by
  rcases unit_cases l hl with h | ⟨⟨h, _⟩ | h, _⟩
  · rw [h]; simp [vr]
  · exact h
  · rw [h]; simp [vr]

/-- The signs of a list of bytes (f: no fewer than its bytes). -/
def us : Nat → List UInt8 → List (Nat × Nat)
  | 0, _ => []
  | _ + 1, [] => []
  | f + 1, b :: t => unit (b :: t) :: us f ((b :: t).drop (unit (b :: t)).2)

def V (l : List UInt8) : List (Nat × Nat) := us l.length l

theorem us_fuel : ∀ (f : Nat) (l : List UInt8), l.length ≤ f → ∀ g, l.length ≤ g → us f l = us g l := by
  intro f
  induction f with
  | zero => intro l h g hg; cases l with | nil => cases g <;> rfl | cons => simp at h
  | succ f ih =>
    intro l h g hg
    cases l with
    | nil => cases g <;> rfl
    | cons b t =>
      cases g with
      | zero => simp at hg
      | succ g =>
        have hw := unit_width (b :: t) (by simp)
        simp only [us]
        congr 1
        simp at h hg hw
        exact ih _ (by simp; omega) _ (by simp; omega)

@[simp] theorem V_nil : V [] = [] := rfl

theorem V_step {l : List UInt8} (hl : l ≠ []) : V l = unit l :: V (l.drop (unit l).2) := by
  cases l with
  | nil => exact absurd rfl hl
  | cons b t =>
    have hw := unit_width (b :: t) (by simp)
    show us (t.length + 1) (b :: t) = _
    simp only [us]
    congr 1
    simp at hw
    exact us_fuel _ _ (by simp; omega) _ (by simp)

theorem V_length : ∀ (n : Nat) (l : List UInt8), l.length ≤ n → (V l).length ≤ l.length := by
  intro n
  induction n with
  | zero => intro l h; cases l with | nil => simp | cons => simp at h
  | succ n ih =>
    intro l h
    by_cases hl : l = []
    · subst hl; simp
    · rw [V_step hl]
      have hw := unit_width l hl
      have := ih (l.drop (unit l).2) (by simp; omega)
      simp at this ⊢
      omega

theorem V_le (l : List UInt8) : (V l).length ≤ l.length := V_length _ l (Nat.le_refl _)

theorem V_vr : ∀ (n : Nat) (l : List UInt8), l.length ≤ n → ∀ u ∈ V l, vr u.1 ∧ 1 ≤ u.2 := by
  intro n
  induction n with
  | zero => intro l h; cases l with | nil => simp | cons => simp at h
  | succ n ih =>
    intro l h u hu
    by_cases hl : l = []
    · subst hl; simp at hu
    · rw [V_step hl] at hu
      have hw := unit_width l hl
      simp at hu
      rcases hu with rfl | hu
      · exact ⟨unit_vr l hl, hw.1⟩
      · exact ih _ (by simp; omega) u hu

theorem enc_ne (c : Nat) (y : List UInt8) : encL c ++ y ≠ [] := by
  have := encL_pos c
  intro h
  have h2 := congrArg List.length h
  simp at h2
  rw [h2.1] at this
  simp at this

theorem V_enc {c : Nat} (h : vr c) (y : List UInt8) : V (encL c ++ y) = (c, (encL c).length) :: V y := by
  rw [V_step (enc_ne c y), unit_enc c h y]
  simp

def eu (c : Nat) : Nat × Nat := (c, (encL c).length)

def flat (rs : List Nat) : List UInt8 := rs.flatMap encL

@[simp] theorem flat_nil : flat [] = [] := rfl

@[simp] theorem flat_cons (c : Nat) (rs : List Nat) : flat (c :: rs) = encL c ++ flat rs := rfl

@[simp] theorem flat_append (a b : List Nat) : flat (a ++ b) = flat a ++ flat b := by simp [flat]

theorem V_flat (rs : List Nat) (h : ∀ r ∈ rs, vr r) (y : List UInt8) : V (flat rs ++ y) = rs.map eu ++ V y := by
  induction rs with
  | nil => rfl
  | cons c rs ih =>
    rw [flat_cons, List.append_assoc, V_enc (h c (by simp))]
    rw [ih (fun r hr => h r (by simp [hr]))]
    rfl

theorem ok_eu {c : Nat} (h : vr c) : ok (eu c) = true := by
  unfold ok eu
  by_cases hc : c = 65533
  · subst hc; decide
  · simp [hc]

def clean (l : List UInt8) : Bool := (V l).all ok

def runes (l : List UInt8) : List Nat := (V l).map Prod.fst

theorem V_flat0 (rs : List Nat) (h : ∀ r ∈ rs, vr r) : V (flat rs) = rs.map eu := by
  have := V_flat rs h []
  simpa using this

theorem clean_flat (rs : List Nat) (h : ∀ r ∈ rs, vr r) : clean (flat rs) = true := by
  unfold clean
  rw [V_flat0 rs h]
  simp
  intro r hr
  exact ok_eu (h r hr)

theorem runes_flat (rs : List Nat) (h : ∀ r ∈ rs, vr r) : runes (flat rs) = rs := by
  unfold runes
  rw [V_flat0 rs h]
  simp [eu, Function.comp_def]

theorem unit_ok {l : List UInt8} (hl : l ≠ []) (ho : ok (unit l) = true) : unit l = eu (unit l).1 ∧ ∃ y, l = encL (unit l).1 ++ y := by
  rcases unit_cases l hl with h | ⟨h, y, hy⟩
  · rw [h] at ho; simp [ok] at ho
  · refine ⟨?_, y, hy⟩
    rcases h with ⟨_, h, _⟩ | h
    · exact Prod.ext rfl h
    · rw [h]; decide

theorem flat_of_clean : ∀ (n : Nat) (l : List UInt8), l.length ≤ n → clean l = true → l = flat (runes l) ∧ V l = (runes l).map eu := by
  intro n
  induction n with
  | zero => intro l h hc; cases l with | nil => exact ⟨rfl, rfl⟩ | cons => simp at h
  | succ n ih =>
    intro l h hc
    by_cases hl : l = []
    · subst hl; exact ⟨rfl, rfl⟩
    · have hw := unit_width l hl
      unfold clean at hc
      rw [V_step hl, List.all_cons, Bool.and_eq_true] at hc
      obtain ⟨hu, y, hy⟩ := unit_ok hl hc.1
      have hd : l.drop (unit l).2 = y := by
        have h2 : (unit l).2 = (encL (unit l).1).length := congrArg Prod.snd hu
        rw [h2]
        conv => lhs; arg 2; rw [hy]
        simp
      obtain ⟨e1, e2⟩ := ih (l.drop (unit l).2) (by simp; omega) hc.2
      have hr : runes l = (unit l).1 :: runes (l.drop (unit l).2) := by
        unfold runes; rw [V_step hl]; rfl
      rw [hr]
      constructor
      · rw [flat_cons, ← e1, hd]; exact hy
      · rw [V_step hl, e2, List.map_cons, ← hu]

theorem clean_eq {l : List UInt8} (h : clean l = true) : l = flat (runes l) := (flat_of_clean _ l (Nat.le_refl _) h).1

theorem clean_V {l : List UInt8} (h : clean l = true) : V l = (runes l).map eu := (flat_of_clean _ l (Nat.le_refl _) h).2

theorem runes_vr (l : List UInt8) : ∀ r ∈ runes l, vr r := by
  intro r hr
  simp [runes] at hr
  obtain ⟨w, hw⟩ := hr
  exact (V_vr _ l (Nat.le_refl _) _ hw).1

/-- Where sign number k begins. -/
def offs (u : List (Nat × Nat)) (k : Nat) : Nat := ((u.take k).map Prod.snd).sum

@[simp] theorem offs_zero (u : List (Nat × Nat)) : offs u 0 = 0 := by simp [offs]

theorem offs_succ {u t : List (Nat × Nat)} {k : Nat} {x : Nat × Nat} (h : u.drop k = x :: t) : offs u (k + 1) = offs u k + x.2 := by
  have hk : k < u.length := by
    rcases Nat.lt_or_ge k u.length with h1 | h1
    · exact h1
    · rw [List.drop_eq_nil_of_le h1] at h; cases h
  have hx : u[k] = x := by
    rw [List.drop_eq_getElem_cons hk] at h
    exact (List.cons.inj h).1
  unfold offs
  rw [List.take_succ_eq_append_getElem hk, hx]
  simp

theorem drop_succ {u t : List (Nat × Nat)} {k : Nat} {x : Nat × Nat} (h : u.drop k = x :: t) : u.drop (k + 1) = t := by
  rw [← List.drop_drop, h]; rfl

/-- At a place where a sign begins: the rest of the signs, and what comes next. -/
def At (l : List UInt8) (p k : Nat) : Prop := p ≤ l.length ∧ V (l.drop p) = (V l).drop k ∧ p = offs (V l) k ∧ k ≤ (V l).length

theorem At.zero (l : List UInt8) : At l 0 0 := ⟨by omega, by simp, by simp, by omega⟩

theorem drop_ne {l : List UInt8} {p : Nat} (h : p < l.length) : l.drop p ≠ [] := by
  intro h2
  have := congrArg List.length h2
  simp at this
  omega

theorem At.lt {l : List UInt8} {p k : Nat} (h : At l p k) (hp : p < l.length) : (V l).drop k = unit (l.drop p) :: V (l.drop (p + (unit (l.drop p)).2)) := by
  rw [← h.2.1, V_step (drop_ne hp), List.drop_drop]

theorem At.len {l : List UInt8} {p k : Nat} (h : At l p k) (hp : p < l.length) : k < (V l).length := by
  have h1 := h.lt hp
  rcases Nat.lt_or_ge k (V l).length with h2 | h2
  · exact h2
  · rw [List.drop_eq_nil_of_le h2] at h1; cases h1

theorem At.get {l : List UInt8} {p k : Nat} (h : At l p k) (hp : p < l.length) : (V l)[k]? = some (unit (l.drop p)) := by
  have h1 := h.lt hp
  have hk := h.len hp
  rw [List.drop_eq_getElem_cons hk] at h1
  rw [List.getElem?_eq_getElem hk, (List.cons.inj h1).1]

theorem At.next {l : List UInt8} {p k : Nat} (h : At l p k) (hp : p < l.length) : At l (p + (unit (l.drop p)).2) (k + 1) := by
  have h1 := h.lt hp
  have hw := unit_width _ (drop_ne hp)
  simp at hw
  refine ⟨by omega, ?_, ?_, h.len hp⟩
  · rw [drop_succ h1]
  · rw [offs_succ h1, ← h.2.2.1]

theorem At.end {l : List UInt8} {p k : Nat} (h : At l p k) (hp : ¬ p < l.length) : k = (V l).length ∧ p = l.length := by
  have h1 := h.2.1
  rw [List.drop_eq_nil_of_le (by omega)] at h1
  have h2 := congrArg List.length h1
  simp at h2
  have := h.2.2.2
  have := h.1
  exact ⟨by omega, by omega⟩

theorem take_all {l : List UInt8} {p k : Nat} (h : At l p k) (hp : p < l.length) : ((V l).take (k + 1)) = (V l).take k ++ [unit (l.drop p)] := by
  have hk := h.len hp
  have hg := h.get hp
  rw [List.getElem?_eq_getElem hk] at hg
  rw [List.take_succ_eq_append_getElem hk, Option.some.inj hg]

/-- How a byte that belongs to no sign, and the sign U+FFFD itself, begin. -/
theorem stray_prefix {l : List UInt8} (hl : l ≠ []) (h : (unit l).1 = 65533) : ([239, 191, 189] : List UInt8).isPrefixOf l = ok (unit l) := by
  rcases unit_cases l hl with hu | ⟨hu, y, hy⟩
  · rw [hu]
    cases hp : ([239, 191, 189] : List UInt8).isPrefixOf l with
    | false => rfl
    | true =>
      exfalso
      obtain ⟨y, hy⟩ := List.isPrefixOf_iff_prefix.1 hp
      have h2 : unit l = (65533, 3) := by
        rw [← hy]
        exact unit_enc 65533 (by simp [vr]) y
      rw [hu] at h2
      cases h2
  · rw [h] at hy
    have hu3 : unit l = (65533, 3) := by
      rcases hu with ⟨_, _, h2⟩ | h2
      · exact absurd h h2
      · exact h2
    rw [hu3, hy]
    have : encL 65533 = [239, 191, 189] := by decide
    rw [this]
    simp [ok]

/-- The model's decoding is this one. -/
theorem decode_unit (s : ByteArray) (p : Nat) : Utf8.decode s p = unit (s.data.toList.drop p) := by
  have hg : ∀ k, s.get! k = s.data.toList.getD k 0 := by
    intro k
    show s.data[k]! = _
    by_cases h : k < s.data.size
    · rw [getElem!_pos s.data k h, List.getD_eq_getElem?_getD, Array.getElem?_toList, Array.getElem?_eq_getElem h]
      rfl
    · rw [getElem!_neg s.data k h, List.getD_eq_getElem?_getD, Array.getElem?_toList, Array.getElem?_eq_none (by omega)]
      rfl
  have hd : ∀ k, (s.data.toList.drop p).getD k 0 = s.data.toList.getD (p + k) 0 := by
    intro k; simp [List.getD_eq_getElem?_getD]
  rw [Lib.decode_at, hg, hg, hg, hg]
  unfold unit
  have hsz : (s.data.toList.drop p).length = s.size - p := by rw [List.length_drop]; rfl
  rw [hd, hd, hd, hd, hsz]
  rfl
end Go.Proofs.Ytfcnoeehfhncjaa
