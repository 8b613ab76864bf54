/- The mathematics of the sum CRC-32, bit by bit, over natural numbers. No program in it. -/
import Derived.Lib.VarintBits
set_option linter.unusedVariables false
set_option linter.unusedSimpArgs false
namespace Go.Proofs.YtnedlogfgpgchaaDoor

/-- One bit's step. -/
def stp (c : Nat) : Nat := c / 2 ^^^ (if c % 2 = 1 then 3988292384 else 0)
def stpN : Nat → Nat → Nat
  | 0, c => c
  | n + 1, c => stpN n (stp c)

theorem stp_lt {c : Nat} (h : c < 4294967296) : stp c < 4294967296 := by
  have : stp c < 2 ^ 32 := by
    unfold stp
    apply Nat.xor_lt_two_pow
    · omega
    · split <;> omega
  omega
theorem stp_zero : stp 0 = 0 := by decide
theorem xor_two (a b : Nat) : (a ^^^ b) % 2 = (a + b) % 2 := by
  have h : (a ^^^ b).testBit 0 = ((a.testBit 0) ^^ (b.testBit 0)) := Nat.testBit_xor _ _ _
  simp only [Nat.testBit_zero] at h
  have ha : a % 2 = 0 ∨ a % 2 = 1 := by omega
  have hb : b % 2 = 0 ∨ b % 2 = 1 := by omega
  have hc : (a ^^^ b) % 2 = 0 ∨ (a ^^^ b) % 2 = 1 := by omega
  generalize (a ^^^ b) % 2 = z at *
  rcases ha with ha | ha <;> rcases hb with hb | hb <;> rcases hc with hc | hc <;> simp [ha, hb, hc] at h <;> omega
theorem xor_zero_eq {a b : Nat} (h : a ^^^ b = 0) : a = b := by
  have := congrArg (fun z => z ^^^ b) h
  simpa only [Nat.xor_assoc, Nat.xor_self, Nat.xor_zero, Nat.zero_xor] using this
theorem stp_xor (a b : Nat) : stp (a ^^^ b) = stp a ^^^ stp b := by
  unfold stp
  have h1 : (a ^^^ b) / 2 = a / 2 ^^^ b / 2 := Nat.xor_div_two
  have h2 : (a ^^^ b) % 2 = (a + b) % 2 := xor_two a b
  rw [h1]
  have ha : a % 2 = 0 ∨ a % 2 = 1 := by omega
  have hb : b % 2 = 0 ∨ b % 2 = 1 := by omega
  rcases ha with ha | ha <;> rcases hb with hb | hb
  · have h3 : (a ^^^ b) % 2 = 0 := by omega
    simp [ha, hb, h3]
  · have h3 : (a ^^^ b) % 2 = 1 := by omega
    simp [ha, hb, h3, Nat.xor_assoc]
  · have h3 : (a ^^^ b) % 2 = 1 := by omega
    simp [ha, hb, h3, Nat.xor_assoc]
    rw [Nat.xor_comm (b / 2)]
  · have h3 : (a ^^^ b) % 2 = 0 := by omega
    simp only [ha, hb, h3]
    simp only [if_pos, Nat.xor_zero, Nat.zero_ne_one, if_false]
    generalize 3988292384 = p
    rw [Nat.xor_assoc, Nat.xor_comm (b / 2) p, ← Nat.xor_assoc p, Nat.xor_self, Nat.zero_xor]
theorem stp_even (x : Nat) : stp (2 * x) = x := by
  unfold stp
  rw [if_neg (by omega)]
  simp
theorem stp_inj0 {c : Nat} (h : c < 4294967296) (h0 : stp c = 0) : c = 0 := by
  unfold stp at h0
  by_cases hc : c % 2 = 1
  · rw [if_pos hc] at h0
    have : c / 2 = 3988292384 := xor_zero_eq h0
    omega
  · rw [if_neg hc, Nat.xor_zero] at h0
    omega

theorem stpN_lt : ∀ (n : Nat) {c : Nat}, c < 4294967296 → stpN n c < 4294967296
  | 0, _, h => h
  | n + 1, _, h => stpN_lt n (stp_lt h)
theorem stpN_zero : ∀ n : Nat, stpN n 0 = 0
  | 0 => rfl
  | n + 1 => by rw [stpN, stp_zero]; exact stpN_zero n
theorem stpN_xor : ∀ (n a b : Nat), stpN n (a ^^^ b) = stpN n a ^^^ stpN n b
  | 0, _, _ => rfl
  | n + 1, a, b => by rw [stpN, stpN, stpN, stp_xor, stpN_xor n]
theorem stpN_add : ∀ (m n c : Nat), stpN (m + n) c = stpN n (stpN m c)
  | 0, n, c => by rw [Nat.zero_add]; rfl
  | m + 1, n, c => by rw [Nat.add_right_comm, stpN, stpN, stpN_add m n]
theorem stpN_succ (n c : Nat) : stpN (n + 1) c = stp (stpN n c) := stpN_add n 1 c
theorem stpN_shift : ∀ (n x : Nat), stpN n (2 ^ n * x) = x
  | 0, x => by simp [stpN]
  | n + 1, x => by
    rw [stpN, Nat.pow_succ, Nat.mul_comm (2 ^ n) 2, Nat.mul_assoc, stp_even, stpN_shift n]
theorem stpN_inj0 : ∀ (n : Nat) {c : Nat}, c < 4294967296 → stpN n c = 0 → c = 0
  | 0, _, _, h0 => h0
  | n + 1, _, h, h0 => stp_inj0 h (stpN_inj0 n (stp_lt h) h0)

theorem xor_split {a r n : Nat} (h : a < 2 ^ n) : a + 2 ^ n * r = a ^^^ (2 ^ n * r) := by
  apply Nat.eq_of_testBit_eq
  intro i
  rw [Nat.testBit_xor, Nat.add_comm, Nat.testBit_two_pow_mul_add _ h, Nat.testBit_two_pow_mul]
  by_cases hi : i < n
  · rw [if_pos hi]
    simp [show ¬ n ≤ i by omega]
  · rw [if_neg hi]
    have h1 : a.testBit i = false := Nat.testBit_lt_two_pow (Nat.lt_of_lt_of_le h (Nat.pow_le_pow_right (by omega) (by omega)))
    simp [h1, show n ≤ i by omega]

/-- Steps of n bits: the low ones are looked up, the high ones are moved down. -/
theorem stpN_look (n c : Nat) : stpN n c = stpN n (c % 2 ^ n) ^^^ c / 2 ^ n := by
  have h : c = c % 2 ^ n ^^^ (2 ^ n * (c / 2 ^ n)) := by
    rw [← xor_split (Nat.mod_lt _ (Nat.two_pow_pos n))]
    exact (Nat.mod_add_div c (2 ^ n)).symm
  conv => lhs; rw [h]
  rw [stpN_xor, stpN_shift]

/-- One byte. -/
def byt (c x : Nat) : Nat := stpN 8 (c ^^^ x)
/-- The sum's inner number behind bytes. -/
def run (c : Nat) (b : List Nat) : Nat := b.foldl byt c
/-- The sum of the bytes whose sum c is, and b behind them. -/
def crcM (c : Nat) (b : List Nat) : Nat := run (c ^^^ 4294967295) b ^^^ 4294967295

theorem run_nil (c : Nat) : run c [] = c := rfl
theorem run_cons (c x : Nat) (b : List Nat) : run c (x :: b) = run (byt c x) b := rfl
theorem run_append (c : Nat) (a b : List Nat) : run c (a ++ b) = run (run c a) b := List.foldl_append
theorem run_snoc (c x : Nat) (b : List Nat) : run c (b ++ [x]) = byt (run c b) x := by rw [run_append]; rfl

theorem xor32_lt {a b : Nat} (ha : a < 4294967296) (hb : b < 4294967296) : a ^^^ b < 4294967296 := by
  have : a ^^^ b < 2 ^ 32 := Nat.xor_lt_two_pow (by omega) (by omega)
  omega
theorem byt_lt {c x : Nat} (h : c < 4294967296) (hx : x < 256) : byt c x < 4294967296 := stpN_lt 8 (xor32_lt h (by omega))
theorem run_lt : ∀ {b : List Nat} {c : Nat}, c < 4294967296 → (∀ x ∈ b, x < 256) → run c b < 4294967296
  | [], _, h, _ => h
  | x :: b, c, h, hb => by
    rw [run_cons]
    exact run_lt (byt_lt h (hb x (by simp))) fun y hy => hb y (by simp [hy])
theorem crcM_lt {b : List Nat} {c : Nat} (h : c < 4294967296) (hb : ∀ x ∈ b, x < 256) : crcM c b < 4294967296 := xor32_lt (run_lt (xor32_lt h (by omega)) hb) (by omega)

theorem xor_back (a p : Nat) : a ^^^ p ^^^ p = a := by rw [Nat.xor_assoc, Nat.xor_self, Nat.xor_zero]
theorem crcM_append (c : Nat) (a b : List Nat) : crcM (crcM c a) b = crcM c (a ++ b) := by
  unfold crcM
  rw [xor_back, run_append]
theorem crcM_nil (c : Nat) : crcM c [] = c := by unfold crcM; rw [run_nil, xor_back]

/-- The number that bytes make, the lowest first. -/
def leN : List Nat → Nat
  | [] => 0
  | x :: b => x + 256 * leN b
theorem leN_lt : ∀ {b : List Nat}, (∀ x ∈ b, x < 256) → leN b < 2 ^ (8 * b.length)
  | [], _ => by simp [leN]
  | x :: b, h => by
    have h1 := leN_lt (b := b) fun y hy => h y (by simp [hy])
    have h2 := h x (by simp)
    rw [leN, List.length_cons, Nat.mul_add, Nat.pow_add]
    omega
theorem leN_inj : ∀ {a b : List Nat}, (∀ x ∈ a, x < 256) → (∀ x ∈ b, x < 256) → a.length = b.length → leN a = leN b → a = b
  | [], [], _, _, _, _ => rfl
  | [], _ :: _, _, _, h, _ => by simp at h
  | _ :: _, [], _, _, h, _ => by simp at h
  | x :: a, y :: b, ha, hb, hl, h => by
    have hx := ha x (by simp)
    have hy := hb y (by simp)
    rw [leN, leN] at h
    have e : x = y := by omega
    subst e
    rw [leN_inj (a := a) (b := b) (fun z hz => ha z (by simp [hz])) (fun z hz => hb z (by simp [hz])) (by simpa using hl) (by omega)]

/-- All bytes at once. -/
theorem run_num : ∀ {b : List Nat} (c : Nat), (∀ x ∈ b, x < 256) → run c b = stpN (8 * b.length) (c ^^^ leN b)
  | [], c, _ => by simp [run, leN, stpN]
  | x :: b, c, h => by
    have hx : x < 2 ^ 8 := h x (by simp)
    rw [run_cons, run_num (byt c x) fun y hy => h y (by simp [hy]), List.length_cons, Nat.mul_add, Nat.add_comm (8 * b.length), stpN_add, leN]
    congr 1
    have e : x + 256 * leN b = x ^^^ (2 ^ 8 * leN b) := xor_split hx
    rw [e, ← Nat.xor_assoc, stpN_xor, stpN_shift]
    rfl

/-- What is turned within 32 bits is seen. -/
theorem run_burst {a b : List Nat} {c X f : Nat} (ha : ∀ x ∈ a, x < 256) (hb : ∀ x ∈ b, x < 256) (hl : a.length = b.length) (hX : X < 4294967296) (hf : f ≤ 8 * a.length)
    (h : leN b = leN a ^^^ (2 ^ f * X)) (he : run c a = run c b) : X = 0 := by
  rw [run_num c ha, run_num c hb, ← hl, h, ← Nat.xor_assoc, stpN_xor _ (c ^^^ leN a)] at he
  have h0 : stpN (8 * a.length) (2 ^ f * X) = 0 := by
    have := congrArg (fun z => stpN (8 * a.length) (c ^^^ leN a) ^^^ z) he
    simp only [Nat.xor_self, ← Nat.xor_assoc, Nat.zero_xor] at this
    exact this.symm
  rw [show 8 * a.length = f + (8 * a.length - f) by omega, stpN_add, stpN_shift] at h0
  exact stpN_inj0 _ hX h0
theorem crcM_burst {a b : List Nat} {c X f : Nat} (ha : ∀ x ∈ a, x < 256) (hb : ∀ x ∈ b, x < 256) (hl : a.length = b.length) (hX : X < 4294967296) (hf : f ≤ 8 * a.length)
    (h : leN b = leN a ^^^ (2 ^ f * X)) (he : crcM c a = crcM c b) : X = 0 := by
  refine run_burst (c := c ^^^ 4294967295) ha hb hl hX hf h ?_
  have := congrArg (fun z => z ^^^ 4294967295) he
  unfold crcM at this
  simpa only [xor_back] using this

/-- A byte of the list that is turned. -/
theorem leN_set : ∀ {b : List Nat} {j y : Nat} (hj : j < b.length), (∀ x ∈ b, x < 256) → y < 256 → leN (b.set j (b[j] ^^^ y)) = leN b ^^^ (2 ^ (8 * j) * y)
  | [], j, y, hj, _, _ => by simp at hj
  | x :: b, 0, y, _, h, hy => by
    have hx : x < 2 ^ 8 := h x (by simp)
    have hxy : x ^^^ y < 2 ^ 8 := Nat.xor_lt_two_pow hx hy
    simp only [List.set_cons_zero, List.getElem_cons_zero, leN]
    have e1 : x + 256 * leN b = x ^^^ (2 ^ 8 * leN b) := xor_split hx
    have e2 : (x ^^^ y) + 256 * leN b = (x ^^^ y) ^^^ (2 ^ 8 * leN b) := xor_split hxy
    rw [e1, e2, Nat.mul_zero, Nat.pow_zero, Nat.one_mul, Nat.xor_assoc, Nat.xor_comm y, ← Nat.xor_assoc]
  | x :: b, j + 1, y, hj, h, hy => by
    have hx : x < 2 ^ 8 := h x (by simp)
    have ih := leN_set (b := b) (j := j) (y := y) (by simpa using hj) (fun z hz => h z (by simp [hz])) hy
    simp only [List.set_cons_succ, List.getElem_cons_succ, leN]
    rw [ih]
    have e1 : x + 256 * leN b = x ^^^ (2 ^ 8 * leN b) := xor_split hx
    have e2 : x + 256 * (leN b ^^^ 2 ^ (8 * j) * y) = x ^^^ (2 ^ 8 * (leN b ^^^ 2 ^ (8 * j) * y)) := xor_split hx
    rw [e1, e2, Nat.xor_assoc]
    congr 1
    have e3 : 2 ^ 8 * (leN b ^^^ 2 ^ (8 * j) * y) = 2 ^ 8 * leN b ^^^ 2 ^ 8 * (2 ^ (8 * j) * y) := by
      apply Nat.eq_of_testBit_eq
      intro i
      simp only [Nat.testBit_xor, Nat.testBit_two_pow_mul]
      cases decide (i ≥ 8) <;> simp
    rw [e3, ← Nat.mul_assoc, ← Nat.pow_add, Nat.mul_add, Nat.add_comm 8]

/-- A number's four bytes, the lowest first. -/
def le4 (s : Nat) : List Nat := [s % 256, s / 256 % 256, s / 65536 % 256, s / 16777216 % 256]
theorem le4_bytes (s : Nat) : ∀ x ∈ le4 s, x < 256 := by
  intro x hx
  simp [le4] at hx
  omega
theorem le4_num {s : Nat} (h : s < 4294967296) : leN (le4 s) = s := by
  simp [le4, leN]
  omega
theorem le4_inj {s t : Nat} (hs : s < 4294967296) (ht : t < 4294967296) (h : le4 s = le4 t) : s = t := by
  rw [← le4_num hs, ← le4_num ht, h]
/-- A sealed text. -/
def sealM (b : List Nat) : List Nat := b ++ le4 (crcM 0 b)
theorem sealM_len (b : List Nat) : (sealM b).length = b.length + 4 := by simp [sealM, le4]
/-- The text whose sealed text it is. -/
def openM (b : List Nat) : Option (List Nat) :=
  if 4 ≤ b.length ∧ sealM (b.take (b.length - 4)) = b then some (b.take (b.length - 4)) else none
theorem openM_seal (b : List Nat) : openM (sealM b) = some b := by
  unfold openM
  have h : (sealM b).take ((sealM b).length - 4) = b := by
    rw [sealM_len, Nat.add_sub_cancel]
    unfold sealM
    rw [List.take_left]
  rw [h, if_pos ⟨by rw [sealM_len]; omega, rfl⟩]
/-- One byte of a sealed text that is another one is found. -/
theorem openM_turned {b : List Nat} {j y : Nat} (hb : ∀ x ∈ b, x < 256) (hj : j < (sealM b).length) (hy : y < 256) (h0 : y ≠ 0) : openM ((sealM b).set j ((sealM b)[j] ^^^ y)) = none := by
  unfold openM
  rw [if_neg]
  rintro ⟨_, h⟩
  have hsl := sealM_len b
  rw [List.length_set, hsl, Nat.add_sub_cancel] at h
  have hsb : ∀ x ∈ sealM b, x < 256 := by
    intro x hx
    rcases List.mem_append.1 hx with hx | hx
    · exact hb x hx
    · exact le4_bytes _ x hx
  have hv : (sealM b)[j] ^^^ y < 256 := by
    have : (sealM b)[j] ^^^ y < 2 ^ 8 := Nat.xor_lt_two_pow (hsb _ (List.getElem_mem hj)) hy
    omega
  have hne : (sealM b)[j] ^^^ y ≠ (sealM b)[j] := by
    intro e
    have := congrArg (fun z => (sealM b)[j] ^^^ z) e
    simp only [← Nat.xor_assoc, Nat.xor_self, Nat.zero_xor] at this
    exact h0 this
  by_cases hjb : j < b.length
  · have e1 : (sealM b).set j ((sealM b)[j] ^^^ y) = b.set j (b[j] ^^^ y) ++ le4 (crcM 0 b) := by
      have hg : (sealM b)[j] = b[j] := List.getElem_append_left hjb
      rw [hg]
      unfold sealM
      rw [List.set_append_left _ _ hjb]
    have hbl : (b.set j (b[j] ^^^ y)).length = b.length := List.length_set
    rw [e1, List.take_append_of_le_length (by rw [hbl]; exact Nat.le_refl _), List.take_of_length_le (by rw [hbl]; exact Nat.le_refl _)] at h
    unfold sealM at h
    have h2 := List.append_cancel_left h
    have hb2 : ∀ x ∈ b.set j (b[j] ^^^ y), x < 256 := by
      intro x hx
      rcases List.mem_or_eq_of_mem_set hx with hx | rfl
      · exact hb x hx
      · have : b[j] ^^^ y < 2 ^ 8 := Nat.xor_lt_two_pow (hb _ (List.getElem_mem hjb)) hy
        omega
    have h3 := le4_inj (crcM_lt (by omega) hb2) (crcM_lt (by omega) hb) h2
    exact h0 (crcM_burst (c := 0) (X := y) (f := 8 * j) hb hb2 hbl.symm (by omega) (by omega) (leN_set hjb hb hy) h3.symm)
  · have e1 : ((sealM b).set j ((sealM b)[j] ^^^ y)).take b.length = b := by
      rw [List.take_set_of_le (by omega)]
      unfold sealM
      rw [List.take_left]
    rw [e1] at h
    have := congrArg (fun l : List Nat => l[j]?) h
    simp only [List.getElem?_set_self hj, List.getElem?_eq_getElem hj, Option.some.injEq] at this
    exact hne this.symm
end Go.Proofs.YtnedlogfgpgchaaDoor
