/- Patterns. -/
import Derived.Test.YtfcnoeehfhncjaaTx
set_option linter.unusedVariables false
set_option linter.unusedSimpArgs false
namespace Go.Proofs.Ytfcnoeehfhncjaa
open Go.RowKit Go.Lib

/-- Does the pattern stand for the signs? -/
def lk : List Nat → List Nat → Bool
  | [], t => t.isEmpty
  | c :: p, t => if c = 37 then (List.range (t.length + 1)).any (fun j => lk p (t.drop j)) else
      match t with
      | [] => false
      | x :: t' => (c == 95 || c == x) && lk p t'

/-- One sign of a pattern, no %, and one of a text. -/
def fit (c x : Nat) : Bool := c == 95 || c == x

theorem lk_any (p t : List Nat) : lk (37 :: p) t = true ↔ ∃ j, j ≤ t.length ∧ lk p (t.drop j) = true := by
  simp only [lk, if_true, List.any_eq_true, List.mem_range]
  constructor
  · rintro ⟨j, h1, h2⟩; exact ⟨j, by omega, h2⟩
  · rintro ⟨j, h1, h2⟩; exact ⟨j, by omega, h2⟩

theorem lk_one {c : Nat} (hc : c ≠ 37) (p : List Nat) (x : Nat) (t : List Nat) : lk (c :: p) (x :: t) = (fit c x && lk p t) := by
  simp only [lk, hc, if_false, fit]

theorem lk_short {c : Nat} (hc : c ≠ 37) (p : List Nat) : lk (c :: p) [] = false := by
  simp only [lk, hc, if_false]

theorem lk_append (p q : List Nat) : ∀ t, lk (p ++ q) t = true ↔ ∃ j, j ≤ t.length ∧ lk p (t.take j) = true ∧ lk q (t.drop j) = true := by
  induction p with
  | nil =>
    intro t
    constructor
    · intro h; exact ⟨0, by omega, rfl, by simpa using h⟩
    · rintro ⟨j, hj, h1, h2⟩
      have : j = 0 ∨ t = [] := by
        simp only [lk, List.isEmpty_iff, List.take_eq_nil_iff] at h1
        rcases h1 with h1 | h1
        · exact Or.inl h1
        · exact Or.inr h1
      rcases this with rfl | rfl
      · simpa using h2
      · simpa using h2
  | cons c p ih =>
    intro t
    by_cases hc : c = 37
    · subst hc
      rw [List.cons_append, lk_any]
      constructor
      · rintro ⟨j, hj, h⟩
        obtain ⟨k, hk, h1, h2⟩ := (ih _).1 h
        simp at hk
        refine ⟨j + k, by omega, (lk_any _ _).2 ⟨j, by simp; omega, ?_⟩, by rw [← List.drop_drop]; exact h2⟩
        rw [List.drop_take]
        rwa [show j + k - j = k by omega]
      · rintro ⟨m, hm, h1, h2⟩
        obtain ⟨j, hj, h3⟩ := (lk_any _ _).1 h1
        simp at hj
        refine ⟨j, by omega, (ih _).2 ⟨m - j, by simp; omega, ?_, ?_⟩⟩
        · rwa [List.drop_take] at h3
        · rw [List.drop_drop, show j + (m - j) = m by omega]; exact h2
    · cases t with
      | nil =>
        rw [List.cons_append, lk_short hc]
        constructor
        · intro h; cases h
        · rintro ⟨j, _, h1, _⟩
          rw [List.take_nil, lk_short hc] at h1
          cases h1
      | cons x t =>
        rw [List.cons_append, lk_one hc, Bool.and_eq_true, ih]
        constructor
        · rintro ⟨hf, j, hj, h1, h2⟩
          exact ⟨j + 1, by simp; omega, by rw [List.take_succ_cons, lk_one hc, hf, h1]; rfl, by simpa using h2⟩
        · rintro ⟨j, hj, h1, h2⟩
          cases j with
          | zero => rw [List.take_zero, lk_short hc] at h1; cases h1
          | succ j =>
            rw [List.take_succ_cons, lk_one hc, Bool.and_eq_true] at h1
            exact ⟨h1.1, j, by simpa using hj, h1.2, by simpa using h2⟩

/-- A pattern without % stands for as many signs as it has. -/
theorem lk_len {p : List Nat} (hp : ∀ c ∈ p, c ≠ 37) : ∀ t, lk p t = true → t.length = p.length := by
  induction p with
  | nil => intro t h; simp [lk] at h; simp [h]
  | cons c p ih =>
    intro t h
    have hc := hp c (by simp)
    cases t with
    | nil => rw [lk_short hc] at h; cases h
    | cons x t =>
      rw [lk_one hc, Bool.and_eq_true] at h
      simp [ih (fun c hc => hp c (by simp [hc])) t h.2]

theorem lk_snoc_any (p t : List Nat) : lk (p ++ [37]) t = true ↔ ∃ j, j ≤ t.length ∧ lk p (t.take j) = true := by
  rw [lk_append]
  constructor
  · rintro ⟨j, h1, h2, _⟩; exact ⟨j, h1, h2⟩
  · rintro ⟨j, h1, h2⟩
    exact ⟨j, h1, h2, (lk_any _ _).2 ⟨(t.drop j).length, by omega, by rw [List.drop_length]; rfl⟩⟩

theorem lk_snoc_one {c : Nat} (hc : c ≠ 37) (p t : List Nat) (x : Nat) : lk (p ++ [c]) (t ++ [x]) = (lk p t && fit c x) := by
  rw [Bool.eq_iff_iff, lk_append, Bool.and_eq_true]
  constructor
  · rintro ⟨j, h1, h2, h3⟩
    have hl := lk_len (p := [c]) (by simpa using hc) _ h3
    simp at hl h1
    have hj : j = t.length := by omega
    subst hj
    rw [List.take_left] at h2
    rw [List.drop_left, lk_one hc, Bool.and_eq_true] at h3
    exact ⟨h2, h3.1⟩
  · rintro ⟨h1, h2⟩
    exact ⟨t.length, by simp, by rwa [List.take_left], by rw [List.drop_left, lk_one hc, h2]; rfl⟩

theorem lk_snoc_nil {c : Nat} (hc : c ≠ 37) (p : List Nat) : lk (p ++ [c]) [] = false := by
  cases h : lk (p ++ [c]) [] with
  | false => rfl
  | true =>
    obtain ⟨j, h1, h2, h3⟩ := (lk_append _ _ _).1 h
    rw [List.drop_nil, lk_short hc] at h3
    cases h3

theorem lk_nil (p : List Nat) : lk p [] = p.all (· == 37) := by
  induction p with
  | nil => rfl
  | cons c p ih =>
    by_cases hc : c = 37
    · subst hc
      rw [Bool.eq_iff_iff, lk_any]
      simp [ih]
    · rw [lk_short hc]; simp [hc]

/-- Where the matching stands: at sign t of the text and sign p of the pattern; again: behind the last % that was met (none: -1), which stands for what is ahead of sign 'from' of the text. -/
def Stand (P T : List Nat) (t p : Nat) (again : Int) (from' : Nat) : Prop :=
  t ≤ T.length ∧ p ≤ P.length ∧ from' ≤ t ∧
  ((again = -1 ∧ from' = 0 ∧ lk P T = lk (P.drop p) (T.drop t)) ∨
   ∃ a : Nat, again = a ∧ a ≤ p ∧ p - a = t - from' ∧ (∀ c ∈ (P.drop a).take (p - a), c ≠ 37) ∧ lk ((P.drop a).take (p - a)) ((T.drop from').take (t - from')) = true ∧
     (lk P T = true ↔ ∃ j, from' ≤ j ∧ j ≤ T.length ∧ lk (P.drop a) (T.drop j) = true))

theorem Stand.zero (P T : List Nat) : Stand P T 0 0 (-1) 0 := ⟨by omega, by omega, by omega, Or.inl ⟨rfl, rfl, by simp⟩⟩

theorem n1 {a p : Nat} (h : a ≤ p) : a + (p - a) = p := by omega

theorem n2 {a p : Nat} (h : a ≤ p) : p + 1 - a = (p - a) + 1 := by omega

theorem n3 {f t j : Nat} (h : f ≤ t) (h2 : t ≤ j) : f + (t - f + (j - t)) = j := by omega

theorem n5 {f t j T : Nat} (h : f ≤ t) (h2 : t ≤ j) (h3 : j ≤ T) : j - t ≤ T - f - (t - f) := by omega

theorem n6 {a p f t : Nat} (h : a ≤ p) (h2 : f ≤ t) (h3 : p - a = t - f) : p + 1 - a = t + 1 - f := by omega

theorem n7 {j m t T s : Nat} (h : min m (T - j) = s) (h2 : min (t - j) (T - j) = s) (hm : m ≤ T - j) (ht : t < T) (hj : j ≤ t) : j + m = t := by omega

theorem n8 {j m f T s : Nat} (h : min m (T - j) = s) (h2 : T - f = s) (hm : m ≤ T - j) (hf : f ≤ j) (hj : j ≤ T) : T ≤ j + m := by omega

theorem n9 {f T : Nat} (h : f ≤ T) : T ≤ f + (T - f) := by omega

theorem drop_split (P : List Nat) {a p : Nat} (h : a ≤ p) : P.drop a = (P.drop a).take (p - a) ++ P.drop p := by
  have := (List.take_append_drop (p - a) (P.drop a)).symm
  rwa [List.drop_drop, n1 h] at this

theorem drop_get {P : List Nat} {p c : Nat} (h : P[p]? = some c) : P.drop p = c :: P.drop (p + 1) := by
  obtain ⟨h1, h2⟩ := List.getElem?_eq_some_iff.1 h
  rw [List.drop_eq_getElem_cons h1, h2]

/-- At a %. -/
theorem Stand.star {P T : List Nat} {t p : Nat} {again : Int} {from' : Nat} (h : Stand P T t p again from') (hc : P[p]? = some 37) : Stand P T t (p + 1) ((p + 1 : Nat) : Int) t := by
  obtain ⟨ht, hp, hf, h⟩ := h
  have hp1 : p < P.length := (List.getElem?_eq_some_iff.1 hc).1
  have hd := drop_get hc
  refine ⟨ht, by omega, by omega, Or.inr ⟨p + 1, rfl, by omega, by omega, by simp, by simp [lk], ?_⟩⟩
  rcases h with ⟨_, _, h⟩ | ⟨a, _, ha, hpa, hno, hseg, h⟩
  · rw [h, hd, lk_any]
    constructor
    · rintro ⟨j, h1, h2⟩
      simp at h1
      exact ⟨t + j, by omega, by omega, by rwa [List.drop_drop] at h2⟩
    · rintro ⟨j, h1, h2, h3⟩
      exact ⟨j - t, by simp; omega, by rw [List.drop_drop, n1 h1]; exact h3⟩
  · rw [h]
    have hsl : ((T.drop from').take (t - from')).length = ((P.drop a).take (p - a)).length := lk_len hno _ hseg
    constructor
    · rintro ⟨j, h1, h2, h3⟩
      rw [drop_split P ha, hd] at h3
      obtain ⟨m, hm, h4, h5⟩ := (lk_append _ _ _).1 h3
      obtain ⟨q, hq, h6⟩ := (lk_any _ _).1 h5
      have hl := lk_len hno _ h4
      simp at hl hm hq hsl
      refine ⟨j + (m + q), by omega, by omega, ?_⟩
      rwa [List.drop_drop, List.drop_drop] at h6
    · rintro ⟨j, h1, h2, h3⟩
      refine ⟨from', by omega, by omega, ?_⟩
      rw [drop_split P ha, hd]
      refine (lk_append _ _ _).2 ⟨t - from', by rw [List.length_drop]; exact Nat.sub_le_sub_right ht _, hseg, (lk_any _ _).2 ⟨j - t, by simp only [List.length_drop]; exact n5 hf h1 h2, ?_⟩⟩
      rw [List.drop_drop, List.drop_drop, n3 hf h1]
      exact h3

/-- At a sign that fits. -/
theorem Stand.step {P T : List Nat} {t p : Nat} {again : Int} {from' c x : Nat} (h : Stand P T t p again from') (hc : P[p]? = some c) (hx : T[t]? = some x) (hn : c ≠ 37) (hf : fit c x = true) : Stand P T (t + 1) (p + 1) again from' := by
  obtain ⟨ht, hp, hft, h⟩ := h
  have hp1 : p < P.length := (List.getElem?_eq_some_iff.1 hc).1
  have ht1 : t < T.length := (List.getElem?_eq_some_iff.1 hx).1
  refine ⟨by omega, by omega, by omega, ?_⟩
  rcases h with ⟨h1, h2, h⟩ | ⟨a, h1, ha, hpa, hno, hseg, h⟩
  · refine Or.inl ⟨h1, h2, ?_⟩
    rw [h, drop_get hc, drop_get hx, lk_one hn, hf]
    rfl
  · refine Or.inr ⟨a, h1, Nat.le_succ_of_le ha, n6 ha hft hpa, ?_, ?_, h⟩
    · intro d hd
      rw [n2 ha, List.take_add_one] at hd
      rw [List.mem_append] at hd
      rcases hd with hd | hd
      · exact hno d hd
      · rw [List.getElem?_drop, n1 ha, hc] at hd
        simp at hd
        omega
    · rw [n2 ha, List.take_add_one, List.getElem?_drop, n1 ha, hc]
      rw [n2 hft, List.take_add_one, List.getElem?_drop, n1 hft, hx]
      show lk (_ ++ [c]) (_ ++ [x]) = true
      rw [lk_snoc_one hn, hseg, hf]
      rfl

/-- What doesn't fit: then the rest of the pattern doesn't stand for the rest of the text. -/
theorem lk_misfit {P T : List Nat} {t p x : Nat} (hx : T[t]? = some x) (hm : ∀ c, P[p]? = some c → c ≠ 37 ∧ fit c x = false) : lk (P.drop p) (T.drop t) = false := by
  rw [drop_get hx]
  cases hc : P[p]? with
  | none =>
    rw [List.drop_eq_nil_of_le (List.getElem?_eq_none_iff.1 hc)]
    rfl
  | some c =>
    obtain ⟨h1, h2⟩ := hm c hc
    rw [drop_get hc, lk_one h1, h2]
    rfl

theorem Stand.back {P T : List Nat} {t p : Nat} {a from' x : Nat} (h : Stand P T t p (a : Int) from') (hx : T[t]? = some x) (hm : ∀ c, P[p]? = some c → c ≠ 37 ∧ fit c x = false) : Stand P T (from' + 1) a (a : Int) (from' + 1) := by
  obtain ⟨ht, hp, hft, h⟩ := h
  have ht1 : t < T.length := (List.getElem?_eq_some_iff.1 hx).1
  have hmis := lk_misfit hx hm
  rcases h with ⟨h1, _⟩ | ⟨a', h1, ha, hpa, hno, hseg, h⟩
  · omega
  · obtain rfl : a = a' := by omega
    refine ⟨by omega, by omega, by omega, Or.inr ⟨a, rfl, by omega, by omega, by simp, by simp [lk], ?_⟩⟩
    rw [h]
    constructor
    · rintro ⟨j, h2, h3, h4⟩
      refine ⟨j, ?_, h3, h4⟩
      rcases Nat.lt_or_ge from' j with h5 | h5
      · omega
      · exfalso
        obtain rfl : j = from' := by omega
        rw [drop_split P ha] at h4
        obtain ⟨m, hm1, h6, h7⟩ := (lk_append _ _ _).1 h4
        have hl := lk_len hno _ h6
        have hl2 := lk_len hno _ hseg
        simp only [List.length_take, List.length_drop] at hl hl2 hm1
        rw [List.drop_drop, n7 hl hl2 hm1 ht1 hft, hmis] at h7
        cases h7
    · rintro ⟨j, h2, h3, h4⟩
      exact ⟨j, by omega, h3, h4⟩

theorem Stand.fail {P T : List Nat} {t p : Nat} {from' x : Nat} (h : Stand P T t p (-1) from') (hx : T[t]? = some x) (hm : ∀ c, P[p]? = some c → c ≠ 37 ∧ fit c x = false) : lk P T = false := by
  obtain ⟨ht, hp, hft, h⟩ := h
  rcases h with ⟨_, _, h⟩ | ⟨a, h1, _⟩
  · rw [h]; exact lk_misfit hx hm
  · omega

theorem Stand.end {P T : List Nat} {p : Nat} {again : Int} {from' : Nat} (h : Stand P T T.length p again from') : lk P T = (P.drop p).all (· == 37) := by
  obtain ⟨ht, hp, hft, h⟩ := h
  rcases h with ⟨_, _, h⟩ | ⟨a, h1, ha, hpa, hno, hseg, h⟩
  · rw [h, List.drop_length, lk_nil]
  · rw [Bool.eq_iff_iff, h, ← lk_nil]
    have hl2 := lk_len hno _ hseg
    constructor
    · rintro ⟨j, h2, h3, h4⟩
      rw [drop_split P ha] at h4
      obtain ⟨m, hm1, h6, h7⟩ := (lk_append _ _ _).1 h4
      have hl := lk_len hno _ h6
      simp only [List.length_take, List.length_drop, Nat.min_self] at hl hl2 hm1
      have hnil : T.drop (j + m) = [] := List.drop_eq_nil_of_le (n8 hl hl2 hm1 h2 h3)
      rwa [List.drop_drop, hnil] at h7
    · intro h2
      refine ⟨from', by omega, hft, ?_⟩
      rw [drop_split P ha]
      refine (lk_append _ _ _).2 ⟨T.length - from', by simp, hseg, ?_⟩
      have hnil : T.drop (from' + (T.length - from')) = [] := List.drop_eq_nil_of_le (n9 hft)
      rw [List.drop_drop, hnil]
      exact h2

/-- Each round comes nearer to the end. -/
def far (a f g K : Nat) : Nat := (a * K + f) * K + g

theorem far_g {a f g g' K : Nat} (h : g' < g) : far a f g' K < far a f g K := by unfold far; omega

theorem far_f {a f f' g g' K : Nat} (h : f' < f) (hg : g' < K) : far a f' g' K < far a f g K := by
  unfold far
  have h1 : (a * K + f' + 1) * K ≤ (a * K + f) * K := Nat.mul_le_mul_right _ (by omega)
  rw [Nat.add_mul _ 1] at h1
  omega

theorem far_a {a a' f f' g g' K : Nat} (h : a' < a) (hf : f' < K) (hg : g' < K) : far a' f' g' K < far a f g K := by
  unfold far
  have h0 : (a' + 1) * K ≤ a * K := Nat.mul_le_mul_right _ (by omega)
  rw [Nat.add_mul] at h0
  have h1 : (a' * K + f' + 1) * K ≤ (a * K + f) * K := Nat.mul_le_mul_right _ (by omega)
  rw [Nat.add_mul _ 1] at h1
  omega

/-- The cells of a list of runes, from an address on. -/
def RuneRow (w : World) (g off : Nat) (Q : List Nat) : Prop := ∀ (j c : Nat), Q[j]? = some c → w.cell? ⟨g, off + j, none⟩ = some (.int .i32 (c : Int))

theorem only_any (Q : List Nat) (g off cap : Nat) (hQ : Q.length ≤ 100000) (w : World) (hr : 0 < Q.length → RuneRow w g off Q) :
    Calls Try.prog 90 #[.slice (some ⟨g, off, none⟩) Q.length cap] w fun e w' => e = .returned (.bool (Q.all (· == 37))) ∧ w' = w := by
  have HR := hidden hr
  clear hr
  go_enter Try.func90, Try.ntmps90
  go_wp2_with fail
  go_loopw [7] (fun i w' => w' = w ∧ ∃ k : Nat, i = .int .i64 k ∧ k ≤ Q.length ∧ (Q.take k).all (· == 37) = true) (fun i _ => Q.length - (intOf i).toNat)
  case atStart => exact ⟨rfl, 0, rfl, by omega, by simp⟩
  case round =>
    obtain ⟨rfl, k, rfl, hk, hall⟩ := hrel
    by_cases hlt : k < Q.length
    · have hg : Q[k]? = some Q[k] := List.getElem?_eq_getElem hlt
      have hcell := HR.out (by omega) k _ hg
      have HT : Hid (∀ (h : Q.take (k + 1) = Q.take k ++ [Q[k]]), True) := fun _ => trivial
      have HTk := hidden (List.take_succ_eq_append_getElem hlt)
      have HM := hidden (List.getElem_mem hlt)
      have HA := hidden hall
      clear hall hg
      generalize Q[k] = c at *
      by_cases hc : c = 37
      · subst hc
        go_wp2_with fail
        go_roundw
        case rel => exact ⟨trivial, k + 1, by go_num, by omega, by rw [HTk.out, List.all_append, HA.out]; rfl⟩
        case measure => simp [intOf]; omega
      · have hne : ((c : Int) != 37) = true := by simp; omega
        go_wp2_with fail
        go_ret
        refine ⟨ret_bool ?_, rfl⟩
        symm
        rw [List.all_eq_false]
        exact ⟨c, HM.out, by simpa using hc⟩
    · have hkl : k = Q.length := by omega
      have HK := hidden hkl
      clear hkl
      go_wp2_with fail
      go_ret
      refine ⟨ret_bool ?_, rfl⟩
      rw [HK.out, List.take_length] at hall
      exact hall.symm

theorem below_drewN {B : Nat} {a w : World} (h : Below B a w) (q : Nat) : Below B a (w.drewN q) := h.trans ⟨rfl, rfl, rfl, Nat.le_refl _, fun _ _ => rfl⟩

set_option maxRecDepth 100000 in
set_option maxHeartbeats 2000000 in
theorem matches_any (T P : List Nat) (g1 c1 g2 c2 : Nat) (hT : T.length ≤ 100000) (hP : P.length ≤ 100000) (hc2 : P.length ≤ c2) (w : World) (hg1 : g1 < w.heap.size) (hg2 : g2 < w.heap.size) (h1 : RuneRow w g1 0 T) (h2 : RuneRow w g2 0 P) :
    Calls Try.prog 89 #[.slice (some ⟨g1, 0, none⟩) T.length c1, .slice (some ⟨g2, 0, none⟩) P.length c2] w fun e w' => e = .returned (.bool (lk P T)) ∧ Below w.heap.size w w' := by
  have H1 := hidden h1
  have H2 := hidden h2
  clear h1 h2
  go_enter Try.func89, Try.ntmps89
  go_wp2_with fail
  go_loopw [5, 6, 7, 8] (fun a b c d wr => Below w.heap.size w wr ∧ ∃ (t p f : Nat) (ag : Int), a = .int .i64 t ∧ b = .int .i64 p ∧ c = .int .i64 ag ∧ d = .int .i64 f ∧ Stand P T t p ag f) (fun a b c d _ => far (P.length + 1 - intOf c).toNat (T.length + 1 - (intOf d).toNat) (T.length + 1 - (intOf a).toNat) (T.length + 2))
  case atStart => exact ⟨Below.refl _ _, 0, 0, 0, -1, rfl, rfl, rfl, rfl, Stand.zero P T⟩
  case round =>
    obtain ⟨hbel, t, p, f, ag, rfl, rfl, rfl, rfl, hst⟩ := hrel
    have HB := hidden hbel
    have HS := hidden hst
    have ht := hst.1
    have hp := hst.2.1
    have hf := hst.2.2.1
    have hag : -1 ≤ ag ∧ ag ≤ p := by
      rcases hst.2.2.2 with ⟨h, _⟩ | ⟨a, h, h2, _⟩
      · omega
      · omega
    have H1r : Hid (∀ (j c : Nat), T[j]? = some c → wr.cell? ⟨g1, j, none⟩ = some (.int .i32 (c : Int))) := fun j c hj => by
      have := H1.out j c hj
      rw [Nat.zero_add] at this
      exact (hbel.cell (p := ⟨g1, j, none⟩) hg1).trans this
    have H2r : Hid (∀ (j c : Nat), P[j]? = some c → wr.cell? ⟨g2, j, none⟩ = some (.int .i32 (c : Int))) := fun j c hj => by
      have := H2.out j c hj
      rw [Nat.zero_add] at this
      exact (hbel.cell (p := ⟨g2, j, none⟩) hg2).trans this
    have hagc : ag = -1 ∨ ∃ a : Nat, ag = a := by
      rcases hst.2.2.2 with ⟨h, _⟩ | ⟨a, h, h2, _⟩
      · exact Or.inl h
      · exact Or.inr ⟨a, h⟩
    clear hbel hst
    by_cases hlt : t < T.length
    · have hx : T[t]? = some T[t] := List.getElem?_eq_getElem hlt
      have hcx := H1r.out t _ hx
      have HX := hidden hx
      clear hx
      generalize T[t] = x at *
      by_cases hpl : p < P.length
      · have hc : P[p]? = some P[p] := List.getElem?_eq_getElem hpl
        have hcc := H2r.out p _ hc
        have HC := hidden hc
        clear hc
        generalize P[p] = c at *
        by_cases h37 : c = 37
        · subst h37
          go_wp2_with fail
          go_roundw
          case rel => exact ⟨HB.out, t, p + 1, t, ((p + 1 : Nat) : Int), rfl, by go_num, by go_num, rfl, HS.out.star HC.out⟩
          case measure => simp [intOf]; exact far_a (by omega) (by omega) (by omega)
        · have h37b : ((c : Int) == 37) = false := by simp; omega
          by_cases h95 : c = 95
          · subst h95
            go_wp2_with fail
            go_quiet (fail)
            go_wp2_with fail
            go_roundw
            case rel => exact ⟨below_drewN HB.out _, t + 1, p + 1, f, ag, by go_num, by go_num, rfl, rfl, HS.out.step HC.out HX.out h37 rfl⟩
            case measure => simp [intOf]; exact far_g (by omega)
          · have h95b : ((c : Int) == 95) = false := by simp; omega
            by_cases hcx2 : c = x
            · subst hcx2
              go_wp2_with fail
              go_quiet (fail)
              go_wp2_with fail
              go_roundw
              case rel => exact ⟨below_drewN HB.out _, t + 1, p + 1, f, ag, by go_num, by go_num, rfl, rfl, HS.out.step HC.out HX.out h37 (by simp [fit])⟩
              case measure => simp [intOf]; exact far_g (by omega)
            · have hcxb : ((c : Int) == (x : Int)) = false := by simp; omega
              have HMS : Hid (∀ c', P[p]? = some c' → c' ≠ 37 ∧ fit c' x = false) := fun c' h' => by
                  have hq := HC.out.symm.trans h'
                  obtain rfl := Option.some.inj hq
                  exact ⟨h37, by simp [fit, h95, hcx2]⟩
              rcases hagc with hagc | ⟨a, hagc⟩
              · subst hagc
                go_wp2_with fail
                go_quiet (fail)
                go_wp2_with fail
                go_ret
                exact ⟨ret_bool (HS.out.fail HX.out HMS.out).symm, below_drewN HB.out _⟩
              · subst hagc
                have hag0 : ((a : Int) ≥ 0) := by omega
                go_wp2_with fail
                go_quiet (fail)
                go_wp2_with fail
                go_roundw
                case rel => exact ⟨below_drewN HB.out _, f + 1, a, f + 1, (a : Int), by go_num, rfl, rfl, by go_num, HS.out.back HX.out HMS.out⟩
                case measure => simp [intOf]; exact far_f (by omega) (by omega)
      · have hnone : P[p]? = none := List.getElem?_eq_none (by omega)
        have HN := hidden hnone
        clear hnone
        have HMS : Hid (∀ c', P[p]? = some c' → c' ≠ 37 ∧ fit c' x = false) := fun c' h' => by
            rw [HN.out] at h'
            cases h'
        rcases hagc with hagc | ⟨a, hagc⟩
        · subst hagc
          go_wp2_with fail
          go_quiet (fail)
          go_wp2_with fail
          go_ret
          exact ⟨ret_bool (HS.out.fail HX.out HMS.out).symm, below_drewN HB.out _⟩
        · subst hagc
          have hag0 : ((a : Int) ≥ 0) := by omega
          go_wp2_with fail
          go_quiet (fail)
          go_wp2_with fail
          go_roundw
          case rel => exact ⟨below_drewN HB.out _, f + 1, a, f + 1, (a : Int), by go_num, rfl, rfl, by go_num, HS.out.back HX.out HMS.out⟩
          case measure => simp [intOf]; exact far_f (by omega) (by omega)
    · have hte : t = T.length := by omega
      have hst := HS.out
      rw [hte] at hst
      have HE := hidden hst.end
      have hln : (P.drop p).length = P.length - p := by simp
      by_cases hpc : p = c2
      · subst hpc
        have hrow : 0 < (P.drop p).length → RuneRow wr g2 0 (P.drop p) := fun h => by omega
        have hcall := only_any (P.drop p) g2 0 0 (by omega) wr hrow
        rw [hln, show P.length - p = 0 by omega] at hcall
        have HCL := hidden hcall
        clear hte hst hrow hln hcall
        go_wp2_with fail
        refine HCL.out.mono ?_
        rintro e w1 ⟨rfl, rfl⟩
        go_wp2_with fail
        go_ret
        exact ⟨ret_bool HE.out.symm, HB.out⟩
      · have hrow : 0 < (P.drop p).length → RuneRow wr g2 p (P.drop p) := fun _ j c hj => by
          rw [List.getElem?_drop] at hj
          exact H2r.out (p + j) c hj
        have hcall := only_any (P.drop p) g2 p (c2 - p) (by omega) wr hrow
        rw [hln] at hcall
        have HCL := hidden hcall
        clear hte hst hrow hln hcall
        go_wp2_with fail
        refine HCL.out.mono ?_
        rintro e w1 ⟨rfl, rfl⟩
        go_wp2_with fail
        go_ret
        exact ⟨ret_bool HE.out.symm, HB.out⟩

/-- The model's own list of runes. -/
theorem runesFrom_eq (s : ByteArray) : ∀ (b p : Nat) (acc : Array Value), s.size ≤ p + b → (Conv.runesFrom s b p acc).toList = acc.toList ++ (V ((lb s).drop p)).map fun u => Value.int .i32 (u.1 : Int) := by
  have hL := lb_size s
  intro b
  induction b with
  | zero =>
    intro p acc h
    have hd : (lb s).drop p = [] := List.drop_eq_nil_of_le (by omega)
    rw [hd]
    simp [Conv.runesFrom]
  | succ b ih =>
    intro p acc h
    unfold Conv.runesFrom
    by_cases hp : p < s.size
    · rw [if_pos hp]
      have hne := drop_ne (l := lb s) (p := p) (by omega)
      have hw := unit_width _ hne
      simp only [decode_lb]
      rw [ih _ _ (by omega), V_step hne, List.drop_drop]
      simp
    · rw [if_neg hp]
      have hd : (lb s).drop p = [] := List.drop_eq_nil_of_le (by omega)
      rw [hd]
      simp

theorem runes_row (s : ByteArray) : (Conv.runesFrom s s.size 0 #[]).toList = (runes (lb s)).map fun (r : Nat) => Value.int .i32 (r : Int) := by
  rw [runesFrom_eq s s.size 0 #[] (by omega)]
  simp [runes]

theorem runes_len (l : List UInt8) : (runes l).length = (V l).length := by simp [runes]

theorem new_row {w : World} {C : Array Value} {e : TypeId} {Q : List Nat} {n : Nat} {z : Value} (h : C.toList = Q.map fun (r : Nat) => Value.int .i32 (r : Int)) : RuneRow (w.alloc (.cells (C ++ Array.replicate n z) e)) w.heap.size 0 Q := by
  intro j c hj
  rw [Nat.zero_add]
  have hjl : j < Q.length := (List.getElem?_eq_some_iff.1 hj).1
  have hcl : C.size = Q.length := by rw [← Array.length_toList, h]; simp
  have h1 : (w.alloc (.cells (C ++ Array.replicate n z) e)).cell? ⟨w.heap.size, j, none⟩ = (C ++ Array.replicate n z)[j]? := World.cell?_alloc_mark w _ e (0, 0) j
  rw [h1, Array.getElem?_append_left (by omega), ← Array.getElem?_toList, h, List.getElem?_map, hj]
  rfl

set_option maxRecDepth 100000 in
theorem like_any (s p : ByteArray) (hs : s.size ≤ 100000) (hp : p.size ≤ 100000) (w : World) :
    Calls Try.prog 87 #[.string s, .string p] w fun e w' => e = .returned (.bool (lk (runes (lb p)) (runes (lb s)))) ∧ Below w.heap.size w w' := by
  have hcs : ∀ w : World, (convert 9 131 (.string s)).run Try.prog w = _ := fun w => run_runes_of_string w 9 131 21 s Try.underlying9 Try.underlying131 Try.underlying21 (by have := size_runesFrom s s.size 0 #[]; simp at this; omega)
  have hcp : ∀ w : World, (convert 9 131 (.string p)).run Try.prog w = _ := fun w => run_runes_of_string w 9 131 21 p Try.underlying9 Try.underlying131 Try.underlying21 (by have := size_runesFrom p p.size 0 #[]; simp at this; omega)
  have hR1 := runes_row s
  have hR2 := runes_row p
  have l1 := V_le (lb s)
  have l2 := V_le (lb p)
  rw [lb_size, ← runes_len] at l1 l2
  generalize hA : Conv.runesFrom s s.size 0 #[] = A at *
  generalize hB : Conv.runesFrom p p.size 0 #[] = B at *
  clear hA hB
  have hAs : A.size = (runes (lb s)).length := by rw [← Array.length_toList, hR1]; simp
  have hBs : B.size = (runes (lb p)).length := by rw [← Array.length_toList, hR2]; simp
  rw [hAs] at hcs
  rw [hBs] at hcp
  have HR1 := hidden hR1
  have HR2 := hidden hR2
  clear hR1 hR2 hAs hBs
  generalize runes (lb s) = T at *
  generalize runes (lb p) = P at *
  go_enter Try.func87, Try.ntmps87
  go_wp2_with fail
  generalize hca : grownCap w T.length 0 21 = ca at *
  generalize hwa : w.alloc (Obj.cells (A ++ Array.replicate (ca - T.length) (Value.int IntKind.i32 0)) 21) = wa
  have hra : RuneRow wa w.heap.size 0 T := by rw [← hwa]; exact new_row HR1.out
  have hza : wa.heap.size = w.heap.size + 1 := by rw [← hwa]; simp
  have hba : Below w.heap.size w wa := by rw [← hwa]; exact (Below.refl _ _).alloc (Nat.le_refl _) _
  have hcb := grownCap_ge wa.drew P.length 0 21
  generalize grownCap wa.drew P.length 0 21 = cb at *
  generalize hwb : wa.alloc (Obj.cells (B ++ Array.replicate (cb - P.length) (Value.int IntKind.i32 0)) 21) = wb
  have hrb : RuneRow wb (w.heap.size + 1) 0 P := by rw [← hwb, ← hza]; exact new_row HR2.out
  have hbb : Below wa.heap.size wa wb := by rw [← hwb]; exact (Below.refl _ _).alloc (Nat.le_refl _) _
  have hzb : wb.heap.size = w.heap.size + 2 := by rw [← hwb, World.alloc]; simp [hza]
  have hra2 : RuneRow wb w.heap.size 0 T := fun j c hj => (hbb.cell (p := ⟨w.heap.size, 0 + j, none⟩) (by show w.heap.size < wa.heap.size; omega)).trans (hra j c hj)
  have HA2 : Hid (RuneRow wb.drew.drew w.heap.size 0 T) := hra2
  have HB2 : Hid (RuneRow wb.drew.drew (w.heap.size + 1) 0 P) := hrb
  have HBW : Hid (Below w.heap.size w wb.drew.drew) := (hba.trans (hbb.mono (by omega))).trans ⟨rfl, rfl, rfl, Nat.le_refl _, fun _ _ => rfl⟩
  have hzd : wb.drew.drew.heap.size = w.heap.size + 2 := hzb
  clear hra hba hrb hbb hra2
  refine (matches_any T P w.heap.size ca (w.heap.size + 1) cb (by omega) (by omega) hcb wb.drew.drew (by omega) (by omega) HA2.out HB2.out).mono ?_
  rintro e w1 ⟨rfl, hb1⟩
  go_wp2_with fail
  go_ret
  exact ⟨rfl, HBW.out.trans (hb1.mono (by omega))⟩
end Go.Proofs.Ytfcnoeehfhncjaa
