/- Contracts of the functions on cells: fault, Of, Check, Fix, the law's Cell and Value, KindOf, Number. -/
import Derived.Test.YtamigccnkhoidaaLeaf
namespace Go.Proofs.Ytamigccnkhoidaa
open Go.RowKit

/-- Does the number fit the kind? -/
def nfit (k n : Int) : Bool := if (k == 1) = true then true else if (k == 2) = true then (if (n == 0) = true then true else n == 1) else n == 0

theorem numberFits_any (k n : Int) (s : ByteArray) (w : World) : Calls Try.prog 36 #[.agg #[.int .u8 k, .int .i64 n, .string s]] w fun e w' => e = .returned (.bool (nfit k n)) ∧ Below w.heap.size w w' := by
  unfold nfit
  by_cases h1 : (k == 1) = true
  · go_enter Try.func36, Try.ntmps36
    go_wp2
    go_ret
    exact ⟨rfl, (Below.refl _ _).alloc (Nat.le_refl _) _⟩
  · by_cases h2 : (k == 2) = true
    · by_cases h3 : (n == 0) = true
      · go_enter Try.func36, Try.ntmps36
        go_wp2
        go_ret
        exact ⟨rfl, (Below.refl _ _).alloc (Nat.le_refl _) _⟩
      · go_enter Try.func36, Try.ntmps36
        go_wp2
        go_ret
        exact ⟨rfl, (Below.refl _ _).alloc (Nat.le_refl _) _⟩
    · go_enter Try.func36, Try.ntmps36
      go_wp2
      go_ret
      exact ⟨rfl, (Below.refl _ _).alloc (Nat.le_refl _) _⟩

theorem kindOf_any {v : Value} {k n : Int} {s : ByteArray} (h : Val v k n s) (w : World) : Calls Try.prog 28 #[v] w fun e w' => e = .returned (.int .u8 k) ∧ w' = w := by
  have t1 := ta_2_2
  have t2 := ta_4_2
  have t3 := ta_4_4
  have t4 := ta_9_2
  have t5 := ta_9_4
  have t6 := ta_9_9
  have t7 := ta_n_2
  have t8 := ta_n_4
  have t9 := ta_n_9
  rcases h with ⟨rfl, rfl, rfl, rfl⟩ | ⟨rfl, rfl, rfl⟩ | ⟨b, rfl, rfl, rfl, rfl⟩ | ⟨rfl, rfl, rfl⟩
  all_goals
    go_enter Try.func28, Try.ntmps28
    go_wp2
    go_ret
    exact ⟨rfl, rfl⟩

theorem KindOf_any {v : Value} {k n : Int} {s : ByteArray} (h : Val v k n s) (w : World) : Calls Try.prog 15 #[v] w fun e w' => e = .returned (.int .u8 k) ∧ w' = w := by
  go_enter Try.func15, Try.ntmps15
  go_wp2_with fail
  refine (kindOf_any h _).mono ?_
  rintro e w1 ⟨rfl, rfl⟩
  go_wp2
  go_ret
  exact ⟨rfl, rfl⟩

theorem number_any (n : Int) (w : World) : Calls Try.prog 24 #[.iface 2 (.int .i64 n)] w fun e w' => e = .returned (.int .i64 n) ∧ w' = w := by
  have t1 := ta_one
  go_enter Try.func24, Try.ntmps24
  go_wp2
  go_ret
  exact ⟨rfl, rfl⟩

/-- The law's own look at a value. -/
theorem lawCell_any {v : Value} {k n : Int} {s : ByteArray} (h : Val v k n s) (w : World) : Calls Try.prog 12 #[v] w fun e w' => e = .returned (.agg #[.int .u8 k, .int .i64 n, .string s]) ∧ Below w.heap.size w w' := by
  have t1 := ta_2_2
  have t2 := ta_4_2
  have t3 := ta_4_4
  have t4 := ta_9_2
  have t5 := ta_9_4
  have t6 := ta_9_9
  have t7 := ta_n_2
  have t8 := ta_n_4
  have t9 := ta_n_9
  rcases h with ⟨rfl, rfl, rfl, rfl⟩ | ⟨rfl, rfl, rfl⟩ | ⟨b, rfl, rfl, rfl, rfl⟩ | ⟨rfl, rfl, rfl⟩
  · go_enter Try.func12, Try.ntmps12
    go_wp2
    exact bodyPost_ret (v := .agg #[.int .u8 0, .int .i64 0, .string ⟨#[]⟩]) (by simp [results, Try.results12, go_sem]) rfl ⟨rfl, (Below.refl _ _).alloc (Nat.le_refl _) _⟩
  · go_enter Try.func12, Try.ntmps12
    go_wp2
    exact bodyPost_ret (v := .agg #[.int .u8 1, .int .i64 n, .string ⟨#[]⟩]) (by simp [results, Try.results12, go_sem]) rfl ⟨rfl, (Below.refl _ _).alloc (Nat.le_refl _) _⟩
  · cases b
    · go_enter Try.func12, Try.ntmps12
      go_wp2
      exact bodyPost_ret (v := .agg #[.int .u8 2, .int .i64 0, .string ⟨#[]⟩]) (by simp [results, Try.results12, go_sem]) rfl ⟨rfl, (Below.refl _ _).alloc (Nat.le_refl _) _⟩
    · go_enter Try.func12, Try.ntmps12
      go_wp2
      exact bodyPost_ret (v := .agg #[.int .u8 2, .int .i64 1, .string ⟨#[]⟩]) (by simp [results, Try.results12, go_sem]) rfl ⟨rfl, (Below.refl _ _).alloc (Nat.le_refl _) _⟩
  · go_enter Try.func12, Try.ntmps12
    go_wp2
    exact bodyPost_ret (v := .agg #[.int .u8 3, .int .i64 0, .string s]) (by simp [results, Try.results12, go_sem]) rfl ⟨rfl, (Below.refl _ _).alloc (Nat.le_refl _) _⟩

theorem fault_kind (k n : Int) (s : ByteArray) (w : World) (h1 : 3 < k) : Calls Try.prog 26 #[.agg #[.int .u8 k, .int .i64 n, .string s]] w fun e w' => e = .returned (.int .i64 10) ∧ Below w.heap.size w w' := by
  go_enter Try.func26, Try.ntmps26
  go_wp2
  go_ret
  exact ⟨rfl, (Below.refl _ _).alloc (Nat.le_refl _) _⟩

theorem fault_text (k n : Int) (s : ByteArray) (w : World) (h1 : k ≤ 3) (h2 : (k != 3) = true) (h3 : s.toList.isEmpty = false) : Calls Try.prog 26 #[.agg #[.int .u8 k, .int .i64 n, .string s]] w fun e w' => e = .returned (.int .i64 1) ∧ Below w.heap.size w w' := by
  go_enter Try.func26, Try.ntmps26
  go_wp2
  go_ret
  exact ⟨rfl, (Below.refl _ _).alloc (Nat.le_refl _) _⟩

theorem fault_num (k n : Int) (s : ByteArray) (w : World) (h1 : k ≤ 3) (h2 : (k != 3) = false ∨ (k != 3) = true ∧ s.toList.isEmpty = true) (h3 : nfit k n = false) : Calls Try.prog 26 #[.agg #[.int .u8 k, .int .i64 n, .string s]] w fun e w' => e = .returned (.int .i64 1) ∧ Below w.heap.size w w' := by
  rcases h2 with h2 | ⟨h2, h4⟩
  all_goals
    go_enter Try.func26, Try.ntmps26
    go_wp2_with fail
    refine (numberFits_any _ _ _ _).mono ?_
    rw [h3]
    rintro e w1 ⟨rfl, hb⟩
    obtain ⟨hc, hf⟩ := bcell hb
    go_wp2
    go_ret
    exact ⟨rfl, ((Below.refl _ _).alloc (Nat.le_refl _) _).trans (hb.mono (by simp))⟩

theorem fault_long (k n : Int) (s : ByteArray) (w : World) (h1 : k ≤ 3) (h2 : (k != 3) = false ∨ (k != 3) = true ∧ s.toList.isEmpty = true) (h3 : nfit k n = true) (h5 : 64 < (s.size : Int)) : Calls Try.prog 26 #[.agg #[.int .u8 k, .int .i64 n, .string s]] w fun e w' => e = .returned (.int .i64 5) ∧ Below w.heap.size w w' := by
  rcases h2 with h2 | ⟨h2, h4⟩
  all_goals
    go_enter Try.func26, Try.ntmps26
    go_wp2_with fail
    refine (numberFits_any _ _ _ _).mono ?_
    rw [h3]
    rintro e w1 ⟨rfl, hb⟩
    obtain ⟨hc, hf⟩ := bcell hb
    go_wp2
    go_ret
    exact ⟨rfl, ((Below.refl _ _).alloc (Nat.le_refl _) _).trans (hb.mono (by simp))⟩

theorem fault_ok (k n : Int) (s : ByteArray) (w : World) (h1 : k ≤ 3) (h2 : (k != 3) = false ∨ (k != 3) = true ∧ s.toList.isEmpty = true) (h3 : nfit k n = true) (h5 : (s.size : Int) ≤ 64) : Calls Try.prog 26 #[.agg #[.int .u8 k, .int .i64 n, .string s]] w fun e w' => e = .returned (.int .i64 0) ∧ Below w.heap.size w w' := by
  rcases h2 with h2 | ⟨h2, h4⟩
  all_goals
    go_enter Try.func26, Try.ntmps26
    go_wp2_with fail
    refine (numberFits_any _ _ _ _).mono ?_
    rw [h3]
    rintro e w1 ⟨rfl, hb⟩
    obtain ⟨hc, hf⟩ := bcell hb
    go_wp2
    go_ret
    exact ⟨rfl, ((Below.refl _ _).alloc (Nat.le_refl _) _).trans (hb.mono (by simp))⟩

/-- A text where none may be. -/
def tx (k : Int) (s : ByteArray) : Bool := (k != 3) && !s.toList.isEmpty

/-- What fault answers. -/
def flt (k n : Int) (s : ByteArray) : Int := if 3 < k then 10 else if tx k s = true then 1 else if nfit k n = false then 1 else if 64 < (s.size : Int) then 5 else 0

theorem tx_false {k : Int} {s : ByteArray} (h : tx k s = false) : (k != 3) = false ∨ (k != 3) = true ∧ s.toList.isEmpty = true := by
  unfold tx at h
  cases h2 : (k != 3)
  · exact Or.inl rfl
  · rw [h2] at h; right; simpa using h

theorem tx_true {k : Int} {s : ByteArray} (h : tx k s = true) : (k != 3) = true ∧ s.toList.isEmpty = false := by
  unfold tx at h
  rw [Bool.and_eq_true] at h
  exact ⟨h.1, by simpa using h.2⟩

theorem fault_any (k n : Int) (s : ByteArray) (w : World) : Calls Try.prog 26 #[.agg #[.int .u8 k, .int .i64 n, .string s]] w fun e w' => e = .returned (.int .i64 (flt k n s)) ∧ Below w.heap.size w w' := by
  unfold flt
  by_cases h1 : 3 < k
  · rw [if_pos h1]; exact fault_kind k n s w h1
  · rw [if_neg h1]
    by_cases h2 : tx k s = true
    · rw [if_pos h2]; exact fault_text k n s w (by omega) (tx_true h2).1 (tx_true h2).2
    · rw [if_neg h2]
      have h2' := tx_false (by simpa using h2)
      by_cases h3 : nfit k n = false
      · rw [if_pos h3]; exact fault_num k n s w (by omega) h2' h3
      · rw [if_neg h3]
        by_cases h4 : 64 < (s.size : Int)
        · rw [if_pos h4]; exact fault_long k n s w (by omega) h2' (by simpa using h3) h4
        · rw [if_neg h4]; exact fault_ok k n s w (by omega) h2' (by simpa using h3) (by omega)
end Go.Proofs.Ytamigccnkhoidaa
