/- Contracts of the law's own order: Less and Compare on cells. -/
import Derived.Test.YtamigccnkhoidaaOrd
import Derived.Test.YtamigccnkhoidaaCmp
namespace Go.Proofs.Ytamigccnkhoidaa
open Go.RowKit

set_option maxHeartbeats 1000000 in
theorem less_any (k n : Int) (s : ByteArray) (k' n' : Int) (s' : ByteArray) (w : World) : Calls Try.prog 33 #[.agg #[.int .u8 k, .int .i64 n, .string s], .agg #[.int .u8 k', .int .i64 n', .string s']] w fun e w' => e = .returned (.bool (ls k n s k' n' s')) ∧ Below w.heap.size w w' := by
  unfold ls
  by_cases h1 : (k != k') = true
  · rw [if_pos h1]
    go_enter Try.func33, Try.ntmps33
    go_wp2
    go_ret
    exact ⟨rfl, ((Below.refl _ _).alloc (Nat.le_refl _) _).alloc (by simp) _⟩
  · rw [if_neg h1]
    have h1' : (k != k') = false := by simpa using h1
    clear h1
    by_cases h2 : n < n'
    · rw [if_pos h2]
      go_enter Try.func33, Try.ntmps33
      go_wp2
      go_ret
      exact ⟨rfl, ((Below.refl _ _).alloc (Nat.le_refl _) _).alloc (by simp) _⟩
    · rw [if_neg h2]
      by_cases h3 : (n == n') = true
      · rw [if_pos h3]
        go_enter Try.func33, Try.ntmps33
        go_wp2
        go_ret
        exact ⟨rfl, ((Below.refl _ _).alloc (Nat.le_refl _) _).alloc (by simp) _⟩
      · rw [if_neg h3]
        have h3' : (n == n') = false := by simpa using h3
        clear h3
        go_enter Try.func33, Try.ntmps33
        go_wp2
        go_ret
        exact ⟨rfl, ((Below.refl _ _).alloc (Nat.le_refl _) _).alloc (by simp) _⟩

theorem less_eq (k n : Int) (s : ByteArray) (k' n' : Int) (s' : ByteArray) (b : Bool) (hb : ls k n s k' n' s' = b) (w : World) : Calls Try.prog 33 #[.agg #[.int .u8 k, .int .i64 n, .string s], .agg #[.int .u8 k', .int .i64 n', .string s']] w fun e w' => e = .returned (.bool b) ∧ Below w.heap.size w w' := by
  subst hb; exact less_any k n s k' n' s' w

theorem refCompare_core (k n : Int) (s : ByteArray) (k' n' : Int) (s' : ByteArray) (a b : Bool) (c : Int) (ha : ls k n s k' n' s' = a) (hb : ls k' n' s' k n s = b) (hc : (a = true ∧ c = -1) ∨ (a = false ∧ b = true ∧ c = 1) ∨ (a = false ∧ b = false ∧ c = 0)) (w : World) : Calls Try.prog 18 #[.agg #[.int .u8 k, .int .i64 n, .string s], .agg #[.int .u8 k', .int .i64 n', .string s']] w fun e w' => e = .returned (.int .i64 c) ∧ Below w.heap.size w w' := by
  have HA : Hid (∀ w : World, Calls Try.prog 33 #[.agg #[.int .u8 k, .int .i64 n, .string s], .agg #[.int .u8 k', .int .i64 n', .string s']] w fun e w' => e = .returned (.bool a) ∧ Below w.heap.size w w') := less_eq k n s k' n' s' a ha
  have HB : Hid (∀ w : World, Calls Try.prog 33 #[.agg #[.int .u8 k', .int .i64 n', .string s'], .agg #[.int .u8 k, .int .i64 n, .string s]] w fun e w' => e = .returned (.bool b) ∧ Below w.heap.size w w') := less_eq k' n' s' k n s b hb
  clear ha hb
  rcases hc with ⟨rfl, rfl⟩ | ⟨rfl, rfl, rfl⟩ | ⟨rfl, rfl, rfl⟩
  · go_enter Try.func18, Try.ntmps18
    go_wp2_with fail
    refine (HA.out _).mono ?_
    rintro e w1 ⟨rfl, hb1⟩
    go_wp2_with fail
    go_ret
    exact ⟨rfl, (((Below.refl _ _).alloc (Nat.le_refl _) _).alloc (by simp) _).trans (hb1.mono (by simp; omega))⟩
  · go_enter Try.func18, Try.ntmps18
    go_wp2_with fail
    refine (HA.out _).mono ?_
    rintro e w1 ⟨rfl, hb1⟩
    obtain ⟨hc1, hf1⟩ := bcell hb1
    have hz1 := hb1.size
    simp at hz1
    go_wp2_with fail
    refine (HB.out _).mono ?_
    rintro e w2 ⟨rfl, hb2⟩
    go_wp2_with fail
    go_ret
    exact ⟨rfl, ((((Below.refl _ _).alloc (Nat.le_refl _) _).alloc (by simp) _).trans (hb1.mono (by simp; omega))).trans (hb2.mono (by omega))⟩
  · go_enter Try.func18, Try.ntmps18
    go_wp2_with fail
    refine (HA.out _).mono ?_
    rintro e w1 ⟨rfl, hb1⟩
    obtain ⟨hc1, hf1⟩ := bcell hb1
    have hz1 := hb1.size
    simp at hz1
    go_wp2_with fail
    refine (HB.out _).mono ?_
    rintro e w2 ⟨rfl, hb2⟩
    go_wp2_with fail
    go_ret
    exact ⟨rfl, ((((Below.refl _ _).alloc (Nat.le_refl _) _).alloc (by simp) _).trans (hb1.mono (by simp; omega))).trans (hb2.mono (by omega))⟩

theorem refCompare_any (k n : Int) (s : ByteArray) (k' n' : Int) (s' : ByteArray) (w : World) : Calls Try.prog 18 #[.agg #[.int .u8 k, .int .i64 n, .string s], .agg #[.int .u8 k', .int .i64 n', .string s']] w fun e w' => e = .returned (.int .i64 (cv k n s k' n' s')) ∧ Below w.heap.size w w' := by
  have h1 := ls_cv k n s k' n' s'
  have h2 := ls_cv k' n' s' k n s
  rw [cv_swap k n s k' n' s'] at h2
  have h3 := cv_range k n s k' n' s'
  refine refCompare_core k n s k' n' s' _ _ _ h1 h2 ?_ w
  rcases h3 with h3 | h3 | h3 <;> rw [h3] <;> decide

/-- value.Compare by the same word. -/
theorem compare_cv {x y : Value} {k n k' n' : Int} {s s' : ByteArray} (hx : Val x k n s) (hy : Val y k' n' s') (w : World) : Calls Try.prog 17 #[x, y] w fun e w' => e = .returned (.int .i64 (cv k n s k' n' s')) ∧ Below w.heap.size w w' := compare_any hx hy w
end Go.Proofs.Ytamigccnkhoidaa
