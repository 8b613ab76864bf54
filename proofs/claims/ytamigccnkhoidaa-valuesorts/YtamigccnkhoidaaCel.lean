/- Contracts of Check, Fix, Of and the law's Value: which cells are a value's, and which value. -/
import Derived.Test.YtamigccnkhoidaaMid
namespace Go.Proofs.Ytamigccnkhoidaa
open Go.RowKit

theorem sEmpty {s : ByteArray} (h : s.toList.isEmpty = true) : s = ⟨#[]⟩ := by
  have h1 : s.toList = [] := by simpa using h
  have h2 : s.data.toList = [] := by rw [← ByteArray.toList_eq]; exact h1
  cases s with
  | mk d => congr; exact Array.toList_eq_nil_iff.mp h2

set_option maxHeartbeats 400000 in
theorem check_any (k n : Int) (s : ByteArray) (h0 : 0 ≤ k) (w : World) : Calls Try.prog 11 #[.agg #[.int .u8 k, .int .i64 n, .string s]] w fun e w' => e = .returned (.int .i64 (flt k n s)) ∧ Below w.heap.size w w' := by
  by_cases h1 : 3 < k
  · rw [show flt k n s = 10 by unfold flt; rw [if_pos h1]]
    clear h0
    go_enter Try.func11, Try.ntmps11
    go_wp2
    go_ret
    exact ⟨rfl, (Below.refl _ _).alloc (Nat.le_refl _) _⟩
  · by_cases h2 : tx k s = true
    · rw [show flt k n s = 1 by unfold flt; rw [if_neg h1, if_pos h2]]
      obtain ⟨h3, h4⟩ := tx_true h2
      have h5 : k ≤ 3 := by omega
      clear h0 h1 h2
      go_enter Try.func11, Try.ntmps11
      go_wp2
      go_ret
      exact ⟨rfl, (Below.refl _ _).alloc (Nat.le_refl _) _⟩
    · have h3 := tx_false (by simpa using h2)
      by_cases h4 : k = 3
      · subst h4
        clear h0 h1 h2 h3
        cases hn : (n == 0)
        · rw [show flt 3 n s = 1 by unfold flt; simp [tx, nfit, hn]]
          have hn2 : (n != 0) = true := by simpa using hn
          go_enter Try.func11, Try.ntmps11
          go_wp2
          go_ret
          exact ⟨rfl, (Below.refl _ _).alloc (Nat.le_refl _) _⟩
        · have hn2 : (n != 0) = false := by simpa using hn
          by_cases hs : 64 < (s.size : Int)
          · rw [show flt 3 n s = 5 by unfold flt; simp [tx, nfit, hn]; omega]
            go_enter Try.func11, Try.ntmps11
            go_wp2
            go_ret
            exact ⟨rfl, (Below.refl _ _).alloc (Nat.le_refl _) _⟩
          · rw [show flt 3 n s = 0 by unfold flt; simp [tx, nfit, hn]; omega]
            have hs2 : (s.size : Int) ≤ 64 := by omega
            clear hs
            go_enter Try.func11, Try.ntmps11
            go_wp2
            go_ret
            exact ⟨rfl, (Below.refl _ _).alloc (Nat.le_refl _) _⟩
      · have h5 : s = ⟨#[]⟩ := by
          rcases h3 with h3 | h3
          · simp at h3; omega
          · exact sEmpty h3.2
        subst h5
        obtain rfl | rfl | rfl : k = 0 ∨ k = 1 ∨ k = 2 := by omega
        · clear h0 h1 h2 h3 h4
          cases hn : (n == 0)
          · rw [show flt 0 n ⟨#[]⟩ = 1 by unfold flt; simp [nfit, hn]]
            have hn2 : (n != 0) = true := by simpa using hn
            go_enter Try.func11, Try.ntmps11
            go_wp2
            go_ret
            exact ⟨rfl, (Below.refl _ _).alloc (Nat.le_refl _) _⟩
          · rw [show flt 0 n ⟨#[]⟩ = 0 by unfold flt; simp [nfit, hn, tx, ByteArray.size]]
            have hn2 : (n != 0) = false := by simpa using hn
            go_enter Try.func11, Try.ntmps11
            go_wp2
            go_ret
            exact ⟨rfl, (Below.refl _ _).alloc (Nat.le_refl _) _⟩
        · clear h0 h1 h2 h3 h4
          rw [show flt 1 n ⟨#[]⟩ = 0 by unfold flt; simp [nfit, tx, ByteArray.size]]
          go_enter Try.func11, Try.ntmps11
          go_wp2
          go_ret
          exact ⟨rfl, (Below.refl _ _).alloc (Nat.le_refl _) _⟩
        · clear h0 h1 h2 h3 h4
          cases hn : (n == 0)
          · have hn2 : (n != 0) = true := by simpa using hn
            cases hm : (n == 1)
            · rw [show flt 2 n ⟨#[]⟩ = 1 by unfold flt; simp [nfit, hn, hm]]
              have hm2 : (n != 1) = true := by simpa using hm
              go_enter Try.func11, Try.ntmps11
              go_wp2
              go_ret
              exact ⟨rfl, (Below.refl _ _).alloc (Nat.le_refl _) _⟩
            · rw [show flt 2 n ⟨#[]⟩ = 0 by unfold flt; simp [nfit, hn, hm, tx, ByteArray.size]]
              have hm2 : (n != 1) = false := by simpa using hm
              go_enter Try.func11, Try.ntmps11
              go_wp2
              go_ret
              exact ⟨rfl, (Below.refl _ _).alloc (Nat.le_refl _) _⟩
          · rw [show flt 2 n ⟨#[]⟩ = 0 by unfold flt; simp [nfit, hn, tx, ByteArray.size]]
            have hn2 : (n != 0) = false := by simpa using hn
            go_enter Try.func11, Try.ntmps11
            go_wp2
            go_ret
            exact ⟨rfl, (Below.refl _ _).alloc (Nat.le_refl _) _⟩

theorem flt_zero {k n : Int} {s : ByteArray} (h0 : 0 ≤ k) (h : flt k n s = 0) : (k = 0 ∧ n = 0 ∧ s = ⟨#[]⟩) ∨ (k = 1 ∧ s = ⟨#[]⟩) ∨ (k = 2 ∧ n = 0 ∧ s = ⟨#[]⟩) ∨ (k = 2 ∧ n = 1 ∧ s = ⟨#[]⟩) ∨ (k = 3 ∧ n = 0 ∧ s.size ≤ 64) := by
  unfold flt at h
  by_cases h1 : 3 < k
  · rw [if_pos h1] at h; omega
  · rw [if_neg h1] at h
    by_cases h2 : tx k s = true
    · rw [if_pos h2] at h; omega
    · rw [if_neg h2] at h
      by_cases h3 : nfit k n = false
      · rw [if_pos h3] at h; omega
      · rw [if_neg h3] at h
        by_cases h4 : 64 < (s.size : Int)
        · rw [if_pos h4] at h; omega
        · have h5 := tx_false (by simpa using h2)
          have h6 : k ≠ 3 → s = ⟨#[]⟩ := by
            intro hk
            rcases h5 with h5 | h5
            · simp at h5; omega
            · exact sEmpty h5.2
          obtain rfl | rfl | rfl | rfl : k = 0 ∨ k = 1 ∨ k = 2 ∨ k = 3 := by omega
          · simp [nfit] at h3; exact Or.inl ⟨rfl, h3, h6 (by omega)⟩
          · exact Or.inr (Or.inl ⟨rfl, h6 (by omega)⟩)
          · simp [nfit] at h3
            by_cases hn : n = 0
            · exact Or.inr (Or.inr (Or.inl ⟨rfl, hn, h6 (by omega)⟩))
            · exact Or.inr (Or.inr (Or.inr (Or.inl ⟨rfl, h3 hn, h6 (by omega)⟩)))
          · simp [nfit] at h3; exact Or.inr (Or.inr (Or.inr (Or.inr ⟨rfl, h3, by omega⟩)))

theorem of_bad (k n : Int) (s : ByteArray) (h : (flt k n s != 0) = true) (w : World) : Calls Try.prog 10 #[.agg #[.int .u8 k, .int .i64 n, .string s]] w fun e w' => e = .returned (.tuple #[.nilIface, .int .i64 (flt k n s)]) ∧ Below w.heap.size w w' := by
  go_enter Try.func10, Try.ntmps10
  go_wp2_with fail
  refine (fault_any _ _ _ _).mono ?_
  rintro e w1 ⟨rfl, hb⟩
  go_wp2_with fail
  go_ret2
  exact ⟨rfl, ((Below.refl _ _).alloc (Nat.le_refl _) _).trans (hb.mono (by simp))⟩

theorem of_good (k n : Int) (s : ByteArray) (h0 : 0 ≤ k) (h : flt k n s = 0) (w : World) : Calls Try.prog 10 #[.agg #[.int .u8 k, .int .i64 n, .string s]] w fun e w' => (∃ v, e = .returned (.tuple #[v, .int .i64 0]) ∧ Val v k n s) ∧ Below w.heap.size w w' := by
  have hf := fault_any k n s
  rw [h] at hf
  have HF : Hid (∀ w : World, Calls Try.prog 26 #[.agg #[.int .u8 k, .int .i64 n, .string s]] w fun e w' => e = .returned (.int .i64 0) ∧ Below w.heap.size w w') := hf
  clear hf
  obtain ⟨rfl, rfl, rfl⟩ | ⟨rfl, rfl⟩ | ⟨rfl, rfl, rfl⟩ | ⟨rfl, rfl, rfl⟩ | ⟨rfl, rfl, hs⟩ := flt_zero h0 h
  all_goals clear h h0
  · go_enter Try.func10, Try.ntmps10
    go_wp2_with fail
    refine (HF.out _).mono ?_
    rintro e w1 ⟨rfl, hb⟩
    obtain ⟨hc, hf⟩ := bcell hb
    go_wp2_with fail
    go_ret2
    exact ⟨⟨_, rfl, Or.inl ⟨rfl, rfl, rfl, rfl⟩⟩, ((Below.refl _ _).alloc (Nat.le_refl _) _).trans (hb.mono (by simp))⟩
  · go_enter Try.func10, Try.ntmps10
    go_wp2_with fail
    refine (HF.out _).mono ?_
    rintro e w1 ⟨rfl, hb⟩
    obtain ⟨hc, hf⟩ := bcell hb
    go_wp2_with fail
    go_ret2
    exact ⟨⟨_, rfl, Or.inr (Or.inl ⟨rfl, rfl, rfl⟩)⟩, ((Below.refl _ _).alloc (Nat.le_refl _) _).trans (hb.mono (by simp))⟩
  · go_enter Try.func10, Try.ntmps10
    go_wp2_with fail
    refine (HF.out _).mono ?_
    rintro e w1 ⟨rfl, hb⟩
    obtain ⟨hc, hf⟩ := bcell hb
    go_wp2_with fail
    go_ret2
    exact ⟨⟨_, rfl, Or.inr (Or.inr (Or.inl ⟨false, rfl, rfl, rfl, rfl⟩))⟩, ((Below.refl _ _).alloc (Nat.le_refl _) _).trans (hb.mono (by simp))⟩
  · go_enter Try.func10, Try.ntmps10
    go_wp2_with fail
    refine (HF.out _).mono ?_
    rintro e w1 ⟨rfl, hb⟩
    obtain ⟨hc, hf⟩ := bcell hb
    go_wp2_with fail
    go_ret2
    exact ⟨⟨_, rfl, Or.inr (Or.inr (Or.inl ⟨true, rfl, rfl, rfl, rfl⟩))⟩, ((Below.refl _ _).alloc (Nat.le_refl _) _).trans (hb.mono (by simp))⟩
  · go_enter Try.func10, Try.ntmps10
    go_wp2_with fail
    refine (HF.out _).mono ?_
    rintro e w1 ⟨rfl, hb⟩
    obtain ⟨hc, hf⟩ := bcell hb
    go_wp2_with fail
    go_ret2
    exact ⟨⟨_, rfl, Or.inr (Or.inr (Or.inr ⟨rfl, rfl, rfl⟩))⟩, ((Below.refl _ _).alloc (Nat.le_refl _) _).trans (hb.mono (by simp))⟩

theorem fix_bad (k n : Int) (s : ByteArray) (h0 : 0 ≤ k) (h : (flt k n s != 0) = true) (w : World) : Calls Try.prog 13 #[.agg #[.int .u8 k, .int .i64 n, .string s]] w fun e w' => e = .returned (.agg #[.int .u8 0, .int .i64 0, .string ⟨#[]⟩]) ∧ Below w.heap.size w w' := by
  go_enter Try.func13, Try.ntmps13
  go_wp2_with fail
  refine (check_any _ _ _ h0 _).mono ?_
  rintro e w1 ⟨rfl, hb⟩
  obtain ⟨hc, hf⟩ := bcell hb
  have hz : w.heap.size + 1 < w1.heap.size := by have := hb.size; simp at this; omega
  clear h0
  go_wp2_with fail
  refine bodyPost_ret (v := .agg #[.int .u8 0, .int .i64 0, .string ⟨#[]⟩]) (by simp [results, Try.results13, go_sem, hc]) rfl ⟨rfl, ?_⟩
  exact (((((((Below.refl _ _).alloc (Nat.le_refl _) _).alloc (by simp) _).trans (hb.mono (by simp; omega))).setCell (by simp) _).setCell (by simp) _).setCell (by simp) _)

theorem fix_good (k n : Int) (s : ByteArray) (h0 : 0 ≤ k) (h : (flt k n s != 0) = false) (w : World) : Calls Try.prog 13 #[.agg #[.int .u8 k, .int .i64 n, .string s]] w fun e w' => e = .returned (.agg #[.int .u8 k, .int .i64 n, .string s]) ∧ Below w.heap.size w w' := by
  go_enter Try.func13, Try.ntmps13
  go_wp2_with fail
  refine (check_any _ _ _ h0 _).mono ?_
  rintro e w1 ⟨rfl, hb⟩
  obtain ⟨hc, hf⟩ := bcell hb
  have hz : w.heap.size + 1 < w1.heap.size := by have := hb.size; simp at this; omega
  clear h0
  go_wp2_with fail
  refine bodyPost_ret (v := .agg #[.int .u8 k, .int .i64 n, .string s]) (by simp [results, Try.results13, go_sem, hc]) rfl ⟨rfl, ?_⟩
  exact (((((((Below.refl _ _).alloc (Nat.le_refl _) _).alloc (by simp) _).trans (hb.mono (by simp; omega))).setCell (by simp) _).setCell (by simp) _).setCell (by simp) _)

/-- The fixed cell's parts. -/
def fk (k n : Int) (s : ByteArray) : Int := if flt k n s = 0 then k else 0
def fn (k n : Int) (s : ByteArray) : Int := if flt k n s = 0 then n else 0
def fs (k n : Int) (s : ByteArray) : ByteArray := if flt k n s = 0 then s else ⟨#[]⟩

theorem fixed_cases (k n : Int) (s : ByteArray) (h0 : 0 ≤ k) : (fk k n s = 0 ∧ fn k n s = 0 ∧ fs k n s = ⟨#[]⟩) ∨ (fk k n s = 1 ∧ fs k n s = ⟨#[]⟩) ∨ (fk k n s = 2 ∧ fn k n s = 0 ∧ fs k n s = ⟨#[]⟩) ∨ (fk k n s = 2 ∧ fn k n s = 1 ∧ fs k n s = ⟨#[]⟩) ∨ (fk k n s = 3 ∧ fn k n s = 0 ∧ (fs k n s).size ≤ 64) := by
  unfold fk fn fs
  by_cases h : flt k n s = 0
  · simp only [if_pos h]; exact flt_zero h0 h
  · simp only [if_neg h]; exact Or.inl (by simp)

theorem fix_any (k n : Int) (s : ByteArray) (h0 : 0 ≤ k) (w : World) : Calls Try.prog 13 #[.agg #[.int .u8 k, .int .i64 n, .string s]] w fun e w' => e = .returned (.agg #[.int .u8 (fk k n s), .int .i64 (fn k n s), .string (fs k n s)]) ∧ Below w.heap.size w w' := by
  unfold fk fn fs
  by_cases h : flt k n s = 0
  · simp only [if_pos h]; exact fix_good k n s h0 (by simpa using h) w
  · simp only [if_neg h]; exact fix_bad k n s h0 (by simpa using h) w

theorem value_any (k n : Int) (s : ByteArray) (h0 : 0 ≤ k) (w : World) : Calls Try.prog 16 #[.agg #[.int .u8 k, .int .i64 n, .string s]] w fun e w' => (∃ v, e = .returned v ∧ Val v (fk k n s) (fn k n s) (fs k n s)) ∧ Below w.heap.size w w' := by
  have hf := fix_any k n s h0
  have hx := fixed_cases k n s h0
  generalize fk k n s = a at *
  generalize fn k n s = b at *
  generalize fs k n s = c at *
  have HF : Hid (∀ w : World, Calls Try.prog 13 #[.agg #[.int .u8 k, .int .i64 n, .string s]] w fun e w' => e = .returned (.agg #[.int .u8 a, .int .i64 b, .string c]) ∧ Below w.heap.size w w') := hf
  clear hf h0
  obtain ⟨rfl, rfl, rfl⟩ | ⟨rfl, rfl⟩ | ⟨rfl, rfl, rfl⟩ | ⟨rfl, rfl, rfl⟩ | ⟨rfl, rfl, hs⟩ := hx
  · go_enter Try.func16, Try.ntmps16
    go_wp2_with fail
    refine (HF.out _).mono ?_
    rintro e w1 ⟨rfl, hb⟩
    obtain ⟨hc, hf⟩ := bcell hb
    have hz : w.heap.size < w1.heap.size := by have := hb.size; simp at this; omega
    go_wp2_with fail
    go_ret
    exact ⟨⟨_, rfl, Or.inl ⟨rfl, rfl, rfl, rfl⟩⟩, ((((((Below.refl _ _).alloc (Nat.le_refl _) _).trans (hb.mono (by simp))).setCell (by simp) _).setCell (by simp) _).setCell (by simp) _)⟩
  · go_enter Try.func16, Try.ntmps16
    go_wp2_with fail
    refine (HF.out _).mono ?_
    rintro e w1 ⟨rfl, hb⟩
    obtain ⟨hc, hf⟩ := bcell hb
    have hz : w.heap.size < w1.heap.size := by have := hb.size; simp at this; omega
    go_wp2_with fail
    go_ret
    exact ⟨⟨_, rfl, Or.inr (Or.inl ⟨rfl, rfl, rfl⟩)⟩, ((((((Below.refl _ _).alloc (Nat.le_refl _) _).trans (hb.mono (by simp))).setCell (by simp) _).setCell (by simp) _).setCell (by simp) _)⟩
  · go_enter Try.func16, Try.ntmps16
    go_wp2_with fail
    refine (HF.out _).mono ?_
    rintro e w1 ⟨rfl, hb⟩
    obtain ⟨hc, hf⟩ := bcell hb
    have hz : w.heap.size < w1.heap.size := by have := hb.size; simp at this; omega
    go_wp2_with fail
    go_ret
    exact ⟨⟨_, rfl, Or.inr (Or.inr (Or.inl ⟨false, rfl, rfl, rfl, rfl⟩))⟩, ((((((Below.refl _ _).alloc (Nat.le_refl _) _).trans (hb.mono (by simp))).setCell (by simp) _).setCell (by simp) _).setCell (by simp) _)⟩
  · go_enter Try.func16, Try.ntmps16
    go_wp2_with fail
    refine (HF.out _).mono ?_
    rintro e w1 ⟨rfl, hb⟩
    obtain ⟨hc, hf⟩ := bcell hb
    have hz : w.heap.size < w1.heap.size := by have := hb.size; simp at this; omega
    go_wp2_with fail
    go_ret
    exact ⟨⟨_, rfl, Or.inr (Or.inr (Or.inl ⟨true, rfl, rfl, rfl, rfl⟩))⟩, ((((((Below.refl _ _).alloc (Nat.le_refl _) _).trans (hb.mono (by simp))).setCell (by simp) _).setCell (by simp) _).setCell (by simp) _)⟩
  · go_enter Try.func16, Try.ntmps16
    go_wp2_with fail
    refine (HF.out _).mono ?_
    rintro e w1 ⟨rfl, hb⟩
    obtain ⟨hc, hf⟩ := bcell hb
    have hz : w.heap.size < w1.heap.size := by have := hb.size; simp at this; omega
    go_wp2_with fail
    go_ret
    exact ⟨⟨_, rfl, Or.inr (Or.inr (Or.inr ⟨rfl, rfl, rfl⟩))⟩, ((((((Below.refl _ _).alloc (Nat.le_refl _) _).trans (hb.mono (by simp))).setCell (by simp) _).setCell (by simp) _).setCell (by simp) _)⟩
end Go.Proofs.Ytamigccnkhoidaa
