/- The cells of values, as in layer 1. -/
import Derived.Test.YtfcnoeehfhncjaaLay
import Derived.Deep.Slices
set_option linter.unusedVariables false
set_option linter.unusedSimpArgs false
namespace Go.Proofs.Ytfcnoeehfhncjaa
open Go.RowKit Go.Lib

theorem ta_2_2 (v : Value) (w : World) : (Instr.typeAssert (.iface 2 v) 61 2 true).run Try.prog w = .ok (.tuple #[v, .bool true]) w := by kernel_rfl

theorem ta_4_2 (v : Value) (w : World) : (Instr.typeAssert (.iface 4 v) 61 2 true).run Try.prog w = .ok (.tuple #[.int .i64 0, .bool false]) w := by kernel_rfl

theorem ta_9_2 (v : Value) (w : World) : (Instr.typeAssert (.iface 9 v) 61 2 true).run Try.prog w = .ok (.tuple #[.int .i64 0, .bool false]) w := by kernel_rfl

theorem ta_4_4 (v : Value) (w : World) : (Instr.typeAssert (.iface 4 v) 61 4 true).run Try.prog w = .ok (.tuple #[v, .bool true]) w := by kernel_rfl

theorem ta_9_4 (v : Value) (w : World) : (Instr.typeAssert (.iface 9 v) 61 4 true).run Try.prog w = .ok (.tuple #[.bool false, .bool false]) w := by kernel_rfl

theorem ta_9_9 (v : Value) (w : World) : (Instr.typeAssert (.iface 9 v) 61 9 true).run Try.prog w = .ok (.tuple #[v, .bool true]) w := by kernel_rfl

theorem ta_n_2 (w : World) : (Instr.typeAssert .nilIface 61 2 true).run Try.prog w = .ok (.tuple #[.int .i64 0, .bool false]) w := by kernel_rfl

theorem ta_n_4 (w : World) : (Instr.typeAssert .nilIface 61 4 true).run Try.prog w = .ok (.tuple #[.bool false, .bool false]) w := by kernel_rfl

theorem ta_n_9 (w : World) : (Instr.typeAssert .nilIface 61 9 true).run Try.prog w = .ok (.tuple #[.string ⟨#[]⟩, .bool false]) w := by kernel_rfl

theorem ta_one (v : Value) (w : World) : (Instr.typeAssert (.iface 2 v) 61 2 false).run Try.prog w = .ok v w := by kernel_rfl

theorem bit_any (b : Bool) (w : World) : Calls Try.prog 66 #[.bool b] w fun e w' => e = .returned (.int .i64 (if b then 1 else 0)) ∧ w' = w := by
  cases b
  all_goals
    go_enter Try.func66, Try.ntmps66
    go_wp2
    go_ret
    exact ⟨rfl, rfl⟩

theorem cellOf_nil (w : World) : Calls Try.prog 48 #[.nilIface] w fun e w' => e = .returned (.tuple #[.agg #[.int .u8 0, .int .i64 0, .string ⟨#[]⟩], .bool true]) ∧ Below w.heap.size w w' := by
  go_enter Try.func48, Try.ntmps48
  go_wp2
  exact bodyPost_ret (v := .tuple #[.agg #[.int .u8 0, .int .i64 0, .string ⟨#[]⟩], .bool true]) (by simp [results, Try.results48, go_sem]) rfl ⟨rfl, (Below.refl _ _).alloc (Nat.le_refl _) _⟩

theorem cellOf_int (n : Int) (w : World) : Calls Try.prog 48 #[.iface 2 (.int .i64 n)] w fun e w' => e = .returned (.tuple #[.agg #[.int .u8 1, .int .i64 n, .string ⟨#[]⟩], .bool true]) ∧ Below w.heap.size w w' := by
  have t1 := ta_2_2
  go_enter Try.func48, Try.ntmps48
  go_wp2
  exact bodyPost_ret (v := .tuple #[.agg #[.int .u8 1, .int .i64 n, .string ⟨#[]⟩], .bool true]) (by simp [results, Try.results48, go_sem]) rfl ⟨rfl, (Below.refl _ _).alloc (Nat.le_refl _) _⟩

theorem cellOf_bool (b : Bool) (w : World) : Calls Try.prog 48 #[.iface 4 (.bool b)] w fun e w' => e = .returned (.tuple #[.agg #[.int .u8 2, .int .i64 (if b then 1 else 0), .string ⟨#[]⟩], .bool true]) ∧ Below w.heap.size w w' := by
  have t1 := ta_4_2
  have t2 := ta_4_4
  cases b
  · go_enter Try.func48, Try.ntmps48
    go_wp2
    exact bodyPost_ret (v := .tuple #[.agg #[.int .u8 2, .int .i64 0, .string ⟨#[]⟩], .bool true]) (by simp [results, Try.results48, go_sem]) rfl ⟨rfl, (Below.refl _ _).alloc (Nat.le_refl _) _⟩
  · go_enter Try.func48, Try.ntmps48
    go_wp2
    exact bodyPost_ret (v := .tuple #[.agg #[.int .u8 2, .int .i64 1, .string ⟨#[]⟩], .bool true]) (by simp [results, Try.results48, go_sem]) rfl ⟨rfl, (Below.refl _ _).alloc (Nat.le_refl _) _⟩

theorem cellOf_string (s : ByteArray) (w : World) : Calls Try.prog 48 #[.iface 9 (.string s)] w fun e w' => e = .returned (.tuple #[.agg #[.int .u8 3, .int .i64 0, .string s], .bool true]) ∧ Below w.heap.size w w' := by
  have t1 := ta_9_2
  have t2 := ta_9_4
  have t3 := ta_9_9
  go_enter Try.func48, Try.ntmps48
  go_wp2
  exact bodyPost_ret (v := .tuple #[.agg #[.int .u8 3, .int .i64 0, .string s], .bool true]) (by simp [results, Try.results48, go_sem]) rfl ⟨rfl, (Below.refl _ _).alloc (Nat.le_refl _) _⟩

/-- Which cell a value has, of those that are values. -/
def Val (v : Value) (k n : Int) (s : ByteArray) : Prop :=
  (v = .nilIface ∧ k = 0 ∧ n = 0 ∧ s = ⟨#[]⟩) ∨ (v = .iface 2 (.int .i64 n) ∧ k = 1 ∧ s = ⟨#[]⟩) ∨ (∃ b : Bool, v = .iface 4 (.bool b) ∧ k = 2 ∧ n = (if b then 1 else 0) ∧ s = ⟨#[]⟩) ∨ (v = .iface 9 (.string s) ∧ k = 3 ∧ n = 0)

theorem cellOf_any {v : Value} {k n : Int} {s : ByteArray} (h : Val v k n s) (w : World) : Calls Try.prog 48 #[v] w fun e w' => e = .returned (.tuple #[.agg #[.int .u8 k, .int .i64 n, .string s], .bool true]) ∧ Below w.heap.size w w' := by
  rcases h with ⟨rfl, rfl, rfl, rfl⟩ | ⟨rfl, rfl, rfl⟩ | ⟨b, rfl, rfl, rfl, rfl⟩ | ⟨rfl, rfl, rfl⟩
  · exact cellOf_nil w
  · exact cellOf_int n w
  · exact cellOf_bool b w
  · exact cellOf_string s w

theorem cell_any {v : Value} {k n : Int} {s : ByteArray} (h : Val v k n s) (w : World) : Calls Try.prog 45 #[v] w fun e w' => e = .returned (.tuple #[.agg #[.int .u8 k, .int .i64 n, .string s], .bool true]) ∧ Below w.heap.size w w' := by
  go_enter Try.func45, Try.ntmps45
  go_wp2_with fail
  refine (cellOf_any h _).mono ?_
  rintro e w1 ⟨rfl, hb⟩
  obtain ⟨hc, hf⟩ := bcell hb
  have hz : w.heap.size < w1.heap.size := by have := hb.size; simp at this; omega
  go_wp2_with fail
  refine bodyPost_ret (v := .tuple #[.agg #[.int .u8 k, .int .i64 n, .string s], .bool true]) (by simp [results, Try.results45, go_sem, hc]) rfl ⟨rfl, ?_⟩
  exact ((((((Below.refl _ _).alloc (Nat.le_refl _) _).trans (hb.mono (by simp))).setCell (by simp) _).setCell (by simp) _).setCell (by simp) _)

/-- Does the number fit the kind? -/
def nfit (k n : Int) : Bool := if (k == 1) = true then true else if (k == 2) = true then (if (n == 0) = true then true else n == 1) else n == 0

/-- A text where none may be. -/
def tx (k : Int) (s : ByteArray) : Bool := (k != 3) && !s.toList.isEmpty

/-- What fault answers. -/
def flt (k n : Int) (s : ByteArray) : Int := if 3 < k then 10 else if tx k s = true then 1 else if nfit k n = false then 1 else if 64 < (s.size : Int) then 5 else 0

theorem tx_false {k : Int} {s : ByteArray} (h : tx k s = false) : (k != 3) = false ∨ (k != 3) = true ∧ s.toList.isEmpty = true := by
  unfold tx at h
  cases h2 : (k != 3)
  · exact Or.inl rfl
  · rw [h2] at h; right; simpa using h

theorem tx_true {k : Int} {s : ByteArray} (h : tx k s = true) : (k != 3) = true ∧ s.toList.isEmpty = false := by
  unfold tx at h
  rw [Bool.and_eq_true] at h
  exact ⟨h.1, by simpa using h.2⟩

theorem sEmpty {s : ByteArray} (h : s.toList.isEmpty = true) : s = ⟨#[]⟩ := by
  have h1 : s.toList = [] := by simpa using h
  have h2 : s.data.toList = [] := by rw [← ByteArray.toList_eq]; exact h1
  cases s with
  | mk d => congr; exact Array.toList_eq_nil_iff.mp h2

set_option maxHeartbeats 400000 in
theorem check_any (k n : Int) (s : ByteArray) (h0 : 0 ≤ k) (w : World) : Calls Try.prog 42 #[.agg #[.int .u8 k, .int .i64 n, .string s]] w fun e w' => e = .returned (.int .i64 (flt k n s)) ∧ Below w.heap.size w w' := by
  by_cases h1 : 3 < k
  · rw [show flt k n s = 10 by unfold flt; rw [if_pos h1]]
    clear h0
    go_enter Try.func42, Try.ntmps42
    go_wp2
    go_ret
    exact ⟨rfl, (Below.refl _ _).alloc (Nat.le_refl _) _⟩
  · by_cases h2 : tx k s = true
    · rw [show flt k n s = 1 by unfold flt; rw [if_neg h1, if_pos h2]]
      obtain ⟨h3, h4⟩ := tx_true h2
      have h5 : k ≤ 3 := by omega
      clear h0 h1 h2
      go_enter Try.func42, Try.ntmps42
      go_wp2
      go_ret
      exact ⟨rfl, (Below.refl _ _).alloc (Nat.le_refl _) _⟩
    · have h3 := tx_false (by simpa using h2)
      by_cases h4 : k = 3
      · subst h4
        clear h0 h1 h2 h3
        cases hn : (n == 0)
        · rw [show flt 3 n s = 1 by unfold flt; simp [tx, nfit, hn]]
          have hn2 : (n != 0) = true := by simpa using hn
          go_enter Try.func42, Try.ntmps42
          go_wp2
          go_ret
          exact ⟨rfl, (Below.refl _ _).alloc (Nat.le_refl _) _⟩
        · have hn2 : (n != 0) = false := by simpa using hn
          by_cases hs : 64 < (s.size : Int)
          · rw [show flt 3 n s = 5 by unfold flt; simp [tx, nfit, hn]; omega]
            go_enter Try.func42, Try.ntmps42
            go_wp2
            go_ret
            exact ⟨rfl, (Below.refl _ _).alloc (Nat.le_refl _) _⟩
          · rw [show flt 3 n s = 0 by unfold flt; simp [tx, nfit, hn]; omega]
            have hs2 : (s.size : Int) ≤ 64 := by omega
            clear hs
            go_enter Try.func42, Try.ntmps42
            go_wp2
            go_ret
            exact ⟨rfl, (Below.refl _ _).alloc (Nat.le_refl _) _⟩
      · have h5 : s = ⟨#[]⟩ := by
          rcases h3 with h3 | h3
          · simp at h3; omega
          · exact sEmpty h3.2
        subst h5
        obtain rfl | rfl | rfl : k = 0 ∨ k = 1 ∨ k = 2 := by omega
        · clear h0 h1 h2 h3 h4
          cases hn : (n == 0)
          · rw [show flt 0 n ⟨#[]⟩ = 1 by unfold flt; simp [nfit, hn]]
            have hn2 : (n != 0) = true := by simpa using hn
            go_enter Try.func42, Try.ntmps42
            go_wp2
            go_ret
            exact ⟨rfl, (Below.refl _ _).alloc (Nat.le_refl _) _⟩
          · rw [show flt 0 n ⟨#[]⟩ = 0 by unfold flt; simp [nfit, hn, tx, ByteArray.size]]
            have hn2 : (n != 0) = false := by simpa using hn
            go_enter Try.func42, Try.ntmps42
            go_wp2
            go_ret
            exact ⟨rfl, (Below.refl _ _).alloc (Nat.le_refl _) _⟩
        · clear h0 h1 h2 h3 h4
          rw [show flt 1 n ⟨#[]⟩ = 0 by unfold flt; simp [nfit, tx, ByteArray.size]]
          go_enter Try.func42, Try.ntmps42
          go_wp2
          go_ret
          exact ⟨rfl, (Below.refl _ _).alloc (Nat.le_refl _) _⟩
        · clear h0 h1 h2 h3 h4
          cases hn : (n == 0)
          · have hn2 : (n != 0) = true := by simpa using hn
            cases hm : (n == 1)
            · rw [show flt 2 n ⟨#[]⟩ = 1 by unfold flt; simp [nfit, hn, hm]]
              have hm2 : (n != 1) = true := by simpa using hm
              go_enter Try.func42, Try.ntmps42
              go_wp2
              go_ret
              exact ⟨rfl, (Below.refl _ _).alloc (Nat.le_refl _) _⟩
            · rw [show flt 2 n ⟨#[]⟩ = 0 by unfold flt; simp [nfit, hn, hm, tx, ByteArray.size]]
              have hm2 : (n != 1) = false := by simpa using hm
              go_enter Try.func42, Try.ntmps42
              go_wp2
              go_ret
              exact ⟨rfl, (Below.refl _ _).alloc (Nat.le_refl _) _⟩
          · rw [show flt 2 n ⟨#[]⟩ = 0 by unfold flt; simp [nfit, hn, tx, ByteArray.size]]
            have hn2 : (n != 0) = false := by simpa using hn
            go_enter Try.func42, Try.ntmps42
            go_wp2
            go_ret
            exact ⟨rfl, (Below.refl _ _).alloc (Nat.le_refl _) _⟩

theorem flt_zero {k n : Int} {s : ByteArray} (h0 : 0 ≤ k) (h : flt k n s = 0) : (k = 0 ∧ n = 0 ∧ s = ⟨#[]⟩) ∨ (k = 1 ∧ s = ⟨#[]⟩) ∨ (k = 2 ∧ n = 0 ∧ s = ⟨#[]⟩) ∨ (k = 2 ∧ n = 1 ∧ s = ⟨#[]⟩) ∨ (k = 3 ∧ n = 0 ∧ s.size ≤ 64) := by
  unfold flt at h
  by_cases h1 : 3 < k
  · rw [if_pos h1] at h; omega
  · rw [if_neg h1] at h
    by_cases h2 : tx k s = true
    · rw [if_pos h2] at h; omega
    · rw [if_neg h2] at h
      by_cases h3 : nfit k n = false
      · rw [if_pos h3] at h; omega
      · rw [if_neg h3] at h
        by_cases h4 : 64 < (s.size : Int)
        · rw [if_pos h4] at h; omega
        · have h5 := tx_false (by simpa using h2)
          have h6 : k ≠ 3 → s = ⟨#[]⟩ := by
            intro hk
            rcases h5 with h5 | h5
            · simp at h5; omega
            · exact sEmpty h5.2
          obtain rfl | rfl | rfl | rfl : k = 0 ∨ k = 1 ∨ k = 2 ∨ k = 3 := by omega
          · simp [nfit] at h3; exact Or.inl ⟨rfl, h3, h6 (by omega)⟩
          · exact Or.inr (Or.inl ⟨rfl, h6 (by omega)⟩)
          · simp [nfit] at h3
            by_cases hn : n = 0
            · exact Or.inr (Or.inr (Or.inl ⟨rfl, hn, h6 (by omega)⟩))
            · exact Or.inr (Or.inr (Or.inr (Or.inl ⟨rfl, h3 hn, h6 (by omega)⟩)))
          · simp [nfit] at h3; exact Or.inr (Or.inr (Or.inr (Or.inr ⟨rfl, h3, by omega⟩)))

theorem fix_bad (k n : Int) (s : ByteArray) (h0 : 0 ≤ k) (h : (flt k n s != 0) = true) (w : World) : Calls Try.prog 21 #[.agg #[.int .u8 k, .int .i64 n, .string s]] w fun e w' => e = .returned (.agg #[.int .u8 0, .int .i64 0, .string ⟨#[]⟩]) ∧ Below w.heap.size w w' := by
  go_enter Try.func21, Try.ntmps21
  go_wp2_with fail
  refine (check_any _ _ _ h0 _).mono ?_
  rintro e w1 ⟨rfl, hb⟩
  obtain ⟨hc, hf⟩ := bcell hb
  have hz : w.heap.size + 1 < w1.heap.size := by have := hb.size; simp at this; omega
  clear h0
  go_wp2_with fail
  refine bodyPost_ret (v := .agg #[.int .u8 0, .int .i64 0, .string ⟨#[]⟩]) (by simp [results, Try.results21, go_sem, hc]) rfl ⟨rfl, ?_⟩
  exact (((((((Below.refl _ _).alloc (Nat.le_refl _) _).alloc (by simp) _).trans (hb.mono (by simp; omega))).setCell (by simp) _).setCell (by simp) _).setCell (by simp) _)

theorem fix_good (k n : Int) (s : ByteArray) (h0 : 0 ≤ k) (h : (flt k n s != 0) = false) (w : World) : Calls Try.prog 21 #[.agg #[.int .u8 k, .int .i64 n, .string s]] w fun e w' => e = .returned (.agg #[.int .u8 k, .int .i64 n, .string s]) ∧ Below w.heap.size w w' := by
  go_enter Try.func21, Try.ntmps21
  go_wp2_with fail
  refine (check_any _ _ _ h0 _).mono ?_
  rintro e w1 ⟨rfl, hb⟩
  obtain ⟨hc, hf⟩ := bcell hb
  have hz : w.heap.size + 1 < w1.heap.size := by have := hb.size; simp at this; omega
  clear h0
  go_wp2_with fail
  refine bodyPost_ret (v := .agg #[.int .u8 k, .int .i64 n, .string s]) (by simp [results, Try.results21, go_sem, hc]) rfl ⟨rfl, ?_⟩
  exact (((((((Below.refl _ _).alloc (Nat.le_refl _) _).alloc (by simp) _).trans (hb.mono (by simp; omega))).setCell (by simp) _).setCell (by simp) _).setCell (by simp) _)

/-- The fixed cell's parts. -/
def fk (k n : Int) (s : ByteArray) : Int := if flt k n s = 0 then k else 0

def fn (k n : Int) (s : ByteArray) : Int := if flt k n s = 0 then n else 0

def fs (k n : Int) (s : ByteArray) : ByteArray := if flt k n s = 0 then s else ⟨#[]⟩

theorem fixed_cases (k n : Int) (s : ByteArray) (h0 : 0 ≤ k) : (fk k n s = 0 ∧ fn k n s = 0 ∧ fs k n s = ⟨#[]⟩) ∨ (fk k n s = 1 ∧ fs k n s = ⟨#[]⟩) ∨ (fk k n s = 2 ∧ fn k n s = 0 ∧ fs k n s = ⟨#[]⟩) ∨ (fk k n s = 2 ∧ fn k n s = 1 ∧ fs k n s = ⟨#[]⟩) ∨ (fk k n s = 3 ∧ fn k n s = 0 ∧ (fs k n s).size ≤ 64) := by
  unfold fk fn fs
  by_cases h : flt k n s = 0
  · simp only [if_pos h]; exact flt_zero h0 h
  · simp only [if_neg h]; exact Or.inl (by simp)

theorem fix_any (k n : Int) (s : ByteArray) (h0 : 0 ≤ k) (w : World) : Calls Try.prog 21 #[.agg #[.int .u8 k, .int .i64 n, .string s]] w fun e w' => e = .returned (.agg #[.int .u8 (fk k n s), .int .i64 (fn k n s), .string (fs k n s)]) ∧ Below w.heap.size w w' := by
  unfold fk fn fs
  by_cases h : flt k n s = 0
  · simp only [if_pos h]; exact fix_good k n s h0 (by simpa using h) w
  · simp only [if_neg h]; exact fix_bad k n s h0 (by simpa using h) w

theorem value_any (k n : Int) (s : ByteArray) (h0 : 0 ≤ k) (w : World) : Calls Try.prog 33 #[.agg #[.int .u8 k, .int .i64 n, .string s]] w fun e w' => (∃ v, e = .returned v ∧ Val v (fk k n s) (fn k n s) (fs k n s)) ∧ Below w.heap.size w w' := by
  have hf := fix_any k n s h0
  have hx := fixed_cases k n s h0
  generalize fk k n s = a at *
  generalize fn k n s = b at *
  generalize fs k n s = c at *
  have HF : Hid (∀ w : World, Calls Try.prog 21 #[.agg #[.int .u8 k, .int .i64 n, .string s]] w fun e w' => e = .returned (.agg #[.int .u8 a, .int .i64 b, .string c]) ∧ Below w.heap.size w w') := hf
  clear hf h0
  obtain ⟨rfl, rfl, rfl⟩ | ⟨rfl, rfl⟩ | ⟨rfl, rfl, rfl⟩ | ⟨rfl, rfl, rfl⟩ | ⟨rfl, rfl, hs⟩ := hx
  · go_enter Try.func33, Try.ntmps33
    go_wp2_with fail
    refine (HF.out _).mono ?_
    rintro e w1 ⟨rfl, hb⟩
    obtain ⟨hc, hf⟩ := bcell hb
    have hz : w.heap.size < w1.heap.size := by have := hb.size; simp at this; omega
    go_wp2_with fail
    go_ret
    exact ⟨⟨_, rfl, Or.inl ⟨rfl, rfl, rfl, rfl⟩⟩, ((((((Below.refl _ _).alloc (Nat.le_refl _) _).trans (hb.mono (by simp))).setCell (by simp) _).setCell (by simp) _).setCell (by simp) _)⟩
  · go_enter Try.func33, Try.ntmps33
    go_wp2_with fail
    refine (HF.out _).mono ?_
    rintro e w1 ⟨rfl, hb⟩
    obtain ⟨hc, hf⟩ := bcell hb
    have hz : w.heap.size < w1.heap.size := by have := hb.size; simp at this; omega
    go_wp2_with fail
    go_ret
    exact ⟨⟨_, rfl, Or.inr (Or.inl ⟨rfl, rfl, rfl⟩)⟩, ((((((Below.refl _ _).alloc (Nat.le_refl _) _).trans (hb.mono (by simp))).setCell (by simp) _).setCell (by simp) _).setCell (by simp) _)⟩
  · go_enter Try.func33, Try.ntmps33
    go_wp2_with fail
    refine (HF.out _).mono ?_
    rintro e w1 ⟨rfl, hb⟩
    obtain ⟨hc, hf⟩ := bcell hb
    have hz : w.heap.size < w1.heap.size := by have := hb.size; simp at this; omega
    go_wp2_with fail
    go_ret
    exact ⟨⟨_, rfl, Or.inr (Or.inr (Or.inl ⟨false, rfl, rfl, rfl, rfl⟩))⟩, ((((((Below.refl _ _).alloc (Nat.le_refl _) _).trans (hb.mono (by simp))).setCell (by simp) _).setCell (by simp) _).setCell (by simp) _)⟩
  · go_enter Try.func33, Try.ntmps33
    go_wp2_with fail
    refine (HF.out _).mono ?_
    rintro e w1 ⟨rfl, hb⟩
    obtain ⟨hc, hf⟩ := bcell hb
    have hz : w.heap.size < w1.heap.size := by have := hb.size; simp at this; omega
    go_wp2_with fail
    go_ret
    exact ⟨⟨_, rfl, Or.inr (Or.inr (Or.inl ⟨true, rfl, rfl, rfl, rfl⟩))⟩, ((((((Below.refl _ _).alloc (Nat.le_refl _) _).trans (hb.mono (by simp))).setCell (by simp) _).setCell (by simp) _).setCell (by simp) _)⟩
  · go_enter Try.func33, Try.ntmps33
    go_wp2_with fail
    refine (HF.out _).mono ?_
    rintro e w1 ⟨rfl, hb⟩
    obtain ⟨hc, hf⟩ := bcell hb
    have hz : w.heap.size < w1.heap.size := by have := hb.size; simp at this; omega
    go_wp2_with fail
    go_ret
    exact ⟨⟨_, rfl, Or.inr (Or.inr (Or.inr ⟨rfl, rfl, rfl⟩))⟩, ((((((Below.refl _ _).alloc (Nat.le_refl _) _).trans (hb.mono (by simp))).setCell (by simp) _).setCell (by simp) _).setCell (by simp) _)⟩

/-- The cells of a list that came in, from address (b, off) on. -/
def RowAt (w : World) (b off len : Nat) (f : Nat → Int × Int × ByteArray) : Prop :=
  ∀ i, i < len → 0 ≤ (f i).1 ∧ w.cell? ⟨b, off + i * 3, none⟩ = some (.int .u8 (f i).1) ∧ w.cell? ⟨b, off + i * 3 + 1, none⟩ = some (.int .i64 (f i).2.1) ∧ w.cell? ⟨b, off + i * 3 + 2, none⟩ = some (.string (f i).2.2)

theorem cells_three {W : World} {base : Nat} {a : Addr} {cs : List Value} (h : W.cells? base a 3 = some cs) : ∃ c0 c1 c2, cs = [c0, c1, c2] ∧ W.cell? (a.add 0) = some c0 ∧ W.cell? (a.add 1) = some c1 ∧ W.cell? (a.add 2) = some c2 := by
  obtain ⟨_, hl, hc⟩ := World.cells?_some h
  match cs, hl with
  | [c0, c1, c2], _ => exact ⟨c0, c1, c2, rfl, by simpa using hc 0 (by omega), by simpa using hc 1 (by omega), by simpa using hc 2 (by omega)⟩

theorem val_form {v : Value} {k n : Int} {s : ByteArray} (h : Val v k n s) : v = .nilIface ∨ ∃ t u, v = .iface t u := by
  rcases h with h | h | ⟨b, h⟩ | h
  · exact Or.inl h.1
  · exact Or.inr ⟨_, _, h.1⟩
  · exact Or.inr ⟨_, _, h.1⟩
  · exact Or.inr ⟨_, _, h.1⟩

theorem info61 : (Try.prog.info? 61).map (fun i => (i.zero, i.size, i.bytes)) = some (some .nilIface, 1, 16) := by kernel_rfl
end Go.Proofs.Ytfcnoeehfhncjaa
