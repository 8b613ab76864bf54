/- Compare, the logic of three values, Of, the document's Less. -/
import Derived.Test.YtfcnoeehfhncjaaVals
import Derived.Test.YtfcnoeehfhncjaaSgn
set_option linter.unusedVariables false
set_option linter.unusedSimpArgs false
namespace Go.Proofs.Ytfcnoeehfhncjaa
open Go.RowKit Go.Lib

/-- A cell as a value of the program. -/
def cel (k n : Int) (s : ByteArray) : Value := .agg #[.int .u8 k, .int .i64 n, .string s]

theorem isNaNK (a : Int) (w : World) : Calls Try.prog 67 #[.int .u8 a] w fun e w' => e = .returned (.bool false) ∧ w' = w := by
  go_enter Try.func67, Try.ntmps67
  go_wp2
  go_ret
  exact ⟨rfl, rfl⟩

theorem cmpK (a b : Int) (w : World) : Calls Try.prog 50 #[.int .u8 a, .int .u8 b] w fun e w' => e = .returned (.int .i64 (if a < b then -1 else if b < a then 1 else 0)) ∧ w' = w := by
  by_cases h1 : a < b
  · go_enter Try.func50, Try.ntmps50
    go_wp2
    go_ret
    exact ⟨rfl, rfl⟩
  · by_cases h2 : b < a
    · go_enter Try.func50, Try.ntmps50
      go_wp2
      go_ret
      exact ⟨rfl, rfl⟩
    · go_enter Try.func50, Try.ntmps50
      go_wp2
      go_ret
      exact ⟨rfl, rfl⟩

theorem cmpI (a b : Int) (w : World) : Calls Try.prog 51 #[.int .i64 a, .int .i64 b] w fun e w' => e = .returned (.int .i64 (if a < b then -1 else if b < a then 1 else 0)) ∧ w' = w := by
  by_cases h1 : a < b
  · go_enter Try.func51, Try.ntmps51
    go_wp2
    go_ret
    exact ⟨rfl, rfl⟩
  · by_cases h2 : b < a
    · go_enter Try.func51, Try.ntmps51
      go_wp2
      go_ret
      exact ⟨rfl, rfl⟩
    · go_enter Try.func51, Try.ntmps51
      go_wp2
      go_ret
      exact ⟨rfl, rfl⟩

theorem cmpS_lt (a b : ByteArray) (w : World) (h : Op.bytesLess a.toList b.toList = true) : Calls Try.prog 52 #[.string a, .string b] w fun e w' => e = .returned (.int .i64 (-1)) ∧ w' = w := by
  go_enter Try.func52, Try.ntmps52
  go_wp2
  go_ret
  exact ⟨rfl, rfl⟩

theorem cmpS_eq (a b : ByteArray) (w : World) (h : Op.bytesLess a.toList b.toList = false) (h2 : (a.toList == b.toList) = true) : Calls Try.prog 52 #[.string a, .string b] w fun e w' => e = .returned (.int .i64 0) ∧ w' = w := by
  go_enter Try.func52, Try.ntmps52
  go_wp2
  go_ret
  exact ⟨rfl, rfl⟩

theorem cmpS_gt (a b : ByteArray) (w : World) (h : Op.bytesLess a.toList b.toList = false) (h2 : (a.toList == b.toList) = false) : Calls Try.prog 52 #[.string a, .string b] w fun e w' => e = .returned (.int .i64 1) ∧ w' = w := by
  go_enter Try.func52, Try.ntmps52
  go_wp2
  go_ret
  exact ⟨rfl, rfl⟩

/-- -1, 0 or 1: two numbers. -/
def c3 (a b : Int) : Int := if a < b then -1 else if b < a then 1 else 0

/-- -1, 0 or 1: two texts. -/
def cS (a b : ByteArray) : Int := if Op.bytesLess a.toList b.toList = true then -1 else if (a.toList == b.toList) = true then 0 else 1

/-- The first that is not zero. -/
def or3 (x y z : Int) : Int := if x ≠ 0 then x else if y ≠ 0 then y else z

theorem cmpK_any (a b : Int) (w : World) : Calls Try.prog 50 #[.int .u8 a, .int .u8 b] w fun e w' => e = .returned (.int .i64 (c3 a b)) ∧ w' = w := by
  unfold c3; exact cmpK a b w

theorem cmpI_any (a b : Int) (w : World) : Calls Try.prog 51 #[.int .i64 a, .int .i64 b] w fun e w' => e = .returned (.int .i64 (c3 a b)) ∧ w' = w := by
  unfold c3; exact cmpI a b w

theorem cmpS_any (a b : ByteArray) (w : World) : Calls Try.prog 52 #[.string a, .string b] w fun e w' => e = .returned (.int .i64 (cS a b)) ∧ w' = w := by
  unfold cS
  by_cases h : Op.bytesLess a.toList b.toList = true
  · rw [if_pos h]; exact cmpS_lt a b w h
  · rw [if_neg h]
    by_cases h2 : (a.toList == b.toList) = true
    · rw [if_pos h2]; exact cmpS_eq a b w (by simpa using h) h2
    · rw [if_neg h2]; exact cmpS_gt a b w (by simpa using h) (by simpa using h2)

theorem or_x (g : Nat) (x : Int) (w : World) (h0 : w.cell? ⟨g, 0, none⟩ = some (.int .i64 x)) (hx : (x != 0) = true) : Calls Try.prog 49 #[.slice (some ⟨g, 0, none⟩) 3 3] w fun e w' => e = .returned (.int .i64 x) ∧ w' = w := by
  go_enter Try.func49, Try.ntmps49
  go_wp2
  refine wp_loop_rounds 1 ?_
  rw [rounds_succ]
  go_wp2
  go_ret
  exact ⟨rfl, rfl⟩

theorem or_y (g : Nat) (y : Int) (w : World) (h0 : w.cell? ⟨g, 0, none⟩ = some (.int .i64 0)) (h1 : w.cell? ⟨g, 1, none⟩ = some (.int .i64 y)) (hy : (y != 0) = true) : Calls Try.prog 49 #[.slice (some ⟨g, 0, none⟩) 3 3] w fun e w' => e = .returned (.int .i64 y) ∧ w' = w := by
  go_enter Try.func49, Try.ntmps49
  go_wp2
  refine wp_loop_rounds 2 ?_
  rw [rounds_succ]
  go_wp2
  rw [rounds_succ]
  go_wp2
  go_ret
  exact ⟨rfl, rfl⟩

theorem or_z (g : Nat) (z : Int) (w : World) (h0 : w.cell? ⟨g, 0, none⟩ = some (.int .i64 0)) (h1 : w.cell? ⟨g, 1, none⟩ = some (.int .i64 0)) (h2 : w.cell? ⟨g, 2, none⟩ = some (.int .i64 z)) (hz : (z != 0) = true) : Calls Try.prog 49 #[.slice (some ⟨g, 0, none⟩) 3 3] w fun e w' => e = .returned (.int .i64 z) ∧ w' = w := by
  go_enter Try.func49, Try.ntmps49
  go_wp2
  refine wp_loop_rounds 3 ?_
  rw [rounds_succ]
  go_wp2
  rw [rounds_succ]
  go_wp2
  rw [rounds_succ]
  go_wp2
  go_ret
  exact ⟨rfl, rfl⟩

theorem or_none (g : Nat) (w : World) (h0 : w.cell? ⟨g, 0, none⟩ = some (.int .i64 0)) (h1 : w.cell? ⟨g, 1, none⟩ = some (.int .i64 0)) (h2 : w.cell? ⟨g, 2, none⟩ = some (.int .i64 0)) : Calls Try.prog 49 #[.slice (some ⟨g, 0, none⟩) 3 3] w fun e w' => e = .returned (.int .i64 0) ∧ w' = w := by
  go_enter Try.func49, Try.ntmps49
  go_wp2
  refine wp_loop_rounds 4 ?_
  rw [rounds_succ]
  go_wp2
  rw [rounds_succ]
  go_wp2
  rw [rounds_succ]
  go_wp2
  rw [rounds_succ]
  go_wp2
  go_ret
  exact ⟨rfl, rfl⟩

theorem or_any (g : Nat) (x y z : Int) (w : World) (h0 : w.cell? ⟨g, 0, none⟩ = some (.int .i64 x)) (h1 : w.cell? ⟨g, 1, none⟩ = some (.int .i64 y)) (h2 : w.cell? ⟨g, 2, none⟩ = some (.int .i64 z)) : Calls Try.prog 49 #[.slice (some ⟨g, 0, none⟩) 3 3] w fun e w' => e = .returned (.int .i64 (or3 x y z)) ∧ w' = w := by
  unfold or3
  by_cases hx : x ≠ 0
  · rw [if_pos hx]; exact or_x g x w h0 (by simpa using hx)
  · rw [if_neg hx]
    obtain rfl : x = 0 := by omega
    by_cases hy : y ≠ 0
    · rw [if_pos hy]; exact or_y g y w h0 h1 (by simpa using hy)
    · rw [if_neg hy]
      obtain rfl : y = 0 := by omega
      by_cases hz : z = 0
      · subst hz; exact or_none g w h0 h1 h2
      · exact or_z g z w h0 h1 h2 (by simpa using hz)

set_option maxHeartbeats 1000000 in
theorem compare_any {x y : Value} {k n k' n' : Int} {s s' : ByteArray} (hx : Val x k n s) (hy : Val y k' n' s') (w : World) : Calls Try.prog 30 #[x, y] w fun e w' => e = .returned (.int .i64 (or3 (c3 k k') (c3 n n') (cS s s'))) ∧ Below w.heap.size w w' := by
  go_enter Try.func30, Try.ntmps30
  go_wp2_with fail
  refine (cellOf_any hx _).mono ?_
  rintro e w1 ⟨rfl, hb1⟩
  go_wp2_with fail
  refine (cellOf_any hy _).mono ?_
  rintro e w2 ⟨rfl, hb2⟩
  have hz1 := hb1.size
  have hz2 : w1.heap.size < w2.heap.size := by have := hb2.size; simp at this; omega
  obtain ⟨hc2, hf2⟩ := bcell hb2
  have p0 := hc2 w1.heap.size 0 (by simp)
  have p1 := hc2 w1.heap.size 1 (by simp)
  have p2 := hc2 w1.heap.size 2 (by simp)
  clear hc2 hf2
  simp at p0 p1 p2
  go_wp2_with fail
  obtain ⟨W, hW⟩ : ∃ W : World, W = w2.alloc (Obj.cells #[Value.int IntKind.u8 k', Value.int IntKind.i64 n', Value.string s'] 27) := ⟨_, rfl⟩
  have hbW : Below w2.heap.size w2 W := by rw [hW]; exact (Below.refl _ _).alloc (Nat.le_refl _) _
  have a0 : W.cell? ⟨w1.heap.size, 0, none⟩ = some (.int .u8 k) := (hbW.cell (p := ⟨w1.heap.size, 0, none⟩) hz2).trans p0
  have a1 : W.cell? ⟨w1.heap.size, 1, none⟩ = some (.int .i64 n) := (hbW.cell (p := ⟨w1.heap.size, 1, none⟩) hz2).trans p1
  have a2 : W.cell? ⟨w1.heap.size, 2, none⟩ = some (.string s) := (hbW.cell (p := ⟨w1.heap.size, 2, none⟩) hz2).trans p2
  have b0 : W.cell? ⟨w2.heap.size, 0, none⟩ = some (.int .u8 k') := by rw [hW]; simp
  have b1 : W.cell? ⟨w2.heap.size, 1, none⟩ = some (.int .i64 n') := by rw [hW]; simp
  have b2 : W.cell? ⟨w2.heap.size, 2, none⟩ = some (.string s') := by rw [hW]; simp
  have hzW : w2.heap.size < W.heap.size := by rw [hW]; simp
  have hzV : w1.heap.size < W.heap.size := by omega
  have HB : Below w.heap.size w W := by rw [hW]; exact (((hb1.alloc (by omega) _).trans (hb2.mono (by simp; omega))).alloc (by omega) _)
  have HH : Hid (Below w.heap.size w W) := HB
  clear HB
  rw [← hW]
  clear hW hbW p0 p1 p2 hb1 hb2 hx hy
  go_region_held3 (fun w' => w'.cell? ⟨w1.heap.size, 0, none⟩ = some (.int .u8 k) ∧ w'.cell? ⟨w1.heap.size, 1, none⟩ = some (.int .i64 n) ∧ w'.cell? ⟨w1.heap.size, 2, none⟩ = some (.string s) ∧ w'.cell? ⟨w2.heap.size, 0, none⟩ = some (.int .u8 k') ∧ w'.cell? ⟨w2.heap.size, 1, none⟩ = some (.int .i64 n') ∧ w'.cell? ⟨w2.heap.size, 2, none⟩ = some (.string s')) (go_keep) (first | (go_at_call 50; refine (cmpK_any _ _ _).mono ?_; rintro e w' ⟨rfl, rfl⟩) | (go_at_call 51; refine (cmpI_any _ _ _).mono ?_; rintro e w' ⟨rfl, rfl⟩) | (go_at_call 52; refine (cmpS_any _ _ _).mono ?_; rintro e w' ⟨rfl, rfl⟩) | (go_at_call 49; refine (or_any _ (c3 k k') (c3 n n') (cS s s') _ ?_ ?_ ?_).mono ?_; (simp); (simp); (simp); rintro e w' ⟨rfl, rfl⟩))
  all_goals go_wp2
  all_goals go_ret
  all_goals refine ⟨rfl, ?_⟩
  all_goals exact (HH.out.alloc (by have := HH.out.size; omega) _).drew

theorem numberFits_any (k n : Int) (s : ByteArray) (w : World) : Calls Try.prog 88 #[.agg #[.int .u8 k, .int .i64 n, .string s]] w fun e w' => e = .returned (.bool (nfit k n)) ∧ Below w.heap.size w w' := by
  unfold nfit
  by_cases h1 : (k == 1) = true
  · go_enter Try.func88, Try.ntmps88
    go_wp2
    go_ret
    exact ⟨rfl, (Below.refl _ _).alloc (Nat.le_refl _) _⟩
  · by_cases h2 : (k == 2) = true
    · by_cases h3 : (n == 0) = true
      · go_enter Try.func88, Try.ntmps88
        go_wp2
        go_ret
        exact ⟨rfl, (Below.refl _ _).alloc (Nat.le_refl _) _⟩
      · go_enter Try.func88, Try.ntmps88
        go_wp2
        go_ret
        exact ⟨rfl, (Below.refl _ _).alloc (Nat.le_refl _) _⟩
    · go_enter Try.func88, Try.ntmps88
      go_wp2
      go_ret
      exact ⟨rfl, (Below.refl _ _).alloc (Nat.le_refl _) _⟩

theorem kindOf_any {v : Value} {k n : Int} {s : ByteArray} (h : Val v k n s) (w : World) : Calls Try.prog 44 #[v] w fun e w' => e = .returned (.int .u8 k) ∧ w' = w := by
  have t1 := ta_2_2
  have t2 := ta_4_2
  have t3 := ta_4_4
  have t4 := ta_9_2
  have t5 := ta_9_4
  have t6 := ta_9_9
  have t7 := ta_n_2
  have t8 := ta_n_4
  have t9 := ta_n_9
  rcases h with ⟨rfl, rfl, rfl, rfl⟩ | ⟨rfl, rfl, rfl⟩ | ⟨b, rfl, rfl, rfl, rfl⟩ | ⟨rfl, rfl, rfl⟩
  all_goals
    go_enter Try.func44, Try.ntmps44
    go_wp2
    go_ret
    exact ⟨rfl, rfl⟩

theorem KindOf_any {v : Value} {k n : Int} {s : ByteArray} (h : Val v k n s) (w : World) : Calls Try.prog 25 #[v] w fun e w' => e = .returned (.int .u8 k) ∧ w' = w := by
  go_enter Try.func25, Try.ntmps25
  go_wp2_with fail
  refine (kindOf_any h _).mono ?_
  rintro e w1 ⟨rfl, rfl⟩
  go_wp2
  go_ret
  exact ⟨rfl, rfl⟩

theorem fault_kind (k n : Int) (s : ByteArray) (w : World) (h1 : 3 < k) : Calls Try.prog 86 #[.agg #[.int .u8 k, .int .i64 n, .string s]] w fun e w' => e = .returned (.int .i64 10) ∧ Below w.heap.size w w' := by
  go_enter Try.func86, Try.ntmps86
  go_wp2
  go_ret
  exact ⟨rfl, (Below.refl _ _).alloc (Nat.le_refl _) _⟩

theorem fault_text (k n : Int) (s : ByteArray) (w : World) (h1 : k ≤ 3) (h2 : (k != 3) = true) (h3 : s.toList.isEmpty = false) : Calls Try.prog 86 #[.agg #[.int .u8 k, .int .i64 n, .string s]] w fun e w' => e = .returned (.int .i64 1) ∧ Below w.heap.size w w' := by
  go_enter Try.func86, Try.ntmps86
  go_wp2
  go_ret
  exact ⟨rfl, (Below.refl _ _).alloc (Nat.le_refl _) _⟩

theorem fault_num (k n : Int) (s : ByteArray) (w : World) (h1 : k ≤ 3) (h2 : (k != 3) = false ∨ (k != 3) = true ∧ s.toList.isEmpty = true) (h3 : nfit k n = false) : Calls Try.prog 86 #[.agg #[.int .u8 k, .int .i64 n, .string s]] w fun e w' => e = .returned (.int .i64 1) ∧ Below w.heap.size w w' := by
  rcases h2 with h2 | ⟨h2, h4⟩
  all_goals
    go_enter Try.func86, Try.ntmps86
    go_wp2_with fail
    refine (numberFits_any _ _ _ _).mono ?_
    rw [h3]
    rintro e w1 ⟨rfl, hb⟩
    obtain ⟨hc, hf⟩ := bcell hb
    go_wp2
    go_ret
    exact ⟨rfl, ((Below.refl _ _).alloc (Nat.le_refl _) _).trans (hb.mono (by simp))⟩

theorem fault_long (k n : Int) (s : ByteArray) (w : World) (h1 : k ≤ 3) (h2 : (k != 3) = false ∨ (k != 3) = true ∧ s.toList.isEmpty = true) (h3 : nfit k n = true) (h5 : 64 < (s.size : Int)) : Calls Try.prog 86 #[.agg #[.int .u8 k, .int .i64 n, .string s]] w fun e w' => e = .returned (.int .i64 5) ∧ Below w.heap.size w w' := by
  rcases h2 with h2 | ⟨h2, h4⟩
  all_goals
    go_enter Try.func86, Try.ntmps86
    go_wp2_with fail
    refine (numberFits_any _ _ _ _).mono ?_
    rw [h3]
    rintro e w1 ⟨rfl, hb⟩
    obtain ⟨hc, hf⟩ := bcell hb
    go_wp2
    go_ret
    exact ⟨rfl, ((Below.refl _ _).alloc (Nat.le_refl _) _).trans (hb.mono (by simp))⟩

theorem fault_ok (k n : Int) (s : ByteArray) (w : World) (h1 : k ≤ 3) (h2 : (k != 3) = false ∨ (k != 3) = true ∧ s.toList.isEmpty = true) (h3 : nfit k n = true) (h5 : (s.size : Int) ≤ 64) : Calls Try.prog 86 #[.agg #[.int .u8 k, .int .i64 n, .string s]] w fun e w' => e = .returned (.int .i64 0) ∧ Below w.heap.size w w' := by
  rcases h2 with h2 | ⟨h2, h4⟩
  all_goals
    go_enter Try.func86, Try.ntmps86
    go_wp2_with fail
    refine (numberFits_any _ _ _ _).mono ?_
    rw [h3]
    rintro e w1 ⟨rfl, hb⟩
    obtain ⟨hc, hf⟩ := bcell hb
    go_wp2
    go_ret
    exact ⟨rfl, ((Below.refl _ _).alloc (Nat.le_refl _) _).trans (hb.mono (by simp))⟩

theorem fault_any (k n : Int) (s : ByteArray) (w : World) : Calls Try.prog 86 #[.agg #[.int .u8 k, .int .i64 n, .string s]] w fun e w' => e = .returned (.int .i64 (flt k n s)) ∧ Below w.heap.size w w' := by
  unfold flt
  by_cases h1 : 3 < k
  · rw [if_pos h1]; exact fault_kind k n s w h1
  · rw [if_neg h1]
    by_cases h2 : tx k s = true
    · rw [if_pos h2]; exact fault_text k n s w (by omega) (tx_true h2).1 (tx_true h2).2
    · rw [if_neg h2]
      have h2' := tx_false (by simpa using h2)
      by_cases h3 : nfit k n = false
      · rw [if_pos h3]; exact fault_num k n s w (by omega) h2' h3
      · rw [if_neg h3]
        by_cases h4 : 64 < (s.size : Int)
        · rw [if_pos h4]; exact fault_long k n s w (by omega) h2' (by simpa using h3) h4
        · rw [if_neg h4]; exact fault_ok k n s w (by omega) h2' (by simpa using h3) (by omega)

theorem of_bad (k n : Int) (s : ByteArray) (h : (flt k n s != 0) = true) (w : World) : Calls Try.prog 81 #[.agg #[.int .u8 k, .int .i64 n, .string s]] w fun e w' => e = .returned (.tuple #[.nilIface, .int .i64 (flt k n s)]) ∧ Below w.heap.size w w' := by
  go_enter Try.func81, Try.ntmps81
  go_wp2_with fail
  refine (fault_any _ _ _ _).mono ?_
  rintro e w1 ⟨rfl, hb⟩
  go_wp2_with fail
  go_ret2
  exact ⟨rfl, ((Below.refl _ _).alloc (Nat.le_refl _) _).trans (hb.mono (by simp))⟩

theorem of_good (k n : Int) (s : ByteArray) (h0 : 0 ≤ k) (h : flt k n s = 0) (w : World) : Calls Try.prog 81 #[.agg #[.int .u8 k, .int .i64 n, .string s]] w fun e w' => (∃ v, e = .returned (.tuple #[v, .int .i64 0]) ∧ Val v k n s) ∧ Below w.heap.size w w' := by
  have hf := fault_any k n s
  rw [h] at hf
  have HF : Hid (∀ w : World, Calls Try.prog 86 #[.agg #[.int .u8 k, .int .i64 n, .string s]] w fun e w' => e = .returned (.int .i64 0) ∧ Below w.heap.size w w') := hf
  clear hf
  obtain ⟨rfl, rfl, rfl⟩ | ⟨rfl, rfl⟩ | ⟨rfl, rfl, rfl⟩ | ⟨rfl, rfl, rfl⟩ | ⟨rfl, rfl, hs⟩ := flt_zero h0 h
  all_goals clear h h0
  · go_enter Try.func81, Try.ntmps81
    go_wp2_with fail
    refine (HF.out _).mono ?_
    rintro e w1 ⟨rfl, hb⟩
    obtain ⟨hc, hf⟩ := bcell hb
    go_wp2_with fail
    go_ret2
    exact ⟨⟨_, rfl, Or.inl ⟨rfl, rfl, rfl, rfl⟩⟩, ((Below.refl _ _).alloc (Nat.le_refl _) _).trans (hb.mono (by simp))⟩
  · go_enter Try.func81, Try.ntmps81
    go_wp2_with fail
    refine (HF.out _).mono ?_
    rintro e w1 ⟨rfl, hb⟩
    obtain ⟨hc, hf⟩ := bcell hb
    go_wp2_with fail
    go_ret2
    exact ⟨⟨_, rfl, Or.inr (Or.inl ⟨rfl, rfl, rfl⟩)⟩, ((Below.refl _ _).alloc (Nat.le_refl _) _).trans (hb.mono (by simp))⟩
  · go_enter Try.func81, Try.ntmps81
    go_wp2_with fail
    refine (HF.out _).mono ?_
    rintro e w1 ⟨rfl, hb⟩
    obtain ⟨hc, hf⟩ := bcell hb
    go_wp2_with fail
    go_ret2
    exact ⟨⟨_, rfl, Or.inr (Or.inr (Or.inl ⟨false, rfl, rfl, rfl, rfl⟩))⟩, ((Below.refl _ _).alloc (Nat.le_refl _) _).trans (hb.mono (by simp))⟩
  · go_enter Try.func81, Try.ntmps81
    go_wp2_with fail
    refine (HF.out _).mono ?_
    rintro e w1 ⟨rfl, hb⟩
    obtain ⟨hc, hf⟩ := bcell hb
    go_wp2_with fail
    go_ret2
    exact ⟨⟨_, rfl, Or.inr (Or.inr (Or.inl ⟨true, rfl, rfl, rfl, rfl⟩))⟩, ((Below.refl _ _).alloc (Nat.le_refl _) _).trans (hb.mono (by simp))⟩
  · go_enter Try.func81, Try.ntmps81
    go_wp2_with fail
    refine (HF.out _).mono ?_
    rintro e w1 ⟨rfl, hb⟩
    obtain ⟨hc, hf⟩ := bcell hb
    go_wp2_with fail
    go_ret2
    exact ⟨⟨_, rfl, Or.inr (Or.inr (Or.inr ⟨rfl, rfl, rfl⟩))⟩, ((Below.refl _ _).alloc (Nat.le_refl _) _).trans (hb.mono (by simp))⟩

/-- Whatever is beyond Yes counts as Unknown. -/
def tm (a : Int) : Int := if 2 < a then 1 else a

theorem tm_mem {a : Int} (h : 0 ≤ a) : tm a = 0 ∨ tm a = 1 ∨ tm a = 2 := by
  unfold tm; split <;> omega

theorem tame_any (a : Int) (w : World) : Calls Try.prog 74 #[.int .u8 a] w fun e w' => e = .returned (.int .u8 (tm a)) ∧ w' = w := by
  unfold tm
  by_cases h : 2 < a
  · go_enter Try.func74, Try.ntmps74
    go_wp2
    go_ret
    exact ⟨rfl, rfl⟩
  · go_enter Try.func74, Try.ntmps74
    go_wp2
    go_ret
    exact ⟨rfl, rfl⟩

theorem and_any (a b : Int) (w : World) : Calls Try.prog 59 #[.int .u8 a, .int .u8 b] w fun e w' => e = .returned (.int .u8 (min (tm a) (tm b))) ∧ w' = w := by
  go_enter Try.func59, Try.ntmps59
  go_wp2_with fail
  refine (tame_any _ _).mono ?_
  rintro e w1 ⟨rfl, rfl⟩
  go_wp2_with fail
  refine (tame_any _ _).mono ?_
  rintro e w1 ⟨rfl, rfl⟩
  go_wp2_with fail
  all_goals
    go_ret
    exact ⟨ret_int (by omega), rfl⟩

theorem or_three_any (a b : Int) (w : World) : Calls Try.prog 60 #[.int .u8 a, .int .u8 b] w fun e w' => e = .returned (.int .u8 (max (tm a) (tm b))) ∧ w' = w := by
  go_enter Try.func60, Try.ntmps60
  go_wp2_with fail
  refine (tame_any _ _).mono ?_
  rintro e w1 ⟨rfl, rfl⟩
  go_wp2_with fail
  refine (tame_any _ _).mono ?_
  rintro e w1 ⟨rfl, rfl⟩
  go_wp2_with fail
  all_goals
    go_ret
    exact ⟨ret_int (by omega), rfl⟩

theorem not_core (a x : Int) (hx : tm a = x) (hm : x = 0 ∨ x = 1 ∨ x = 2) (w : World) : Calls Try.prog 63 #[.int .u8 a] w fun e w' => e = .returned (.int .u8 (2 - x)) ∧ w' = w := by
  have ht := tame_any a
  rw [hx] at ht
  have HT : Hid (∀ w : World, Calls Try.prog 74 #[.int .u8 a] w fun e w' => e = .returned (.int .u8 x) ∧ w' = w) := ht
  clear ht hx
  rcases hm with rfl | rfl | rfl
  all_goals
    go_enter Try.func63, Try.ntmps63
    go_wp2_with fail
    refine (HT.out _).mono ?_
    rintro e w1 ⟨rfl, rfl⟩
    go_wp2_with fail
    go_ret
    exact ⟨rfl, rfl⟩

theorem not_any (a : Int) (h0 : 0 ≤ a) (w : World) : Calls Try.prog 63 #[.int .u8 a] w fun e w' => e = .returned (.int .u8 (2 - tm a)) ∧ w' = w :=
  not_core a (tm a) rfl (tm_mem h0) w

theorem is_any (b : Bool) (w : World) : Calls Try.prog 77 #[.bool b] w fun e w' => e = .returned (.int .u8 (if b then 2 else 0)) ∧ w' = w := by
  cases b
  all_goals
    go_enter Try.func77, Try.ntmps77
    go_wp2
    go_ret
    exact ⟨rfl, rfl⟩

/-- The types that are no value's, of those that come up. -/
def Odd (T : TypeId) : Prop := T = 3 ∨ T = 41 ∨ T = 42 ∨ T = 43 ∨ T = 44 ∨ T = 21 ∨ T = 5 ∨ T = 45 ∨ T = 46

theorem ta_odd {T : TypeId} (h : Odd T) (v : Value) (w : World) :
    (Instr.typeAssert (.iface T v) 61 2 true).run Try.prog w = .ok (.tuple #[.int .i64 0, .bool false]) w ∧ (Instr.typeAssert (.iface T v) 61 4 true).run Try.prog w = .ok (.tuple #[.bool false, .bool false]) w ∧ (Instr.typeAssert (.iface T v) 61 9 true).run Try.prog w = .ok (.tuple #[.string ⟨#[]⟩, .bool false]) w := by
  rcases h with rfl | rfl | rfl | rfl | rfl | rfl | rfl | rfl | rfl
  all_goals exact ⟨by kernel_rfl, by kernel_rfl, by kernel_rfl⟩

theorem cellOf_odd {T : TypeId} (h : Odd T) (v : Value) (w : World) : Calls Try.prog 48 #[.iface T v] w fun e w' => e = .returned (.tuple #[.agg #[.int .u8 0, .int .i64 0, .string ⟨#[]⟩], .bool false]) ∧ Below w.heap.size w w' := by
  have t1 := fun w => (ta_odd h v w).1
  have t2 := fun w => (ta_odd h v w).2.1
  have t3 := fun w => (ta_odd h v w).2.2
  clear h
  go_enter Try.func48, Try.ntmps48
  go_wp2
  exact bodyPost_ret (v := .tuple #[.agg #[.int .u8 0, .int .i64 0, .string ⟨#[]⟩], .bool false]) (by simp [results, Try.results48, go_sem]) rfl ⟨rfl, (Below.refl _ _).alloc (Nat.le_refl _) _⟩

theorem cell_odd {T : TypeId} (h : Odd T) (v : Value) (w : World) : Calls Try.prog 45 #[.iface T v] w fun e w' => e = .returned (.tuple #[.agg #[.int .u8 0, .int .i64 0, .string ⟨#[]⟩], .bool false]) ∧ Below w.heap.size w w' := by
  go_enter Try.func45, Try.ntmps45
  go_wp2_with fail
  refine (cellOf_odd h _ _).mono ?_
  rintro e w1 ⟨rfl, hb⟩
  obtain ⟨hc, hf⟩ := bcell hb
  have hz : w.heap.size < w1.heap.size := by have := hb.size; simp at this; omega
  clear h
  go_wp2_with fail
  refine bodyPost_ret (v := .tuple #[.agg #[.int .u8 0, .int .i64 0, .string ⟨#[]⟩], .bool false]) (by simp [results, Try.results45, go_sem, hc]) rfl ⟨rfl, ?_⟩
  exact ((((((Below.refl _ _).alloc (Nat.le_refl _) _).trans (hb.mono (by simp))).setCell (by simp) _).setCell (by simp) _).setCell (by simp) _)

theorem val_int (n : Int) : Val (.iface 2 (.int .i64 n)) 1 n ⟨#[]⟩ := Or.inr (Or.inl ⟨rfl, rfl, rfl⟩)

theorem val_bool (b : Bool) : Val (.iface 4 (.bool b)) 2 (if b then 1 else 0) ⟨#[]⟩ := Or.inr (Or.inr (Or.inl ⟨b, rfl, rfl, rfl, rfl⟩))

theorem val_string (s : ByteArray) : Val (.iface 9 (.string s)) 3 0 s := Or.inr (Or.inr (Or.inr ⟨rfl, rfl, rfl⟩))

theorem val_one {v : Value} {n : Int} {s : ByteArray} (h : Val v 1 n s) : v = .iface 2 (.int .i64 n) := by
  rcases h with h | h | ⟨b, h⟩ | h
  · omega
  · exact h.1
  · omega
  · omega

theorem compare_truth (s : ByteArray) (w : World) : Calls Try.prog 30 #[.iface 4 (.bool true), .iface 9 (.string s)] w fun e w' => e = .returned (.int .i64 (-1)) ∧ Below w.heap.size w w' :=
  compare_any (val_bool true) (val_string s) w

theorem less_irrefl (l : List UInt8) : Op.bytesLess l l = false := by
  induction l with
  | nil => rfl
  | cons a l ih => simp [Op.bytesLess, ih, UInt8.lt_irrefl]

theorem less_asymm : (l m : List UInt8) → Op.bytesLess l m = true → Op.bytesLess m l = false
  | [], [], h => by simp [Op.bytesLess] at h
  | [], _ :: _, _ => by simp [Op.bytesLess]
  | _ :: _, [], h => by simp [Op.bytesLess] at h
  | a :: l, b :: m, h => by
    have ih := less_asymm l m
    simp only [Op.bytesLess, Bool.or_eq_true, decide_eq_true_eq, Bool.and_eq_true, beq_iff_eq] at h
    simp only [Op.bytesLess, Bool.or_eq_false_iff, decide_eq_false_iff_not, Bool.and_eq_false_iff, beq_eq_false_iff_ne]
    rcases h with h | ⟨rfl, h⟩
    · refine ⟨fun h2 => UInt8.lt_irrefl _ (UInt8.lt_trans h h2), Or.inl ?_⟩
      rintro rfl
      exact UInt8.lt_irrefl _ h
    · exact ⟨UInt8.lt_irrefl _, Or.inr (ih h)⟩

theorem less_total : (l m : List UInt8) → Op.bytesLess l m = false → Op.bytesLess m l = false → l = m
  | [], [], _, _ => rfl
  | [], _ :: _, h, _ => by simp [Op.bytesLess] at h
  | _ :: _, [], _, h => by simp [Op.bytesLess] at h
  | a :: l, b :: m, h, h2 => by
    have ih := less_total l m
    simp only [Op.bytesLess, Bool.or_eq_false_iff, decide_eq_false_iff_not, Bool.and_eq_false_iff, beq_eq_false_iff_ne] at h h2
    have e : a = b := UInt8.le_antisymm (UInt8.not_lt.mp h2.1) (UInt8.not_lt.mp h.1)
    subst e
    rw [ih (by rcases h.2 with h | h; exact absurd rfl h; exact h) (by rcases h2.2 with h | h; exact absurd rfl h; exact h)]

theorem less_trans : (l m p : List UInt8) → Op.bytesLess l m = true → Op.bytesLess m p = true → Op.bytesLess l p = true
  | [], [], _, h, _ => by simp [Op.bytesLess] at h
  | [], _ :: _, [], _, h => by simp [Op.bytesLess] at h
  | [], _ :: _, _ :: _, _, _ => by simp [Op.bytesLess]
  | _ :: _, [], _, h, _ => by simp [Op.bytesLess] at h
  | _ :: _, _ :: _, [], _, h => by simp [Op.bytesLess] at h
  | a :: l, b :: m, c :: p, h, h2 => by
    have ih := less_trans l m p
    simp only [Op.bytesLess, Bool.or_eq_true, decide_eq_true_eq, Bool.and_eq_true, beq_iff_eq] at h h2 ⊢
    rcases h with h | ⟨rfl, h⟩
    · rcases h2 with h2 | ⟨rfl, h2⟩
      · exact Or.inl (UInt8.lt_trans h h2)
      · exact Or.inl h
    · rcases h2 with h2 | ⟨rfl, h2⟩
      · exact Or.inl h2
      · exact Or.inr ⟨rfl, ih h h2⟩

theorem bytes_ext {a b : ByteArray} (h : a.toList = b.toList) : a = b := by
  rw [ByteArray.toList_eq, ByteArray.toList_eq] at h
  cases a with
  | mk x => cases b with
    | mk y => congr; exact Array.toList_inj.mp h

/-- Two texts: three ways. -/
theorem cS_ways (a b : ByteArray) : (cS a b = -1 ∧ Op.bytesLess a.toList b.toList = true ∧ Op.bytesLess b.toList a.toList = false ∧ a ≠ b) ∨ (cS a b = 0 ∧ a = b) ∨ (cS a b = 1 ∧ Op.bytesLess a.toList b.toList = false ∧ Op.bytesLess b.toList a.toList = true ∧ a ≠ b) := by
  unfold cS
  cases h1 : Op.bytesLess a.toList b.toList
  · by_cases h2 : a = b
    · subst h2; exact Or.inr (Or.inl (by simp))
    · have h3 : (a.toList == b.toList) = false := by
        rw [beq_eq_false_iff_ne]; exact fun h => h2 (bytes_ext h)
      refine Or.inr (Or.inr ⟨by simp [h3], rfl, ?_, h2⟩)
      cases h4 : Op.bytesLess b.toList a.toList
      · exact absurd (bytes_ext (less_total _ _ h1 h4)) h2
      · rfl
  · refine Or.inl ⟨by simp, rfl, less_asymm _ _ h1, ?_⟩
    rintro rfl
    rw [less_irrefl] at h1
    cases h1

theorem cS_swap (a b : ByteArray) : cS b a = - cS a b := by
  rcases cS_ways a b with ⟨h1, h2, h3, h4⟩ | ⟨h1, rfl⟩ | ⟨h1, h2, h3, h4⟩
  · rcases cS_ways b a with ⟨g1, g2, _⟩ | ⟨g1, rfl⟩ | ⟨g1, _⟩
    · rw [h3] at g2; cases g2
    · exact absurd rfl h4
    · omega
  · omega
  · rcases cS_ways b a with ⟨g1, _⟩ | ⟨g1, rfl⟩ | ⟨g1, _, g2, _⟩
    · omega
    · exact absurd rfl h4
    · rw [h2] at g2; cases g2

theorem cS_self (a : ByteArray) : cS a a = 0 := by
  have := cS_swap a a; omega

theorem cS_zero {a b : ByteArray} (h : cS a b = 0) : a = b := by
  rcases cS_ways a b with ⟨h1, _⟩ | ⟨_, h1⟩ | ⟨h1, _⟩
  · omega
  · exact h1
  · omega

theorem cS_trans {a b c : ByteArray} (h : cS a b ≤ 0) (h2 : cS b c ≤ 0) : cS a c ≤ 0 ∧ (cS a c = 0 → cS a b = 0 ∧ cS b c = 0) := by
  rcases cS_ways a b with ⟨e1, l1, _, _⟩ | ⟨e1, rfl⟩ | ⟨e1, _⟩
  · rcases cS_ways b c with ⟨e2, l2, _, _⟩ | ⟨e2, rfl⟩ | ⟨e2, _⟩
    · have := less_trans _ _ _ l1 l2
      rcases cS_ways a c with ⟨e3, _⟩ | ⟨e3, rfl⟩ | ⟨e3, l3, _⟩
      · omega
      · rw [less_irrefl] at this; cases this
      · rw [this] at l3; cases l3
    · omega
    · omega
  · omega
  · omega

/-- Two cells. -/
def cv (k n : Int) (s : ByteArray) (k' n' : Int) (s' : ByteArray) : Int := or3 (c3 k k') (c3 n n') (cS s s')

theorem c3_ways (a b : Int) : (c3 a b = -1 ∧ a < b) ∨ (c3 a b = 0 ∧ a = b) ∨ (c3 a b = 1 ∧ b < a) := by
  unfold c3
  by_cases h : a < b
  · rw [if_pos h]; omega
  · rw [if_neg h]
    by_cases h2 : b < a
    · rw [if_pos h2]; omega
    · rw [if_neg h2]; omega

theorem or3_ways (x y z : Int) : (x ≠ 0 ∧ or3 x y z = x) ∨ (x = 0 ∧ y ≠ 0 ∧ or3 x y z = y) ∨ (x = 0 ∧ y = 0 ∧ or3 x y z = z) := by
  unfold or3
  by_cases h : x ≠ 0
  · rw [if_pos h]; exact Or.inl ⟨h, rfl⟩
  · rw [if_neg h]
    by_cases h2 : y ≠ 0
    · rw [if_pos h2]; exact Or.inr (Or.inl ⟨by omega, h2, rfl⟩)
    · rw [if_neg h2]; exact Or.inr (Or.inr ⟨by omega, by omega, rfl⟩)

theorem cS_range (a b : ByteArray) : cS a b = -1 ∨ cS a b = 0 ∨ cS a b = 1 := by
  rcases cS_ways a b with h | h | h
  · exact Or.inl h.1
  · exact Or.inr (Or.inl h.1)
  · exact Or.inr (Or.inr h.1)

theorem cv_range (k n : Int) (s : ByteArray) (k' n' : Int) (s' : ByteArray) : cv k n s k' n' s' = -1 ∨ cv k n s k' n' s' = 0 ∨ cv k n s k' n' s' = 1 := by
  unfold cv
  have h1 := or3_ways (c3 k k') (c3 n n') (cS s s')
  have h2 := c3_ways k k'
  have h3 := c3_ways n n'
  have h4 := cS_range s s'
  omega

theorem cv_swap (k n : Int) (s : ByteArray) (k' n' : Int) (s' : ByteArray) : cv k' n' s' k n s = - cv k n s k' n' s' := by
  unfold cv
  have h1 := or3_ways (c3 k k') (c3 n n') (cS s s')
  have h2 := c3_ways k k'
  have h3 := c3_ways n n'
  have h4 := cS_swap s s'
  have g1 := or3_ways (c3 k' k) (c3 n' n) (cS s' s)
  have g2 := c3_ways k' k
  have g3 := c3_ways n' n
  omega

theorem cv_zero (k n : Int) (s : ByteArray) (k' n' : Int) (s' : ByteArray) : cv k n s k' n' s' = 0 ↔ k = k' ∧ n = n' ∧ s = s' := by
  unfold cv
  have h1 := or3_ways (c3 k k') (c3 n n') (cS s s')
  have h2 := c3_ways k k'
  have h3 := c3_ways n n'
  constructor
  · intro h
    have h4 : cS s s' = 0 := by omega
    exact ⟨by omega, by omega, cS_zero h4⟩
  · rintro ⟨rfl, rfl, rfl⟩
    have := cS_self s
    omega

theorem cv_trans (k n : Int) (s : ByteArray) (k' n' : Int) (s' : ByteArray) (k2 n2 : Int) (s2 : ByteArray) (h : cv k n s k' n' s' ≤ 0) (h' : cv k' n' s' k2 n2 s2 ≤ 0) : cv k n s k2 n2 s2 ≤ 0 := by
  unfold cv at *
  have a1 := or3_ways (c3 k k') (c3 n n') (cS s s')
  have a2 := c3_ways k k'
  have a3 := c3_ways n n'
  have b1 := or3_ways (c3 k' k2) (c3 n' n2) (cS s' s2)
  have b2 := c3_ways k' k2
  have b3 := c3_ways n' n2
  have d1 := or3_ways (c3 k k2) (c3 n n2) (cS s s2)
  have d2 := c3_ways k k2
  have d3 := c3_ways n n2
  have t := @cS_trans s s' s2
  omega

/-- The law's own order. -/
def ls (k n : Int) (s : ByteArray) (k' n' : Int) (s' : ByteArray) : Bool := if (k != k') = true then decide (k < k') else if n < n' then true else if (n == n') = true then Op.bytesLess s.toList s'.toList else false

theorem ls_cv (k n : Int) (s : ByteArray) (k' n' : Int) (s' : ByteArray) : ls k n s k' n' s' = decide (cv k n s k' n' s' = -1) := by
  unfold ls cv
  have h1 := or3_ways (c3 k k') (c3 n n') (cS s s')
  have h2 := c3_ways k k'
  have h3 := c3_ways n n'
  by_cases e : k = k'
  · rw [if_neg (by simpa using e)]
    by_cases f : n < n'
    · rw [if_pos f]; symm; rw [decide_eq_true_eq]; omega
    · rw [if_neg f]
      by_cases g : n = n'
      · rw [if_pos (by simpa using g)]
        have h4 : or3 (c3 k k') (c3 n n') (cS s s') = cS s s' := by omega
        rw [h4]
        rcases cS_ways s s' with ⟨q1, q2, _⟩ | ⟨q1, rfl⟩ | ⟨q1, q2, _⟩
        · rw [q1, q2]; rfl
        · rw [q1, less_irrefl]; rfl
        · rw [q1, q2]; rfl
      · rw [if_neg (by simpa using g)]; symm; rw [decide_eq_false_iff_not]; omega
  · rw [if_pos (by simpa using e)]
    rw [decide_eq_decide]; omega

set_option maxHeartbeats 1000000 in
theorem less_any (k n : Int) (s : ByteArray) (k' n' : Int) (s' : ByteArray) (w : World) : Calls Try.prog 11 #[.agg #[.int .u8 k, .int .i64 n, .string s], .agg #[.int .u8 k', .int .i64 n', .string s']] w fun e w' => e = .returned (.bool (ls k n s k' n' s')) ∧ Below w.heap.size w w' := by
  unfold ls
  by_cases h1 : (k != k') = true
  · rw [if_pos h1]
    go_enter Try.func11, Try.ntmps11
    go_wp2
    go_ret
    exact ⟨rfl, ((Below.refl _ _).alloc (Nat.le_refl _) _).alloc (by simp) _⟩
  · rw [if_neg h1]
    have h1' : (k != k') = false := by simpa using h1
    clear h1
    by_cases h2 : n < n'
    · rw [if_pos h2]
      go_enter Try.func11, Try.ntmps11
      go_wp2
      go_ret
      exact ⟨rfl, ((Below.refl _ _).alloc (Nat.le_refl _) _).alloc (by simp) _⟩
    · rw [if_neg h2]
      by_cases h3 : (n == n') = true
      · rw [if_pos h3]
        go_enter Try.func11, Try.ntmps11
        go_wp2
        go_ret
        exact ⟨rfl, ((Below.refl _ _).alloc (Nat.le_refl _) _).alloc (by simp) _⟩
      · rw [if_neg h3]
        have h3' : (n == n') = false := by simpa using h3
        clear h3
        go_enter Try.func11, Try.ntmps11
        go_wp2
        go_ret
        exact ⟨rfl, ((Below.refl _ _).alloc (Nat.le_refl _) _).alloc (by simp) _⟩

theorem less_eq (k n : Int) (s : ByteArray) (k' n' : Int) (s' : ByteArray) (b : Bool) (hb : ls k n s k' n' s' = b) (w : World) : Calls Try.prog 11 #[.agg #[.int .u8 k, .int .i64 n, .string s], .agg #[.int .u8 k', .int .i64 n', .string s']] w fun e w' => e = .returned (.bool b) ∧ Below w.heap.size w w' := by
  subst hb; exact less_any k n s k' n' s' w

/-- value.Compare by the same word. -/
theorem compare_cv {x y : Value} {k n k' n' : Int} {s s' : ByteArray} (hx : Val x k n s) (hy : Val y k' n' s') (w : World) : Calls Try.prog 30 #[x, y] w fun e w' => e = .returned (.int .i64 (cv k n s k' n' s')) ∧ Below w.heap.size w w' := compare_any hx hy w
end Go.Proofs.Ytfcnoeehfhncjaa
