/- What is no value has no cell; the logic of three values; the document's examples (alive). -/
import Derived.Test.YtamigccnkhoidaaCmp
import Derived.Test.YtamigccnkhoidaaCel
namespace Go.Proofs.Ytamigccnkhoidaa
open Go.RowKit

theorem ret_int {k : IntKind} {a b : Int} (h : a = b) : Ending.returned (.int k a) = .returned (.int k b) := by rw [h]
theorem ret_bool {a b : Bool} (h : a = b) : Ending.returned (.bool a) = .returned (.bool b) := by rw [h]

/-- Whatever is beyond Yes counts as Unknown. -/
def tm (a : Int) : Int := if 2 < a then 1 else a

theorem tm_mem {a : Int} (h : 0 ≤ a) : tm a = 0 ∨ tm a = 1 ∨ tm a = 2 := by
  unfold tm; split <;> omega

theorem tame_any (a : Int) (w : World) : Calls Try.prog 34 #[.int .u8 a] w fun e w' => e = .returned (.int .u8 (tm a)) ∧ w' = w := by
  unfold tm
  by_cases h : 2 < a
  · go_enter Try.func34, Try.ntmps34
    go_wp2
    go_ret
    exact ⟨rfl, rfl⟩
  · go_enter Try.func34, Try.ntmps34
    go_wp2
    go_ret
    exact ⟨rfl, rfl⟩

theorem and_any (a b : Int) (w : World) : Calls Try.prog 20 #[.int .u8 a, .int .u8 b] w fun e w' => e = .returned (.int .u8 (min (tm a) (tm b))) ∧ w' = w := by
  go_enter Try.func20, Try.ntmps20
  go_wp2_with fail
  refine (tame_any _ _).mono ?_
  rintro e w1 ⟨rfl, rfl⟩
  go_wp2_with fail
  refine (tame_any _ _).mono ?_
  rintro e w1 ⟨rfl, rfl⟩
  go_wp2_with fail
  all_goals
    go_ret
    exact ⟨ret_int (by omega), rfl⟩

theorem or_three_any (a b : Int) (w : World) : Calls Try.prog 21 #[.int .u8 a, .int .u8 b] w fun e w' => e = .returned (.int .u8 (max (tm a) (tm b))) ∧ w' = w := by
  go_enter Try.func21, Try.ntmps21
  go_wp2_with fail
  refine (tame_any _ _).mono ?_
  rintro e w1 ⟨rfl, rfl⟩
  go_wp2_with fail
  refine (tame_any _ _).mono ?_
  rintro e w1 ⟨rfl, rfl⟩
  go_wp2_with fail
  all_goals
    go_ret
    exact ⟨ret_int (by omega), rfl⟩

theorem not_core (a x : Int) (hx : tm a = x) (hm : x = 0 ∨ x = 1 ∨ x = 2) (w : World) : Calls Try.prog 22 #[.int .u8 a] w fun e w' => e = .returned (.int .u8 (2 - x)) ∧ w' = w := by
  have ht := tame_any a
  rw [hx] at ht
  have HT : Hid (∀ w : World, Calls Try.prog 34 #[.int .u8 a] w fun e w' => e = .returned (.int .u8 x) ∧ w' = w) := ht
  clear ht hx
  rcases hm with rfl | rfl | rfl
  all_goals
    go_enter Try.func22, Try.ntmps22
    go_wp2_with fail
    refine (HT.out _).mono ?_
    rintro e w1 ⟨rfl, rfl⟩
    go_wp2_with fail
    go_ret
    exact ⟨rfl, rfl⟩

theorem not_any (a : Int) (h0 : 0 ≤ a) (w : World) : Calls Try.prog 22 #[.int .u8 a] w fun e w' => e = .returned (.int .u8 (2 - tm a)) ∧ w' = w :=
  not_core a (tm a) rfl (tm_mem h0) w

theorem is_any (b : Bool) (w : World) : Calls Try.prog 23 #[.bool b] w fun e w' => e = .returned (.int .u8 (if b then 2 else 0)) ∧ w' = w := by
  cases b
  all_goals
    go_enter Try.func23, Try.ntmps23
    go_wp2
    go_ret
    exact ⟨rfl, rfl⟩

theorem refThree_any (a : Int) (w : World) : Calls Try.prog 19 #[.int .i64 a] w fun e w' => e = .returned (.int .i64 (tm a)) ∧ w' = w := by
  unfold tm
  by_cases h : 2 < a
  · go_enter Try.func19, Try.ntmps19
    go_wp2
    go_ret
    exact ⟨rfl, rfl⟩
  · go_enter Try.func19, Try.ntmps19
    go_wp2
    go_ret
    exact ⟨rfl, rfl⟩

/-- The types that are no value's, of those that come up. -/
def Odd (T : TypeId) : Prop := T = 3 ∨ T = 41 ∨ T = 42 ∨ T = 43 ∨ T = 44 ∨ T = 21 ∨ T = 5 ∨ T = 45 ∨ T = 46

theorem ta_odd {T : TypeId} (h : Odd T) (v : Value) (w : World) :
    (Instr.typeAssert (.iface T v) 26 2 true).run Try.prog w = .ok (.tuple #[.int .i64 0, .bool false]) w ∧ (Instr.typeAssert (.iface T v) 26 4 true).run Try.prog w = .ok (.tuple #[.bool false, .bool false]) w ∧ (Instr.typeAssert (.iface T v) 26 9 true).run Try.prog w = .ok (.tuple #[.string ⟨#[]⟩, .bool false]) w := by
  rcases h with rfl | rfl | rfl | rfl | rfl | rfl | rfl | rfl | rfl
  all_goals exact ⟨by kernel_rfl, by kernel_rfl, by kernel_rfl⟩

theorem cellOf_odd {T : TypeId} (h : Odd T) (v : Value) (w : World) : Calls Try.prog 27 #[.iface T v] w fun e w' => e = .returned (.tuple #[.agg #[.int .u8 0, .int .i64 0, .string ⟨#[]⟩], .bool false]) ∧ Below w.heap.size w w' := by
  have t1 := fun w => (ta_odd h v w).1
  have t2 := fun w => (ta_odd h v w).2.1
  have t3 := fun w => (ta_odd h v w).2.2
  clear h
  go_enter Try.func27, Try.ntmps27
  go_wp2
  exact bodyPost_ret (v := .tuple #[.agg #[.int .u8 0, .int .i64 0, .string ⟨#[]⟩], .bool false]) (by simp [results, Try.results27, go_sem]) rfl ⟨rfl, (Below.refl _ _).alloc (Nat.le_refl _) _⟩

theorem cell_odd {T : TypeId} (h : Odd T) (v : Value) (w : World) : Calls Try.prog 14 #[.iface T v] w fun e w' => e = .returned (.tuple #[.agg #[.int .u8 0, .int .i64 0, .string ⟨#[]⟩], .bool false]) ∧ Below w.heap.size w w' := by
  go_enter Try.func14, Try.ntmps14
  go_wp2_with fail
  refine (cellOf_odd h _ _).mono ?_
  rintro e w1 ⟨rfl, hb⟩
  obtain ⟨hc, hf⟩ := bcell hb
  have hz : w.heap.size < w1.heap.size := by have := hb.size; simp at this; omega
  clear h
  go_wp2_with fail
  refine bodyPost_ret (v := .tuple #[.agg #[.int .u8 0, .int .i64 0, .string ⟨#[]⟩], .bool false]) (by simp [results, Try.results14, go_sem, hc]) rfl ⟨rfl, ?_⟩
  exact ((((((Below.refl _ _).alloc (Nat.le_refl _) _).trans (hb.mono (by simp))).setCell (by simp) _).setCell (by simp) _).setCell (by simp) _)

theorem val_int (n : Int) : Val (.iface 2 (.int .i64 n)) 1 n ⟨#[]⟩ := Or.inr (Or.inl ⟨rfl, rfl, rfl⟩)
theorem val_nil : Val .nilIface 0 0 ⟨#[]⟩ := Or.inl ⟨rfl, rfl, rfl, rfl⟩
theorem val_bool (b : Bool) : Val (.iface 4 (.bool b)) 2 (if b then 1 else 0) ⟨#[]⟩ := Or.inr (Or.inr (Or.inl ⟨b, rfl, rfl, rfl, rfl⟩))
theorem val_string (s : ByteArray) : Val (.iface 9 (.string s)) 3 0 s := Or.inr (Or.inr (Or.inr ⟨rfl, rfl, rfl⟩))
theorem val_one {v : Value} {n : Int} {s : ByteArray} (h : Val v 1 n s) : v = .iface 2 (.int .i64 n) := by
  rcases h with h | h | ⟨b, h⟩ | h
  · omega
  · exact h.1
  · omega
  · omega

/-- Compare of null and a number; of a truth and a text. -/
theorem compare_null (w : World) : Calls Try.prog 17 #[.nilIface, .iface 2 (.int .i64 (-5))] w fun e w' => e = .returned (.int .i64 (-1)) ∧ Below w.heap.size w w' :=
  compare_any val_nil (val_int (-5)) w
theorem compare_truth (s : ByteArray) (w : World) : Calls Try.prog 17 #[.iface 4 (.bool true), .iface 9 (.string s)] w fun e w' => e = .returned (.int .i64 (-1)) ∧ Below w.heap.size w w' :=
  compare_any (val_bool true) (val_string s) w

set_option maxHeartbeats 1000000 in
theorem alive_any (w : World) : Calls Try.prog 9 #[] w fun e w' => e = .returned (.bool true) ∧ Below w.heap.size w w' := by
  go_enter Try.func9, Try.ntmps9
  go_wp2_with fail
  refine (of_good 1 7 ⟨#[]⟩ (by omega) (by decide +kernel) _).mono ?_
  rintro e w1 ⟨⟨v, rfl, hv⟩, hb1⟩
  obtain rfl := val_one hv
  clear hv
  go_wp2_with fail
  refine (of_bad 2 2 ⟨#[]⟩ (by decide +kernel) _).mono ?_
  rw [show flt 2 2 ⟨#[]⟩ = 1 by decide +kernel]
  rintro e w2 ⟨rfl, hb2⟩
  have hz1 := hb1.size
  have hz2 := hb2.size
  go_wp2_with fail
  refine (cell_odd (Or.inl rfl) _ _).mono ?_
  rintro e w3 ⟨rfl, hb3⟩
  have hz3 := hb3.size
  go_wp2_with fail
  refine (number_any _ _).mono ?_
  rintro e w4 ⟨rfl, rfl⟩
  go_wp2_with fail
  refine (compare_null _).mono ?_
  rintro e w5 ⟨rfl, hb5⟩
  go_wp2_with fail
  refine (compare_truth _ _).mono ?_
  rintro e w6 ⟨rfl, hb6⟩
  go_wp2_with fail
  refine (and_any _ _ _).mono ?_
  rintro e w7 ⟨rfl, rfl⟩
  rw [show min (tm 2) (tm 1) = 1 by decide]
  go_wp2_with fail
  go_ret
  refine ⟨rfl, ?_⟩
  exact ((((hb1.trans (hb2.mono hz1)).trans (hb3.mono (by omega))).alloc (by omega) _).trans (hb5.mono (by simp; omega))).trans (hb6.mono (by have := hb5.size; simp at this; omega))
end Go.Proofs.Ytamigccnkhoidaa
