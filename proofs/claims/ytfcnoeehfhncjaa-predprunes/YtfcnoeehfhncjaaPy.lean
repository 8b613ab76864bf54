/- Flags of three answers: only, contraries. -/
import Derived.Test.YtfcnoeehfhncjaaPe
set_option linter.unusedVariables false
set_option linter.unusedSimpArgs false
namespace Go.Proofs.Ytfcnoeehfhncjaa
open Go.RowKit Go.Lib

def b3V (b : B3) : Value := .agg #[.bool b.1, .bool b.2.1, .bool b.2.2]
def getB (a : B3) (x : Nat) : Bool := if x = 0 then a.1 else if x = 1 then a.2.1 else a.2.2
def setB (x : Nat) (a : B3) : B3 := if x = 0 then (true, a.2.1, a.2.2) else if x = 1 then (a.1, true, a.2.2) else (a.1, a.2.1, true)
def stepJ (j : Nat → Nat → Nat) (a b : B3) (x y : Nat) (acc : B3) : B3 := if getB a x = true then (if getB b y = true then setB (j x y) acc else acc) else acc
def rowJ (j : Nat → Nat → Nat) (a b : B3) (x : Nat) : Nat → B3 → B3
  | 0, acc => acc
  | y + 1, acc => stepJ j a b x y (rowJ j a b x y acc)
def togJ (j : Nat → Nat → Nat) (a b : B3) : Nat → B3
  | 0 => (false, false, false)
  | x + 1 => rowJ j a b x 3 (togJ j a b x)
theorem togJ_min (a b : B3) : togJ min a b 3 = togA a b := by
  obtain ⟨a0, a1, a2⟩ := a
  obtain ⟨b0, b1, b2⟩ := b
  cases a0 <;> cases a1 <;> cases a2 <;> cases b0 <;> cases b1 <;> cases b2 <;> rfl
theorem togJ_max (a b : B3) : togJ max a b 3 = togO a b := by
  obtain ⟨a0, a1, a2⟩ := a
  obtain ⟨b0, b1, b2⟩ := b
  cases a0 <;> cases a1 <;> cases a2 <;> cases b0 <;> cases b1 <;> cases b2 <;> rfl

set_option maxRecDepth 100000 in
theorem only3_any (a : Nat) (h : a = 0 ∨ a = 1 ∨ a = 2) (w : World) : Calls Try.prog 57 #[.int .u8 (a : Int)] w fun e w' => e = .returned (.agg #[.bool (decide (a = 0)), .bool (decide (a = 1)), .bool (decide (a = 2))]) ∧ Below w.heap.size w w' := by
  rcases h with rfl | rfl | rfl
  · go_enter Try.func57, Try.ntmps57
    go_wp2_with fail
    refine bodyPost_ret (v := .agg #[.bool true, .bool false, .bool false]) (by simp [results, Try.results57, go_sem]) rfl ⟨rfl, ?_⟩
    exact ((Below.refl _ _).alloc (Nat.le_refl _) _).alloc (by rw [World.size_alloc]; omega) _
  · go_enter Try.func57, Try.ntmps57
    go_wp2_with fail
    refine bodyPost_ret (v := .agg #[.bool false, .bool true, .bool false]) (by simp [results, Try.results57, go_sem]) rfl ⟨rfl, ?_⟩
    exact ((Below.refl _ _).alloc (Nat.le_refl _) _).alloc (by rw [World.size_alloc]; omega) _
  · go_enter Try.func57, Try.ntmps57
    go_wp2_with fail
    refine bodyPost_ret (v := .agg #[.bool false, .bool false, .bool true]) (by simp [results, Try.results57, go_sem]) rfl ⟨rfl, ?_⟩
    exact ((Below.refl _ _).alloc (Nat.le_refl _) _).alloc (by rw [World.size_alloc]; omega) _

set_option maxRecDepth 100000 in
theorem contr_any (a0 a1 a2 : Bool) (w : World) : Calls Try.prog 61 #[.agg #[.bool a0, .bool a1, .bool a2]] w fun e w' => e = .returned (.agg #[.bool a2, .bool a1, .bool a0]) ∧ Below w.heap.size w w' := by
  obtain ⟨c0, c1, c2⟩ := cell_new3 w (.bool a0) (.bool a1) (.bool a2) 51
  go_enter Try.func61, Try.ntmps61
  go_wp2_with fail
  refine bodyPost_ret (v := .agg #[.bool a2, .bool a1, .bool a0]) (by simp [results, Try.results61, go_sem]) rfl ⟨rfl, ?_⟩
  exact ((Below.refl _ _).alloc (Nat.le_refl _) _).alloc (by rw [World.size_alloc]; omega) _

theorem idx3 (x y z : Value) (w : World) : (Instr.index 51 (.agg #[x, y, z]) (.int .i64 0)).run Try.prog w = .ok x w ∧ (Instr.index 51 (.agg #[x, y, z]) (.int .i64 1)).run Try.prog w = .ok y w ∧ (Instr.index 51 (.agg #[x, y, z]) (.int .i64 2)).run Try.prog w = .ok z w := ⟨by kernel_rfl, by kernel_rfl, by kernel_rfl⟩

/-- The block of three flags that a call fills. -/
def Flg (W : World) (p : Nat) (o : B3) : Prop := W.heap[p]? = some (.cells #[.bool o.1, .bool o.2.1, .bool o.2.2] 51 (0, 0))
theorem Flg.facts {W : World} {p : Nat} {o : B3} (h : Flg W p o) : (W.cell? ⟨p, 0, none⟩ = some (.bool o.1) ∧ W.cell? ⟨p, 1, none⟩ = some (.bool o.2.1) ∧ W.cell? ⟨p, 2, none⟩ = some (.bool o.2.2)) ∧ (W.frozen? ⟨p, 0, none⟩ = false ∧ W.frozen? ⟨p, 1, none⟩ = false ∧ W.frozen? ⟨p, 2, none⟩ = false) ∧ p < W.heap.size := by
  unfold Flg at h
  refine ⟨⟨by rw [cell_block h]; rfl, by rw [cell_block h]; rfl, by rw [cell_block h]; rfl⟩, ⟨by simp [World.frozen?, h], by simp [World.frozen?, h], by simp [World.frozen?, h]⟩, (Array.getElem?_eq_some_iff.1 h).1⟩
theorem Flg.set {W : World} {p : Nat} {o : B3} (h : Flg W p o) (x : Nat) (hx : x ≤ 2) : Flg (W.setCell ⟨p, x, none⟩ (.bool true)) p (setB x o) := by
  unfold Flg at *
  rw [heap_set h]
  obtain rfl | rfl | rfl : x = 0 ∨ x = 1 ∨ x = 2 := by omega
  all_goals rfl
theorem Flg.new (w : World) (o : B3) : Flg (w.alloc (.cells #[.bool o.1, .bool o.2.1, .bool o.2.2] 51)) w.heap.size o := by
  exact heap_alloc_new w _
theorem Flg.kept {W W' : World} {p : Nat} {o : B3} (h : Flg W p o) (hb : Below W.heap.size W W') : Flg W' p o := by
  have hp := h.facts.2.2
  unfold Flg at *
  rw [hb.block p hp]
  exact h
end Go.Proofs.Ytfcnoeehfhncjaa
