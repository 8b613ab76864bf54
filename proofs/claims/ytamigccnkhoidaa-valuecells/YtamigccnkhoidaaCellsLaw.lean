/- ValueCells: whatever cell is handed in, the law returns true: Of says which cells are a value's, by the document's errors in their order, and which value; the value has this cell, and its kind; nothing that was there is written. No condition. -/
import Derived.Test.YtamigccnkhoidaaLift
import Derived.Deep.RegionHeld3
import Derived.Deep.QuietTactic
import Derived.BigQuiet
namespace Go.Proofs.Ytamigccnkhoidaa
namespace CellsLaw
open Go.ChangeShapes Go.WideShapes Go.ChangeAt Go.RowKit

theorem keep3 {g : Nat} {W w' : World} {a b c : Value} (h : W.cell? ⟨g, 0, none⟩ = some a ∧ W.cell? ⟨g, 1, none⟩ = some b ∧ W.cell? ⟨g, 2, none⟩ = some c ∧ g < W.heap.size) (hb : Below W.heap.size W w') :
    w'.cell? ⟨g, 0, none⟩ = some a ∧ w'.cell? ⟨g, 1, none⟩ = some b ∧ w'.cell? ⟨g, 2, none⟩ = some c ∧ g < w'.heap.size :=
  ⟨(hb.cell (p := ⟨g, 0, none⟩) h.2.2.2).trans h.1, (hb.cell (p := ⟨g, 1, none⟩) h.2.2.2).trans h.2.1, (hb.cell (p := ⟨g, 2, none⟩) h.2.2.2).trans h.2.2.1, Nat.lt_of_lt_of_le h.2.2.2 hb.size⟩

set_option maxHeartbeats 2000000 in
theorem walk_good (k n : Int) (s : ByteArray) (h0 : 0 ≤ k) (h : flt k n s = 0) (w : World) :
    Calls Try.prog 3 #[.agg #[.int .u8 k, .int .i64 n, .string s]] w fun e w' => e = .returned (.bool true) ∧ Below w.heap.size w w' := by
  have HO : Hid (∀ w : World, Calls Try.prog 10 #[.agg #[.int .u8 k, .int .i64 n, .string s]] w fun e w' => (∃ v, e = .returned (.tuple #[v, .int .i64 0]) ∧ Val v k n s) ∧ Below w.heap.size w w') := of_good k n s h0 h
  have hch := check_any k n s h0
  rw [h] at hch
  have HC : Hid (∀ w : World, Calls Try.prog 11 #[.agg #[.int .u8 k, .int .i64 n, .string s]] w fun e w' => e = .returned (.int .i64 0) ∧ Below w.heap.size w w') := hch
  have HF : Hid (∀ w : World, Calls Try.prog 13 #[.agg #[.int .u8 k, .int .i64 n, .string s]] w fun e w' => e = .returned (.agg #[.int .u8 k, .int .i64 n, .string s]) ∧ Below w.heap.size w w') := fix_good k n s h0 (by simpa using h)
  clear hch h h0
  go_enter Try.func3, Try.ntmps3
  go_wp2_with fail
  refine (alive_any _).mono ?_
  rintro e w1 ⟨rfl, hb1⟩
  have hz1 := hb1.size
  have c1 : ∀ o, w1.cell? ⟨w.heap.size, o, none⟩ = _ := fun o => (bcell hb1).1 w.heap.size o (by simp)
  simp at hz1
  go_wp2_with fail
  refine (HO.out _).mono ?_
  rintro e w2 ⟨⟨v, rfl, hv⟩, hb2⟩
  have hz2 := hb2.size
  have c2 : ∀ o, w2.cell? ⟨w.heap.size, o, none⟩ = w1.cell? ⟨w.heap.size, o, none⟩ := fun o => (bcell hb2).1 w.heap.size o (by omega)
  go_wp2_with fail
  refine (HC.out _).mono ?_
  rintro e w3 ⟨rfl, hb3⟩
  have hz3 := hb3.size
  have c3 : ∀ o, w3.cell? ⟨w.heap.size, o, none⟩ = w2.cell? ⟨w.heap.size, o, none⟩ := fun o => (bcell hb3).1 w.heap.size o (by omega)
  go_wp2_with fail
  have d0 : w3.cell? ⟨w.heap.size, 0, none⟩ = some (.int .u8 k) := by rw [c3, c2, c1]; simp
  have d1 : w3.cell? ⟨w.heap.size, 1, none⟩ = some (.int .i64 n) := by rw [c3, c2, c1]; simp
  have d2 : w3.cell? ⟨w.heap.size, 2, none⟩ = some (.string s) := by rw [c3, c2, c1]; simp
  have z3 : w.heap.size < w3.heap.size := by omega
  have B3 : Hid (Below w.heap.size w w3) := ((((Below.refl _ _).alloc (Nat.le_refl _) _).trans (hb1.mono (by simp))).trans (hb2.mono (by omega))).trans (hb3.mono (by omega))
  clear c1 c2 c3 hz1 hz2 hz3 hb1 hb2 hb3
  go_region_held3 (fun w' => w'.cell? ⟨w.heap.size, 0, none⟩ = some (.int .u8 k) ∧ w'.cell? ⟨w.heap.size, 1, none⟩ = some (.int .i64 n) ∧ w'.cell? ⟨w.heap.size, 2, none⟩ = some (.string s) ∧ w.heap.size < w'.heap.size) (first | go_keep | (refine keep3 ?_ hb4; assumption) | (refine keep3 ?_ hb5; assumption)) (first | (go_at_call 12; refine (lawCell_any hv _).mono ?_; rintro e w4 ⟨rfl, hb4⟩) | (go_at_call 13; refine (HF.out _).mono ?_; rintro e w5 ⟨rfl, hb5⟩))
  rename_i hS5
  obtain ⟨y0, y1, y2, z5⟩ := hS5
  have B5 : Hid (Below w.heap.size w w5) := by
    have e4 := hb4.size
    simp at e4
    exact ((B3.out.drew).trans (hb4.mono (by simp; omega))).trans (hb5.mono (by omega))
  clear hb4 hb5 d0 d1 d2 z3 B3
  go_wp2_with fail
  refine (cell_any hv _).mono ?_
  rintro e w6 ⟨rfl, hb6⟩
  have q0 : w6.cell? ⟨w.heap.size, 0, none⟩ = some (.int .u8 k) := (hb6.cell (p := ⟨w.heap.size, 0, none⟩) z5).trans y0
  have q1 : w6.cell? ⟨w.heap.size, 1, none⟩ = some (.int .i64 n) := (hb6.cell (p := ⟨w.heap.size, 1, none⟩) z5).trans y1
  have q2 : w6.cell? ⟨w.heap.size, 2, none⟩ = some (.string s) := (hb6.cell (p := ⟨w.heap.size, 2, none⟩) z5).trans y2
  have z6 : w.heap.size < w6.heap.size := Nat.lt_of_lt_of_le z5 hb6.size
  have B6 : Hid (Below w.heap.size w w6) := B5.out.trans (hb6.mono (by omega))
  have HK : Hid (∀ w : World, Calls Try.prog 15 #[v] w fun e w' => e = .returned (.int .u8 k) ∧ w' = w) := fun w => KindOf_any hv w
  clear hb6 y0 y1 y2 z5 B5 hv
  go_wp2_with fail
  go_quiet ((go_at_call 15; exact Calls.quiet_of_same (HK.out _)))
  go_wp2
  go_ret
  exact ⟨rfl, below_drewN (B6.out.alloc (by omega) _) _⟩
set_option maxHeartbeats 2000000 in
theorem walk_bad (k n : Int) (s : ByteArray) (h0 : 0 ≤ k) (h : (flt k n s != 0) = true) (w : World) :
    Calls Try.prog 3 #[.agg #[.int .u8 k, .int .i64 n, .string s]] w fun e w' => e = .returned (.bool true) ∧ Below w.heap.size w w' := by
  have ho := of_bad k n s h
  have hch := check_any k n s h0
  have hfx := fix_bad k n s h0 h
  have hv := val_nil
  generalize flt k n s = f at *
  have HO : Hid (∀ w : World, Calls Try.prog 10 #[.agg #[.int .u8 k, .int .i64 n, .string s]] w fun e w' => e = .returned (.tuple #[.nilIface, .int .i64 f]) ∧ Below w.heap.size w w') := ho
  have HC : Hid (∀ w : World, Calls Try.prog 11 #[.agg #[.int .u8 k, .int .i64 n, .string s]] w fun e w' => e = .returned (.int .i64 f) ∧ Below w.heap.size w w') := hch
  have HF : Hid (∀ w : World, Calls Try.prog 13 #[.agg #[.int .u8 k, .int .i64 n, .string s]] w fun e w' => e = .returned (.agg #[.int .u8 0, .int .i64 0, .string ⟨#[]⟩]) ∧ Below w.heap.size w w') := hfx
  clear ho hch hfx h0
  go_enter Try.func3, Try.ntmps3
  go_wp2_with fail
  refine (alive_any _).mono ?_
  rintro e w1 ⟨rfl, hb1⟩
  have hz1 := hb1.size
  have c1 : ∀ o, w1.cell? ⟨w.heap.size, o, none⟩ = _ := fun o => (bcell hb1).1 w.heap.size o (by simp)
  simp at hz1
  go_wp2_with fail
  refine (HO.out _).mono ?_
  rintro e w2 ⟨rfl, hb2⟩
  have hz2 := hb2.size
  have c2 : ∀ o, w2.cell? ⟨w.heap.size, o, none⟩ = w1.cell? ⟨w.heap.size, o, none⟩ := fun o => (bcell hb2).1 w.heap.size o (by omega)
  go_wp2_with fail
  refine (HC.out _).mono ?_
  rintro e w3 ⟨rfl, hb3⟩
  have hz3 := hb3.size
  have c3 : ∀ o, w3.cell? ⟨w.heap.size, o, none⟩ = w2.cell? ⟨w.heap.size, o, none⟩ := fun o => (bcell hb3).1 w.heap.size o (by omega)
  go_wp2_with fail
  have d0 : w3.cell? ⟨w.heap.size, 0, none⟩ = some (.int .u8 k) := by rw [c3, c2, c1]; simp
  have d1 : w3.cell? ⟨w.heap.size, 1, none⟩ = some (.int .i64 n) := by rw [c3, c2, c1]; simp
  have d2 : w3.cell? ⟨w.heap.size, 2, none⟩ = some (.string s) := by rw [c3, c2, c1]; simp
  have z3 : w.heap.size < w3.heap.size := by omega
  have B3 : Hid (Below w.heap.size w w3) := ((((Below.refl _ _).alloc (Nat.le_refl _) _).trans (hb1.mono (by simp))).trans (hb2.mono (by omega))).trans (hb3.mono (by omega))
  clear c1 c2 c3 hz1 hz2 hz3 hb1 hb2 hb3
  go_region_held3 (fun w' => w'.cell? ⟨w.heap.size, 0, none⟩ = some (.int .u8 k) ∧ w'.cell? ⟨w.heap.size, 1, none⟩ = some (.int .i64 n) ∧ w'.cell? ⟨w.heap.size, 2, none⟩ = some (.string s) ∧ w.heap.size < w'.heap.size) (first | go_keep | (refine keep3 ?_ hb4; assumption) | (refine keep3 ?_ hb5; assumption)) (first | (go_at_call 12; refine (lawCell_any hv _).mono ?_; rintro e w4 ⟨rfl, hb4⟩) | (go_at_call 13; refine (HF.out _).mono ?_; rintro e w5 ⟨rfl, hb5⟩))
  rename_i hS5
  obtain ⟨y0, y1, y2, z5⟩ := hS5
  have B5 : Hid (Below w.heap.size w w5) := by
    have e4 := hb4.size
    simp at e4
    exact ((B3.out.drew).trans (hb4.mono (by simp; omega))).trans (hb5.mono (by omega))
  clear hb4 hb5 d0 d1 d2 z3 B3
  go_wp2_with fail
  refine (cell_any hv _).mono ?_
  rintro e w6 ⟨rfl, hb6⟩
  have q0 : w6.cell? ⟨w.heap.size, 0, none⟩ = some (.int .u8 k) := (hb6.cell (p := ⟨w.heap.size, 0, none⟩) z5).trans y0
  have q1 : w6.cell? ⟨w.heap.size, 1, none⟩ = some (.int .i64 n) := (hb6.cell (p := ⟨w.heap.size, 1, none⟩) z5).trans y1
  have q2 : w6.cell? ⟨w.heap.size, 2, none⟩ = some (.string s) := (hb6.cell (p := ⟨w.heap.size, 2, none⟩) z5).trans y2
  have z6 : w.heap.size < w6.heap.size := Nat.lt_of_lt_of_le z5 hb6.size
  have B6 : Hid (Below w.heap.size w w6) := B5.out.trans (hb6.mono (by omega))
  have HK : Hid (∀ w : World, Calls Try.prog 15 #[.nilIface] w fun e w' => e = .returned (.int .u8 0) ∧ w' = w) := fun w => KindOf_any hv w
  clear hb6 y0 y1 y2 z5 B5 hv
  go_wp2_with fail
  go_quiet ((go_at_call 15; exact Calls.quiet_of_same (HK.out _)))
  go_wp2
  go_ret
  exact ⟨rfl, below_drewN (B6.out.alloc (by omega) _) _⟩

theorem walk (k n : Int) (s : ByteArray) (h0 : 0 ≤ k) (w : World) :
    Calls Try.prog 3 #[.agg #[.int .u8 k, .int .i64 n, .string s]] w fun e w' => e = .returned (.bool true) ∧ Below w.heap.size w w' := by
  by_cases h : flt k n s = 0
  · exact walk_good k n s h0 h w
  · exact walk_bad k n s h0 (by simpa using h) w

set_option maxRecDepth 100000 in
theorem lifted (os : Os) (started : os.Started) (H : Type) (enc : TypeId × Value → H) :
    ReturnsInHanded {} Try.checked os 3 .any (Rows.valueCellsSpec.pre6 enc Try.prog Try.f3 Rows.valueCellsRow.domain false) (Rows.valueCellsSpec.post enc Try.prog Try.f3 false true false false) := by
  refine returnsInHanded_of_change (C := Try.checked) own started (by kernel_rfl) Try.func3
    (ChangeSpec.witness6 (enc := enc) (C := Try.checked) false ⟨#[], #[.agg #[.int .u8 0, .int .i64 0, .string ⟨#[]⟩]], []⟩ 8 (by kernel_rfl) (by kernel_rfl) (by kernel_rfl) (by kernel_rfl)) ?_
  intro W base args ds gs before hval0 hW hcnd _
  have hval : ∀ (j : Nat) t v, Try.f3.params[j]? = some t → args[j]? = some v → Value.okWide Try.prog W .any base t v := hval0
  have hW' := hW
  obtain ⟨p, q, hA0, hV, rfl, hfz, hnd⟩ := hW
  have hA : DataW.TrodAll enc Try.prog W 0 (fun _ => true) true Try.f3.params.toList args.toList ds p := hA0
  rw [Try.params3] at hA hval
  obtain ⟨v0, vs0, d0, ds0, p0, q0, hargs, rfl, rfl, h0, r0⟩ := trodAll_cons hA
  obtain ⟨rfl, rfl, rfl⟩ := trodAll_nil r0
  obtain rfl : args = #[v0] := by cases args; simp_all
  obtain ⟨rfl, rfl⟩ := trodVars_none hV
  obtain ⟨k, n, s, rfl, hk⟩ := open_cell (hval 0 24 v0 rfl rfl) h0
  have lt0 : ∀ x ∈ p0, x.block < W.heap.size := by obtain ⟨m, hm⟩ := h0; exact DataW.trod_lt m _ _ _ hm
  clear hA0 hval0
  refine (walk k n s hk W).mono fun e W' ⟨he, bel⟩ => ?_
  subst he
  exact ⟨_, rfl, _, _, _, [], _, [], hW', trodAll_mk1 (shut_bool Try.underlying4 _), (trodAll_cons_mk (Below.trod laidOut (by kernel_rfl) (of_decide_eq_true (by kernel_rfl)) h0 bel lt0) trodAll_mk0), rfl, bel.frame _, fun h => by cases h⟩

theorem proved : Rows.ValueCellsSaid :=
  OpenClaim.holds_of_wide 3 Try.f3 rfl rfl rfl rfl rfl rfl rfl ⟨rfl, rfl, rfl, rfl, rfl⟩ rfl rfl rfl rfl rfl (by kernel_rfl) Try.func3 (by kernel_rfl)
    (of_decide_eq_true (by kernel_rfl)) (by unfold Func.isWrapper; first | (rw [if_pos (by decide +kernel)]; kernel_rfl) | (rw [if_neg (by decide +kernel)]; exact ⟨rfl, rfl⟩))
    (fun os started H enc _ => lifted os started H enc)
end CellsLaw
theorem valueCells_holds : Rows.ValueCellsSaid := CellsLaw.proved
#print axioms valueCells_holds
end Go.Proofs.Ytamigccnkhoidaa
