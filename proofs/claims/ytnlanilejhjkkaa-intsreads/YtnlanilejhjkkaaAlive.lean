/- Contracts: the document's examples. -/
import Derived.Test.YtnlanilejhjkkaaSame
set_option linter.unusedVariables false
set_option linter.unusedSimpArgs false
namespace Go.Proofs.Ytnlanilejhjkkaa
open Go.RowKit Go.Lib

theorem litI (w : World) (l : List Int) (hl : l.length ≤ 256) : OwnI (w.alloc (.cells (ivals l).toArray 2)) w.heap.size (.slice (some ⟨w.heap.size, 0, none⟩) l.length l.length) l :=
  World.ownsRow_lit (e := 2) (size := 1) w (ivals l).toArray l.length (base := w.heap.size) (Nat.le_refl _) (by unfold maxLen; omega) (by simp [ivals])

theorem lit564 (w : World) : Sv (w.alloc (.cells #[.int .i64 5, .int .i64 6, .int .i64 4] 2)) (.slice (some ⟨w.heap.size, 0, none⟩) 3 3) (ivals [5, 6, 4]) := (litI w [5, 6, 4] (by decide)).sv
theorem lit929 (w : World) : Sv (w.alloc (.cells #[.int .i64 9, .int .i64 2, .int .i64 9] 2)) (.slice (some ⟨w.heap.size, 0, none⟩) 3 3) (ivals [9, 2, 9]) := (litI w [9, 2, 9] (by decide)).sv
theorem lit898 (w : World) : Sv (w.alloc (.cells #[.int .i64 8, .int .i64 9, .int .i64 8] 2)) (.slice (some ⟨w.heap.size, 0, none⟩) 3 3) (ivals [8, 9, 8]) := (litI w [8, 9, 8] (by decide)).sv
theorem lit777 (w : World) : Sv (w.alloc (.cells #[.int .i64 7, .int .i64 7, .int .i64 7] 2)) (.slice (some ⟨w.heap.size, 0, none⟩) 3 3) (ivals [7, 7, 7]) := (litI w [7, 7, 7] (by decide)).sv

theorem below_then {a w w2 : World} (h : Below a.heap.size a w) (h2 : Below w.heap.size w w2) : Below a.heap.size a w2 := h.trans (h2.mono h.size)

set_option maxRecDepth 100000 in
set_option maxHeartbeats 4000000 in
theorem alive_any (w : World) : Calls Try.prog 9 #[] w fun e w' => e = .returned (.bool true) ∧ Below w.heap.size w w' := by
  have H1 := hidden (fun W => encode_any (lit564 W) (is_small (by decide)) 1 (by decide))
  rw [show encM 1 [5, 6, 4] = [10, 2, 3] from ex1] at H1
  have H3 := hidden (fun W => encode_any (lit929 W) (is_small (by decide)) 3 (by decide))
  rw [show encM 3 [9, 2, 9] = [2, 4, 7, 5] from ex3] at H3
  have H4 := hidden (fun W => encode_any (lit898 W) (is_small (by decide)) 4 (by decide))
  rw [show encM 4 [8, 9, 8] = [16, 1, 2] from ex4] at H4
  have HB := hidden (fun W => best_any (lit777 W) (is_small (by decide)))
  rw [ex7] at HB
  go_enter Try.func9, Try.ntmps9
  go_wp2_with fail
  refine (H1.out _).mono ?_
  rintro e w1 ⟨⟨v1, rfl, o1⟩, hb1⟩
  have HS1 := hidden o1.sv
  have HB1 := hidden (below_then (below_alloc w _) hb1)
  clear o1 hb1
  go_wp2_with fail
  refine (H3.out _).mono ?_
  rintro e w2 ⟨⟨v2, rfl, o2⟩, hb2⟩
  have hab2 := below_then (below_alloc w1 _) hb2
  have HS1b := hidden (HS1.out.kept hab2)
  have HS2 := hidden o2.sv
  have HB2 := hidden (below_then HB1.out hab2)
  clear o2 hb2 hab2 HS1 HB1
  go_wp2_with fail
  refine (H4.out _).mono ?_
  rintro e w3 ⟨⟨v3, rfl, o3⟩, hb3⟩
  have hab3 := below_then (below_alloc w2 _) hb3
  have HS1c := hidden (HS1b.out.kept hab3)
  have HS2c := hidden (HS2.out.kept hab3)
  have HS3 := hidden o3.sv
  have HB3 := hidden (below_then HB2.out hab3)
  clear o3 hb3 hab3 HS1b HS2 HB2
  go_wp2_with fail
  refine (HB.out _).mono ?_
  rintro e w4 ⟨⟨v4, rfl, o4⟩, hb4⟩
  have hab4 := below_then (below_alloc w3 _) hb4
  have HS1d := hidden (HS1c.out.kept hab4)
  have HS2d := hidden (HS2c.out.kept hab4)
  have HS3d := hidden (HS3.out.kept hab4)
  have HS4 := hidden o4.sv
  have HB4 := hidden (below_then HB3.out hab4)
  have hrd := read_any HS4.out (by unfold Bs; decide) 3
  rw [exRead] at hrd
  have HRD := hidden hrd
  clear o4 hb4 hab4 HS1c HS2c HS3 HB3 hrd
  go_wp2_with fail
  refine HRD.out.mono ?_
  rintro e w5 ⟨⟨v5, rfl, o5⟩, hb5⟩
  have hc1 : (convert 24 9 v1).run Try.prog w5 = .ok (.string ⟨#[10, 2, 3]⟩) w5 := (HS1d.out.kept hb5).conv (by unfold Bs; decide)
  have hc2 : (convert 24 9 v2).run Try.prog w5 = .ok (.string ⟨#[2, 4, 7, 5]⟩) w5 := (HS2d.out.kept hb5).conv (by unfold Bs; decide)
  have hc3 : (convert 24 9 v3).run Try.prog w5 = .ok (.string ⟨#[16, 1, 2]⟩) w5 := (HS3d.out.kept hb5).conv (by unfold Bs; decide)
  have hc4 : (convert 24 9 v4).run Try.prog w5 = .ok (.string ⟨#[2, 14, 3]⟩) w5 := (HS4.out.kept hb5).conv (by unfold Bs; decide)
  have HS5 := hidden o5.sv
  have HB5 := hidden (below_then HB4.out hb5)
  clear o5 hb5 HS1d HS2d HS3d HS4 HB4
  go_wp2_with fail
  refine (same_any (HS5.out.kept (below_alloc w5 _)).si (lit777 w5).si).mono ?_
  rintro e w6 ⟨rfl, hb6⟩
  have HB6 := hidden (below_then HB5.out (below_then (below_alloc w5 _) hb6))
  clear hb6
  go_wp2_with fail
  go_ret
  exact ⟨rfl, HB6.out⟩
end Go.Proofs.Ytnlanilejhjkkaa
