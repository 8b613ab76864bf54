/- Flags of three answers: together, by Or. -/
import Derived.Test.YtfcnoeehfhncjaaPy
set_option linter.unusedVariables false
set_option linter.unusedSimpArgs false
namespace Go.Proofs.Ytfcnoeehfhncjaa
open Go.RowKit Go.Lib

set_option maxRecDepth 100000 in
set_option maxHeartbeats 8000000 in
theorem togO_any (a b : B3) (w : World) : Calls Try.prog 58 #[b3V a, b3V b, .func (.func 60) #[] #[]] w fun e w' => e = .returned (b3V (togO a b)) ∧ Below w.heap.size w w' := by
  have HTJ := hidden (togJ_max a b)
  generalize togO a b = R at *
  have HX : Hid (∀ x, getB a x = true ∨ getB a x = false) := hidden (fun x => by cases getB a x <;> simp)
  have hw1 := Flg.new w a
  have hb1 := below_one w (.cells #[.bool a.1, .bool a.2.1, .bool a.2.2] 51)
  have s1 : (w.alloc (.cells #[.bool a.1, .bool a.2.1, .bool a.2.2] 51)).heap.size = w.heap.size + 1 := World.size_alloc _ _
  generalize hA : w.alloc (.cells #[.bool a.1, .bool a.2.1, .bool a.2.2] 51) = A at *
  have hw2 := Flg.new A b
  have hb2 := below_one A (.cells #[.bool b.1, .bool b.2.1, .bool b.2.2] 51)
  have s2 : (A.alloc (.cells #[.bool b.1, .bool b.2.1, .bool b.2.2] 51)).heap.size = A.heap.size + 1 := World.size_alloc _ _
  generalize hB : A.alloc (.cells #[.bool b.1, .bool b.2.1, .bool b.2.2] 51) = B at *
  have hw3 := Flg.new B (false, false, false)
  have hb3 := below_one B (.cells #[.bool false, .bool false, .bool false] 51)
  have s3 : (B.alloc (.cells #[.bool false, .bool false, .bool false] 51)).heap.size = B.heap.size + 1 := World.size_alloc _ _
  simp only at hw3
  generalize hC : B.alloc (.cells #[.bool false, .bool false, .bool false] 51) = C at *
  have hw4 := Flg.new C (false, false, false)
  have hb4 := below_one C (.cells #[.bool false, .bool false, .bool false] 51)
  have s4 : (C.alloc (.cells #[.bool false, .bool false, .bool false] 51)).heap.size = C.heap.size + 1 := World.size_alloc _ _
  simp only at hw4
  generalize hD : C.alloc (.cells #[.bool false, .bool false, .bool false] 51) = D at *
  have HBD := hidden (below_then (below_then (below_then hb1 hb2) hb3) hb4)
  have HF1 := hidden (((hw1.kept hb2).kept hb3).kept hb4)
  have HF2 := hidden ((hw2.kept hb3).kept hb4)
  have HF3 := hidden (hw3.kept hb4)
  have HF4 := hidden hw4
  have HSZ : Hid (A.heap.size = w.heap.size + 1 ∧ B.heap.size = w.heap.size + 2 ∧ C.heap.size = w.heap.size + 3 ∧ D.heap.size = w.heap.size + 4) := hidden ⟨s1, by omega, by omega, by omega⟩
  clear hw1 hw2 hw3 hw4 hb1 hb2 hb3 hb4 s1 s2 s3 s4
  obtain ⟨⟨p0, p1, p2⟩, _, _⟩ := HF1.out.facts
  unfold b3V
  go_enter Try.func58, Try.ntmps58
  go_wp2_with fail
  clear hA hB hC hD p0 p1 p2
  go_loopw [13] (fun i wr => ∃ x : Nat, x ≤ 3 ∧ i = .int .i64 (x : Int) ∧ Flg wr C.heap.size (togJ max a b x) ∧ Fr C.heap.size D.heap.size D wr) (fun i _ => 3 - (intOf i).toNat)
  case atStart => exact ⟨0, by omega, rfl, HF4.out, Fr.refl _ _ _⟩
  case round =>
    obtain ⟨x, hx, rfl, hfl, hfr⟩ := hrel
    have HFL := hidden hfl
    have HFR := hidden hfr
    clear hfl hfr
    have HB2 : Hid (∀ U, Fr C.heap.size D.heap.size D U → Flg U A.heap.size b ∧ Flg U B.heap.size (false, false, false)) := hidden (fun U h => by
      have hz := HSZ.out
      unfold Flg
      have f2 := HF2.out
      have f3 := HF3.out
      unfold Flg at f2 f3
      rw [h.block A.heap.size (by omega) (by omega), h.block B.heap.size (by omega) (by omega)]
      exact ⟨f2, f3⟩)
    by_cases hx3 : x < 3
    · have hx3' : (x : Int) < 3 := by omega
      obtain ⟨⟨q0, q1, q2⟩, _, _⟩ := (HB2.out _ HFR.out).1.facts
      have HTX : Hid (togJ max a b (x + 1) = rowJ max a b x 3 (togJ max a b x)) := hidden rfl
      obtain ⟨T, hT⟩ : ∃ T, T = togJ max a b x := ⟨_, rfl⟩
      rw [← hT] at HTX HFL
      have HXA : Hid (∀ y, rowJ max a b x (y + 1) T = stepJ max a b x y (rowJ max a b x y T)) := hidden (fun y => rfl)
      clear hT
      have HROW : Hid (rowJ max a b x 0 T = T) := hidden rfl
      obtain ⟨a0, a1, a2⟩ := a
      obtain ⟨b0, b1, b2⟩ := b
      simp only at *
      generalize hrw : rowJ max (a0, a1, a2) (b0, b1, b2) x = RW at *
      clear hrw
      have ia0 := fun W => (idx3 (.bool a0) (.bool a1) (.bool a2) W).1
      have ia1 := fun W => (idx3 (.bool a0) (.bool a1) (.bool a2) W).2.1
      have ia2 := fun W => (idx3 (.bool a0) (.bool a1) (.bool a2) W).2.2
      have ib0 := fun W => (idx3 (.bool b0) (.bool b1) (.bool b2) W).1
      have ib1 := fun W => (idx3 (.bool b0) (.bool b1) (.bool b2) W).2.1
      have ib2 := fun W => (idx3 (.bool b0) (.bool b1) (.bool b2) W).2.2
      obtain rfl | rfl | rfl : x = 0 ∨ x = 1 ∨ x = 2 := by omega
      · clear hx hx3
        rw [show ((0 : Nat) : Int) = (0 : Int) from rfl]
        go_wp2_with fail
        clear q0 q1 q2
        go_loopw [18] (fun i wr' => ∃ y : Nat, y ≤ 3 ∧ i = .int .i64 (y : Int) ∧ Flg wr' C.heap.size (RW y T) ∧ Fr C.heap.size D.heap.size D wr') (fun i _ => 3 - (intOf i).toNat)
        case atStart => exact ⟨0, by omega, rfl, by rw [HROW.out]; exact HFL.out, HFR.out⟩
        case round =>
          obtain ⟨y, hy, rfl, hfl, hfr⟩ := hrel
          have HFL2 := hidden hfl
          have HFR2 := hidden hfr
          clear hfl hfr HFL HFR HROW
          by_cases hy3 : y < 3
          · have HY := hidden (HXA.out y)
            generalize RW y T = OUT at *
            generalize hyn : RW (y + 1) T = NX at *
            have HYN := hidden hyn
            clear hyn
            obtain ⟨⟨z0, z1, z2⟩, ⟨t0, t1, t2⟩, hp⟩ := HFL2.out.facts
            obtain rfl | rfl | rfl : y = 0 ∨ y = 1 ∨ y = 2 := by omega
            · clear hy hy3
              have HY2 := hidden HY.out
              unfold stepJ getB at HY2
              simp only [Nat.reduceEqDiff, if_true, if_false] at HY2
              have HJ : Hid (∀ W : World, Calls Try.prog 60 #[.int .u8 0, .int .u8 0] W fun e w' => e = .returned (.int .u8 0) ∧ w' = W) := hidden (fun W => orN (a := 0) (b := 0) (by omega) (by omega) W)
              cases a0
              · have HY3 : Hid (NX = OUT) := hidden (by rw [HY2.out]; rfl)
                go_wp2_with fail
                go_roundw
                case rel => exact ⟨0 + 1, by omega, by go_num, by rw [HYN.out, HY3.out]; exact HFL2.out, HFR2.out⟩
                case measure => simp [intOf]
              · cases b0
                · have HY3 : Hid (NX = OUT) := hidden (by rw [HY2.out]; rfl)
                  go_wp2_with fail
                  go_roundw
                  case rel => exact ⟨0 + 1, by omega, by go_num, by rw [HYN.out, HY3.out]; exact HFL2.out, HFR2.out⟩
                  case measure => simp [intOf]
                · have HY3 : Hid (NX = setB 0 OUT) := hidden (by rw [HY2.out]; rfl)
                  go_wp2_with fail
                  refine (HJ.out _).mono ?_
                  rintro e w3 ⟨rfl, rfl⟩
                  go_wp2_with fail
                  go_roundw
                  case rel => exact ⟨0 + 1, by omega, by go_num, by rw [HYN.out, HY3.out]; exact HFL2.out.set 0 (by omega), HFR2.out.set _ _⟩
                  case measure => simp [intOf]
            · clear hy hy3
              have HY2 := hidden HY.out
              unfold stepJ getB at HY2
              simp only [Nat.reduceEqDiff, if_true, if_false] at HY2
              have HJ : Hid (∀ W : World, Calls Try.prog 60 #[.int .u8 0, .int .u8 1] W fun e w' => e = .returned (.int .u8 1) ∧ w' = W) := hidden (fun W => orN (a := 0) (b := 1) (by omega) (by omega) W)
              cases a0
              · have HY3 : Hid (NX = OUT) := hidden (by rw [HY2.out]; rfl)
                go_wp2_with fail
                go_roundw
                case rel => exact ⟨1 + 1, by omega, by go_num, by rw [HYN.out, HY3.out]; exact HFL2.out, HFR2.out⟩
                case measure => simp [intOf]
              · cases b1
                · have HY3 : Hid (NX = OUT) := hidden (by rw [HY2.out]; rfl)
                  go_wp2_with fail
                  go_roundw
                  case rel => exact ⟨1 + 1, by omega, by go_num, by rw [HYN.out, HY3.out]; exact HFL2.out, HFR2.out⟩
                  case measure => simp [intOf]
                · have HY3 : Hid (NX = setB 1 OUT) := hidden (by rw [HY2.out]; rfl)
                  go_wp2_with fail
                  refine (HJ.out _).mono ?_
                  rintro e w3 ⟨rfl, rfl⟩
                  go_wp2_with fail
                  go_roundw
                  case rel => exact ⟨1 + 1, by omega, by go_num, by rw [HYN.out, HY3.out]; exact HFL2.out.set 1 (by omega), HFR2.out.set _ _⟩
                  case measure => simp [intOf]
            · clear hy hy3
              have HY2 := hidden HY.out
              unfold stepJ getB at HY2
              simp only [Nat.reduceEqDiff, if_true, if_false] at HY2
              have HJ : Hid (∀ W : World, Calls Try.prog 60 #[.int .u8 0, .int .u8 2] W fun e w' => e = .returned (.int .u8 2) ∧ w' = W) := hidden (fun W => orN (a := 0) (b := 2) (by omega) (by omega) W)
              cases a0
              · have HY3 : Hid (NX = OUT) := hidden (by rw [HY2.out]; rfl)
                go_wp2_with fail
                go_roundw
                case rel => exact ⟨2 + 1, by omega, by go_num, by rw [HYN.out, HY3.out]; exact HFL2.out, HFR2.out⟩
                case measure => simp [intOf]
              · cases b2
                · have HY3 : Hid (NX = OUT) := hidden (by rw [HY2.out]; rfl)
                  go_wp2_with fail
                  go_roundw
                  case rel => exact ⟨2 + 1, by omega, by go_num, by rw [HYN.out, HY3.out]; exact HFL2.out, HFR2.out⟩
                  case measure => simp [intOf]
                · have HY3 : Hid (NX = setB 2 OUT) := hidden (by rw [HY2.out]; rfl)
                  go_wp2_with fail
                  refine (HJ.out _).mono ?_
                  rintro e w3 ⟨rfl, rfl⟩
                  go_wp2_with fail
                  go_roundw
                  case rel => exact ⟨2 + 1, by omega, by go_num, by rw [HYN.out, HY3.out]; exact HFL2.out.set 2 (by omega), HFR2.out.set _ _⟩
                  case measure => simp [intOf]
          · obtain rfl : y = 3 := by omega
            rw [← HTX.out] at HFL2
            go_wp2_with fail
            go_roundw
            case rel => exact ⟨0 + 1, by omega, by go_num, HFL2.out, HFR2.out⟩
            case measure => simp [intOf]
      · clear hx hx3
        rw [show ((1 : Nat) : Int) = (1 : Int) from rfl]
        go_wp2_with fail
        clear q0 q1 q2
        go_loopw [18] (fun i wr' => ∃ y : Nat, y ≤ 3 ∧ i = .int .i64 (y : Int) ∧ Flg wr' C.heap.size (RW y T) ∧ Fr C.heap.size D.heap.size D wr') (fun i _ => 3 - (intOf i).toNat)
        case atStart => exact ⟨0, by omega, rfl, by rw [HROW.out]; exact HFL.out, HFR.out⟩
        case round =>
          obtain ⟨y, hy, rfl, hfl, hfr⟩ := hrel
          have HFL2 := hidden hfl
          have HFR2 := hidden hfr
          clear hfl hfr HFL HFR HROW
          by_cases hy3 : y < 3
          · have HY := hidden (HXA.out y)
            generalize RW y T = OUT at *
            generalize hyn : RW (y + 1) T = NX at *
            have HYN := hidden hyn
            clear hyn
            obtain ⟨⟨z0, z1, z2⟩, ⟨t0, t1, t2⟩, hp⟩ := HFL2.out.facts
            obtain rfl | rfl | rfl : y = 0 ∨ y = 1 ∨ y = 2 := by omega
            · clear hy hy3
              have HY2 := hidden HY.out
              unfold stepJ getB at HY2
              simp only [Nat.reduceEqDiff, if_true, if_false] at HY2
              have HJ : Hid (∀ W : World, Calls Try.prog 60 #[.int .u8 1, .int .u8 0] W fun e w' => e = .returned (.int .u8 1) ∧ w' = W) := hidden (fun W => orN (a := 1) (b := 0) (by omega) (by omega) W)
              cases a1
              · have HY3 : Hid (NX = OUT) := hidden (by rw [HY2.out]; rfl)
                go_wp2_with fail
                go_roundw
                case rel => exact ⟨0 + 1, by omega, by go_num, by rw [HYN.out, HY3.out]; exact HFL2.out, HFR2.out⟩
                case measure => simp [intOf]
              · cases b0
                · have HY3 : Hid (NX = OUT) := hidden (by rw [HY2.out]; rfl)
                  go_wp2_with fail
                  go_roundw
                  case rel => exact ⟨0 + 1, by omega, by go_num, by rw [HYN.out, HY3.out]; exact HFL2.out, HFR2.out⟩
                  case measure => simp [intOf]
                · have HY3 : Hid (NX = setB 1 OUT) := hidden (by rw [HY2.out]; rfl)
                  go_wp2_with fail
                  refine (HJ.out _).mono ?_
                  rintro e w3 ⟨rfl, rfl⟩
                  go_wp2_with fail
                  go_roundw
                  case rel => exact ⟨0 + 1, by omega, by go_num, by rw [HYN.out, HY3.out]; exact HFL2.out.set 1 (by omega), HFR2.out.set _ _⟩
                  case measure => simp [intOf]
            · clear hy hy3
              have HY2 := hidden HY.out
              unfold stepJ getB at HY2
              simp only [Nat.reduceEqDiff, if_true, if_false] at HY2
              have HJ : Hid (∀ W : World, Calls Try.prog 60 #[.int .u8 1, .int .u8 1] W fun e w' => e = .returned (.int .u8 1) ∧ w' = W) := hidden (fun W => orN (a := 1) (b := 1) (by omega) (by omega) W)
              cases a1
              · have HY3 : Hid (NX = OUT) := hidden (by rw [HY2.out]; rfl)
                go_wp2_with fail
                go_roundw
                case rel => exact ⟨1 + 1, by omega, by go_num, by rw [HYN.out, HY3.out]; exact HFL2.out, HFR2.out⟩
                case measure => simp [intOf]
              · cases b1
                · have HY3 : Hid (NX = OUT) := hidden (by rw [HY2.out]; rfl)
                  go_wp2_with fail
                  go_roundw
                  case rel => exact ⟨1 + 1, by omega, by go_num, by rw [HYN.out, HY3.out]; exact HFL2.out, HFR2.out⟩
                  case measure => simp [intOf]
                · have HY3 : Hid (NX = setB 1 OUT) := hidden (by rw [HY2.out]; rfl)
                  go_wp2_with fail
                  refine (HJ.out _).mono ?_
                  rintro e w3 ⟨rfl, rfl⟩
                  go_wp2_with fail
                  go_roundw
                  case rel => exact ⟨1 + 1, by omega, by go_num, by rw [HYN.out, HY3.out]; exact HFL2.out.set 1 (by omega), HFR2.out.set _ _⟩
                  case measure => simp [intOf]
            · clear hy hy3
              have HY2 := hidden HY.out
              unfold stepJ getB at HY2
              simp only [Nat.reduceEqDiff, if_true, if_false] at HY2
              have HJ : Hid (∀ W : World, Calls Try.prog 60 #[.int .u8 1, .int .u8 2] W fun e w' => e = .returned (.int .u8 2) ∧ w' = W) := hidden (fun W => orN (a := 1) (b := 2) (by omega) (by omega) W)
              cases a1
              · have HY3 : Hid (NX = OUT) := hidden (by rw [HY2.out]; rfl)
                go_wp2_with fail
                go_roundw
                case rel => exact ⟨2 + 1, by omega, by go_num, by rw [HYN.out, HY3.out]; exact HFL2.out, HFR2.out⟩
                case measure => simp [intOf]
              · cases b2
                · have HY3 : Hid (NX = OUT) := hidden (by rw [HY2.out]; rfl)
                  go_wp2_with fail
                  go_roundw
                  case rel => exact ⟨2 + 1, by omega, by go_num, by rw [HYN.out, HY3.out]; exact HFL2.out, HFR2.out⟩
                  case measure => simp [intOf]
                · have HY3 : Hid (NX = setB 2 OUT) := hidden (by rw [HY2.out]; rfl)
                  go_wp2_with fail
                  refine (HJ.out _).mono ?_
                  rintro e w3 ⟨rfl, rfl⟩
                  go_wp2_with fail
                  go_roundw
                  case rel => exact ⟨2 + 1, by omega, by go_num, by rw [HYN.out, HY3.out]; exact HFL2.out.set 2 (by omega), HFR2.out.set _ _⟩
                  case measure => simp [intOf]
          · obtain rfl : y = 3 := by omega
            rw [← HTX.out] at HFL2
            go_wp2_with fail
            go_roundw
            case rel => exact ⟨1 + 1, by omega, by go_num, HFL2.out, HFR2.out⟩
            case measure => simp [intOf]
      · clear hx hx3
        rw [show ((2 : Nat) : Int) = (2 : Int) from rfl]
        go_wp2_with fail
        clear q0 q1 q2
        go_loopw [18] (fun i wr' => ∃ y : Nat, y ≤ 3 ∧ i = .int .i64 (y : Int) ∧ Flg wr' C.heap.size (RW y T) ∧ Fr C.heap.size D.heap.size D wr') (fun i _ => 3 - (intOf i).toNat)
        case atStart => exact ⟨0, by omega, rfl, by rw [HROW.out]; exact HFL.out, HFR.out⟩
        case round =>
          obtain ⟨y, hy, rfl, hfl, hfr⟩ := hrel
          have HFL2 := hidden hfl
          have HFR2 := hidden hfr
          clear hfl hfr HFL HFR HROW
          by_cases hy3 : y < 3
          · have HY := hidden (HXA.out y)
            generalize RW y T = OUT at *
            generalize hyn : RW (y + 1) T = NX at *
            have HYN := hidden hyn
            clear hyn
            obtain ⟨⟨z0, z1, z2⟩, ⟨t0, t1, t2⟩, hp⟩ := HFL2.out.facts
            obtain rfl | rfl | rfl : y = 0 ∨ y = 1 ∨ y = 2 := by omega
            · clear hy hy3
              have HY2 := hidden HY.out
              unfold stepJ getB at HY2
              simp only [Nat.reduceEqDiff, if_true, if_false] at HY2
              have HJ : Hid (∀ W : World, Calls Try.prog 60 #[.int .u8 2, .int .u8 0] W fun e w' => e = .returned (.int .u8 2) ∧ w' = W) := hidden (fun W => orN (a := 2) (b := 0) (by omega) (by omega) W)
              cases a2
              · have HY3 : Hid (NX = OUT) := hidden (by rw [HY2.out]; rfl)
                go_wp2_with fail
                go_roundw
                case rel => exact ⟨0 + 1, by omega, by go_num, by rw [HYN.out, HY3.out]; exact HFL2.out, HFR2.out⟩
                case measure => simp [intOf]
              · cases b0
                · have HY3 : Hid (NX = OUT) := hidden (by rw [HY2.out]; rfl)
                  go_wp2_with fail
                  go_roundw
                  case rel => exact ⟨0 + 1, by omega, by go_num, by rw [HYN.out, HY3.out]; exact HFL2.out, HFR2.out⟩
                  case measure => simp [intOf]
                · have HY3 : Hid (NX = setB 2 OUT) := hidden (by rw [HY2.out]; rfl)
                  go_wp2_with fail
                  refine (HJ.out _).mono ?_
                  rintro e w3 ⟨rfl, rfl⟩
                  go_wp2_with fail
                  go_roundw
                  case rel => exact ⟨0 + 1, by omega, by go_num, by rw [HYN.out, HY3.out]; exact HFL2.out.set 2 (by omega), HFR2.out.set _ _⟩
                  case measure => simp [intOf]
            · clear hy hy3
              have HY2 := hidden HY.out
              unfold stepJ getB at HY2
              simp only [Nat.reduceEqDiff, if_true, if_false] at HY2
              have HJ : Hid (∀ W : World, Calls Try.prog 60 #[.int .u8 2, .int .u8 1] W fun e w' => e = .returned (.int .u8 2) ∧ w' = W) := hidden (fun W => orN (a := 2) (b := 1) (by omega) (by omega) W)
              cases a2
              · have HY3 : Hid (NX = OUT) := hidden (by rw [HY2.out]; rfl)
                go_wp2_with fail
                go_roundw
                case rel => exact ⟨1 + 1, by omega, by go_num, by rw [HYN.out, HY3.out]; exact HFL2.out, HFR2.out⟩
                case measure => simp [intOf]
              · cases b1
                · have HY3 : Hid (NX = OUT) := hidden (by rw [HY2.out]; rfl)
                  go_wp2_with fail
                  go_roundw
                  case rel => exact ⟨1 + 1, by omega, by go_num, by rw [HYN.out, HY3.out]; exact HFL2.out, HFR2.out⟩
                  case measure => simp [intOf]
                · have HY3 : Hid (NX = setB 2 OUT) := hidden (by rw [HY2.out]; rfl)
                  go_wp2_with fail
                  refine (HJ.out _).mono ?_
                  rintro e w3 ⟨rfl, rfl⟩
                  go_wp2_with fail
                  go_roundw
                  case rel => exact ⟨1 + 1, by omega, by go_num, by rw [HYN.out, HY3.out]; exact HFL2.out.set 2 (by omega), HFR2.out.set _ _⟩
                  case measure => simp [intOf]
            · clear hy hy3
              have HY2 := hidden HY.out
              unfold stepJ getB at HY2
              simp only [Nat.reduceEqDiff, if_true, if_false] at HY2
              have HJ : Hid (∀ W : World, Calls Try.prog 60 #[.int .u8 2, .int .u8 2] W fun e w' => e = .returned (.int .u8 2) ∧ w' = W) := hidden (fun W => orN (a := 2) (b := 2) (by omega) (by omega) W)
              cases a2
              · have HY3 : Hid (NX = OUT) := hidden (by rw [HY2.out]; rfl)
                go_wp2_with fail
                go_roundw
                case rel => exact ⟨2 + 1, by omega, by go_num, by rw [HYN.out, HY3.out]; exact HFL2.out, HFR2.out⟩
                case measure => simp [intOf]
              · cases b2
                · have HY3 : Hid (NX = OUT) := hidden (by rw [HY2.out]; rfl)
                  go_wp2_with fail
                  go_roundw
                  case rel => exact ⟨2 + 1, by omega, by go_num, by rw [HYN.out, HY3.out]; exact HFL2.out, HFR2.out⟩
                  case measure => simp [intOf]
                · have HY3 : Hid (NX = setB 2 OUT) := hidden (by rw [HY2.out]; rfl)
                  go_wp2_with fail
                  refine (HJ.out _).mono ?_
                  rintro e w3 ⟨rfl, rfl⟩
                  go_wp2_with fail
                  go_roundw
                  case rel => exact ⟨2 + 1, by omega, by go_num, by rw [HYN.out, HY3.out]; exact HFL2.out.set 2 (by omega), HFR2.out.set _ _⟩
                  case measure => simp [intOf]
          · obtain rfl : y = 3 := by omega
            rw [← HTX.out] at HFL2
            go_wp2_with fail
            go_roundw
            case rel => exact ⟨2 + 1, by omega, by go_num, HFL2.out, HFR2.out⟩
            case measure => simp [intOf]
    · obtain rfl : x = 3 := by omega
      have HE := hidden HTJ.out
      rw [HE.out] at HFL
      obtain ⟨⟨z0, z1, z2⟩, _, _⟩ := HFL.out.facts
      obtain ⟨⟨r0, r1, r2⟩, ⟨t0, t1, t2⟩, _⟩ := (HB2.out _ HFR.out).2.facts
      go_wp2_with fail
      refine bodyPost_ret (v := .agg #[.bool R.1, .bool R.2.1, .bool R.2.2]) (by simp [results, Try.results58, go_sem, r0, r1, r2]) rfl ⟨rfl, ?_⟩
      have hz := HSZ.out
      have hpz : w.heap.size ≤ B.heap.size := by omega
      refine (((?_ : Below w.heap.size w wr).setCell (p := ⟨B.heap.size, 0, none⟩) hpz _).setCell (p := ⟨B.heap.size, 1, none⟩) hpz _).setCell (p := ⟨B.heap.size, 2, none⟩) hpz _
      exact HBD.out.trans (HFR.out.below (by omega) (by omega))
end Go.Proofs.Ytfcnoeehfhncjaa
