/- Stats. -/
import Derived.Test.YtfcnoeehfhncjaaPs2
import Derived.Test.YtfcnoeehfhncjaaPs3
set_option linter.unusedVariables false
set_option linter.unusedSimpArgs false
namespace Go.Proofs.Ytfcnoeehfhncjaa
open Go.RowKit Go.Lib

def statM (cs : List Cl) : Stt := match nonN cs with
  | [] => ⟨cs.length, cs.length, false, false, nul, nul⟩
  | x :: r => ⟨cs.length, (cs.length : Int) - ((x :: r).length : Nat), true, (highM (maxC x r) ((x :: r).all cleanC)).2, lowM (minC x r) ((x :: r).all cleanC), (highM (maxC x r) ((x :: r).all cleanC)).1⟩
theorem Stb.kept {W W' : World} {p : Nat} {st : Stt} (h : Stb W p st) (hb : Below W.heap.size W W') : Stb W' p st := by
  have hp := h.at.1
  unfold Stb at *
  rw [hb.block p hp]
  exact h
theorem Stb.frozen {W : World} {p : Nat} {st : Stt} (h : Stb W p st) (i : Nat) : W.frozen? ⟨p, i, none⟩ = false := by
  unfold Stb at h
  simp [World.frozen?, h]
theorem Stb.lo {W : World} {p : Nat} {st : Stt} (h : Stb W p st) (c : Cl) : Stb (((W.setCell ⟨p, 4, none⟩ (.int .u8 (c.1 : Int))).setCell ⟨p, 5, none⟩ (.int .i64 c.2.1)).setCell ⟨p, 6, none⟩ (.string (bytesT c.2.2))) p { st with lo := c } := by
  unfold Stb at *
  rw [heap_set (heap_set (heap_set h 4 _) 5 _) 6 _]
  rfl
theorem Stb.other {W : World} {p q : Nat} {st : Stt} (h : Stb W q st) (hn : q ≠ p) (i : Nat) (v : Value) : Stb (W.setCell ⟨p, i, none⟩ v) q st := by
  unfold Stb at *
  rw [heap_setCell_other _ ⟨p, i, none⟩ q _ hn]
  exact h
theorem setB' {B : Nat} {w W : World} (h : Below B w W) {p : Nat} (hp : B ≤ p) (i : Nat) (x : Value) : Below B w (W.setCell ⟨p, i, none⟩ x) := h.setCell (p := ⟨p, i, none⟩) hp _
theorem set10 {B : Nat} {w W : World} (h : Below B w W) {p : Nat} (hp : B ≤ p) (x0 x1 x2 x3 x4 x5 x6 x7 x8 x9 : Value) : Below B w ((((((((((W.setCell ⟨p, 0, none⟩ x0).setCell ⟨p, 1, none⟩ x1).setCell ⟨p, 2, none⟩ x2).setCell ⟨p, 3, none⟩ x3).setCell ⟨p, 4, none⟩ x4).setCell ⟨p, 5, none⟩ x5).setCell ⟨p, 6, none⟩ x6).setCell ⟨p, 7, none⟩ x7).setCell ⟨p, 8, none⟩ x8).setCell ⟨p, 9, none⟩ x9) :=
  setB' (setB' (setB' (setB' (setB' (setB' (setB' (setB' (setB' (setB' h hp _ _) hp _ _) hp _ _) hp _ _) hp _ _) hp _ _) hp _ _) hp _ _) hp _ _) hp _ _
def stZ : Stt := ⟨0, 0, false, false, nul, nul⟩

set_option maxRecDepth 100000 in
set_option maxHeartbeats 8000000 in
theorem stats_any {w : World} {v : Value} {cs : List Cl} (hs : Sv w v (vvals cs)) (hf : ∀ c ∈ cs, Fine c) (hl : cs.length ≤ 1000) : Calls Try.prog 8 #[v] w fun e w' => e = .returned (aggS (statM cs)) ∧ Below w.heap.size w w' := by
  have HF := hidden hf
  have hz0 := Stb.new w stZ
  have hb0 := below_one w (.cells #[.int .i64 0, .int .i64 0, .bool false, .bool false, .int .u8 0, .int .i64 0, .string ⟨#[]⟩, .int .u8 0, .int .i64 0, .string ⟨#[]⟩] 29)
  have hz0' : Stb (w.alloc (.cells #[.int .i64 0, .int .i64 0, .bool false, .bool false, .int .u8 0, .int .i64 0, .string ⟨#[]⟩, .int .u8 0, .int .i64 0, .string ⟨#[]⟩] 29)) w.heap.size stZ := hz0
  have HSA := hidden (hs.kept hb0)
  obtain ⟨a, cap, rfl, hcap, hcm⟩ := hs.form1
  rw [vvals_length] at *
  have HZ0 := hidden hz0'
  have HB0 := hidden hb0
  have sA : (w.alloc (.cells #[.int .i64 0, .int .i64 0, .bool false, .bool false, .int .u8 0, .int .i64 0, .string ⟨#[]⟩, .int .u8 0, .int .i64 0, .string ⟨#[]⟩] 29)).heap.size = w.heap.size + 1 := World.size_alloc _ _
  have HSZ := hidden sA
  clear hs hf hz0 hb0 hz0' sA
  generalize hA : w.alloc (.cells #[.int .i64 0, .int .i64 0, .bool false, .bool false, .int .u8 0, .int .i64 0, .string ⟨#[]⟩, .int .u8 0, .int .i64 0, .string ⟨#[]⟩] 29) = A at *
  have HL := hidden hl
  clear hl
  go_enter Try.func8, Try.ntmps8
  go_wp2_with fail
  try rw [hA]
  refine (cloneV_any HSA.out HL.out).mono ?_
  rintro e w1 ⟨⟨v1, rfl, ho1⟩, hb1⟩
  have HO1 := hidden ho1
  have HB1 := hidden hb1
  clear ho1 hb1 hA
  go_wp2_with fail
  refine (deleteNull_any HO1.out HF.out HB1.out.size).mono ?_
  rintro e w2 ⟨⟨v2, rfl, hs2⟩, hb2⟩
  have HB2 := hidden (HB1.out.trans hb2)
  have HS2 := hidden hs2
  have HFN : Hid (∀ c ∈ nonN cs, Fine c) := hidden (fun c hc => HF.out c (by unfold nonN at hc; exact (List.mem_filter.1 hc).1))
  obtain ⟨a2, cap2, rfl, hcap2, hcm2⟩ := hs2.form1
  rw [vvals_length] at *
  have HST : Hid (statM cs = match nonN cs with
    | [] => ⟨cs.length, cs.length, false, false, nul, nul⟩
    | x :: r => ⟨cs.length, (cs.length : Int) - ((x :: r).length : Nat), true, (highM (maxC x r) ((x :: r).all cleanC)).2, lowM (minC x r) ((x :: r).all cleanC), (highM (maxC x r) ((x :: r).all cleanC)).1⟩) := hidden rfl
  have HNL : Hid ((nonN cs).length ≤ cs.length) := hidden (List.length_filter_le _ _)
  clear hb2 hs2 HO1 HB1 HSA
  generalize nonN cs = ns at *
  have HZ2 := hidden (HZ0.out.kept HB2.out)
  have HBW := hidden (below_then HB0.out HB2.out)
  have HW2 : Hid (w.heap.size < w2.heap.size) := hidden HZ2.out.at.1
  clear HZ0 HB0 HB2 hcm hcm2
  cases ns with
  | nil =>
    simp only at HST
    simp only [List.length_nil] at *
    have hSb := Stb.new w2 ⟨cs.length, cs.length, false, false, nul, nul⟩
    have hSb' : Stb (w2.alloc (.cells #[.int .i64 (cs.length : Int), .int .i64 (cs.length : Int), .bool false, .bool false, .int .u8 0, .int .i64 0, .string ⟨#[]⟩, .int .u8 0, .int .i64 0, .string ⟨#[]⟩] 29)) w2.heap.size ⟨cs.length, cs.length, false, false, nul, nul⟩ := hSb
    clear hSb
    have HSb := hidden hSb'
    have hbG := below_one w2 (.cells #[.int .i64 (cs.length : Int), .int .i64 (cs.length : Int), .bool false, .bool false, .int .u8 0, .int .i64 0, .string ⟨#[]⟩, .int .u8 0, .int .i64 0, .string ⟨#[]⟩] 29)
    have hZG := HZ2.out.kept hbG
    have hwr : wrap64 (cs.length : Int) = (cs.length : Int) := by have := HL.out; unfold wrap64; omega
    obtain ⟨_, ⟨r0, r1, r2, r3⟩, ⟨r4, r5, r6⟩, r7, r8, r9⟩ := HZ2.out.at
    obtain ⟨_, ⟨q0, q1, q2, q3⟩, ⟨q4, q5, q6⟩, q7, q8, q9⟩ := hZG.at
    simp only [Nat.zero_add] at r0 r1 r2 r3 r4 r5 r6 r7 r8 r9 q0 q1 q2 q3 q4 q5 q6 q7 q8 q9
    have fz := HZ2.out.frozen
    have fg := hZG.frozen
    have hw2 := HW2.out
    have hal : ∀ (X : World) (o : Obj) (i : Nat), w.heap.size < X.heap.size → (X.alloc o).cell? ⟨w.heap.size, i, none⟩ = X.cell? ⟨w.heap.size, i, none⟩ := fun X o i h => (below_one X o).cell h
    have hset := set10 HBW.out (Nat.le_refl _) (.int .i64 (cs.length : Int)) (.int .i64 (cs.length : Int)) (.bool false) (.bool false) (.int .u8 0) (.int .i64 0) (.string ⟨#[]⟩) (.int .u8 0) (.int .i64 0) (.string ⟨#[]⟩)
    have HSET := hidden hset
    clear hSb' hset hbG hZG
    go_wp2_with fail
    refine bodyPost_ret (v := .agg #[.int .i64 (cs.length : Int), .int .i64 (cs.length : Int), .bool false, .bool false, .int .u8 0, .int .i64 0, .string ⟨#[]⟩, .int .u8 0, .int .i64 0, .string ⟨#[]⟩]) (by simp [results, Try.results8, go_sem, hal, hw2, r0, r1, r2, r3, r4, r5, r6, r7, r8, r9]) rfl ⟨?_, ?_⟩
    · rw [HST.out]
      rfl
    · exact HSET.out.alloc HSET.out.size _
  | cons x r =>
    simp only at HST
    have hmp : (0 : Int) < ((x :: r).length : Int) := by simp only [List.length_cons]; omega
    have hgb : Stb (w2.alloc (.cells #[.int .i64 (cs.length : Int), .int .i64 ((cs.length : Int) - ((x :: r).length : Int)), .bool true, .bool false, .int .u8 0, .int .i64 0, .string ⟨#[]⟩, .int .u8 0, .int .i64 0, .string ⟨#[]⟩] 29)) w2.heap.size ⟨cs.length, (cs.length : Int) - ((x :: r).length : Int), true, false, nul, nul⟩ := Stb.new w2 ⟨cs.length, (cs.length : Int) - ((x :: r).length : Int), true, false, nul, nul⟩
    have hbG := below_one w2 (.cells #[.int .i64 (cs.length : Int), .int .i64 ((cs.length : Int) - ((x :: r).length : Int)), .bool true, .bool false, .int .u8 0, .int .i64 0, .string ⟨#[]⟩, .int .u8 0, .int .i64 0, .string ⟨#[]⟩] 29)
    have HGB := hidden hgb
    have HBG := hidden hbG
    have hwr : wrap64 ((cs.length : Int) - ((x :: r).length : Int)) = (cs.length : Int) - ((x :: r).length : Int) := by have := HL.out; have := HNL.out; unfold wrap64; omega
    have HSG : Hid (∀ U, Below w2.heap.size w2 U → Sv U (.slice a2 (x :: r).length cap2) (vvals (x :: r)) ∧ Stb U w.heap.size stZ) := hidden (fun U h => ⟨HS2.out.kept h, HZ2.out.kept h⟩)
    have HF0 : Hid (Fine x) := hidden (HFN.out x (by simp))
    have HFR : Hid (∀ c ∈ r, Fine c) := hidden (fun c hc => HFN.out c (by simp [hc]))
    have HFMI : Hid (Fine (minC x r)) := hidden (minC_mem HF0.out HFR.out)
    have HFMA : Hid (Fine (maxC x r)) := hidden (maxC_mem HF0.out HFR.out)
    have HUN := hidden (fun U (h : Below w2.heap.size w2 U) => hasUnclean_any (HSG.out U h).1 HFN.out)
    have HMI : Hid (∀ U, Below w2.heap.size w2 U → Calls Try.prog 29 #[.slice a2 (x :: r).length cap2, .func (.func 30) #[] #[]] U fun e w' => e = .returned (valC (minC x r)) ∧ Below U.heap.size U w') := hidden (fun U h => minF_any (HSG.out U h).1 HFN.out (by simp))
    have HMA : Hid (∀ U, Below w2.heap.size w2 U → Calls Try.prog 32 #[.slice a2 (x :: r).length cap2, .func (.func 30) #[] #[]] U fun e w' => e = .returned (valC (maxC x r)) ∧ Below U.heap.size U w') := hidden (fun U h => maxF_any (HSG.out U h).1 HFN.out (by simp))
    obtain ⟨cl, hcl⟩ : ∃ cl, cl = (x :: r).all cleanC := ⟨_, rfl⟩
    rw [← hcl] at HST HUN
    clear hcl hgb hbG
    generalize minC x r = mi at *
    generalize maxC x r = ma at *
    have HLO := hidden (lowBound_any HFMI.out cl)
    have HHI := hidden (highBound_any HFMA.out cl)
    generalize lowM mi cl = lo at *
    generalize highM ma cl = hi at *
    obtain ⟨hi, hib⟩ := hi
    simp only at HST HHI
    generalize hmm : (x :: r).length = m at *
    have hmn : 0 < m := by omega
    have hmd : decide (0 < m) = true := decide_eq_true hmn
    clear hmm
    obtain ⟨_, ⟨g0, g1, g2, g3⟩, ⟨g4, g5, g6⟩, g7, g8, g9⟩ := HGB.out.at
    simp only [Nat.zero_add] at g0 g1 g2 g3 g4 g5 g6 g7 g8 g9
    go_wp2_with fail
    refine (HUN.out _ HBG.out).mono ?_
    rintro e w3 ⟨rfl, hb3⟩
    have HB3 := hidden (below_then HBG.out hb3)
    have HG3 := hidden (HGB.out.kept hb3)
    clear hb3 g0 g1 g2 g3 g4 g5 g6 g7 g8 g9
    go_wp2_with fail
    refine (HMI.out _ HB3.out).mono ?_
    rintro e w4 ⟨rfl, hb4⟩
    have HB4 := hidden (below_then HB3.out hb4)
    have HG4 := hidden (HG3.out.kept hb4)
    clear hb4
    go_wp2_with fail
    refine (HLO.out _).mono ?_
    rintro e w5 ⟨rfl, hb5⟩
    have HB5 := hidden (below_then HB4.out hb5)
    have HG5 := hidden (HG4.out.kept hb5)
    clear hb5
    obtain ⟨_, ⟨g0, g1, g2, g3⟩, ⟨g4, g5, g6⟩, g7, g8, g9⟩ := HG5.out.at
    simp only [Nat.zero_add] at g0 g1 g2 g3 g4 g5 g6 g7 g8 g9
    have fg := HG5.out.frozen
    go_wp2_with fail
    have hb6 : Below w2.heap.size w2 (((w5.setCell ⟨w2.heap.size, 4, none⟩ (.int .u8 (lo.1 : Int))).setCell ⟨w2.heap.size, 5, none⟩ (.int .i64 lo.2.1)).setCell ⟨w2.heap.size, 6, none⟩ (.string (bytesT lo.2.2))) := setB' (setB' (setB' HB5.out (Nat.le_refl _) _ _) (Nat.le_refl _) _ _) (Nat.le_refl _) _ _
    have HB6 := hidden hb6
    have HG6 := hidden (HG5.out.lo lo)
    clear hb6 fg g0 g1 g2 g3 g4 g5 g6 g7 g8 g9
    refine (HMA.out _ HB6.out).mono ?_
    rintro e w7 ⟨rfl, hb7⟩
    have HB7 := hidden (below_then HB6.out hb7)
    have HG7 := hidden (HG6.out.kept hb7)
    clear hb7
    go_wp2_with fail
    refine (HHI.out _).mono ?_
    rintro e w8 ⟨rfl, hb8⟩
    have HB8 := hidden (below_then HB7.out hb8)
    have HG8 := hidden (HG7.out.kept hb8)
    clear hb8
    obtain ⟨_, ⟨g0, g1, g2, g3⟩, ⟨g4, g5, g6⟩, g7, g8, g9⟩ := HG8.out.at
    obtain ⟨_, ⟨r0, r1, r2, r3⟩, ⟨r4, r5, r6⟩, r7, r8, r9⟩ := (HSG.out _ HB8.out).2.at
    simp only [Nat.zero_add] at g0 g1 g2 g3 g4 g5 g6 g7 g8 g9 r0 r1 r2 r3 r4 r5 r6 r7 r8 r9
    have fg := HG8.out.frozen
    have fz := (HSG.out _ HB8.out).2.frozen
    have hne : ¬ w2.heap.size = w.heap.size := by have := HW2.out; omega
    have hne2 : ¬ w.heap.size = w2.heap.size := by have := HW2.out; omega
    have HBF := hidden (below_then HBW.out HB8.out)
    have HLE : Hid (w.heap.size ≤ w2.heap.size) := hidden (by have := HW2.out; omega)
    go_wp2_with fail
    refine bodyPost_ret (v := .agg #[.int .i64 (cs.length : Int), .int .i64 ((cs.length : Int) - (m : Int)), .bool true, .bool hib, .int .u8 (lo.1 : Int), .int .i64 lo.2.1, .string (bytesT lo.2.2), .int .u8 (hi.1 : Int), .int .i64 hi.2.1, .string (bytesT hi.2.2)]) (by simp [results, Try.results8, go_sem, hne, hne2, r0, r1, r2, r3, r4, r5, r6, r7, r8, r9]) rfl ⟨?_, ?_⟩
    · rw [HST.out]
      rfl
    · exact set10 (setB' (setB' (setB' (setB' HBF.out HLE.out _ _) HLE.out _ _) HLE.out _ _) HLE.out _ _) (Nat.le_refl _) _ _ _ _ _ _ _ _ _ _
end Go.Proofs.Ytfcnoeehfhncjaa
