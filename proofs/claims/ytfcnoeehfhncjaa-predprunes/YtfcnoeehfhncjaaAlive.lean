/- The first step of each law: the document's examples. -/
import Derived.Test.YtfcnoeehfhncjaaAl1
import Derived.Deep.CutRange
set_option linter.unusedVariables false
set_option linter.unusedSimpArgs false
namespace Go.Proofs.Ytfcnoeehfhncjaa
open Go.RowKit Go.Lib

set_option maxRecDepth 100000 in
set_option maxHeartbeats 16000000 in
theorem alive_any (w : World) : Calls Try.prog 6 #[] w fun e w' => e = .returned (.bool true) ∧ Below w.heap.size w w' := by
  go_enter Try.func6, Try.ntmps6
  go_wp2_with fail
  refine (two_any _).mono ?_
  rintro e w1 ⟨⟨v1, rfl, o1⟩, hb1⟩
  have HF1 := hidden o1.sf
  have HB1 := hidden hb1
  obtain ⟨a1, cap1, hv1, _, _⟩ := own_slice o1
  have hv1' : v1 = .slice a1 2 cap1 := hv1
  clear hv1
  subst hv1'
  clear o1 hb1
  have hb2 := below_one w1 (.cells #[.int .u32 1, .slice a1 2 cap1] 42)
  obtain ⟨c0, c1⟩ := cell_new2 w1 (.int .u32 1) (.slice a1 2 cap1) 42
  have hpS : w1.heap.size < (w1.alloc (.cells #[.int .u32 1, .slice a1 2 cap1] 42)).heap.size := by rw [World.size_alloc]; omega
  have HS1 : Hid (∀ U, Below (w1.alloc (.cells #[.int .u32 1, .slice a1 2 cap1] 42)).heap.size (w1.alloc (.cells #[.int .u32 1, .slice a1 2 cap1] 42)) U → Sf U (.slice a1 2 cap1) twoL ∧ w1.heap.size < U.heap.size ∧ U.cell? ⟨w1.heap.size, 0, none⟩ = some (.int .u32 1) ∧ U.cell? ⟨w1.heap.size, 1, none⟩ = some (.slice a1 2 cap1)) := hidden (fun U h => ⟨(HF1.out.kept hb2).kept h, Nat.lt_of_lt_of_le hpS h.size, (h.cell (p := ⟨w1.heap.size, 0, none⟩) hpS).trans c0, (h.cell (p := ⟨w1.heap.size, 1, none⟩) hpS).trans c1⟩)
  have HB2 := hidden (below_then HB1.out hb2)
  clear hb2 c0 c1 hpS HF1
  generalize hX1 : w1.alloc (.cells #[.int .u32 1, .slice a1 2 cap1] 42) = X1 at *
  have HL1 : Hid (Sv (X1.alloc (.cells #[.iface 2 (.int .i64 3), .iface 2 (.int .i64 5), .nilIface] 61)) (.slice (some ⟨X1.heap.size, 0, none⟩) 3 3) (vvals [cN 3, cN 5, nul])) := hidden (litV X1 [cN 3, cN 5, nul] (by decide)).sv
  have hb3 := below_one X1 (.cells #[.iface 2 (.int .i64 3), .iface 2 (.int .i64 5), .nilIface] 61)
  have HST1 := hidden (stats_any HL1.out (fun c hc => by
    simp only [List.mem_cons, List.not_mem_nil, or_false] at hc
    rcases hc with rfl | rfl | rfl
    · exact fineN 3 ⟨by omega, by omega⟩
    · exact fineN 5 ⟨by omega, by omega⟩
    · exact fine_nul) (by decide))
  rw [ex_s1] at HST1
  have HX3 := hidden hb3
  clear hb3
  go_wp2_with fail
  try rw [hX1]
  clear hX1
  refine HST1.out.mono ?_
  rintro e w2 ⟨rfl, hb2⟩
  have HX2 := hidden (below_then HX3.out hb2)
  clear hb2 HST1 HX3
  have hbA := below_one w2 (.cells #[.int .i64 3, .int .i64 1, .bool true, .bool true, .int .u8 1, .int .i64 3, .string ⟨#[]⟩, .int .u8 1, .int .i64 5, .string ⟨#[]⟩] 29)
  have hstA : Stb (w2.alloc (.cells #[.int .i64 3, .int .i64 1, .bool true, .bool true, .int .u8 1, .int .i64 3, .string ⟨#[]⟩, .int .u8 1, .int .i64 5, .string ⟨#[]⟩] 29)) w2.heap.size sA := Stb.new w2 sA
  have HSTA := hidden hstA
  have HXA := hidden (below_then HX2.out hbA)
  clear hbA hstA HX2
  have eA : aggS sA = .agg #[.int .i64 3, .int .i64 1, .bool true, .bool true, .int .u8 1, .int .i64 3, .string ⟨#[]⟩, .int .u8 1, .int .i64 5, .string ⟨#[]⟩] := rfl
  rw [eA]
  clear eA
  go_wp2_with fail
  refine (whole_any 7 _).mono ?_
  rintro e w3 ⟨rfl, hb3⟩
  have HXB := hidden (below_then HXA.out hb3)
  have HSTB := hidden (HSTA.out.kept hb3)
  clear hb3 HXA HSTA
  have hbP := below_one w3 (.cells #[.int .u8 1, .int .u32 1, .int .u8 1, .int .i64 7, .string ⟨#[]⟩, .slice none 0 0] 39)
  have hndP : NodeAt (w3.alloc (.cells #[.int .u8 1, .int .u32 1, .int .u8 1, .int .i64 7, .string ⟨#[]⟩, .slice none 0 0] 39)) w3.heap.size 0 1 1 (cN 7) (.slice none 0 0) := node_new w3 1 1 (cN 7) (.slice none 0 0)
  have HAL : Hid (Al (w3.alloc (.cells #[.int .u8 1, .int .u32 1, .int .u8 1, .int .i64 7, .string ⟨#[]⟩, .slice none 0 0] 39)) w1.heap.size w2.heap.size w3.heap.size a1 cap1) := hidden ⟨HS1.out _ (below_then HXB.out hbP), HSTB.out.kept hbP, hndP⟩
  have HBW := hidden (below_then HB2.out (below_then HXB.out hbP))
  clear hbP hndP HS1 HSTB HXB HB2
  generalize w1.heap.size = pS at *
  generalize w2.heap.size = pA at *
  obtain ⟨⟨s0, s1⟩, ⟨t0, t1, t2, t3, t4, t5, t6, t7, t8, t9⟩, u0, u1, u2, u3, u4, u5⟩ := HAL.out.facts
  have hbY := below_one (w3.alloc (.cells #[.int .u8 1, .int .u32 1, .int .u8 1, .int .i64 7, .string ⟨#[]⟩, .slice none 0 0] 39)) (.cells #[.int .i64 3, .int .i64 1, .bool true, .bool true, .int .u8 1, .int .i64 3, .string ⟨#[]⟩, .int .u8 1, .int .i64 5, .string ⟨#[]⟩] 29)
  have hss : Ss ((w3.alloc (.cells #[.int .u8 1, .int .u32 1, .int .u8 1, .int .i64 7, .string ⟨#[]⟩, .slice none 0 0] 39)).alloc (.cells #[.int .i64 3, .int .i64 1, .bool true, .bool true, .int .u8 1, .int .i64 3, .string ⟨#[]⟩, .int .u8 1, .int .i64 5, .string ⟨#[]⟩] 29)) (.slice (some ⟨(w3.alloc (.cells #[.int .u8 1, .int .u32 1, .int .u8 1, .int .i64 7, .string ⟨#[]⟩, .slice none 0 0] 39)).heap.size, 0, none⟩) 1 1) [sA] := ss_new (w3.alloc (.cells #[.int .u8 1, .int .u32 1, .int .u8 1, .int .i64 7, .string ⟨#[]⟩, .slice none 0 0] 39)) sA
  have HM1 := hidden (mayE (HAL.out.kept hbY) hss)
  have HXY := hidden hbY
  have HZ3 : Hid ((w3.alloc (.cells #[.int .u8 1, .int .u32 1, .int .u8 1, .int .i64 7, .string ⟨#[]⟩, .slice none 0 0] 39)).heap.size = w3.heap.size + 1) := hidden (World.size_alloc _ _)
  clear hbY hss
  rw [HZ3.out] at HM1
  go_wp2_with fail
  refine HM1.out.mono ?_
  rintro e w4 ⟨rfl, hb4⟩
  have HB4 := hidden (below_then (below_then HBW.out HXY.out) hb4)
  have HA4 := hidden ((HAL.out.kept HXY.out).kept hb4)
  clear hb4 s0 s1 t0 t1 t2 t3 t4 t5 t6 t7 t8 t9 u0 u1 u2 u3 u4 u5 HM1 HXY HAL HBW HL1
  generalize hpP : w3.heap.size = pP at *
  clear hpP HZ3
  have hfl := Flg.new w4 (true, true, false)
  have hbv := below_one w4 (.cells #[.bool true, .bool true, .bool false] 51)
  simp only at hfl
  have HV : Hid (∀ U, Below (w4.alloc (.cells #[.bool true, .bool true, .bool false] 51)).heap.size (w4.alloc (.cells #[.bool true, .bool true, .bool false] 51)) U → Al U pS pA pP a1 cap1 ∧ Flg U w4.heap.size (true, true, false)) := hidden (fun U h => ⟨(HA4.out.kept hbv).kept h, hfl.kept h⟩)
  have HBV := hidden (below_then HB4.out hbv)
  clear hfl hbv HA4 HB4
  go_wp2_with fail
  generalize hV : w4.alloc (.cells #[.bool true, .bool true, .bool false] 51) = V at *
  generalize hp4 : w4.heap.size = p4 at *
  clear hV hp4
  obtain ⟨⟨s0, s1⟩, ⟨t0, t1, t2, t3, t4, t5, t6, t7, t8, t9⟩, u0, u1, u2, u3, u4, u5⟩ := (HV.out V (Below.refl _ _)).1.facts
  have HWH : Hid (∀ U, Below V.heap.size V U → Calls Try.prog 20 #[.int .i64 9] U fun e w' => e = .returned (.agg #[.int .u8 1, .int .i64 9, .string ⟨#[]⟩]) ∧ Below V.heap.size V w' ∧ Below U.heap.size U w' ∧ (pA < w'.heap.size ∧ pA < w'.heap.size + 1 ∧ ¬ pA = w'.heap.size ∧ ¬ pA = w'.heap.size + 1 ∧ ¬ w'.heap.size = pA ∧ ¬ w'.heap.size + 1 = pA ∧ pS < w'.heap.size ∧ pS < w'.heap.size + 1 ∧ ¬ pS = w'.heap.size ∧ ¬ pS = w'.heap.size + 1 ∧ ¬ w'.heap.size = pS ∧ ¬ w'.heap.size + 1 = pS) ∧ (w'.cell? ⟨pS, 0, none⟩ = some (.int .u32 1) ∧ w'.cell? ⟨pS, 1, none⟩ = some (.slice a1 2 cap1) ∧ w'.cell? ⟨pA, 0, none⟩ = some (.int .i64 3) ∧ w'.cell? ⟨pA, 1, none⟩ = some (.int .i64 1) ∧ w'.cell? ⟨pA, 2, none⟩ = some (.bool true) ∧ w'.cell? ⟨pA, 3, none⟩ = some (.bool true) ∧ w'.cell? ⟨pA, 4, none⟩ = some (.int .u8 1) ∧ w'.cell? ⟨pA, 5, none⟩ = some (.int .i64 3) ∧ w'.cell? ⟨pA, 6, none⟩ = some (.string ⟨#[]⟩) ∧ w'.cell? ⟨pA, 7, none⟩ = some (.int .u8 1) ∧ w'.cell? ⟨pA, 8, none⟩ = some (.int .i64 5) ∧ w'.cell? ⟨pA, 9, none⟩ = some (.string ⟨#[]⟩))) := hidden (fun U hU => by
    refine (whole_any 9 U).mono ?_
    rintro e w6 ⟨rfl, hb6⟩
    have h7 := below_then hU hb6
    obtain ⟨⟨q1, q2⟩, q3, _⟩ := (HV.out _ h7).1.facts
    have hAz := (HV.out _ h7).1.2.1.at.1
    have hSz := (HV.out _ h7).1.1.2.1
    exact ⟨rfl, h7, hb6, ⟨by omega, by omega, by omega, by omega, by omega, by omega, by omega, by omega, by omega, by omega, by omega, by omega⟩, q1, q2, q3⟩)
  have HML : Hid (∀ U, Below V.heap.size V U → ∀ blk, Ss U (.slice (some ⟨blk, 0, none⟩) 1 1) [sA] → Calls Try.prog 17 #[.agg #[.int .u8 2, .int .u32 1, .int .u8 1, .int .i64 9, .string ⟨#[]⟩, .slice none 0 0], .agg #[.int .u32 1, .slice a1 2 cap1], .slice (some ⟨blk, 0, none⟩) 1 1] U fun e w' => e = .returned (.agg #[.bool false, .bool true, .bool true]) ∧ Below V.heap.size V w' ∧ Below U.heap.size U w' ∧ (pA < w'.heap.size ∧ pA < w'.heap.size + 1 ∧ ¬ pA = w'.heap.size ∧ ¬ pA = w'.heap.size + 1 ∧ ¬ w'.heap.size = pA ∧ ¬ w'.heap.size + 1 = pA ∧ pS < w'.heap.size ∧ pS < w'.heap.size + 1 ∧ ¬ pS = w'.heap.size ∧ ¬ pS = w'.heap.size + 1 ∧ ¬ w'.heap.size = pS ∧ ¬ w'.heap.size + 1 = pS) ∧ (w'.cell? ⟨pS, 0, none⟩ = some (.int .u32 1) ∧ w'.cell? ⟨pS, 1, none⟩ = some (.slice a1 2 cap1) ∧ w'.cell? ⟨pA, 0, none⟩ = some (.int .i64 3) ∧ w'.cell? ⟨pA, 1, none⟩ = some (.int .i64 1) ∧ w'.cell? ⟨pA, 2, none⟩ = some (.bool true) ∧ w'.cell? ⟨pA, 3, none⟩ = some (.bool true) ∧ w'.cell? ⟨pA, 4, none⟩ = some (.int .u8 1) ∧ w'.cell? ⟨pA, 5, none⟩ = some (.int .i64 3) ∧ w'.cell? ⟨pA, 6, none⟩ = some (.string ⟨#[]⟩) ∧ w'.cell? ⟨pA, 7, none⟩ = some (.int .u8 1) ∧ w'.cell? ⟨pA, 8, none⟩ = some (.int .i64 5) ∧ w'.cell? ⟨pA, 9, none⟩ = some (.string ⟨#[]⟩))) := hidden (fun U hU blk hs => by
    refine (mayL (HV.out U hU).1 hs).mono ?_
    rintro e w6 ⟨rfl, hb6⟩
    have h7 := below_then hU hb6
    obtain ⟨⟨q1, q2⟩, q3, _⟩ := (HV.out _ h7).1.facts
    have hAz := (HV.out _ h7).1.2.1.at.1
    have hSz := (HV.out _ h7).1.1.2.1
    exact ⟨rfl, h7, hb6, ⟨by omega, by omega, by omega, by omega, by omega, by omega, by omega, by omega, by omega, by omega, by omega, by omega⟩, q1, q2, q3⟩)
  have hAV := (HV.out V (Below.refl _ _)).1.2.1.at.1
  have hSV := (HV.out V (Below.refl _ _)).1.1.2.1
  have mA1 : pA < V.heap.size + 1 := by omega
  have mS1 : pS < V.heap.size + 1 := by omega
  have mA2 : ¬ pA = V.heap.size := by omega
  have mA3 : ¬ pA = V.heap.size + 1 := by omega
  have mA4 : ¬ V.heap.size = pA := by omega
  have mA5 : ¬ V.heap.size + 1 = pA := by omega
  have mS2 : ¬ pS = V.heap.size := by omega
  have mS3 : ¬ pS = V.heap.size + 1 := by omega
  have mS4 : ¬ V.heap.size = pS := by omega
  have mS5 : ¬ V.heap.size + 1 = pS := by omega
  have halA : ∀ (X : World) (o : Obj) (i : Nat), pA < X.heap.size → (X.alloc o).cell? ⟨pA, i, none⟩ = X.cell? ⟨pA, i, none⟩ := fun X o i h => (below_one X o).cell h
  have halS : ∀ (X : World) (o : Obj) (i : Nat), pS < X.heap.size → (X.alloc o).cell? ⟨pS, i, none⟩ = X.cell? ⟨pS, i, none⟩ := fun X o i h => (below_one X o).cell h
  go_cut [5] from 20 to 25 (fun s5 wx => ∃ p5, s5 = .pointer (some ⟨p5, 0, none⟩) ∧ Below V.heap.size V wx ∧ Flg wx p5 (false, true, true))
  case first =>
    go_region_held3 (fun w' => w'.cell? ⟨pS, 0, none⟩ = some (.int .u32 1) ∧ w'.cell? ⟨pS, 1, none⟩ = some (.slice a1 2 cap1) ∧ w'.cell? ⟨pA, 0, none⟩ = some (.int .i64 3) ∧ w'.cell? ⟨pA, 1, none⟩ = some (.int .i64 1) ∧ w'.cell? ⟨pA, 2, none⟩ = some (.bool true) ∧ w'.cell? ⟨pA, 3, none⟩ = some (.bool true) ∧ w'.cell? ⟨pA, 4, none⟩ = some (.int .u8 1) ∧ w'.cell? ⟨pA, 5, none⟩ = some (.int .i64 3) ∧ w'.cell? ⟨pA, 6, none⟩ = some (.string ⟨#[]⟩) ∧ w'.cell? ⟨pA, 7, none⟩ = some (.int .u8 1) ∧ w'.cell? ⟨pA, 8, none⟩ = some (.int .i64 5) ∧ w'.cell? ⟨pA, 9, none⟩ = some (.string ⟨#[]⟩)) (first | assumption | go_keep) (first
      | (go_at_call 20; refine (HWH.out _ ?_).mono ?_; (first | exact (Below.refl _ _).drew | exact below_drewN (Below.refl _ _) _ | exact below_then (below_drewN (Below.refl _ _) _) (below_one _ _) | exact below_then (below_then (below_drewN (Below.refl _ _) _) (below_one _ _)) (below_one _ _)); rintro e w6 ⟨rfl, hbV, hbU, ⟨nA0, nA1, nA2, nA3, nA4, nA5, nS0, nS1, nS2, nS3, nS4, nS5⟩, hkk⟩; have HbU := hidden hbU; clear hbU; (first | (have hF : Flg w6 V.heap.size (false, false, false) := (Flg.new0 V.drew).kept HbU.out; obtain ⟨⟨fa0, fa1, fa2⟩, ⟨fb0, fb1, fb2⟩, _⟩ := hF.facts; have HF6 := hidden hF; clear hF) | (have hF : Flg w6 V.heap.size (false, false, false) := ((Flg.new0 V.drew).kept (below_one _ _)).kept HbU.out; obtain ⟨⟨fa0, fa1, fa2⟩, ⟨fb0, fb1, fb2⟩, _⟩ := hF.facts; have HF6 := hidden hF; clear hF) | (have hF : Flg w6 (V.heap.size + 1) (false, false, false) := (Flg.new1 V.drew _).kept HbU.out; obtain ⟨⟨fa0, fa1, fa2⟩, ⟨fb0, fb1, fb2⟩, _⟩ := hF.facts; have HF6 := hidden hF; clear hF) | skip))
      | (go_at_call 17; refine (HML.out _ ?_ _ ?_).mono ?_; (first | exact hbV | exact below_then hbV (below_one _ _) | exact below_then (below_then hbV (below_one _ _)) (below_one _ _)); (first | exact ss_newA _ | exact ss_new1 _ _ | exact (ss_newA _).kept (below_one _ _) | exact (ss_newA V.drew).kept HbU.out | exact (ss_new1 V.drew _).kept HbU.out | exact ((ss_newA V.drew).kept (below_one _ _)).kept HbU.out | exact ((ss_newA V.drew).kept HbU.out).kept (below_one _ _) | exact ((ss_new1 V.drew _).kept HbU.out).kept (below_one _ _)); rintro e w7 ⟨rfl, hb7, hbU7, ⟨oA0, oA1, oA2, oA3, oA4, oA5, oS0, oS1, oS2, oS3, oS4, oS5⟩, hkk7⟩; (first | (have hG : Flg w7 w6.heap.size (false, false, false) := (Flg.new0 _).kept hbU7; obtain ⟨⟨ga0, ga1, ga2⟩, ⟨gb0, gb1, gb2⟩, _⟩ := hG.facts; have HG7 := hidden hG; clear hG) | (have hG : Flg w7 w6.heap.size (false, false, false) := ((Flg.new0 _).kept (below_one _ _)).kept hbU7; obtain ⟨⟨ga0, ga1, ga2⟩, ⟨gb0, gb1, gb2⟩, _⟩ := hG.facts; have HG7 := hidden hG; clear hG) | (have hG : Flg w7 (w6.heap.size + 1) (false, false, false) := (Flg.new1 _ _).kept hbU7; obtain ⟨⟨ga0, ga1, ga2⟩, ⟨gb0, gb1, gb2⟩, _⟩ := hG.facts; have HG7 := hidden hG; clear hG) | (have hG := HF6.out.kept hbU7; obtain ⟨⟨ga0, ga1, ga2⟩, ⟨gb0, gb1, gb2⟩, _⟩ := hG.facts; have HG7 := hidden hG; clear hG) | (have hG := (HF6.out.kept (below_one _ _)).kept hbU7; obtain ⟨⟨ga0, ga1, ga2⟩, ⟨gb0, gb1, gb2⟩, _⟩ := hG.facts; have HG7 := hidden hG; clear hG) | skip); clear hbU7))
    all_goals clear t0 t1 t2 t3 t4 t5 t6 t7 t8 t9 s0 s1 u0 u1 u2 u3 u4 u5 hkk hkk7
    all_goals go_wp2_with fail
    all_goals go_meet
    all_goals first
      | exact ⟨_, rfl, set3 hb7 (by first | omega | (have := hbV.size; omega)) _ _ _, HG7.out.put false true true⟩
      | exact ⟨_, rfl, below_then hb7 (below_one _ _), Flg.new w7 (false, true, true)⟩
  case rest =>
    obtain ⟨p5, rfl, hbc, hfc⟩ := hcut
    have HAC := hidden (HV.out _ hbc)
    have HFC := hidden hfc
    have HBC := hidden (below_then HBV.out hbc)
    clear hbc hfc s0 s1 t0 t1 t2 t3 t4 t5 t6 t7 t8 t9 u0 u1 u2 u3 u4 u5 HV HBV HWH HML halA halS hAV hSV mA1 mA2 mA3 mA4 mA5 mS1 mS2 mS3 mS4 mS5
    obtain ⟨⟨s0, s1⟩, ⟨t0, t1, t2, t3, t4, t5, t6, t7, t8, t9⟩, u0, u1, u2, u3, u4, u5⟩ := HAC.out.1.facts
    have hk1 := kids_one wc
    have hbk1 := below_one wc (.cells #[.int .u8 1, .int .u32 1, .int .u8 1, .int .i64 7, .string ⟨#[]⟩, .slice none 0 0] 39)
    generalize hK1 : wc.alloc (.cells #[.int .u8 1, .int .u32 1, .int .u8 1, .int .i64 7, .string ⟨#[]⟩, .slice none 0 0] 39) = K1 at *
    obtain ⟨⟨s0', s1'⟩, ⟨t0', t1', t2', t3', t4', t5', t6', t7', t8', t9'⟩, _⟩ := (HAC.out.1.kept hbk1).facts
    have hss := ss_newA K1
    have hbk2 := below_one K1 (.cells #[.int .i64 3, .int .i64 1, .bool true, .bool true, .int .u8 1, .int .i64 3, .string ⟨#[]⟩, .int .u8 1, .int .i64 5, .string ⟨#[]⟩] 29)
    generalize hK2 : K1.alloc (.cells #[.int .i64 3, .int .i64 1, .bool true, .bool true, .int .u8 1, .int .i64 3, .string ⟨#[]⟩, .int .u8 1, .int .i64 5, .string ⟨#[]⟩] 29) = K2 at *
    have HBK := hidden (below_then hbk1 hbk2)
    have HMN := hidden (mayNn (HAC.out.1.kept HBK.out) hss (hk1.kept hbk2))
    clear hk1 hbk1 hss hbk2
    go_wp2_with fail
    clear hK1 hK2 s0 s1 t0 t1 t2 t3 t4 t5 t6 t7 t8 t9 u0 u1 u2 u3 u4 u5 s0' s1' t0' t1' t2' t3' t4' t5' t6' t7' t8' t9'
    refine HMN.out.mono ?_
    rintro e w8 ⟨rfl, hb8⟩
    have HB8 := hidden (below_then HBC.out (below_then HBK.out hb8))
    have HA8 := hidden ((HAC.out.1.kept HBK.out).kept hb8)
    have HF48 := hidden ((HAC.out.2.kept HBK.out).kept hb8)
    have HF58 := hidden ((HFC.out.kept HBK.out).kept hb8)
    clear hb8 HAC HFC HBC HBK HMN
    have hf6 := Flg.new w8 (false, true, true)
    simp only at hf6
    have hb6 := below_one w8 (.cells #[.bool false, .bool true, .bool true] 51)
    have HM6 : Hid ((Al (w8.alloc (.cells #[.bool false, .bool true, .bool true] 51)) pS pA pP a1 cap1 ∧ Flg (w8.alloc (.cells #[.bool false, .bool true, .bool true] 51)) p4 (true, true, false)) ∧ Flg (w8.alloc (.cells #[.bool false, .bool true, .bool true] 51)) p5 (false, true, true) ∧ Flg (w8.alloc (.cells #[.bool false, .bool true, .bool true] 51)) w8.heap.size (false, true, true)) := hidden ⟨⟨HA8.out.kept hb6, HF48.out.kept hb6⟩, HF58.out.kept hb6, hf6⟩
    have HB6 := hidden (below_then HB8.out hb6)
    have hz6 : (w8.alloc (.cells #[.bool false, .bool true, .bool true] 51)).heap.size = w8.heap.size + 1 := World.size_alloc _ _
    have hlT : Sv ((w8.alloc (.cells #[.bool false, .bool true, .bool true] 51)).alloc (.cells #[.iface 9 (.string ⟨#[97, 98, 99, 100, 101, 102]⟩), .iface 9 (.string ⟨#[98]⟩)] 61)) (.slice (some ⟨w8.heap.size + 1, 0, none⟩) 2 2) (vvals [cT1, cT2]) := by
      have := (litV (w8.alloc (.cells #[.bool false, .bool true, .bool true] 51)) [cT1, cT2] (by decide)).sv
      rw [hz6] at this
      exact this
    have hbT := below_one (w8.alloc (.cells #[.bool false, .bool true, .bool true] 51)) (.cells #[.iface 9 (.string ⟨#[97, 98, 99, 100, 101, 102]⟩), .iface 9 (.string ⟨#[98]⟩)] 61)
    have HST2 := hidden (stats_any hlT (fun c hc => by
      simp only [List.mem_cons, List.not_mem_nil, or_false] at hc
      rcases hc with rfl | rfl
      · exact Or.inr (Or.inr (Or.inr ⟨_, rfl, by decide, fun x hx => by simp at hx; omega⟩))
      · exact Or.inr (Or.inr (Or.inr ⟨_, rfl, by decide, fun x hx => by simp at hx; omega⟩))) (by decide))
    rw [ex_s2] at HST2
    have HBT := hidden hbT
    clear hf6 hb6 hz6 hlT hbT HA8 HF48 HF58 HB8
    go_wp2_with fail
    refine HST2.out.mono ?_
    rintro e w9 ⟨rfl, hb9⟩
    have HX9 := hidden (below_then HBT.out hb9)
    have HB9 := hidden (below_then HB6.out HX9.out)
    clear hb9 HST2 HBT HB6
    have eT : aggS sT = .agg #[.int .i64 2, .int .i64 0, .bool true, .bool true, .int .u8 3, .int .i64 0, .string ⟨#[97, 98, 99, 100]⟩, .int .u8 3, .int .i64 0, .string ⟨#[98]⟩] := rfl
    rw [eT]
    clear eT
    have hbV8 := below_one w9 (.cells #[.int .i64 2, .int .i64 0, .bool true, .bool true, .int .u8 3, .int .i64 0, .string ⟨#[97, 98, 99, 100]⟩, .int .u8 3, .int .i64 0, .string ⟨#[98]⟩] 29)
    have hT8 : Stb (w9.alloc (.cells #[.int .i64 2, .int .i64 0, .bool true, .bool true, .int .u8 3, .int .i64 0, .string ⟨#[97, 98, 99, 100]⟩, .int .u8 3, .int .i64 0, .string ⟨#[98]⟩] 29)) w9.heap.size sT := Stb.new w9 sT
    have HV8 : Hid (∀ U, Below (w9.alloc (.cells #[.int .i64 2, .int .i64 0, .bool true, .bool true, .int .u8 3, .int .i64 0, .string ⟨#[97, 98, 99, 100]⟩, .int .u8 3, .int .i64 0, .string ⟨#[98]⟩] 29)).heap.size (w9.alloc (.cells #[.int .i64 2, .int .i64 0, .bool true, .bool true, .int .u8 3, .int .i64 0, .string ⟨#[97, 98, 99, 100]⟩, .int .u8 3, .int .i64 0, .string ⟨#[98]⟩] 29)) U → ((Al U pS pA pP a1 cap1 ∧ Flg U p4 (true, true, false)) ∧ Flg U p5 (false, true, true) ∧ Flg U w8.heap.size (false, true, true)) ∧ Stb U w9.heap.size sT) := hidden (fun U h => ⟨⟨⟨((HM6.out.1.1.kept HX9.out).kept hbV8).kept h, ((HM6.out.1.2.kept HX9.out).kept hbV8).kept h⟩, ((HM6.out.2.1.kept HX9.out).kept hbV8).kept h, ((HM6.out.2.2.kept HX9.out).kept hbV8).kept h⟩, hT8.kept h⟩)
    have HBV8 := hidden (below_then HB9.out hbV8)
    clear hbV8 hT8 HM6 HX9 HB9
    go_wp2_with fail
    generalize w9.alloc (.cells #[.int .i64 2, .int .i64 0, .bool true, .bool true, .int .u8 3, .int .i64 0, .string ⟨#[97, 98, 99, 100]⟩, .int .u8 3, .int .i64 0, .string ⟨#[98]⟩] 29) = V8 at *
    generalize w9.heap.size = p7 at *
    generalize w8.heap.size = p6 at *
    have HSS : Hid (∀ w', Below V8.heap.size V8 w' → w'.cell? ⟨pS, 0, none⟩ = some (.int .u32 1) ∧ w'.cell? ⟨pS, 1, none⟩ = some (.slice a1 2 cap1) ∧ w'.cell? ⟨pA, 0, none⟩ = some (.int .i64 3) ∧ w'.cell? ⟨pA, 1, none⟩ = some (.int .i64 1) ∧ w'.cell? ⟨pA, 2, none⟩ = some (.bool true) ∧ w'.cell? ⟨pA, 3, none⟩ = some (.bool true) ∧ w'.cell? ⟨pA, 4, none⟩ = some (.int .u8 1) ∧ w'.cell? ⟨pA, 5, none⟩ = some (.int .i64 3) ∧ w'.cell? ⟨pA, 6, none⟩ = some (.string ⟨#[]⟩) ∧ w'.cell? ⟨pA, 7, none⟩ = some (.int .u8 1) ∧ w'.cell? ⟨pA, 8, none⟩ = some (.int .i64 5) ∧ w'.cell? ⟨pA, 9, none⟩ = some (.string ⟨#[]⟩) ∧ w'.cell? ⟨pP, 0, none⟩ = some (.int .u8 1) ∧ w'.cell? ⟨pP, 1, none⟩ = some (.int .u32 1) ∧ w'.cell? ⟨pP, 2, none⟩ = some (.int .u8 1) ∧ w'.cell? ⟨pP, 3, none⟩ = some (.int .i64 7) ∧ w'.cell? ⟨pP, 4, none⟩ = some (.string ⟨#[]⟩) ∧ w'.cell? ⟨pP, 5, none⟩ = some (.slice none 0 0) ∧ w'.cell? ⟨p4, 0, none⟩ = some (.bool true) ∧ w'.cell? ⟨p4, 1, none⟩ = some (.bool true) ∧ w'.cell? ⟨p4, 2, none⟩ = some (.bool false) ∧ w'.cell? ⟨p5, 0, none⟩ = some (.bool false) ∧ w'.cell? ⟨p5, 1, none⟩ = some (.bool true) ∧ w'.cell? ⟨p5, 2, none⟩ = some (.bool true) ∧ w'.cell? ⟨p6, 0, none⟩ = some (.bool false) ∧ w'.cell? ⟨p6, 1, none⟩ = some (.bool true) ∧ w'.cell? ⟨p6, 2, none⟩ = some (.bool true) ∧ w'.cell? ⟨p7, 6, none⟩ = some (.string ⟨#[97, 98, 99, 100]⟩) ∧ w'.cell? ⟨p7, 9, none⟩ = some (.string ⟨#[98]⟩)) := hidden (fun w' h => by
      obtain ⟨⟨⟨hAl, hF4⟩, hF5, hF6⟩, hT⟩ := HV8.out w' h
      obtain ⟨⟨s0, s1⟩, ⟨t0, t1, t2, t3, t4, t5, t6, t7, t8, t9⟩, u0, u1, u2, u3, u4, u5⟩ := hAl.facts
      obtain ⟨⟨a0, a1', a2⟩, _, _⟩ := hF4.facts
      obtain ⟨⟨b0, b1, b2⟩, _, _⟩ := hF5.facts
      obtain ⟨⟨c0, c1, c2⟩, _, _⟩ := hF6.facts
      obtain ⟨_, _, ⟨_, _, d6⟩, _, _, d9⟩ := hT.at
      exact ⟨s0, s1, t0, t1, t2, t3, t4, t5, t6, t7, t8, t9, u0, u1, u2, u3, u4, u5, a0, a1', a2, b0, b1, b2, c0, c1, c2, d6, d9⟩)
    have HW3 : Hid (∀ U, Below V8.heap.size V8 U → Calls Try.prog 20 #[.int .i64 3] U fun e w' => e = .returned (.agg #[.int .u8 1, .int .i64 3, .string ⟨#[]⟩]) ∧ Below V8.heap.size V8 w' ∧ (w'.cell? ⟨pS, 0, none⟩ = some (.int .u32 1) ∧ w'.cell? ⟨pS, 1, none⟩ = some (.slice a1 2 cap1) ∧ w'.cell? ⟨pA, 0, none⟩ = some (.int .i64 3) ∧ w'.cell? ⟨pA, 1, none⟩ = some (.int .i64 1) ∧ w'.cell? ⟨pA, 2, none⟩ = some (.bool true) ∧ w'.cell? ⟨pA, 3, none⟩ = some (.bool true) ∧ w'.cell? ⟨pA, 4, none⟩ = some (.int .u8 1) ∧ w'.cell? ⟨pA, 5, none⟩ = some (.int .i64 3) ∧ w'.cell? ⟨pA, 6, none⟩ = some (.string ⟨#[]⟩) ∧ w'.cell? ⟨pA, 7, none⟩ = some (.int .u8 1) ∧ w'.cell? ⟨pA, 8, none⟩ = some (.int .i64 5) ∧ w'.cell? ⟨pA, 9, none⟩ = some (.string ⟨#[]⟩) ∧ w'.cell? ⟨pP, 0, none⟩ = some (.int .u8 1) ∧ w'.cell? ⟨pP, 1, none⟩ = some (.int .u32 1) ∧ w'.cell? ⟨pP, 2, none⟩ = some (.int .u8 1) ∧ w'.cell? ⟨pP, 3, none⟩ = some (.int .i64 7) ∧ w'.cell? ⟨pP, 4, none⟩ = some (.string ⟨#[]⟩) ∧ w'.cell? ⟨pP, 5, none⟩ = some (.slice none 0 0) ∧ w'.cell? ⟨p4, 0, none⟩ = some (.bool true) ∧ w'.cell? ⟨p4, 1, none⟩ = some (.bool true) ∧ w'.cell? ⟨p4, 2, none⟩ = some (.bool false) ∧ w'.cell? ⟨p5, 0, none⟩ = some (.bool false) ∧ w'.cell? ⟨p5, 1, none⟩ = some (.bool true) ∧ w'.cell? ⟨p5, 2, none⟩ = some (.bool true) ∧ w'.cell? ⟨p6, 0, none⟩ = some (.bool false) ∧ w'.cell? ⟨p6, 1, none⟩ = some (.bool true) ∧ w'.cell? ⟨p6, 2, none⟩ = some (.bool true) ∧ w'.cell? ⟨p7, 6, none⟩ = some (.string ⟨#[97, 98, 99, 100]⟩) ∧ w'.cell? ⟨p7, 9, none⟩ = some (.string ⟨#[98]⟩))) := hidden (fun U hU => by
      refine (whole_any 3 U).mono ?_
      rintro e w6 ⟨rfl, hb6⟩
      have h7 := below_then hU hb6
      exact ⟨rfl, h7, HSS.out _ h7⟩)
    have HW5 : Hid (∀ U, Below V8.heap.size V8 U → Calls Try.prog 20 #[.int .i64 5] U fun e w' => e = .returned (.agg #[.int .u8 1, .int .i64 5, .string ⟨#[]⟩]) ∧ Below V8.heap.size V8 w' ∧ (w'.cell? ⟨pS, 0, none⟩ = some (.int .u32 1) ∧ w'.cell? ⟨pS, 1, none⟩ = some (.slice a1 2 cap1) ∧ w'.cell? ⟨pA, 0, none⟩ = some (.int .i64 3) ∧ w'.cell? ⟨pA, 1, none⟩ = some (.int .i64 1) ∧ w'.cell? ⟨pA, 2, none⟩ = some (.bool true) ∧ w'.cell? ⟨pA, 3, none⟩ = some (.bool true) ∧ w'.cell? ⟨pA, 4, none⟩ = some (.int .u8 1) ∧ w'.cell? ⟨pA, 5, none⟩ = some (.int .i64 3) ∧ w'.cell? ⟨pA, 6, none⟩ = some (.string ⟨#[]⟩) ∧ w'.cell? ⟨pA, 7, none⟩ = some (.int .u8 1) ∧ w'.cell? ⟨pA, 8, none⟩ = some (.int .i64 5) ∧ w'.cell? ⟨pA, 9, none⟩ = some (.string ⟨#[]⟩) ∧ w'.cell? ⟨pP, 0, none⟩ = some (.int .u8 1) ∧ w'.cell? ⟨pP, 1, none⟩ = some (.int .u32 1) ∧ w'.cell? ⟨pP, 2, none⟩ = some (.int .u8 1) ∧ w'.cell? ⟨pP, 3, none⟩ = some (.int .i64 7) ∧ w'.cell? ⟨pP, 4, none⟩ = some (.string ⟨#[]⟩) ∧ w'.cell? ⟨pP, 5, none⟩ = some (.slice none 0 0) ∧ w'.cell? ⟨p4, 0, none⟩ = some (.bool true) ∧ w'.cell? ⟨p4, 1, none⟩ = some (.bool true) ∧ w'.cell? ⟨p4, 2, none⟩ = some (.bool false) ∧ w'.cell? ⟨p5, 0, none⟩ = some (.bool false) ∧ w'.cell? ⟨p5, 1, none⟩ = some (.bool true) ∧ w'.cell? ⟨p5, 2, none⟩ = some (.bool true) ∧ w'.cell? ⟨p6, 0, none⟩ = some (.bool false) ∧ w'.cell? ⟨p6, 1, none⟩ = some (.bool true) ∧ w'.cell? ⟨p6, 2, none⟩ = some (.bool true) ∧ w'.cell? ⟨p7, 6, none⟩ = some (.string ⟨#[97, 98, 99, 100]⟩) ∧ w'.cell? ⟨p7, 9, none⟩ = some (.string ⟨#[98]⟩))) := hidden (fun U hU => by
      refine (whole_any 5 U).mono ?_
      rintro e w6 ⟨rfl, hb6⟩
      have h7 := below_then hU hb6
      exact ⟨rfl, h7, HSS.out _ h7⟩)
    have HCH : Hid (∀ U, Below V8.heap.size V8 U → Calls Try.prog 14 #[.agg #[.int .u8 1, .int .u32 1, .int .u8 1, .int .i64 7, .string ⟨#[]⟩, .slice none 0 0], .agg #[.int .u32 1, .slice a1 2 cap1]] U fun e w' => e = .returned (.int .i64 0) ∧ Below V8.heap.size V8 w' ∧ (w'.cell? ⟨pS, 0, none⟩ = some (.int .u32 1) ∧ w'.cell? ⟨pS, 1, none⟩ = some (.slice a1 2 cap1) ∧ w'.cell? ⟨pA, 0, none⟩ = some (.int .i64 3) ∧ w'.cell? ⟨pA, 1, none⟩ = some (.int .i64 1) ∧ w'.cell? ⟨pA, 2, none⟩ = some (.bool true) ∧ w'.cell? ⟨pA, 3, none⟩ = some (.bool true) ∧ w'.cell? ⟨pA, 4, none⟩ = some (.int .u8 1) ∧ w'.cell? ⟨pA, 5, none⟩ = some (.int .i64 3) ∧ w'.cell? ⟨pA, 6, none⟩ = some (.string ⟨#[]⟩) ∧ w'.cell? ⟨pA, 7, none⟩ = some (.int .u8 1) ∧ w'.cell? ⟨pA, 8, none⟩ = some (.int .i64 5) ∧ w'.cell? ⟨pA, 9, none⟩ = some (.string ⟨#[]⟩) ∧ w'.cell? ⟨pP, 0, none⟩ = some (.int .u8 1) ∧ w'.cell? ⟨pP, 1, none⟩ = some (.int .u32 1) ∧ w'.cell? ⟨pP, 2, none⟩ = some (.int .u8 1) ∧ w'.cell? ⟨pP, 3, none⟩ = some (.int .i64 7) ∧ w'.cell? ⟨pP, 4, none⟩ = some (.string ⟨#[]⟩) ∧ w'.cell? ⟨pP, 5, none⟩ = some (.slice none 0 0) ∧ w'.cell? ⟨p4, 0, none⟩ = some (.bool true) ∧ w'.cell? ⟨p4, 1, none⟩ = some (.bool true) ∧ w'.cell? ⟨p4, 2, none⟩ = some (.bool false) ∧ w'.cell? ⟨p5, 0, none⟩ = some (.bool false) ∧ w'.cell? ⟨p5, 1, none⟩ = some (.bool true) ∧ w'.cell? ⟨p5, 2, none⟩ = some (.bool true) ∧ w'.cell? ⟨p6, 0, none⟩ = some (.bool false) ∧ w'.cell? ⟨p6, 1, none⟩ = some (.bool true) ∧ w'.cell? ⟨p6, 2, none⟩ = some (.bool true) ∧ w'.cell? ⟨p7, 6, none⟩ = some (.string ⟨#[97, 98, 99, 100]⟩) ∧ w'.cell? ⟨p7, 9, none⟩ = some (.string ⟨#[98]⟩))) := hidden (fun U hU => by
      refine (chkE (HV8.out U hU).1.1.1).mono ?_
      rintro e w6 ⟨rfl, hb6⟩
      have h7 := below_then hU hb6
      exact ⟨rfl, h7, HSS.out _ h7⟩)
    have HEV : Hid (∀ U, Below V8.heap.size V8 U → ∀ rv, Sv U rv (vvals [cN 7, nul]) → Calls Try.prog 18 #[.agg #[.int .u8 1, .int .u32 1, .int .u8 1, .int .i64 7, .string ⟨#[]⟩, .slice none 0 0], .agg #[.int .u32 1, .slice a1 2 cap1], rv] U fun e w' => e = .returned (.int .u8 2) ∧ Below V8.heap.size V8 w' ∧ (w'.cell? ⟨pS, 0, none⟩ = some (.int .u32 1) ∧ w'.cell? ⟨pS, 1, none⟩ = some (.slice a1 2 cap1) ∧ w'.cell? ⟨pA, 0, none⟩ = some (.int .i64 3) ∧ w'.cell? ⟨pA, 1, none⟩ = some (.int .i64 1) ∧ w'.cell? ⟨pA, 2, none⟩ = some (.bool true) ∧ w'.cell? ⟨pA, 3, none⟩ = some (.bool true) ∧ w'.cell? ⟨pA, 4, none⟩ = some (.int .u8 1) ∧ w'.cell? ⟨pA, 5, none⟩ = some (.int .i64 3) ∧ w'.cell? ⟨pA, 6, none⟩ = some (.string ⟨#[]⟩) ∧ w'.cell? ⟨pA, 7, none⟩ = some (.int .u8 1) ∧ w'.cell? ⟨pA, 8, none⟩ = some (.int .i64 5) ∧ w'.cell? ⟨pA, 9, none⟩ = some (.string ⟨#[]⟩) ∧ w'.cell? ⟨pP, 0, none⟩ = some (.int .u8 1) ∧ w'.cell? ⟨pP, 1, none⟩ = some (.int .u32 1) ∧ w'.cell? ⟨pP, 2, none⟩ = some (.int .u8 1) ∧ w'.cell? ⟨pP, 3, none⟩ = some (.int .i64 7) ∧ w'.cell? ⟨pP, 4, none⟩ = some (.string ⟨#[]⟩) ∧ w'.cell? ⟨pP, 5, none⟩ = some (.slice none 0 0) ∧ w'.cell? ⟨p4, 0, none⟩ = some (.bool true) ∧ w'.cell? ⟨p4, 1, none⟩ = some (.bool true) ∧ w'.cell? ⟨p4, 2, none⟩ = some (.bool false) ∧ w'.cell? ⟨p5, 0, none⟩ = some (.bool false) ∧ w'.cell? ⟨p5, 1, none⟩ = some (.bool true) ∧ w'.cell? ⟨p5, 2, none⟩ = some (.bool true) ∧ w'.cell? ⟨p6, 0, none⟩ = some (.bool false) ∧ w'.cell? ⟨p6, 1, none⟩ = some (.bool true) ∧ w'.cell? ⟨p6, 2, none⟩ = some (.bool true) ∧ w'.cell? ⟨p7, 6, none⟩ = some (.string ⟨#[97, 98, 99, 100]⟩) ∧ w'.cell? ⟨p7, 9, none⟩ = some (.string ⟨#[98]⟩))) := hidden (fun U hU rv hr => by
      refine (evE (HV8.out U hU).1.1.1 hr).mono ?_
      rintro e w6 ⟨rfl, hb6⟩
      have h7 := below_then hU hb6
      exact ⟨rfl, h7, HSS.out _ h7⟩)
    have hkk0 := HSS.out V8 (Below.refl _ _)
    have hq1 := eq51 true true false
    have hq2 := eq51 false true true
    go_region_held3 (fun w' => w'.cell? ⟨pS, 0, none⟩ = some (.int .u32 1) ∧ w'.cell? ⟨pS, 1, none⟩ = some (.slice a1 2 cap1) ∧ w'.cell? ⟨pA, 0, none⟩ = some (.int .i64 3) ∧ w'.cell? ⟨pA, 1, none⟩ = some (.int .i64 1) ∧ w'.cell? ⟨pA, 2, none⟩ = some (.bool true) ∧ w'.cell? ⟨pA, 3, none⟩ = some (.bool true) ∧ w'.cell? ⟨pA, 4, none⟩ = some (.int .u8 1) ∧ w'.cell? ⟨pA, 5, none⟩ = some (.int .i64 3) ∧ w'.cell? ⟨pA, 6, none⟩ = some (.string ⟨#[]⟩) ∧ w'.cell? ⟨pA, 7, none⟩ = some (.int .u8 1) ∧ w'.cell? ⟨pA, 8, none⟩ = some (.int .i64 5) ∧ w'.cell? ⟨pA, 9, none⟩ = some (.string ⟨#[]⟩) ∧ w'.cell? ⟨pP, 0, none⟩ = some (.int .u8 1) ∧ w'.cell? ⟨pP, 1, none⟩ = some (.int .u32 1) ∧ w'.cell? ⟨pP, 2, none⟩ = some (.int .u8 1) ∧ w'.cell? ⟨pP, 3, none⟩ = some (.int .i64 7) ∧ w'.cell? ⟨pP, 4, none⟩ = some (.string ⟨#[]⟩) ∧ w'.cell? ⟨pP, 5, none⟩ = some (.slice none 0 0) ∧ w'.cell? ⟨p4, 0, none⟩ = some (.bool true) ∧ w'.cell? ⟨p4, 1, none⟩ = some (.bool true) ∧ w'.cell? ⟨p4, 2, none⟩ = some (.bool false) ∧ w'.cell? ⟨p5, 0, none⟩ = some (.bool false) ∧ w'.cell? ⟨p5, 1, none⟩ = some (.bool true) ∧ w'.cell? ⟨p5, 2, none⟩ = some (.bool true) ∧ w'.cell? ⟨p6, 0, none⟩ = some (.bool false) ∧ w'.cell? ⟨p6, 1, none⟩ = some (.bool true) ∧ w'.cell? ⟨p6, 2, none⟩ = some (.bool true) ∧ w'.cell? ⟨p7, 6, none⟩ = some (.string ⟨#[97, 98, 99, 100]⟩) ∧ w'.cell? ⟨p7, 9, none⟩ = some (.string ⟨#[98]⟩)) (first | assumption | go_keep) (first
      | (go_at_call 20; refine (HW3.out _ ?_).mono ?_; (first | exact hbV | exact (Below.refl _ _).drew | exact below_drewN (Below.refl _ _) _); rintro e w10 ⟨rfl, hbV, hkk⟩)
      | (go_at_call 20; refine (HW5.out _ ?_).mono ?_; exact hbV; rintro e w11 ⟨rfl, hbV, hkk2⟩)
      | (go_at_call 14; refine (HCH.out _ ?_).mono ?_; exact hbV; rintro e w12 ⟨rfl, hbV, hkk3⟩)
      | (go_at_call 18; refine (HEV.out _ ?_ _ ?_).mono ?_; exact below_then hbV (below_one _ _); exact lit7 _; rintro e w13 ⟨rfl, hbV, hkk4⟩))
    all_goals clear hkk hkk2 hkk3 hkk4 hkk0 hq1 hq2
    all_goals go_wp2_with fail
    all_goals go_ret
    all_goals exact ⟨rfl, below_then HBV8.out hbV⟩
end Go.Proofs.Ytfcnoeehfhncjaa
