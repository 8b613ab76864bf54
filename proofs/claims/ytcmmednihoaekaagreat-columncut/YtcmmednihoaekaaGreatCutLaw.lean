/- ColumnCut: for every byte, every list of cells, every cut and every list of bytes the law returns true: a column's bytes that are cut off, or have more behind them, are not read as so many values. No condition. -/
import Derived.Test.YtcmmednihoaekaaGreatLift
import Derived.Test.YtcmmednihoaekaaGreatOnly
set_option linter.unusedVariables false
namespace Go.Proofs.YtcmmednihoaekaaGreat
namespace CutLaw
open Go.ChangeShapes Go.WideShapes Go.ChangeAt Go.RowKit Go.Lib

set_option maxRecDepth 100000 in
set_option maxHeartbeats 4000000 in
theorem walk (c : Nat) (hc : c < 256) {v : Value} {l : List (Nat × Int × List Nat)} {w : World} (hl : Sc w v l ∧ ∀ c ∈ l, Okc c) (cut : Int) {vm : Value} {m : List Nat} (hm : Sv w vm (vals .u8 m) ∧ Bs m) (_ : World) :
    Calls Tryz.prog 6 #[.int .u8 (c : Int), v, .int .i64 cut, vm] w fun e w' => e = .returned (.bool true) ∧ Below w.heap.size w w' := by
  obtain ⟨hsm, hbm⟩ := hm
  have HM := hidden hsm
  have HBM := hidden hbm
  obtain ⟨am, capm, rfl, hcapm, hcmm⟩ := hsm.form1
  rw [vals_length] at *
  have hml : m.length ≤ 9223372036854775807 := by unfold maxLen at hcmm; omega
  clear hsm hbm hcmm
  obtain ⟨hs, hok⟩ := hl
  have HS := hidden hs
  obtain ⟨a, cap, rfl, _, _⟩ := hs.form
  obtain ⟨d, hd⟩ : ∃ d, c % 3 = d := ⟨_, rfl⟩
  have hd2 : d ≤ 2 := by omega
  have hdm : (c : Int) % 3 = (d : Int) := by omega
  have hdt : (c : Int).tmod 3 = (d : Int) := by rw [Int.tmod_eq_emod_of_nonneg (by omega)]; exact hdm
  obtain ⟨k, hk⟩ : ∃ k, 1 + d = k := ⟨_, rfl⟩
  have hk3 : 1 ≤ k ∧ k ≤ 3 := by omega
  have hkw : IntKind.u8.wrap (1 + (d : Int)) = (k : Int) := by rw [IntKind.wrap_u8]; omega
  have hke : 1 + (d : Int) = (k : Int) := by omega
  obtain ⟨X, hX⟩ : ∃ X, (l.take 256).map (onlyC k) = X := ⟨_, rfl⟩
  have HON := hidden (fun (W : World) (h : Sc W (.slice a l.length cap) l) => only_any h k)
  rw [hX] at HON
  have hcol : Col k X := by rw [← hX]; exact only_col hk3 hok
  have HCOL := hidden hcol
  have HP := hidden (only_written hcol)
  have hxl := hcol.2.1
  have hcz := (col_size hcol).1
  have HMORE : Hid (m ≠ [] → readC k (colM k X ++ m) X.length = none) := hidden (fun h => readC_more hcol h HBM.out)
  have HSAME := hidden (readC_back hcol)
  have HCUT := hidden (fun j hj => readC_cut hcol (c := j) hj)
  by_cases hbig : (m.length : Int) > 1000
  · clear hs hX hcol hok hd hk
    go_enter Tryz.func6, Tryz.ntmps6
    go_wp2_with fail
    refine (alive_any _).mono ?_
    rintro e w1 ⟨rfl, hb1⟩
    go_wp2_with fail
    go_ret
    exact ⟨rfl, hb1⟩
  · have HCB := hidden (col_size hcol).2
    clear hs hX hcol hok hd hk
    obtain ⟨CB, hCB⟩ : ∃ CB, colM k X = CB := ⟨_, rfl⟩
    rw [hCB] at hcz HMORE HSAME HCUT HP HCB
    clear hCB
    by_cases hcut : 0 ≤ cut ∧ cut < (CB.length : Int)
    · obtain ⟨j, rfl⟩ := Int.eq_ofNat_of_zero_le hcut.1
      have hj : j < CB.length := by omega
      have hj0 : (j : Int) ≥ 0 := by omega
      have hj1 : (j : Int) < (CB.length : Int) := by omega
      have HCK := hidden (HCUT.out j hj)
      clear hcut
      go_enter Tryz.func6, Tryz.ntmps6
      go_wp2_with fail
      refine (alive_any _).mono ?_
      rintro e w1 ⟨rfl, hb1⟩
      have HB1 := hidden hb1
      clear hb1
      go_wp2_with fail
      refine (HON.out _ (HS.out.kept HB1.out)).mono ?_
      rintro e w2 ⟨⟨v2, rfl, o2⟩, hb2⟩
      have HO2 := hidden o2
      have HB2 := hidden (below_then HB1.out hb2)
      obtain ⟨a2, c2, rfl, _, _⟩ := own_slice o2
      clear o2 hb2
      go_wp2_with fail
      refine ((HP.out).1 _ _ HO2.out.sc).mono ?_
      rintro e w3 ⟨⟨v3, rfl, o3⟩, hb3⟩
      have HO3 := hidden o3
      have HB3 := hidden (below_then HB2.out hb3)
      clear o3 hb3
      go_wp2_with fail
      refine ((HP.out).2 _ _ _ HO3.out).mono ?_
      rintro e w4 ⟨⟨v4, rfl, o4⟩, hb4⟩
      have HO4 := hidden o4
      have HB4 := hidden (below_then HB3.out hb4)
      have HM4 := hidden (HM.out.kept HB4.out)
      obtain ⟨a4, c4, rfl, hc4, hm4⟩ := own_slice o4
      have hm4' : c4 ≤ 9223372036854775807 := by unfold maxLen at hm4; omega
      clear o4 hb4 hm4
      have HRD := hidden (cread_any (b := CB.take j) (by rw [vals_take]; exact HO4.out.sv.take (k := j) (by rw [vals_length]; omega)) (HCB.out.take j) k (X.length : Int))
      go_wp2_with fail
      refine HRD.out.mono ?_
      rintro e w5 ⟨v5, l5, er5, rfl, o5, ht5, hb5⟩
      have hne5 := told_none hk3 hxl ht5 HCK.out
      have hne5' : ((er5 : Int) == 0) = false := by simpa using hne5
      have HO5 := hidden (HO4.out.kept hb5)
      have HM5 := hidden (HM4.out.kept hb5)
      have HB5 := hidden (below_then HB4.out hb5)
      clear o5 hb5 ht5 hne5
      have HLN := hidden (lit_none w5)
      have HBN := hidden (below_one w5 (.cells #[] 5))
      have HO6 := hidden (HO5.out.kept HBN.out)
      have HD1 : Hid (([] : List Nat).length + CB.length ≤ 140737488355328) := hidden (by rw [List.length_nil]; omega)
      have HD2 : Hid (w5.heap.size ≤ (w5.alloc (.cells #[] 5)).heap.size) := hidden (by rw [World.size_alloc]; omega)
      go_wp2_with (first | (at_builtin; refine wpList_append_sv rfl _ _ rfl w5.heap.size _ _ [] CB rfl HLN.out rfl HO6.out.sv HD1.out HD2.out ?_))
      intro v7 w7 o7 b7
      have o7' : OwnB w7 w5.heap.size v7 CB := o7
      have HB57 := hidden (HBN.out.trans b7)
      have HM7 := hidden (HM5.out.kept HB57.out)
      have HO7 := hidden o7'
      have hz7 := HB57.out.size
      have HE1 : Hid (CB.length + m.length ≤ 140737488355328) := hidden (by omega)
      clear o7 o7' b7
      go_wp2_with (first | (at_builtin; refine wpList_append_sv rfl _ _ rfl w5.heap.size _ _ CB m rfl HO7.out rfl HM7.out HE1.out hz7 ?_))
      intro v9 w9 o9 b9
      have HB9 := hidden (below_then HB5.out (HB57.out.trans b9))
      have HRM := hidden (cread_any (b := CB ++ m) o9.sv (HCB.out.append HBM.out) k (X.length : Int))
      clear o9 b9
      go_wp2_with fail
      refine HRM.out.mono ?_
      rintro e w10 ⟨v10, l10, er, rfl, o10, ht10, hb10⟩
      have HB10 := hidden (below_then HB9.out hb10)
      clear o10 hb10
      by_cases hm0 : m = []
      · subst hm0
        rw [List.append_nil] at ht10
        have her := told_some hk3 hxl ht10 HSAME.out
        subst her
        clear ht10
        go_wp2_with fail
        go_ret
        exact ⟨rfl, HB10.out⟩
      · have hne := told_none hk3 hxl ht10 (HMORE.out hm0)
        have hne' : ((er : Int) == 0) = false := by simpa using hne
        have hmp : ((m.length : Int) == 0) = false := by
          have : (m.length : Int) ≠ 0 := by have := List.length_pos_iff.2 hm0; omega
          simpa using this
        clear ht10 hne hm0
        go_wp2_with fail
        go_ret
        exact ⟨rfl, HB10.out⟩
    · have hdc : ¬ cut ≥ 0 ∨ (cut ≥ 0 ∧ ¬ cut < (CB.length : Int)) := by omega
      rcases hdc with hdc | ⟨hdc, hdc2⟩
      · clear hcut
        go_enter Tryz.func6, Tryz.ntmps6
        go_wp2_with fail
        refine (alive_any _).mono ?_
        rintro e w1 ⟨rfl, hb1⟩
        have HB1 := hidden hb1
        clear hb1
        go_wp2_with fail
        refine (HON.out _ (HS.out.kept HB1.out)).mono ?_
        rintro e w2 ⟨⟨v2, rfl, o2⟩, hb2⟩
        have HO2 := hidden o2
        have HB2 := hidden (below_then HB1.out hb2)
        obtain ⟨a2, c2, rfl, _, _⟩ := own_slice o2
        clear o2 hb2
        go_wp2_with fail
        refine ((HP.out).1 _ _ HO2.out.sc).mono ?_
        rintro e w3 ⟨⟨v3, rfl, o3⟩, hb3⟩
        have HO3 := hidden o3
        have HB3 := hidden (below_then HB2.out hb3)
        clear o3 hb3
        go_wp2_with fail
        refine ((HP.out).2 _ _ _ HO3.out).mono ?_
        rintro e w4 ⟨⟨v4, rfl, o4⟩, hb4⟩
        have HO4 := hidden o4
        have HB4 := hidden (below_then HB3.out hb4)
        have HM4 := hidden (HM.out.kept HB4.out)
        obtain ⟨a4, c4, rfl, hc4, hm4⟩ := own_slice o4
        have hm4' : c4 ≤ 9223372036854775807 := by unfold maxLen at hm4; omega
        clear o4 hb4 hm4
        have HO5 := hidden HO4.out
        have HM5 := hidden HM4.out
        have HB5 := hidden HB4.out
        obtain ⟨w5, hw5⟩ : ∃ w5, w5 = w4 := ⟨_, rfl⟩
        subst hw5
        have HLN := hidden (lit_none w5)
        have HBN := hidden (below_one w5 (.cells #[] 5))
        have HO6 := hidden (HO5.out.kept HBN.out)
        have HD1 : Hid (([] : List Nat).length + CB.length ≤ 140737488355328) := hidden (by rw [List.length_nil]; omega)
        have HD2 : Hid (w5.heap.size ≤ (w5.alloc (.cells #[] 5)).heap.size) := hidden (by rw [World.size_alloc]; omega)
        go_wp2_with (first | (at_builtin; refine wpList_append_sv rfl _ _ rfl w5.heap.size _ _ [] CB rfl HLN.out rfl HO6.out.sv HD1.out HD2.out ?_))
        intro v7 w7 o7 b7
        have o7' : OwnB w7 w5.heap.size v7 CB := o7
        have HB57 := hidden (HBN.out.trans b7)
        have HM7 := hidden (HM5.out.kept HB57.out)
        have HO7 := hidden o7'
        have hz7 := HB57.out.size
        have HE1 : Hid (CB.length + m.length ≤ 140737488355328) := hidden (by omega)
        clear o7 o7' b7
        go_wp2_with (first | (at_builtin; refine wpList_append_sv rfl _ _ rfl w5.heap.size _ _ CB m rfl HO7.out rfl HM7.out HE1.out hz7 ?_))
        intro v9 w9 o9 b9
        have HB9 := hidden (below_then HB5.out (HB57.out.trans b9))
        have HRM := hidden (cread_any (b := CB ++ m) o9.sv (HCB.out.append HBM.out) k (X.length : Int))
        clear o9 b9
        go_wp2_with fail
        refine HRM.out.mono ?_
        rintro e w10 ⟨v10, l10, er, rfl, o10, ht10, hb10⟩
        have HB10 := hidden (below_then HB9.out hb10)
        clear o10 hb10
        by_cases hm0 : m = []
        · subst hm0
          rw [List.append_nil] at ht10
          have her := told_some hk3 hxl ht10 HSAME.out
          subst her
          clear ht10
          go_wp2_with fail
          go_ret
          exact ⟨rfl, HB10.out⟩
        · have hne := told_none hk3 hxl ht10 (HMORE.out hm0)
          have hne' : ((er : Int) == 0) = false := by simpa using hne
          have hmp : ((m.length : Int) == 0) = false := by
            have : (m.length : Int) ≠ 0 := by have := List.length_pos_iff.2 hm0; omega
            simpa using this
          clear ht10 hne hm0
          go_wp2_with fail
          go_ret
          exact ⟨rfl, HB10.out⟩
      · obtain ⟨j, rfl⟩ := Int.eq_ofNat_of_zero_le hdc
        have hdj : ¬ (j : Int) < (CB.length : Int) := hdc2
        have hj0 : (j : Int) ≥ 0 := by omega
        clear hcut hdc2 hdc
        go_enter Tryz.func6, Tryz.ntmps6
        go_wp2_with fail
        refine (alive_any _).mono ?_
        rintro e w1 ⟨rfl, hb1⟩
        have HB1 := hidden hb1
        clear hb1
        go_wp2_with fail
        refine (HON.out _ (HS.out.kept HB1.out)).mono ?_
        rintro e w2 ⟨⟨v2, rfl, o2⟩, hb2⟩
        have HO2 := hidden o2
        have HB2 := hidden (below_then HB1.out hb2)
        obtain ⟨a2, c2, rfl, _, _⟩ := own_slice o2
        clear o2 hb2
        go_wp2_with fail
        refine ((HP.out).1 _ _ HO2.out.sc).mono ?_
        rintro e w3 ⟨⟨v3, rfl, o3⟩, hb3⟩
        have HO3 := hidden o3
        have HB3 := hidden (below_then HB2.out hb3)
        clear o3 hb3
        go_wp2_with fail
        refine ((HP.out).2 _ _ _ HO3.out).mono ?_
        rintro e w4 ⟨⟨v4, rfl, o4⟩, hb4⟩
        have HO4 := hidden o4
        have HB4 := hidden (below_then HB3.out hb4)
        have HM4 := hidden (HM.out.kept HB4.out)
        obtain ⟨a4, c4, rfl, hc4, hm4⟩ := own_slice o4
        have hm4' : c4 ≤ 9223372036854775807 := by unfold maxLen at hm4; omega
        clear o4 hb4 hm4
        have HO5 := hidden HO4.out
        have HM5 := hidden HM4.out
        have HB5 := hidden HB4.out
        obtain ⟨w5, hw5⟩ : ∃ w5, w5 = w4 := ⟨_, rfl⟩
        subst hw5
        have HLN := hidden (lit_none w5)
        have HBN := hidden (below_one w5 (.cells #[] 5))
        have HO6 := hidden (HO5.out.kept HBN.out)
        have HD1 : Hid (([] : List Nat).length + CB.length ≤ 140737488355328) := hidden (by rw [List.length_nil]; omega)
        have HD2 : Hid (w5.heap.size ≤ (w5.alloc (.cells #[] 5)).heap.size) := hidden (by rw [World.size_alloc]; omega)
        go_wp2_with (first | (at_builtin; refine wpList_append_sv rfl _ _ rfl w5.heap.size _ _ [] CB rfl HLN.out rfl HO6.out.sv HD1.out HD2.out ?_))
        intro v7 w7 o7 b7
        have o7' : OwnB w7 w5.heap.size v7 CB := o7
        have HB57 := hidden (HBN.out.trans b7)
        have HM7 := hidden (HM5.out.kept HB57.out)
        have HO7 := hidden o7'
        have hz7 := HB57.out.size
        have HE1 : Hid (CB.length + m.length ≤ 140737488355328) := hidden (by omega)
        clear o7 o7' b7
        go_wp2_with (first | (at_builtin; refine wpList_append_sv rfl _ _ rfl w5.heap.size _ _ CB m rfl HO7.out rfl HM7.out HE1.out hz7 ?_))
        intro v9 w9 o9 b9
        have HB9 := hidden (below_then HB5.out (HB57.out.trans b9))
        have HRM := hidden (cread_any (b := CB ++ m) o9.sv (HCB.out.append HBM.out) k (X.length : Int))
        clear o9 b9
        go_wp2_with fail
        refine HRM.out.mono ?_
        rintro e w10 ⟨v10, l10, er, rfl, o10, ht10, hb10⟩
        have HB10 := hidden (below_then HB9.out hb10)
        clear o10 hb10
        by_cases hm0 : m = []
        · subst hm0
          rw [List.append_nil] at ht10
          have her := told_some hk3 hxl ht10 HSAME.out
          subst her
          clear ht10
          go_wp2_with fail
          go_ret
          exact ⟨rfl, HB10.out⟩
        · have hne := told_none hk3 hxl ht10 (HMORE.out hm0)
          have hne' : ((er : Int) == 0) = false := by simpa using hne
          have hmp : ((m.length : Int) == 0) = false := by
            have : (m.length : Int) ≠ 0 := by have := List.length_pos_iff.2 hm0; omega
            simpa using this
          clear ht10 hne hm0
          go_wp2_with fail
          go_ret
          exact ⟨rfl, HB10.out⟩

set_option maxRecDepth 100000 in
theorem lifted (os : Os) (started : os.Started) (H : Type) (enc : TypeId × Value → H) :
    ReturnsInHanded {} Tryz.checked os 6 .any (Rows.columnCutSpec.pre6 enc Tryz.prog Tryz.f6 Rows.columnCutRow.domain false) (Rows.columnCutSpec.post enc Tryz.prog Tryz.f6 false true false false) := by
  refine returnsInHanded_of_change (C := Tryz.checked) own started (by kernel_rfl) Tryz.func6
    (ChangeSpec.witness6 (enc := enc) (C := Tryz.checked) false ⟨#[], #[.int .u8 0, .slice none 0 0, .int .i64 0, .slice none 0 0], []⟩ 8 (by kernel_rfl) (by kernel_rfl) (by kernel_rfl) (by kernel_rfl)) ?_
  intro W base args ds gs before hval0 hW hcnd _
  have hval : ∀ (j : Nat) t v, Tryz.f6.params[j]? = some t → args[j]? = some v → Value.okWide Tryz.prog W .any base t v := hval0
  have hW' := hW
  obtain ⟨p, q, hA0, hV, rfl, hfz, hnd⟩ := hW
  have hA : DataW.TrodAll enc Tryz.prog W 0 (fun _ => true) true Tryz.f6.params.toList args.toList ds p := hA0
  rw [Tryz.params6] at hA hval
  obtain ⟨v0, vs0, d0, ds0, p0, q0, hargs, rfl, rfl, h0, r0⟩ := trodAll_cons hA
  obtain ⟨v1, vs1, d1, ds1, p1, q1, rfl, rfl, rfl, h1, r1⟩ := trodAll_cons r0
  obtain ⟨v2, vs2, d2, ds2, p2, q2, rfl, rfl, rfl, h2, r2⟩ := trodAll_cons r1
  obtain ⟨v3, vs3, d3, ds3, p3, q3, rfl, rfl, rfl, h3, r3⟩ := trodAll_cons r2
  obtain ⟨rfl, rfl, rfl⟩ := trodAll_nil r3
  obtain rfl : args = #[v0, v1, v2, v3] := by cases args; simp_all
  obtain ⟨rfl, rfl⟩ := trodVars_none hV
  obtain ⟨a0, rfl, rfl, rfl, w0⟩ := open_int Tryz.underlying5 (hval 0 5 v0 rfl rfl) h0
  have g0 := bounds_u8 w0
  obtain ⟨n0, rfl⟩ := Int.eq_ofNat_of_zero_le g0.1
  obtain ⟨a1, len1, cap1, rfl⟩ := okWide_slice Tryz.underlying22 (hval 1 22 v1 rfl rfl)
  have lt1 : ∀ x ∈ p1, x.block < W.heap.size := by obtain ⟨m, hm⟩ := h1; exact DataW.trod_lt m _ _ _ hm
  obtain ⟨l1, hl1⟩ := open_cells h1
  obtain ⟨a2, rfl, rfl, rfl, w2⟩ := open_int Tryz.underlying3 (hval 2 3 v2 rfl rfl) h2
  obtain ⟨a3, len3, cap3, rfl⟩ := okWide_slice Tryz.underlying24 (hval 3 24 v3 rfl rfl)
  have lt3 : ∀ x ∈ p3, x.block < W.heap.size := by obtain ⟨m, hm⟩ := h3; exact DataW.trod_lt m _ _ _ hm
  obtain ⟨l3, hl3⟩ := open_bytes h3
  clear hA0 hval0
  refine (walk n0 (by omega) hl1 a2 hl3 W).mono fun e W' ⟨he, bel⟩ => ?_
  subst he
  exact ⟨_, rfl, _, _, _, [], _, [], hW', trodAll_mk1 (shut_bool Tryz.underlying4 _), (trodAll_cons_mk (shut_int Tryz.underlying5 w0) (trodAll_cons_mk (Below.trod laidOut (by kernel_rfl) (of_decide_eq_true (by kernel_rfl)) h1 bel lt1) (trodAll_cons_mk (shut_int Tryz.underlying3 w2) (trodAll_cons_mk (Below.trod laidOut (by kernel_rfl) (of_decide_eq_true (by kernel_rfl)) h3 bel lt3) trodAll_mk0)))), rfl, bel.frame _, fun h => by cases h⟩

theorem proved : Rows.ColumnCutSaid :=
  OpenClaim.holds_of_wide 6 Tryz.f6 rfl rfl rfl rfl rfl rfl rfl ⟨rfl, rfl, rfl, rfl, rfl⟩ rfl rfl rfl rfl rfl (by kernel_rfl) Tryz.func6 (by kernel_rfl)
    (of_decide_eq_true (by kernel_rfl)) (by unfold Func.isWrapper; first | (rw [if_pos (by decide +kernel)]; kernel_rfl) | (rw [if_neg (by decide +kernel)]; exact ⟨rfl, rfl⟩))
    (fun os started H enc _ => lifted os started H enc)
end CutLaw
theorem columnCut_holds : Rows.ColumnCutSaid := CutLaw.proved
#print axioms columnCut_holds
end Go.Proofs.YtcmmednihoaekaaGreat
