/- ColumnBack: for every byte and every list of cells the law returns true: values that were written are read. No condition. -/
import Derived.Test.YtcmmednihoaekaaGreatLift
import Derived.Test.YtcmmednihoaekaaGreatOnly
set_option linter.unusedVariables false
namespace Go.Proofs.YtcmmednihoaekaaGreat
namespace BackLaw
open Go.ChangeShapes Go.WideShapes Go.ChangeAt Go.RowKit Go.Lib

set_option maxRecDepth 100000 in
set_option maxHeartbeats 4000000 in
theorem walk (c : Nat) (hc : c < 256) {v : Value} {l : List (Nat × Int × List Nat)} {w : World} (hl : Sc w v l ∧ ∀ c ∈ l, Okc c) (_ : World) :
    Calls Tryz.prog 5 #[.int .u8 (c : Int), v] w fun e w' => e = .returned (.bool true) ∧ Below w.heap.size w w' := by
  obtain ⟨hs, hok⟩ := hl
  have HS := hidden hs
  obtain ⟨a, cap, rfl, _, _⟩ := hs.form
  obtain ⟨d, hd⟩ : ∃ d, c % 3 = d := ⟨_, rfl⟩
  have hd2 : d ≤ 2 := by omega
  have hdm : (c : Int) % 3 = (d : Int) := by omega
  have hdt : (c : Int).tmod 3 = (d : Int) := by rw [Int.tmod_eq_emod_of_nonneg (by omega)]; exact hdm
  obtain ⟨k, hk⟩ : ∃ k, 1 + d = k := ⟨_, rfl⟩
  have hk3 : 1 ≤ k ∧ k ≤ 3 := by omega
  have hkw : IntKind.u8.wrap (1 + (d : Int)) = (k : Int) := by rw [IntKind.wrap_u8]; omega
  have hke : 1 + (d : Int) = (k : Int) := by omega
  obtain ⟨X, hX⟩ : ∃ X, (l.take 256).map (onlyC k) = X := ⟨_, rfl⟩
  have HON := hidden (fun (W : World) (h : Sc W (.slice a l.length cap) l) => only_any h k)
  rw [hX] at HON
  have hcol : Col k X := by rw [← hX]; exact only_col hk3 hok
  have HCOL := hidden hcol
  have HP := hidden (only_written hcol)
  have HRB := hidden (readC_back hcol)
  have hxl := hcol.2.1
  clear hs hX hcol hok hd hk
  go_enter Tryz.func5, Tryz.ntmps5
  go_wp2_with fail
  refine (alive_any _).mono ?_
  rintro e w1 ⟨rfl, hb1⟩
  have HB1 := hidden hb1
  clear hb1
  go_wp2_with fail
  refine (HON.out _ (HS.out.kept HB1.out)).mono ?_
  rintro e w2 ⟨⟨v2, rfl, o2⟩, hb2⟩
  have HO2 := hidden o2
  have HB2 := hidden (below_then HB1.out hb2)
  obtain ⟨a2, c2, rfl, _, _⟩ := own_slice o2
  clear o2 hb2
  go_wp2_with fail
  refine ((HP.out).1 _ _ HO2.out.sc).mono ?_
  rintro e w3 ⟨⟨v3, rfl, o3⟩, hb3⟩
  have HO3 := hidden o3
  have HX3 := hidden (HO2.out.kept hb3)
  have HB3 := hidden (below_then HB2.out hb3)
  clear o3 hb3
  go_wp2_with fail
  refine ((HP.out).2 _ _ _ HO3.out).mono ?_
  rintro e w4 ⟨⟨v4, rfl, o4⟩, hb4⟩
  have HO4 := hidden o4
  have HX4 := hidden (HX3.out.kept hb4)
  have HB4 := hidden (below_then HB3.out hb4)
  clear o4 hb4
  have HRD := hidden (cread_any HO4.out.sv (col_size HCOL.out).2 k (X.length : Int))
  go_wp2_with fail
  refine HRD.out.mono ?_
  rintro e w5 ⟨v5, l5, er, rfl, o5, ht5, hb5⟩
  obtain ⟨rfl, rfl⟩ := told_back HCOL.out ht5
  have HO5 := hidden o5
  have HX5 := hidden (HX4.out.kept hb5)
  have HB5 := hidden (below_then HB4.out hb5)
  clear o5 hb5 ht5
  have HCE := hidden (cells_any (OwnV.sv HO5.out) (fun c hc => (HCOL.out.2.2 c hc).fine) (by omega))
  go_wp2_with fail
  refine HCE.out.mono ?_
  rintro e w6 ⟨⟨v6, rfl, o6⟩, hb6⟩
  have HSA := hidden (sameRow_any (HX5.out.kept hb6).sc o6.sc (fun c hc => (HCOL.out.2.2 c hc).fine.okc.2.2) (fun c hc => (HCOL.out.2.2 c hc).fine.okc.2.2))
  rw [decide_eq_true rfl] at HSA
  have HB6 := hidden (below_then HB5.out hb6)
  clear o6 hb6
  go_wp2_with fail
  refine HSA.out.mono ?_
  rintro e w7 ⟨rfl, hb7⟩
  have HB7 := hidden (below_then HB6.out hb7)
  clear hb7
  go_wp2_with fail
  go_ret
  exact ⟨rfl, HB7.out⟩

set_option maxRecDepth 100000 in
theorem lifted (os : Os) (started : os.Started) (H : Type) (enc : TypeId × Value → H) :
    ReturnsInHanded {} Tryz.checked os 5 .any (Rows.columnBackSpec.pre6 enc Tryz.prog Tryz.f5 Rows.columnBackRow.domain false) (Rows.columnBackSpec.post enc Tryz.prog Tryz.f5 false true false false) := by
  refine returnsInHanded_of_change (C := Tryz.checked) own started (by kernel_rfl) Tryz.func5
    (ChangeSpec.witness6 (enc := enc) (C := Tryz.checked) false ⟨#[], #[.int .u8 0, .slice none 0 0], []⟩ 8 (by kernel_rfl) (by kernel_rfl) (by kernel_rfl) (by kernel_rfl)) ?_
  intro W base args ds gs before hval0 hW hcnd _
  have hval : ∀ (j : Nat) t v, Tryz.f5.params[j]? = some t → args[j]? = some v → Value.okWide Tryz.prog W .any base t v := hval0
  have hW' := hW
  obtain ⟨p, q, hA0, hV, rfl, hfz, hnd⟩ := hW
  have hA : DataW.TrodAll enc Tryz.prog W 0 (fun _ => true) true Tryz.f5.params.toList args.toList ds p := hA0
  rw [Tryz.params5] at hA hval
  obtain ⟨v0, vs0, d0, ds0, p0, q0, hargs, rfl, rfl, h0, r0⟩ := trodAll_cons hA
  obtain ⟨v1, vs1, d1, ds1, p1, q1, rfl, rfl, rfl, h1, r1⟩ := trodAll_cons r0
  obtain ⟨rfl, rfl, rfl⟩ := trodAll_nil r1
  obtain rfl : args = #[v0, v1] := by cases args; simp_all
  obtain ⟨rfl, rfl⟩ := trodVars_none hV
  obtain ⟨a0, rfl, rfl, rfl, w0⟩ := open_int Tryz.underlying5 (hval 0 5 v0 rfl rfl) h0
  have g0 := bounds_u8 w0
  obtain ⟨n0, rfl⟩ := Int.eq_ofNat_of_zero_le g0.1
  obtain ⟨a1, len1, cap1, rfl⟩ := okWide_slice Tryz.underlying22 (hval 1 22 v1 rfl rfl)
  have lt1 : ∀ x ∈ p1, x.block < W.heap.size := by obtain ⟨m, hm⟩ := h1; exact DataW.trod_lt m _ _ _ hm
  obtain ⟨l1, hl1⟩ := open_cells h1
  clear hA0 hval0
  refine (walk n0 (by omega) hl1 W).mono fun e W' ⟨he, bel⟩ => ?_
  subst he
  exact ⟨_, rfl, _, _, _, [], _, [], hW', trodAll_mk1 (shut_bool Tryz.underlying4 _), (trodAll_cons_mk (shut_int Tryz.underlying5 w0) (trodAll_cons_mk (Below.trod laidOut (by kernel_rfl) (of_decide_eq_true (by kernel_rfl)) h1 bel lt1) trodAll_mk0)), rfl, bel.frame _, fun h => by cases h⟩

theorem proved : Rows.ColumnBackSaid :=
  OpenClaim.holds_of_wide 5 Tryz.f5 rfl rfl rfl rfl rfl rfl rfl ⟨rfl, rfl, rfl, rfl, rfl⟩ rfl rfl rfl rfl rfl (by kernel_rfl) Tryz.func5 (by kernel_rfl)
    (of_decide_eq_true (by kernel_rfl)) (by unfold Func.isWrapper; first | (rw [if_pos (by decide +kernel)]; kernel_rfl) | (rw [if_neg (by decide +kernel)]; exact ⟨rfl, rfl⟩))
    (fun os started H enc _ => lifted os started H enc)
end BackLaw
theorem columnBack_holds : Rows.ColumnBackSaid := BackLaw.proved
#print axioms columnBack_holds
end Go.Proofs.YtcmmednihoaekaaGreat
