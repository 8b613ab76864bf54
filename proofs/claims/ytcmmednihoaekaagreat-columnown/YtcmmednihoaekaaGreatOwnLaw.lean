/- ColumnOwn: for every byte and every list of cells the law returns true: what is handed in stays as it was. No condition. -/
import Derived.Test.YtcmmednihoaekaaGreatLift
import Derived.Test.YtcmmednihoaekaaGreatOnly
set_option linter.unusedVariables false
namespace Go.Proofs.YtcmmednihoaekaaGreat
namespace OwnLaw
open Go.ChangeShapes Go.WideShapes Go.ChangeAt Go.RowKit Go.Lib

set_option maxRecDepth 100000 in
set_option maxHeartbeats 4000000 in
theorem walk (c : Nat) (hc : c < 256) {v : Value} {l : List (Nat × Int × List Nat)} {w : World} (hl : Sc w v l ∧ ∀ c ∈ l, Okc c) (_ : World) :
    Calls Tryz.prog 8 #[.int .u8 (c : Int), v] w fun e w' => e = .returned (.bool true) ∧ Below w.heap.size w w' := by
  obtain ⟨hs, hok⟩ := hl
  have HS := hidden hs
  obtain ⟨a, cap, rfl, _, _⟩ := hs.form
  obtain ⟨d, hd⟩ : ∃ d, c % 3 = d := ⟨_, rfl⟩
  have hd2 : d ≤ 2 := by omega
  have hdm : (c : Int) % 3 = (d : Int) := by omega
  have hdt : (c : Int).tmod 3 = (d : Int) := by rw [Int.tmod_eq_emod_of_nonneg (by omega)]; exact hdm
  obtain ⟨k, hk⟩ : ∃ k, 1 + d = k := ⟨_, rfl⟩
  have hk3 : 1 ≤ k ∧ k ≤ 3 := by omega
  have hkw : IntKind.u8.wrap (1 + (d : Int)) = (k : Int) := by rw [IntKind.wrap_u8]; omega
  have hke : 1 + (d : Int) = (k : Int) := by omega
  obtain ⟨X, hX⟩ : ∃ X, (l.take 256).map (onlyC k) = X := ⟨_, rfl⟩
  have HON := hidden (fun (W : World) (h : Sc W (.slice a l.length cap) l) => only_any h k)
  rw [hX] at HON
  have hcol : Col k X := by rw [← hX]; exact only_col hk3 hok
  have HCOL := hidden hcol
  have HP := hidden (only_written hcol)
  have hxl := hcol.2.1
  have hcz := (col_size hcol).1
  clear hs hX hcol hok hd hk
  go_enter Tryz.func8, Tryz.ntmps8
  go_wp2_with fail
  refine (alive_any _).mono ?_
  rintro e w1 ⟨rfl, hb1⟩
  have HB1 := hidden hb1
  clear hb1
  go_wp2_with fail
  refine (HON.out _ (HS.out.kept HB1.out)).mono ?_
  rintro e w2 ⟨⟨v2, rfl, o2⟩, hb2⟩
  have HO2 := hidden o2
  have HB2 := hidden (below_then HB1.out hb2)
  obtain ⟨a2, c2, rfl, _, _⟩ := own_slice o2
  clear o2 hb2
  go_wp2_with fail
  refine ((HP.out).1 _ _ HO2.out.sc).mono ?_
  rintro e w3 ⟨⟨v3, rfl, o3⟩, hb3⟩
  have HO3 := hidden o3
  have HX3 := hidden (HO2.out.kept hb3)
  have HB3 := hidden (below_then HB2.out hb3)
  obtain ⟨a3, c3, rfl, _, _⟩ := own_slice o3
  clear o3 hb3
  go_wp2_with fail
  refine ((HP.out).2 _ _ _ HO3.out).mono ?_
  rintro e w4 ⟨⟨v4, rfl, o4⟩, hb4⟩
  have HO4 := hidden o4
  have HX4 := hidden (HX3.out.kept hb4)
  have HV4 := hidden (HO3.out.kept hb4)
  have HB4 := hidden (below_then HB3.out hb4)
  clear o4 hb4
  have HLN := hidden (lit_none w4)
  have HBN := hidden (below_one w4 (.cells #[] 5))
  have HO5 := hidden (HO4.out.kept HBN.out)
  have HCB := hidden (col_size HCOL.out).2
  generalize colM k X = CB at *
  go_wp2_with (first | (at_builtin; refine wpList_append_sv rfl _ _ rfl w4.heap.size _ _ [] CB rfl HLN.out rfl HO5.out.sv ?c1 ?c2 ?_))
  case c1 => simp; omega
  case c2 => first | omega | (rw [World.size_alloc]; omega)
  intro v6 w6 o6 b6
  have o6' : OwnB w6 w4.heap.size v6 CB := o6
  have HB46 := hidden (HBN.out.trans b6)
  have HO6 := hidden o6'
  have HC6 := hidden (HO4.out.kept HB46.out)
  have HX6 := hidden (HX4.out.kept HB46.out)
  have HV6 := hidden (HV4.out.kept HB46.out)
  have HB6 := hidden (below_then HB4.out HB46.out)
  clear o6 o6' b6
  have HRD := hidden (cread_any HC6.out.sv HCB.out k (X.length : Int))
  go_wp2_with fail
  refine HRD.out.mono ?_
  rintro e w7 ⟨v7, l7, er, rfl, o7, ht7, hb7⟩
  have HO7 := hidden (HO6.out.kept hb7)
  have HC7 := hidden (HC6.out.kept hb7)
  have HX7 := hidden (HX6.out.kept hb7)
  have HV7 := hidden (HV6.out.kept hb7)
  have HB7 := hidden (below_then HB6.out hb7)
  clear o7 hb7 ht7
  have HCE := hidden (cells_any (OwnV.sv HV7.out) (fun c hc => (HCOL.out.2.2 c hc).fine) (by omega))
  go_wp2_with fail
  refine HCE.out.mono ?_
  rintro e w8 ⟨⟨v8, rfl, o8⟩, hb8⟩
  have HSA := hidden (sameRow_any o8.sc (HX7.out.kept hb8).sc (fun c hc => (HCOL.out.2.2 c hc).fine.okc.2.2) (fun c hc => (HCOL.out.2.2 c hc).fine.okc.2.2))
  rw [decide_eq_true rfl] at HSA
  have HO8 := hidden (HO7.out.kept hb8)
  have HC8 := hidden (HC7.out.kept hb8)
  have HB8 := hidden (below_then HB7.out hb8)
  clear o8 hb8
  go_wp2_with fail
  refine HSA.out.mono ?_
  rintro e w9 ⟨rfl, hb9⟩
  have hcv1 := (HC8.out.kept hb9).sv.conv HCB.out
  have hcv2 := (HO8.out.kept hb9).sv.conv HCB.out
  have HB9 := hidden (below_then HB8.out hb9)
  clear hb9
  unfold txt at hcv1 hcv2
  generalize CB.map Nat.toUInt8 = U at *
  go_wp2_with fail
  go_ret
  refine ⟨?_, HB9.out⟩
  simp

set_option maxRecDepth 100000 in
theorem lifted (os : Os) (started : os.Started) (H : Type) (enc : TypeId × Value → H) :
    ReturnsInHanded {} Tryz.checked os 8 .any (Rows.columnOwnSpec.pre6 enc Tryz.prog Tryz.f8 Rows.columnOwnRow.domain false) (Rows.columnOwnSpec.post enc Tryz.prog Tryz.f8 false true false false) := by
  refine returnsInHanded_of_change (C := Tryz.checked) own started (by kernel_rfl) Tryz.func8
    (ChangeSpec.witness6 (enc := enc) (C := Tryz.checked) false ⟨#[], #[.int .u8 0, .slice none 0 0], []⟩ 8 (by kernel_rfl) (by kernel_rfl) (by kernel_rfl) (by kernel_rfl)) ?_
  intro W base args ds gs before hval0 hW hcnd _
  have hval : ∀ (j : Nat) t v, Tryz.f8.params[j]? = some t → args[j]? = some v → Value.okWide Tryz.prog W .any base t v := hval0
  have hW' := hW
  obtain ⟨p, q, hA0, hV, rfl, hfz, hnd⟩ := hW
  have hA : DataW.TrodAll enc Tryz.prog W 0 (fun _ => true) true Tryz.f8.params.toList args.toList ds p := hA0
  rw [Tryz.params8] at hA hval
  obtain ⟨v0, vs0, d0, ds0, p0, q0, hargs, rfl, rfl, h0, r0⟩ := trodAll_cons hA
  obtain ⟨v1, vs1, d1, ds1, p1, q1, rfl, rfl, rfl, h1, r1⟩ := trodAll_cons r0
  obtain ⟨rfl, rfl, rfl⟩ := trodAll_nil r1
  obtain rfl : args = #[v0, v1] := by cases args; simp_all
  obtain ⟨rfl, rfl⟩ := trodVars_none hV
  obtain ⟨a0, rfl, rfl, rfl, w0⟩ := open_int Tryz.underlying5 (hval 0 5 v0 rfl rfl) h0
  have g0 := bounds_u8 w0
  obtain ⟨n0, rfl⟩ := Int.eq_ofNat_of_zero_le g0.1
  obtain ⟨a1, len1, cap1, rfl⟩ := okWide_slice Tryz.underlying22 (hval 1 22 v1 rfl rfl)
  have lt1 : ∀ x ∈ p1, x.block < W.heap.size := by obtain ⟨m, hm⟩ := h1; exact DataW.trod_lt m _ _ _ hm
  obtain ⟨l1, hl1⟩ := open_cells h1
  clear hA0 hval0
  refine (walk n0 (by omega) hl1 W).mono fun e W' ⟨he, bel⟩ => ?_
  subst he
  exact ⟨_, rfl, _, _, _, [], _, [], hW', trodAll_mk1 (shut_bool Tryz.underlying4 _), (trodAll_cons_mk (shut_int Tryz.underlying5 w0) (trodAll_cons_mk (Below.trod laidOut (by kernel_rfl) (of_decide_eq_true (by kernel_rfl)) h1 bel lt1) trodAll_mk0)), rfl, bel.frame _, fun h => by cases h⟩

theorem proved : Rows.ColumnOwnSaid :=
  OpenClaim.holds_of_wide 8 Tryz.f8 rfl rfl rfl rfl rfl rfl rfl ⟨rfl, rfl, rfl, rfl, rfl⟩ rfl rfl rfl rfl rfl (by kernel_rfl) Tryz.func8 (by kernel_rfl)
    (of_decide_eq_true (by kernel_rfl)) (by unfold Func.isWrapper; first | (rw [if_pos (by decide +kernel)]; kernel_rfl) | (rw [if_neg (by decide +kernel)]; exact ⟨rfl, rfl⟩))
    (fun os started H enc _ => lifted os started H enc)
end OwnLaw
theorem columnOwn_holds : Rows.ColumnOwnSaid := OwnLaw.proved
#print axioms columnOwn_holds
end Go.Proofs.YtcmmednihoaekaaGreat
