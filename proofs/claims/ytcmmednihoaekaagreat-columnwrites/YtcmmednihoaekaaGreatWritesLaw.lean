/- ColumnWrites: for every byte and every list of cells the law returns true: the bytes of any values, as a column of any kind, are the document's, or its error. No condition. -/
import Derived.Test.YtcmmednihoaekaaGreatLift
import Derived.Test.YtcmmednihoaekaaGreatOnly
import Derived.Test.YtcmmednihoaekaaGreatRwD
set_option linter.unusedVariables false
namespace Go.Proofs.YtcmmednihoaekaaGreat
namespace WritesLaw
open Go.ChangeShapes Go.WideShapes Go.ChangeAt Go.RowKit Go.Lib

set_option maxRecDepth 100000 in
set_option maxHeartbeats 4000000 in
theorem walk (c : Nat) (hc : c < 256) {v : Value} {l : List (Nat × Int × List Nat)} {w : World} (hl : Sc w v l ∧ ∀ c ∈ l, Okc c) (_ : World) :
    Calls Tryz.prog 3 #[.int .u8 (c : Int), v] w fun e w' => e = .returned (.bool true) ∧ Below w.heap.size w w' := by
  obtain ⟨hs, hok⟩ := hl
  have HS := hidden hs
  have HOK := hidden hok
  obtain ⟨a, cap, rfl, _, hcm⟩ := hs.form
  have hlm : l.length ≤ 9223372036854775807 := by obtain ⟨_, _, e, h1, h2, _⟩ := hs; unfold maxLen at h2; omega
  clear hs hok hcm
  by_cases hbig : (l.length : Int) > 600
  · go_enter Tryz.func3, Tryz.ntmps3
    go_wp2_with fail
    refine (alive_any _).mono ?_
    rintro e w1 ⟨rfl, hb1⟩
    go_wp2_with fail
    go_ret
    exact ⟨rfl, hb1⟩
  · have hl6 : l.length ≤ 600 := by omega
    have HFI : Hid (∀ x ∈ l.map fixC, Fine x) := hidden (fun x hx => by
      obtain ⟨y, hy, rfl⟩ := List.mem_map.1 hx
      exact fixC_fine (HOK.out y hy))
    have hXl : (l.map fixC).length ≤ 600 := by rw [List.length_map]; exact hl6
    have HRO := hidden (fun (W : World) (h : Sc W (.slice a l.length cap) l) => row6_any h HOK.out hl6)
    have HFX := hidden (fun (W : World) (h : Sc W (.slice a l.length cap) l) => fixRow_any h hl6)
    generalize hX : l.map fixC = X at *
    clear hX
    have hbs : Bs (writeC c X).1 := by
      by_cases h0 : (writeC c X).2 = 0
      · have hcol := writeC_good HFI.out h0
        rw [writeC_col hcol]
        exact (col_size hcol).2
      · rw [writeC_bad h0]
        exact fun x hx => by simp at hx
    have HBS := hidden hbs
    have HW1 := hidden (fun (W : World) (B : Nat) (v : Value) (h : OwnV W B v X) => write_any (OwnV.sv h) (own_low_block h) HFI.out c)
    have HW2 := hidden (fun (W : World) (v : Value) (h : Sc W v X) => refWrite_any h (fun x hx => (HFI.out x hx).wide) hXl c hc)
    unfold WritePost at HW1 HW2
    clear hbs
    generalize writeC c X = WC at *
    obtain ⟨bs, er⟩ := WC
    simp only at *
    go_enter Tryz.func3, Tryz.ntmps3
    go_wp2_with fail
    refine (alive_any _).mono ?_
    rintro e w1 ⟨rfl, hb1⟩
    have HB1 := hidden hb1
    clear hb1
    go_wp2_with fail
    refine (HRO.out _ (HS.out.kept HB1.out)).mono ?_
    rintro e w2 ⟨⟨v2, rfl, o2⟩, hb2⟩
    have HO2 := hidden o2
    have HB2 := hidden (below_then HB1.out hb2)
    clear o2 hb2
    go_wp2_with fail
    refine (HW1.out _ _ _ HO2.out).mono ?_
    rintro e w3 ⟨⟨v3, rfl, o3⟩, hb3⟩
    have HO3 := hidden o3
    have HB3 := hidden (below_then HB2.out hb3)
    clear o3 hb3
    go_wp2_with fail
    refine (HFX.out _ (HS.out.kept HB3.out)).mono ?_
    rintro e w4 ⟨⟨v4, rfl, o4⟩, hb4⟩
    have HO4 := hidden o4
    have HO34 := hidden (HO3.out.kept hb4)
    have HB4 := hidden (below_then HB3.out hb4)
    clear o4 hb4
    go_wp2_with fail
    refine (HW2.out _ _ HO4.out.sc).mono ?_
    rintro e w5 ⟨⟨v5, rfl, o5⟩, hb5⟩
    have hcv1 := (HO34.out.kept hb5).sv.conv HBS.out
    have hcv2 := o5.sv.conv HBS.out
    have HB5 := hidden (below_then HB4.out hb5)
    clear o5 hb5
    unfold txt at hcv1 hcv2
    generalize bs.map Nat.toUInt8 = U at *
    go_wp2_with fail
    go_ret
    refine ⟨?_, HB5.out⟩
    simp


set_option maxRecDepth 100000 in
theorem lifted (os : Os) (started : os.Started) (H : Type) (enc : TypeId × Value → H) :
    ReturnsInHanded {} Tryz.checked os 3 .any (Rows.columnWritesSpec.pre6 enc Tryz.prog Tryz.f3 Rows.columnWritesRow.domain false) (Rows.columnWritesSpec.post enc Tryz.prog Tryz.f3 false true false false) := by
  refine returnsInHanded_of_change (C := Tryz.checked) own started (by kernel_rfl) Tryz.func3
    (ChangeSpec.witness6 (enc := enc) (C := Tryz.checked) false ⟨#[], #[.int .u8 0, .slice none 0 0], []⟩ 8 (by kernel_rfl) (by kernel_rfl) (by kernel_rfl) (by kernel_rfl)) ?_
  intro W base args ds gs before hval0 hW hcnd _
  have hval : ∀ (j : Nat) t v, Tryz.f3.params[j]? = some t → args[j]? = some v → Value.okWide Tryz.prog W .any base t v := hval0
  have hW' := hW
  obtain ⟨p, q, hA0, hV, rfl, hfz, hnd⟩ := hW
  have hA : DataW.TrodAll enc Tryz.prog W 0 (fun _ => true) true Tryz.f3.params.toList args.toList ds p := hA0
  rw [Tryz.params3] at hA hval
  obtain ⟨v0, vs0, d0, ds0, p0, q0, hargs, rfl, rfl, h0, r0⟩ := trodAll_cons hA
  obtain ⟨v1, vs1, d1, ds1, p1, q1, rfl, rfl, rfl, h1, r1⟩ := trodAll_cons r0
  obtain ⟨rfl, rfl, rfl⟩ := trodAll_nil r1
  obtain rfl : args = #[v0, v1] := by cases args; simp_all
  obtain ⟨rfl, rfl⟩ := trodVars_none hV
  obtain ⟨a0, rfl, rfl, rfl, w0⟩ := open_int Tryz.underlying5 (hval 0 5 v0 rfl rfl) h0
  have g0 := bounds_u8 w0
  obtain ⟨n0, rfl⟩ := Int.eq_ofNat_of_zero_le g0.1
  obtain ⟨a1, len1, cap1, rfl⟩ := okWide_slice Tryz.underlying22 (hval 1 22 v1 rfl rfl)
  have lt1 : ∀ x ∈ p1, x.block < W.heap.size := by obtain ⟨m, hm⟩ := h1; exact DataW.trod_lt m _ _ _ hm
  obtain ⟨l1, hl1⟩ := open_cells h1
  clear hA0 hval0
  refine (walk n0 (by omega) hl1 W).mono fun e W' ⟨he, bel⟩ => ?_
  subst he
  exact ⟨_, rfl, _, _, _, [], _, [], hW', trodAll_mk1 (shut_bool Tryz.underlying4 _), (trodAll_cons_mk (shut_int Tryz.underlying5 w0) (trodAll_cons_mk (Below.trod laidOut (by kernel_rfl) (of_decide_eq_true (by kernel_rfl)) h1 bel lt1) trodAll_mk0)), rfl, bel.frame _, fun h => by cases h⟩

theorem proved : Rows.ColumnWritesSaid :=
  OpenClaim.holds_of_wide 3 Tryz.f3 rfl rfl rfl rfl rfl rfl rfl ⟨rfl, rfl, rfl, rfl, rfl⟩ rfl rfl rfl rfl rfl (by kernel_rfl) Tryz.func3 (by kernel_rfl)
    (of_decide_eq_true (by kernel_rfl)) (by unfold Func.isWrapper; first | (rw [if_pos (by decide +kernel)]; kernel_rfl) | (rw [if_neg (by decide +kernel)]; exact ⟨rfl, rfl⟩))
    (fun os started H enc _ => lifted os started H enc)
end WritesLaw
theorem columnWrites_holds : Rows.ColumnWritesSaid := WritesLaw.proved
#print axioms columnWrites_holds
end Go.Proofs.YtcmmednihoaekaaGreat
