/- CrcSeals: for all bytes the law returns true: sealed texts, and which bytes are one's, are the document's. The table of half bytes reads as the program's text lays it (the card ties it); no other condition. -/
import Derived.Test.YtnedlogfgpgchaaDoorAlive
import Derived.Test.YtnedlogfgpgchaaDoorRefOpen
set_option linter.unusedVariables false
set_option linter.unusedSimpArgs false
namespace Go.Proofs.YtnedlogfgpgchaaDoor
namespace SealsLaw
open Go.ChangeShapes Go.WideShapes Go.ChangeAt Go.RowKit Go.Lib

theorem openM_bs {l : List Nat} (h : Bs l) : Bs ((openM l).getD []) := by
  unfold openM
  split
  · exact h.take _
  · intro x hx
    simp at hx

set_option maxRecDepth 100000 in
set_option maxHeartbeats 4000000 in
theorem walk {v : Value} {l : List Nat} {w : World} (ht : Tab w) (hl : Sv w v l ∧ Bs l) :
    Calls Tryd.prog 5 #[v] w fun e w' => e = .returned (.bool true) ∧ Below w.heap.size w w' := by
  obtain ⟨hs, h8⟩ := hl
  have HS := hidden hs
  have H8 := hidden h8
  have HT := hidden ht
  obtain ⟨a, cap, rfl, h1, h2⟩ := hs.form
  have hm2 : l.length ≤ 9223372036854775807 := by unfold maxLen at h2; omega
  have HAL := hidden (alive_any ht)
  clear hs h8 ht h1 h2
  by_cases hbig : (l.length : Int) > 20000
  · go_enter Tryd.func5, Tryd.ntmps5
    go_wp2_with fail
    refine HAL.out.mono ?_
    rintro e w1 ⟨rfl, hb1⟩
    go_wp2_with fail
    go_ret
    exact ⟨rfl, hb1⟩
  have hll : l.length ≤ 20000 := by omega
  have HBS := hidden H8.out.seal
  have HOS := hidden (openM_seal l)
  have HML : Hid ((sealM l).length = l.length + 4) := hidden (sealM_len l)
  have HQB := hidden (openM_bs H8.out)
  have HSEAL := hidden (fun (W : World) (hT : Tab W) (h : Sv W (.slice a l.length cap) l) => seal_any hT h H8.out (by omega))
  have HRSEAL := hidden (fun (W : World) (h : Sv W (.slice a l.length cap) l) => refSeal_any h H8.out (by omega))
  have HOPEN := hidden (fun (W : World) (hT : Tab W) (h : Sv W (.slice a l.length cap) l) => open_any hT h H8.out (by omega))
  have HROPEN := hidden (fun (W : World) (h : Sv W (.slice a l.length cap) l) => refOpen_any h H8.out (by omega))
  generalize sealM l = m at *
  generalize openM l = R at *
  have hml : m.length ≤ 20004 := by have := HML.out; omega
  clear HML
  go_enter Tryd.func5, Tryd.ntmps5
  go_wp2_with fail
  refine HAL.out.mono ?_
  rintro e w1 ⟨rfl, hb1⟩
  have HB1 := hidden hb1
  have HT1 := hidden (HT.out.kept hb1)
  have HS1 := hidden (HS.out.kept hb1)
  clear hb1 HAL HT HS
  go_wp2_with fail
  refine (HSEAL.out _ HT1.out HS1.out).mono ?_
  rintro e w2 ⟨⟨vs, rfl, o2⟩, hb2⟩
  have HB2 := hidden (below_then HB1.out hb2)
  have HT2 := hidden (HT1.out.kept hb2)
  have HS2 := hidden (HS1.out.kept hb2)
  have HM2 := hidden o2.sv
  obtain ⟨pS, cS, rfl, _, _⟩ := o2.sv.form
  clear o2 hb2 HT1 HS1 HB1 HSEAL
  have HOP := hidden (open_any HT2.out HM2.out HBS.out (by omega))
  rw [HOS.out] at HOP
  go_wp2_with fail
  refine HOP.out.mono ?_
  rintro e w3 ⟨⟨vt, rfl, o3⟩, hb3⟩
  have o3' : OwnB w3 w2.heap.size vt l := o3
  have HB3 := hidden (below_then HB2.out hb3)
  have HT3 := hidden (HT2.out.kept hb3)
  have HS3 := hidden (HS2.out.kept hb3)
  have HM3 := hidden (HM2.out.kept hb3)
  have HX3 := hidden o3'.sv
  obtain ⟨pT, cT, rfl, _, _⟩ := o3'.sv.form
  clear o3 o3' hb3 HT2 HS2 HM2 HB2 HOP
  go_wp2_with fail
  refine (HOPEN.out _ HT3.out HS3.out).mono ?_
  rintro e w4 ⟨⟨vu, rfl, o4⟩, hb4⟩
  have HB4 := hidden (below_then HB3.out hb4)
  have HS4 := hidden (HS3.out.kept hb4)
  have HM4 := hidden (HM3.out.kept hb4)
  have HX4 := hidden (HX3.out.kept hb4)
  have HU4 := hidden o4.sv
  obtain ⟨pU, cU, rfl, _, _⟩ := o4.sv.form
  clear o4 hb4 HT3 HS3 HM3 HX3 HB3 HOPEN
  go_wp2_with fail
  refine (HROPEN.out _ HS4.out).mono ?_
  rintro e w5 ⟨⟨vv, rfl, s5⟩, hb5⟩
  have HB5 := hidden (below_then HB4.out hb5)
  have HS5 := hidden (HS4.out.kept hb5)
  have HM5 := hidden (HM4.out.kept hb5)
  have HX5 := hidden (HX4.out.kept hb5)
  have HU5 := hidden (HU4.out.kept hb5)
  have HV5 := hidden s5
  obtain ⟨pV, cV, rfl, _, _⟩ := s5.form
  clear s5 hb5 HS4 HM4 HX4 HU4 HB4 HROPEN
  have HRS := hidden (HRSEAL.out w5.drew (HS5.out.kept (Below.refl w5.heap.size w5).drew))
  have HCM := hidden (fun (W : World) (u : Value) (h : Sv W u m) => h.conv HBS.out)
  generalize R.isSome = o at *
  generalize R.getD [] = q at *
  have HALL : Hid (∀ W, Below w5.heap.size w5 W → (convert 23 9 (.slice pS m.length cS)).run Tryd.prog W = .ok (txt m) W ∧ (convert 23 9 (.slice pT l.length cT)).run Tryd.prog W = .ok (txt l) W ∧ (convert 23 9 (.slice a l.length cap)).run Tryd.prog W = .ok (txt l) W ∧ (convert 23 9 (.slice pU q.length cU)).run Tryd.prog W = .ok (txt q) W ∧ (convert 23 9 (.slice pV q.length cV)).run Tryd.prog W = .ok (txt q) W) :=
    hidden fun W h => ⟨(HM5.out.kept h).conv HBS.out, (HX5.out.kept h).conv H8.out, (HS5.out.kept h).conv H8.out, (HU5.out.kept h).conv HQB.out, (HV5.out.kept h).conv HQB.out⟩
  obtain ⟨k1, k2, k3, k4, k5⟩ := HALL.out w5.drew (Below.refl _ _).drew
  unfold txt at HALL HCM k1 k2 k3 k4 k5
  generalize m.map Nat.toUInt8 = U at *
  generalize l.map Nat.toUInt8 = V at *
  generalize q.map Nat.toUInt8 = X at *
  clear HM5 HX5 HS5 HU5 HV5 HRSEAL HQB HOS
  go_wp2_with fail
  refine wp_region_noPanic ?_
  go_region_held (fun w' => (convert 23 9 (.slice pS m.length cS)).run Tryd.prog w' = .ok (.string ⟨U.toArray⟩) w' ∧ (convert 23 9 (.slice pT l.length cT)).run Tryd.prog w' = .ok (.string ⟨V.toArray⟩) w' ∧ (convert 23 9 (.slice a l.length cap)).run Tryd.prog w' = .ok (.string ⟨V.toArray⟩) w' ∧ (convert 23 9 (.slice pU q.length cU)).run Tryd.prog w' = .ok (.string ⟨X.toArray⟩) w' ∧ (convert 23 9 (.slice pV q.length cV)).run Tryd.prog w' = .ok (.string ⟨X.toArray⟩) w') (first | assumption | exact ⟨by assumption, by assumption, by assumption, by assumption, by assumption⟩ | go_keep) (first | (go_at_call 15; refine HRS.out.mono ?_; rintro e w6 ⟨⟨u6, rfl, o6⟩, hb6⟩; have hcv := HCM.out _ _ o6.sv; obtain ⟨j1, j2, j3, j4, j5⟩ := HALL.out _ ((Below.refl _ _).drew.trans hb6); clear o6))
  refine NoPanic.normal ?_
  have HB6 := hidden (below_then HB5.out ((Below.refl w5.heap.size w5).drew.trans hb6))
  clear hb6 hcv j1 j2 j3 j4 j5 k1 k2 k3 k4 k5 HALL HCM HRS
  go_wp2_with fail
  go_ret
  exact ⟨rfl, HB6.out⟩

set_option maxRecDepth 100000 in
theorem lifted (os : Os) (started : os.Started) (H : Type) (enc : TypeId × Value → H) :
    ReturnsInHanded {} Tryd.checked os 5 .any (fun w args => (Rows.crcSealsSpec.pre enc Tryd.prog Tryd.f5 [] false w args ∧ laidMetH Tryd.prog laid1 w) ∧ sizedMet enc Tryd.prog Tryd.f5 (OpenSpec.ofChange Rows.crcSealsSpec) false w args)
      (Rows.crcSealsSpec.post enc Tryd.prog Tryd.f5 false true false false) := by
  refine returnsInHanded_of_change_and (C := Tryd.checked) (X := fun w _ => laidMetH Tryd.prog laid1 w) (fun _ _ _ hh h => h.of_heap hh) own started (by kernel_rfl) Tryd.func5
    (ChangeSpec.witness_shaped (enc := enc) (C := Tryd.checked) (os := os) (X := fun w _ => laidMetH Tryd.prog laid1 w) false (World.doorLaid Tryd.prog 400 os) #[.slice none 0 0] 8 rfl (World.shaped_of_RefB (by kernel_rfl) (by kernel_rfl)) (by kernel_rfl) (by kernel_rfl) (by kernel_rfl) (door_met os _)) ?_
  intro W base args ds gs before hval0 hW _ _ hL _
  have hval : ∀ (j : Nat) t v, Tryd.f5.params[j]? = some t → args[j]? = some v → Value.okWide Tryd.prog W .any base t v := hval0
  have hW' := hW
  obtain ⟨p, q, hA0, hV, rfl, hfz, hnd⟩ := hW
  have hA : DataW.TrodAll enc Tryd.prog W 0 (fun _ => true) true Tryd.f5.params.toList args.toList ds p := hA0
  rw [Tryd.params5] at hA hval
  obtain ⟨v0, vs0, d0, ds0, p0, q0, hargs, rfl, rfl, h0, r0⟩ := trodAll_cons hA
  obtain ⟨rfl, rfl, rfl⟩ := trodAll_nil r0
  obtain rfl : args = #[v0] := by cases args; simp_all
  obtain ⟨rfl, rfl⟩ := trodVars_none hV
  have hTab := of_laid hL
  obtain ⟨a0, len0, cap0, rfl⟩ := okWide_slice Tryd.underlying23 (hval 0 23 v0 rfl rfl)
  have lt0 : ∀ x ∈ p0, x.block < W.heap.size := by obtain ⟨m, hm⟩ := h0; exact DataW.trod_lt m _ _ _ hm
  obtain ⟨l0, hl0⟩ := open_bytes h0
  clear hA0 hval0
  refine (walk hTab hl0).mono fun e W' ⟨he, bel⟩ => ?_
  subst he
  exact ⟨_, rfl, _, _, _, [], _, [], hW', trodAll_mk1 (shut_bool Tryd.underlying4 _), (trodAll_cons_mk (Below.trod laidOut (by kernel_rfl) (of_decide_eq_true (by kernel_rfl)) h0 bel lt0) trodAll_mk0), rfl, bel.frame _, fun h => by cases h⟩

theorem proved : Rows.CrcSealsSaid :=
  OpenClaim.holds_of_wide 5 Tryd.f5 rfl rfl rfl rfl rfl rfl rfl ⟨rfl, rfl, rfl, rfl, rfl⟩ rfl rfl rfl rfl rfl (by kernel_rfl) Tryd.func5 (by kernel_rfl)
    (of_decide_eq_true (by kernel_rfl)) (by unfold Func.isWrapper; first | (rw [if_pos (by decide +kernel)]; kernel_rfl) | (rw [if_neg (by decide +kernel)]; exact ⟨rfl, rfl⟩))
    (fun os started H enc _ => lifted os started H enc)

theorem card : Rows.CrcSealsCardSaid :=
  Claim7.holds_tied_plain_at .later [] [.data] true (true, "c082d05e0ccff59637ce646535d3dd9c96b95f671bc1b631a3e847f7c71fe612") false
    proved (fun _ h => by cases h) (by kernel_rfl) (fun _ h => by cases h) crcSeals_row_tie rfl ⟨rfl, rfl⟩ (by kernel_rfl) rfl
    (fun f fn hf hfn => by
      obtain rfl : f = 5 := Option.some.inj ((show Tryd.prog.funcNamed "catchment/catchmentlaw07.CrcSeals" = some 5 by kernel_rfl).symm.trans hf) |>.symm
      obtain rfl : fn = Tryd.f5 := (Option.some.inj (Tryd.func5.symm.trans hfn)).symm
      exact ⟨by kernel_rfl, fun j t ht => by
        rw [Tryd.params5] at ht
        have hm : t ∈ [23] := by simpa using Array.mem_of_getElem? ht
        have hall : ([23].all fun u => !Tryd.prog.wantsStandIn u) = true := by kernel_rfl
        exact (show Tryd.prog.wantsStandIn t = false by simpa using List.all_eq_true.1 hall t hm)⟩)
    (by kernel_rfl)
end SealsLaw
theorem crcSeals_holds : Rows.CrcSealsCardSaid := SealsLaw.card
#print axioms crcSeals_holds
end Go.Proofs.YtnedlogfgpgchaaDoor
