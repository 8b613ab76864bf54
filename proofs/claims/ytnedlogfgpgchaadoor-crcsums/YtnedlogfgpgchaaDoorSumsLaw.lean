/- CrcSums: for all numbers of 32 bits and all bytes the law returns true: the sum of any bytes, and of more behind others, is the document's; it goes on behind bytes as that of all. The table of half bytes reads as the program's text lays it (the card ties it); no other condition. -/
import Derived.Test.YtnedlogfgpgchaaDoorAlive
import Derived.Test.YtnedlogfgpgchaaDoorRef
set_option linter.unusedVariables false
set_option linter.unusedSimpArgs false
namespace Go.Proofs.YtnedlogfgpgchaaDoor
namespace SumsLaw
open Go.ChangeShapes Go.WideShapes Go.ChangeAt Go.RowKit Go.Lib

set_option maxRecDepth 100000 in
set_option maxHeartbeats 4000000 in
theorem walk {w : World} (ht : Tab w) (c : Nat) (hc : c < 4294967296) {va vb : Value} {a b : List Nat} (ha : Sv w va a ∧ Bs a) (hb : Sv w vb b ∧ Bs b) :
    Calls Tryd.prog 3 #[.int .u32 (c : Int), va, vb] w fun e w' => e = .returned (.bool true) ∧ Below w.heap.size w w' := by
  obtain ⟨hsa, ha8⟩ := ha
  obtain ⟨hsb, hb8⟩ := hb
  have HA := hidden hsa
  have HB := hidden hsb
  have HA8 := hidden ha8
  have HB8 := hidden hb8
  have HT := hidden ht
  obtain ⟨pa, capa, rfl, _, h2⟩ := hsa.form
  obtain ⟨pb, capb, rfl, _, h4⟩ := hsb.form
  have hma : a.length ≤ 9223372036854775807 := by unfold maxLen at h2; omega
  have hmb : b.length ≤ 9223372036854775807 := by unfold maxLen at h4; omega
  have HAL := hidden (alive_any ht)
  clear hsa hsb ha8 hb8 ht h2 h4
  by_cases hbig : (a.length : Int) > 20000
  · go_enter Tryd.func3, Tryd.ntmps3
    go_wp2_with fail
    refine HAL.out.mono ?_
    rintro e w1 ⟨rfl, hb1⟩
    go_wp2_with fail
    go_ret
    exact ⟨rfl, hb1⟩
  by_cases hbig2 : (b.length : Int) > 20000
  · go_enter Tryd.func3, Tryd.ntmps3
    go_wp2_with fail
    refine HAL.out.mono ?_
    rintro e w1 ⟨rfl, hb1⟩
    go_wp2_with fail
    go_ret
    exact ⟨rfl, hb1⟩
  have hla : a.length ≤ 20000 := by omega
  have hlb : b.length ≤ 20000 := by omega
  go_enter Tryd.func3, Tryd.ntmps3
  go_wp2_with fail
  refine HAL.out.mono ?_
  rintro e w1 ⟨rfl, hb1⟩
  have HW1 := hidden hb1
  have HT1 := hidden (HT.out.kept hb1)
  have HA1 := hidden (HA.out.kept hb1)
  have HB1 := hidden (HB.out.kept hb1)
  clear hb1 HA HB HT HAL
  have HOB := hidden (of_any HT1.out HB1.out HB8.out)
  have HRB := hidden (refMore_any HB1.out HB8.out 0 (by omega))
  have HMC := hidden (more_any HT1.out HB1.out HB8.out c hc)
  have HRC := hidden (refMore_any HB1.out HB8.out c hc)
  have HOA := hidden (of_any HT1.out HA1.out HA8.out)
  have hRa := crcM_lt (c := 0) (by omega) HA8.out
  have HMA := hidden (more_any HT1.out HB1.out HB8.out (crcM 0 a) hRa)
  rw [crcM_append] at HMA
  have HOAB := hidden (fun (W : World) (v : Value) (hT : Tab W) (h : Sv W v (a ++ b)) => of_any hT h (HA8.out.append HB8.out))
  generalize crcM 0 (a ++ b) = r4 at *
  generalize crcM 0 a = r3 at *
  generalize crcM c b = r2 at *
  generalize crcM 0 b = r1 at *
  go_wp2_with fail
  refine HOB.out.mono ?_
  rintro e w2 ⟨rfl, rfl⟩
  go_wp2_with fail
  refine HRB.out.mono ?_
  rintro e w3 ⟨rfl, rfl⟩
  go_wp2_with fail
  refine HMC.out.mono ?_
  rintro e w4 ⟨rfl, rfl⟩
  go_wp2_with fail
  refine HRC.out.mono ?_
  rintro e w5 ⟨rfl, rfl⟩
  go_wp2_with fail
  refine HOA.out.mono ?_
  rintro e w6 ⟨rfl, rfl⟩
  go_wp2_with fail
  refine HMA.out.mono ?_
  rintro e w7 ⟨rfl, rfl⟩
  have HBN := hidden (below_alloc w7 (.cells #[] 5))
  have HLN := hidden (lit_none w7)
  have HSN := hidden (HA1.out.kept HBN.out)
  go_wp2_with (first | (at_builtin; refine wpList_guarded rfl ?_; refine wpList_append_sv rfl _ _ rfl w7.heap.size _ _ [] a rfl ?q1 rfl ?q2 ?c1 ?c2 ?_))
  case q1 => exact HLN.out
  case q2 => exact HSN.out
  case c1 => simp; omega
  case c2 => rw [World.size_alloc]; omega
  intro v8 w8 o8 hb8
  have o8' : OwnB w8 w7.heap.size v8 a := o8
  have HB78 := hidden (HBN.out.trans hb8)
  have HO8 := hidden o8'
  have HB8' := hidden (HB1.out.kept HB78.out)
  have hz8 := HB78.out.size
  clear o8 o8' hb8
  go_wp2_with (first | (at_builtin; refine wpList_guarded rfl ?_; refine wpList_append_sv rfl _ _ rfl w7.heap.size _ _ a b rfl ?q3 rfl ?q4 ?c3 ?c4 ?_))
  case q3 => exact HO8.out
  case q4 => exact HB8'.out
  case c3 => omega
  case c4 => omega
  intro v9 w9 o9 hb9
  have HB79 := hidden (HB78.out.trans hb9)
  have HOX := hidden (HOAB.out w9 v9 (HT1.out.kept HB79.out) o9.sv)
  clear o9 hb9
  go_wp2_with fail
  refine HOX.out.mono ?_
  rintro e w10 ⟨rfl, rfl⟩
  go_wp2_with fail
  go_ret
  exact ⟨rfl, below_then HW1.out HB79.out⟩

set_option maxRecDepth 100000 in
theorem lifted (os : Os) (started : os.Started) (H : Type) (enc : TypeId × Value → H) :
    ReturnsInHanded {} Tryd.checked os 3 .any (fun w args => (Rows.crcSumsSpec.pre enc Tryd.prog Tryd.f3 [] false w args ∧ laidMetH Tryd.prog laid1 w) ∧ sizedMet enc Tryd.prog Tryd.f3 (OpenSpec.ofChange Rows.crcSumsSpec) false w args)
      (Rows.crcSumsSpec.post enc Tryd.prog Tryd.f3 false true false false) := by
  refine returnsInHanded_of_change_and (C := Tryd.checked) (X := fun w _ => laidMetH Tryd.prog laid1 w) (fun _ _ _ hh h => h.of_heap hh) own started (by kernel_rfl) Tryd.func3
    (ChangeSpec.witness_shaped (enc := enc) (C := Tryd.checked) (os := os) (X := fun w _ => laidMetH Tryd.prog laid1 w) false (World.doorLaid Tryd.prog 400 os) #[.int .u32 0, .slice none 0 0, .slice none 0 0] 8 rfl (World.shaped_of_RefB (by kernel_rfl) (by kernel_rfl)) (by kernel_rfl) (by kernel_rfl) (by kernel_rfl) (door_met os _)) ?_
  intro W base args ds gs before hval0 hW _ _ hL _
  have hval : ∀ (j : Nat) t v, Tryd.f3.params[j]? = some t → args[j]? = some v → Value.okWide Tryd.prog W .any base t v := hval0
  have hW' := hW
  obtain ⟨p, q, hA0, hV, rfl, hfz, hnd⟩ := hW
  have hA : DataW.TrodAll enc Tryd.prog W 0 (fun _ => true) true Tryd.f3.params.toList args.toList ds p := hA0
  rw [Tryd.params3] at hA hval
  obtain ⟨v0, vs0, d0, ds0, p0, q0, hargs, rfl, rfl, h0, r0⟩ := trodAll_cons hA
  obtain ⟨v1, vs1, d1, ds1, p1, q1, rfl, rfl, rfl, h1, r1⟩ := trodAll_cons r0
  obtain ⟨v2, vs2, d2, ds2, p2, q2, rfl, rfl, rfl, h2, r2⟩ := trodAll_cons r1
  obtain ⟨rfl, rfl, rfl⟩ := trodAll_nil r2
  obtain rfl : args = #[v0, v1, v2] := by cases args; simp_all
  obtain ⟨rfl, rfl⟩ := trodVars_none hV
  have hTab := of_laid hL
  obtain ⟨a0, rfl, rfl, rfl, w0⟩ := open_int Tryd.underlying22 (hval 0 22 v0 rfl rfl) h0
  have g0 := bounds_u32 w0
  obtain ⟨n0, rfl⟩ := Int.eq_ofNat_of_zero_le g0.1
  obtain ⟨a1, len1, cap1, rfl⟩ := okWide_slice Tryd.underlying23 (hval 1 23 v1 rfl rfl)
  have lt1 : ∀ x ∈ p1, x.block < W.heap.size := by obtain ⟨m, hm⟩ := h1; exact DataW.trod_lt m _ _ _ hm
  obtain ⟨l1, hl1⟩ := open_bytes h1
  obtain ⟨a2, len2, cap2, rfl⟩ := okWide_slice Tryd.underlying23 (hval 2 23 v2 rfl rfl)
  have lt2 : ∀ x ∈ p2, x.block < W.heap.size := by obtain ⟨m, hm⟩ := h2; exact DataW.trod_lt m _ _ _ hm
  obtain ⟨l2, hl2⟩ := open_bytes h2
  clear hA0 hval0
  refine (walk hTab n0 (by omega) hl1 hl2).mono fun e W' ⟨he, bel⟩ => ?_
  subst he
  exact ⟨_, rfl, _, _, _, [], _, [], hW', trodAll_mk1 (shut_bool Tryd.underlying4 _), (trodAll_cons_mk (shut_int Tryd.underlying22 w0) (trodAll_cons_mk (Below.trod laidOut (by kernel_rfl) (of_decide_eq_true (by kernel_rfl)) h1 bel lt1) (trodAll_cons_mk (Below.trod laidOut (by kernel_rfl) (of_decide_eq_true (by kernel_rfl)) h2 bel lt2) trodAll_mk0))), rfl, bel.frame _, fun h => by cases h⟩

theorem proved : Rows.CrcSumsSaid :=
  OpenClaim.holds_of_wide 3 Tryd.f3 rfl rfl rfl rfl rfl rfl rfl ⟨rfl, rfl, rfl, rfl, rfl⟩ rfl rfl rfl rfl rfl (by kernel_rfl) Tryd.func3 (by kernel_rfl)
    (of_decide_eq_true (by kernel_rfl)) (by unfold Func.isWrapper; first | (rw [if_pos (by decide +kernel)]; kernel_rfl) | (rw [if_neg (by decide +kernel)]; exact ⟨rfl, rfl⟩))
    (fun os started H enc _ => lifted os started H enc)

theorem card : Rows.CrcSumsCardSaid :=
  Claim7.holds_tied_plain_at .later [] [.data] true (true, "c082d05e0ccff59637ce646535d3dd9c96b95f671bc1b631a3e847f7c71fe612") false
    proved (fun _ h => by cases h) (by kernel_rfl) (fun _ h => by cases h) crcSums_row_tie rfl ⟨rfl, rfl⟩ (by kernel_rfl) rfl
    (fun f fn hf hfn => by
      obtain rfl : f = 3 := Option.some.inj ((show Tryd.prog.funcNamed "catchment/catchmentlaw07.CrcSums" = some 3 by kernel_rfl).symm.trans hf) |>.symm
      obtain rfl : fn = Tryd.f3 := (Option.some.inj (Tryd.func3.symm.trans hfn)).symm
      exact ⟨by kernel_rfl, fun j t ht => by
        rw [Tryd.params3] at ht
        have hm : t ∈ [22, 23, 23] := by simpa using Array.mem_of_getElem? ht
        have hall : ([22, 23, 23].all fun u => !Tryd.prog.wantsStandIn u) = true := by kernel_rfl
        exact (show Tryd.prog.wantsStandIn t = false by simpa using List.all_eq_true.1 hall t hm)⟩)
    (by kernel_rfl)
end SumsLaw
theorem crcSums_holds : Rows.CrcSumsCardSaid := SumsLaw.card
#print axioms crcSums_holds
end Go.Proofs.YtnedlogfgpgchaaDoor
