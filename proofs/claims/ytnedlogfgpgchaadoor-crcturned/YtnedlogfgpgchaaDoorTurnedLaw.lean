/- CrcTurned: for all bytes, places and bytes to turn by the law returns true: a sealed text in which one byte is another one is none's. The table of half bytes reads as the program's text lays it (the card ties it); no other condition. -/
import Derived.Test.YtnedlogfgpgchaaDoorAlive
set_option linter.unusedVariables false
set_option linter.unusedSimpArgs false
namespace Go.Proofs.YtnedlogfgpgchaaDoor
namespace TurnedLaw
open Go.ChangeShapes Go.WideShapes Go.ChangeAt Go.RowKit Go.Lib

set_option maxRecDepth 100000 in
set_option maxHeartbeats 4000000 in
theorem walk {v : Value} {l : List Nat} {w : World} (ht : Tab w) (hl : Sv w v l ∧ Bs l) (x : Int) (y : Nat) (hy : y < 256) :
    Calls Tryd.prog 6 #[v, .int .i64 x, .int .u8 (y : Int)] w fun e w' => e = .returned (.bool true) ∧ Below w.heap.size w w' := by
  obtain ⟨hs, h8⟩ := hl
  have HS := hidden hs
  have H8 := hidden h8
  have HT := hidden ht
  obtain ⟨a, cap, rfl, h1, h2⟩ := hs.form
  have hm2 : l.length ≤ 9223372036854775807 := by unfold maxLen at h2; omega
  have HAL := hidden (alive_any ht)
  clear hs h8 ht h1 h2
  by_cases hbig : (l.length : Int) > 5000
  · go_enter Tryd.func6, Tryd.ntmps6
    go_wp2_with fail
    refine HAL.out.mono ?_
    rintro e w1 ⟨rfl, hb1⟩
    go_wp2_with fail
    go_ret
    exact ⟨rfl, hb1⟩
  by_cases hneg : x < 0
  · go_enter Tryd.func6, Tryd.ntmps6
    go_wp2_with fail
    refine HAL.out.mono ?_
    rintro e w1 ⟨rfl, hb1⟩
    go_wp2_with fail
    go_ret
    exact ⟨rfl, hb1⟩
  by_cases hgeq : x ≥ (l.length : Int) + 4
  · go_enter Tryd.func6, Tryd.ntmps6
    go_wp2_with fail
    refine HAL.out.mono ?_
    rintro e w1 ⟨rfl, hb1⟩
    go_wp2_with fail
    go_ret
    exact ⟨rfl, hb1⟩
  by_cases hy0 : y = 0
  · subst hy0
    go_enter Tryd.func6, Tryd.ntmps6
    go_wp2_with fail
    refine HAL.out.mono ?_
    rintro e w1 ⟨rfl, hb1⟩
    go_wp2_with fail
    go_ret
    exact ⟨rfl, hb1⟩
  obtain ⟨k, rfl⟩ := Int.eq_ofNat_of_zero_le (show 0 ≤ x by omega)
  have hyb : ((y : Int) == 0) = false := by simpa using hy0
  have hk : k < (sealM l).length := by rw [sealM_len]; omega
  have HTU := hidden (openM_turned H8.out hk hy hy0)
  have HSL : Hid ((sealM l).length = l.length + 4) := hidden (sealM_len l)
  have hkl : k < l.length + 4 := by omega
  have HBS := hidden H8.out.seal
  have hll : l.length ≤ 5000 := by omega
  go_enter Tryd.func6, Tryd.ntmps6
  go_wp2_with fail
  refine HAL.out.mono ?_
  rintro e w1 ⟨rfl, hb1⟩
  have HB1 := hidden hb1
  have HSE := hidden (seal_any (HT.out.kept hb1) (HS.out.kept hb1) H8.out (by omega))
  clear hb1
  generalize sealM l = m at *
  go_wp2_with fail
  refine HSE.out.mono ?_
  rintro e w2 ⟨⟨v2, rfl, o2⟩, hb2⟩
  obtain ⟨g, cap2, rfl, hBg, hgz⟩ := o2.form (by have := HSL.out; omega)
  have hsz1 := HB1.out.size
  obtain ⟨hck, hfr⟩ := o2.at hk
  have hxk := HBS.out.get hk
  have hxx := u8_xor_nat m[k] y hxk hy
  have hyl : m[k] ^^^ y < 256 := by
    have : m[k] ^^^ y < 2 ^ 8 := Nat.xor_lt_two_pow hxk hy
    omega
  have HO3 := hidden (o2.stored k (m[k] ^^^ y))
  have hB3 : Below w.heap.size w (w2.setCell ⟨g, k, none⟩ (.int .u8 ((m[k] ^^^ y : Nat) : Int))) := (below_then HB1.out hb2).setCell (by show w.heap.size ≤ g; omega) _
  have HB3 := hidden hB3
  have HB8 : Hid (Bs (m.set k (m[k] ^^^ y))) := by
    show Bs _
    intro z hz
    rcases List.mem_or_eq_of_mem_set hz with hz | rfl
    · exact HBS.out z hz
    · exact hyl
  have HL8 : Hid ((m.set k (m[k] ^^^ y)).length ≤ 30000) := by
    show _ ≤ _
    rw [List.length_set, HSL.out]
    omega
  have hmk : m.length = l.length + 4 := HSL.out
  rw [hmk]
  rw [hmk] at HO3
  clear o2 hb2 hB3 hmk
  generalize m[k] ^^^ y = z at *
  generalize m[k] = u at *
  clear hk
  go_wp2_with fail
  have HOP := hidden (open_any (HT.out.kept HB3.out) HO3.out.sv HB8.out HL8.out)
  rw [HTU.out] at HOP
  refine HOP.out.mono ?_
  rintro e w4 ⟨⟨v4, rfl, o4⟩, hb4⟩
  obtain ⟨a4, c4, rfl, _, _⟩ := o4.sv.form
  have HB4 := hidden (below_then HB3.out hb4)
  clear o4 hb4
  go_wp2_with fail
  go_ret
  exact ⟨rfl, HB4.out⟩

set_option maxRecDepth 100000 in
theorem lifted (os : Os) (started : os.Started) (H : Type) (enc : TypeId × Value → H) :
    ReturnsInHanded {} Tryd.checked os 6 .any (fun w args => (Rows.crcTurnedSpec.pre enc Tryd.prog Tryd.f6 [] false w args ∧ laidMetH Tryd.prog laid1 w) ∧ sizedMet enc Tryd.prog Tryd.f6 (OpenSpec.ofChange Rows.crcTurnedSpec) false w args)
      (Rows.crcTurnedSpec.post enc Tryd.prog Tryd.f6 false true false false) := by
  refine returnsInHanded_of_change_and (C := Tryd.checked) (X := fun w _ => laidMetH Tryd.prog laid1 w) (fun _ _ _ hh h => h.of_heap hh) own started (by kernel_rfl) Tryd.func6
    (ChangeSpec.witness_shaped (enc := enc) (C := Tryd.checked) (os := os) (X := fun w _ => laidMetH Tryd.prog laid1 w) false (World.doorLaid Tryd.prog 400 os) #[.slice none 0 0, .int .i64 0, .int .u8 0] 8 rfl (World.shaped_of_RefB (by kernel_rfl) (by kernel_rfl)) (by kernel_rfl) (by kernel_rfl) (by kernel_rfl) (door_met os _)) ?_
  intro W base args ds gs before hval0 hW _ _ hL _
  have hval : ∀ (j : Nat) t v, Tryd.f6.params[j]? = some t → args[j]? = some v → Value.okWide Tryd.prog W .any base t v := hval0
  have hW' := hW
  obtain ⟨p, q, hA0, hV, rfl, hfz, hnd⟩ := hW
  have hA : DataW.TrodAll enc Tryd.prog W 0 (fun _ => true) true Tryd.f6.params.toList args.toList ds p := hA0
  rw [Tryd.params6] at hA hval
  obtain ⟨v0, vs0, d0, ds0, p0, q0, hargs, rfl, rfl, h0, r0⟩ := trodAll_cons hA
  obtain ⟨v1, vs1, d1, ds1, p1, q1, rfl, rfl, rfl, h1, r1⟩ := trodAll_cons r0
  obtain ⟨v2, vs2, d2, ds2, p2, q2, rfl, rfl, rfl, h2, r2⟩ := trodAll_cons r1
  obtain ⟨rfl, rfl, rfl⟩ := trodAll_nil r2
  obtain rfl : args = #[v0, v1, v2] := by cases args; simp_all
  obtain ⟨rfl, rfl⟩ := trodVars_none hV
  have hTab := of_laid hL
  obtain ⟨a0, len0, cap0, rfl⟩ := okWide_slice Tryd.underlying23 (hval 0 23 v0 rfl rfl)
  have lt0 : ∀ x ∈ p0, x.block < W.heap.size := by obtain ⟨m, hm⟩ := h0; exact DataW.trod_lt m _ _ _ hm
  obtain ⟨l0, hl0⟩ := open_bytes h0
  obtain ⟨a1, rfl, rfl, rfl, w1⟩ := open_int Tryd.underlying3 (hval 1 3 v1 rfl rfl) h1
  obtain ⟨a2, rfl, rfl, rfl, w2⟩ := open_int Tryd.underlying5 (hval 2 5 v2 rfl rfl) h2
  have g2 := bounds_u8 w2
  obtain ⟨n2, rfl⟩ := Int.eq_ofNat_of_zero_le g2.1
  clear hA0 hval0
  refine (walk hTab hl0 a1 n2 (by omega)).mono fun e W' ⟨he, bel⟩ => ?_
  subst he
  exact ⟨_, rfl, _, _, _, [], _, [], hW', trodAll_mk1 (shut_bool Tryd.underlying4 _), (trodAll_cons_mk (Below.trod laidOut (by kernel_rfl) (of_decide_eq_true (by kernel_rfl)) h0 bel lt0) (trodAll_cons_mk (shut_int Tryd.underlying3 w1) (trodAll_cons_mk (shut_int Tryd.underlying5 w2) trodAll_mk0))), rfl, bel.frame _, fun h => by cases h⟩

theorem proved : Rows.CrcTurnedSaid :=
  OpenClaim.holds_of_wide 6 Tryd.f6 rfl rfl rfl rfl rfl rfl rfl ⟨rfl, rfl, rfl, rfl, rfl⟩ rfl rfl rfl rfl rfl (by kernel_rfl) Tryd.func6 (by kernel_rfl)
    (of_decide_eq_true (by kernel_rfl)) (by unfold Func.isWrapper; first | (rw [if_pos (by decide +kernel)]; kernel_rfl) | (rw [if_neg (by decide +kernel)]; exact ⟨rfl, rfl⟩))
    (fun os started H enc _ => lifted os started H enc)

theorem card : Rows.CrcTurnedCardSaid :=
  Claim7.holds_tied_plain_at .later [] [.data] true (true, "c082d05e0ccff59637ce646535d3dd9c96b95f671bc1b631a3e847f7c71fe612") false
    proved (fun _ h => by cases h) (by kernel_rfl) (fun _ h => by cases h) crcTurned_row_tie rfl ⟨rfl, rfl⟩ (by kernel_rfl) rfl
    (fun f fn hf hfn => by
      obtain rfl : f = 6 := Option.some.inj ((show Tryd.prog.funcNamed "catchment/catchmentlaw07.CrcTurned" = some 6 by kernel_rfl).symm.trans hf) |>.symm
      obtain rfl : fn = Tryd.f6 := (Option.some.inj (Tryd.func6.symm.trans hfn)).symm
      exact ⟨by kernel_rfl, fun j t ht => by
        rw [Tryd.params6] at ht
        have hm : t ∈ [23, 3, 5] := by simpa using Array.mem_of_getElem? ht
        have hall : ([23, 3, 5].all fun u => !Tryd.prog.wantsStandIn u) = true := by kernel_rfl
        exact (show Tryd.prog.wantsStandIn t = false by simpa using List.all_eq_true.1 hall t hm)⟩)
    (by kernel_rfl)
end TurnedLaw
theorem crcTurned_holds : Rows.CrcTurnedCardSaid := TurnedLaw.card
#print axioms crcTurned_holds
end Go.Proofs.YtnedlogfgpgchaaDoor
