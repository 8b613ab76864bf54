/- CrcOwn: for all bytes the law returns true: what is sealed and opened stays as it was, and what is told is new. The table of half bytes reads as the program's text lays it (the card ties it); no other condition. -/
import Derived.Test.YtnedlogfgpgchaaDoorAlive
set_option linter.unusedVariables false
set_option linter.unusedSimpArgs false
namespace Go.Proofs.YtnedlogfgpgchaaDoor
namespace OwnLaw
open Go.ChangeShapes Go.WideShapes Go.ChangeAt Go.RowKit Go.Lib

theorem inc (x : Nat) : IntKind.u8.wrap ((x : Int) + 1) = (((x + 1) % 256 : Nat) : Int) := by rw [IntKind.wrap_u8]; omega

set_option maxRecDepth 100000 in
set_option maxHeartbeats 4000000 in
theorem walk {v : Value} {l : List Nat} {w : World} (ht : Tab w) (hl : Sv w v l ∧ Bs l) :
    Calls Tryd.prog 7 #[v] w fun e w' => e = .returned (.bool true) ∧ Below w.heap.size w w' := by
  obtain ⟨hs, h8⟩ := hl
  have HS := hidden hs
  have H8 := hidden h8
  have HT := hidden ht
  obtain ⟨a, cap, rfl, h1, h2⟩ := hs.form
  have hm2 : l.length ≤ 9223372036854775807 := by unfold maxLen at h2; omega
  have HAL := hidden (alive_any ht)
  clear hs h8 ht h1 h2
  by_cases hbig : (l.length : Int) > 5000
  · go_enter Tryd.func7, Tryd.ntmps7
    go_wp2_with fail
    refine HAL.out.mono ?_
    rintro e w1 ⟨rfl, hb1⟩
    go_wp2_with fail
    go_ret
    exact ⟨rfl, hb1⟩
  have hll : l.length ≤ 5000 := by omega
  have HBS := hidden H8.out.seal
  have HOS := hidden (openM_seal l)
  have HML : Hid ((sealM l).length = l.length + 4) := hidden (sealM_len l)
  obtain ⟨m, hm⟩ : ∃ m, sealM l = m := ⟨_, rfl⟩
  have HSEAL := hidden (fun (W : World) (hT : Tab W) (h : Sv W (.slice a l.length cap) l) => seal_any hT h H8.out (by omega))
  rw [hm] at HBS HOS HML HSEAL
  have hml : m.length ≤ 5004 := by have := HML.out; omega
  clear hm HML
  go_enter Tryd.func7, Tryd.ntmps7
  go_wp2_with fail
  refine HAL.out.mono ?_
  rintro e w1 ⟨rfl, hb1⟩
  have HB1 := hidden hb1
  have HT1 := hidden (HT.out.kept hb1)
  have HS1 := hidden (HS.out.kept hb1)
  clear hb1 HAL
  have HBN := hidden (below_alloc w1 (.cells #[] 5))
  have HLN := hidden (lit_none w1)
  have HSN := hidden (HS1.out.kept HBN.out)
  go_wp2_with (first | (at_builtin; refine wpList_append_sv rfl _ _ rfl w1.heap.size _ _ [] l rfl ?q1 rfl ?q2 ?c1 ?c2 ?_))
  case q1 => exact HLN.out
  case q2 => exact HSN.out
  case c1 => simp; omega
  case c2 => rw [World.size_alloc]; omega
  intro vx w2 o2 hb2
  have o2' : OwnB w2 w1.heap.size vx l := o2
  have hb12 := HBN.out.trans hb2
  have HB2 := hidden (below_then HB1.out hb12)
  have HT2 := hidden (HT1.out.kept hb12)
  have HS2 := hidden (HS1.out.kept hb12)
  have HX2 := hidden o2'.sv
  obtain ⟨ax, cx, rfl, _, _⟩ := o2'.sv.form
  clear o2 o2' hb2 hb12 HBN HLN HSN HT1 HS1
  have HSE := hidden (HSEAL.out w2 HT2.out HS2.out)
  go_wp2_with fail
  refine HSE.out.mono ?_
  rintro e w3 ⟨⟨vs, rfl, o3⟩, hb3⟩
  have HB23 := hidden hb3
  have HO3 := hidden o3
  have HT3 := hidden (HT2.out.kept hb3)
  obtain ⟨aS, cs, rfl, _, _⟩ := o3.sv.form
  have HBN := hidden (below_alloc w3 (.cells #[] 5))
  have HLN := hidden (lit_none w3)
  have HSN := hidden (o3.sv.kept HBN.out)
  clear o3 hb3 HSE
  go_wp2_with (first | (at_builtin; refine wpList_append_sv rfl _ _ rfl w3.heap.size _ _ [] m rfl ?q3 rfl ?q4 ?c3 ?c4 ?_))
  case q3 => exact HLN.out
  case q4 => exact HSN.out
  case c3 => simp; omega
  case c4 => rw [World.size_alloc]; omega
  intro vy w4 o4 hb4
  have o4' : OwnB w4 w3.heap.size vy m := o4
  have hb34 := HBN.out.trans hb4
  have HB24 := hidden (below_then HB23.out hb34)
  have HT4 := hidden (HT3.out.kept hb34)
  have HO4 := hidden (HO3.out.kept hb34)
  have HS4 := hidden (HS2.out.kept HB24.out)
  have HX4 := hidden (HX2.out.kept HB24.out)
  have HY4 := hidden o4'.sv
  obtain ⟨ay, cy, rfl, _, _⟩ := o4'.sv.form
  clear o4 o4' hb4 hb34 HBN HLN HSN HT3 HO3
  have HOP := hidden (open_any HT4.out HO4.out.sv HBS.out (by omega))
  rw [HOS.out] at HOP
  go_wp2_with fail
  refine HOP.out.mono ?_
  rintro e w5 ⟨⟨vt, rfl, o5⟩, hb5⟩
  have o5' : OwnB w5 w4.heap.size vt l := o5
  have HO5 := hidden o5'
  have HB45 := hidden hb5
  obtain ⟨at_, ct, rfl, _, _⟩ := o5'.sv.form
  clear o5 o5' hb5 HOP
  go_wp2_with fail
  go_loopw [8] (fun i wr => (∃ k : Nat, i = .int .i64 (k : Int) ∧ k ≤ l.length) ∧ (∃ bs : List Nat, OwnB wr w4.heap.size (.slice at_ l.length ct) bs ∧ bs.length = l.length) ∧ Below w4.heap.size w4 wr) (fun i _ => l.length - (intOf i).toNat)
  case atStart => exact ⟨⟨0, rfl, by omega⟩, ⟨l, HO5.out, rfl⟩, HB45.out⟩
  case round =>
    obtain ⟨⟨k, rfl, hk⟩, ⟨bs, how, hbl⟩, hbel⟩ := hrel
    have HB := hidden hbel
    by_cases hlt : k < l.length
    · have hkb : k < bs.length := by omega
      obtain ⟨g, cap2, hv, hBg, hgz⟩ := how.form (by omega)
      simp only [Value.slice.injEq] at hv
      obtain ⟨rfl, _, rfl⟩ := hv
      obtain ⟨hck, hfr⟩ := how.at hkb
      have hin := inc bs[k]
      have HST := hidden (how.stored k ((bs[k] + 1) % 256))
      have HSL : Hid ((bs.set k ((bs[k] + 1) % 256)).length = l.length) := by show _ = _; rw [List.length_set]; exact hbl
      generalize bs.set k ((bs[k] + 1) % 256) = bs2 at *
      generalize (bs[k] + 1) % 256 = z at *
      generalize bs[k] = u at *
      clear how hbl hbel hkb
      go_wp2_with fail
      go_roundw
      case rel => exact ⟨⟨k + 1, by go_num, by omega⟩, ⟨bs2, HST.out, HSL.out⟩, HB.out.setCell hBg _⟩
      case measure => simp [intOf]; omega
    · obtain rfl : k = l.length := by omega
      have hc1 := (HS4.out.kept hbel).conv H8.out
      have hc2 := (HX4.out.kept hbel).conv H8.out
      have hc3 := (HO4.out.sv.kept hbel).conv HBS.out
      have hc4 := (HY4.out.kept hbel).conv HBS.out
      have HO6 := hidden (HO4.out.kept hbel)
      have HB26 := hidden (HB24.out.trans (hbel.mono HB24.out.size))
      unfold txt at hc1 hc2 hc3 hc4
      generalize l.map Nat.toUInt8 = U at *
      generalize m.map Nat.toUInt8 = V at *
      clear how hbl hbel
      go_wp2_with fail
      go_loopw [9] (fun i w' => (∃ k : Nat, i = .int .i64 (k : Int) ∧ k ≤ m.length) ∧ (∃ bs : List Nat, OwnB w' w2.heap.size (.slice aS m.length cs) bs ∧ bs.length = m.length) ∧ Below w2.heap.size w2 w') (fun i _ => m.length - (intOf i).toNat)
      case atStart => exact ⟨⟨0, rfl, by omega⟩, ⟨m, HO6.out, rfl⟩, HB26.out⟩
      case round =>
        obtain ⟨⟨k, rfl, hk⟩, ⟨bs, how, hbl⟩, hbel⟩ := hrel
        have HB := hidden hbel
        by_cases hlt : k < m.length
        · have hkb : k < bs.length := by omega
          obtain ⟨g, cap2, hv, hBg, hgz⟩ := how.form (by omega)
          simp only [Value.slice.injEq] at hv
          obtain ⟨rfl, _, rfl⟩ := hv
          obtain ⟨hck, hfr⟩ := how.at hkb
          have hin := inc bs[k]
          have HST := hidden (how.stored k ((bs[k] + 1) % 256))
          have HSL : Hid ((bs.set k ((bs[k] + 1) % 256)).length = m.length) := by show _ = _; rw [List.length_set]; exact hbl
          generalize bs.set k ((bs[k] + 1) % 256) = bs2 at *
          generalize (bs[k] + 1) % 256 = z at *
          generalize bs[k] = u at *
          clear how hbl hbel hkb
          go_wp2_with fail
          go_roundw
          case rel => exact ⟨⟨k + 1, by go_num, by omega⟩, ⟨bs2, HST.out, HSL.out⟩, HB.out.setCell hBg _⟩
          case measure => simp [intOf]; omega
        · obtain rfl : k = m.length := by omega
          have hd1 := (HS2.out.kept hbel).conv H8.out
          have hd2 := (HX2.out.kept hbel).conv H8.out
          unfold txt at hd1 hd2
          clear how hbl hbel hc1 hc2 hc3 hc4
          generalize l.map Nat.toUInt8 = U at *
          go_wp2_with fail
          go_ret
          refine ⟨?_, below_then HB2.out HB.out⟩
          simp

set_option maxRecDepth 100000 in
theorem lifted (os : Os) (started : os.Started) (H : Type) (enc : TypeId × Value → H) :
    ReturnsInHanded {} Tryd.checked os 7 .any (fun w args => (Rows.crcOwnSpec.pre enc Tryd.prog Tryd.f7 [] false w args ∧ laidMetH Tryd.prog laid1 w) ∧ sizedMet enc Tryd.prog Tryd.f7 (OpenSpec.ofChange Rows.crcOwnSpec) false w args)
      (Rows.crcOwnSpec.post enc Tryd.prog Tryd.f7 false true false false) := by
  refine returnsInHanded_of_change_and (C := Tryd.checked) (X := fun w _ => laidMetH Tryd.prog laid1 w) (fun _ _ _ hh h => h.of_heap hh) own started (by kernel_rfl) Tryd.func7
    (ChangeSpec.witness_shaped (enc := enc) (C := Tryd.checked) (os := os) (X := fun w _ => laidMetH Tryd.prog laid1 w) false (World.doorLaid Tryd.prog 400 os) #[.slice none 0 0] 8 rfl (World.shaped_of_RefB (by kernel_rfl) (by kernel_rfl)) (by kernel_rfl) (by kernel_rfl) (by kernel_rfl) (door_met os _)) ?_
  intro W base args ds gs before hval0 hW _ _ hL _
  have hval : ∀ (j : Nat) t v, Tryd.f7.params[j]? = some t → args[j]? = some v → Value.okWide Tryd.prog W .any base t v := hval0
  have hW' := hW
  obtain ⟨p, q, hA0, hV, rfl, hfz, hnd⟩ := hW
  have hA : DataW.TrodAll enc Tryd.prog W 0 (fun _ => true) true Tryd.f7.params.toList args.toList ds p := hA0
  rw [Tryd.params7] at hA hval
  obtain ⟨v0, vs0, d0, ds0, p0, q0, hargs, rfl, rfl, h0, r0⟩ := trodAll_cons hA
  obtain ⟨rfl, rfl, rfl⟩ := trodAll_nil r0
  obtain rfl : args = #[v0] := by cases args; simp_all
  obtain ⟨rfl, rfl⟩ := trodVars_none hV
  have hTab := of_laid hL
  obtain ⟨a0, len0, cap0, rfl⟩ := okWide_slice Tryd.underlying23 (hval 0 23 v0 rfl rfl)
  have lt0 : ∀ x ∈ p0, x.block < W.heap.size := by obtain ⟨m, hm⟩ := h0; exact DataW.trod_lt m _ _ _ hm
  obtain ⟨l0, hl0⟩ := open_bytes h0
  clear hA0 hval0
  refine (walk hTab hl0).mono fun e W' ⟨he, bel⟩ => ?_
  subst he
  exact ⟨_, rfl, _, _, _, [], _, [], hW', trodAll_mk1 (shut_bool Tryd.underlying4 _), (trodAll_cons_mk (Below.trod laidOut (by kernel_rfl) (of_decide_eq_true (by kernel_rfl)) h0 bel lt0) trodAll_mk0), rfl, bel.frame _, fun h => by cases h⟩

theorem proved : Rows.CrcOwnSaid :=
  OpenClaim.holds_of_wide 7 Tryd.f7 rfl rfl rfl rfl rfl rfl rfl ⟨rfl, rfl, rfl, rfl, rfl⟩ rfl rfl rfl rfl rfl (by kernel_rfl) Tryd.func7 (by kernel_rfl)
    (of_decide_eq_true (by kernel_rfl)) (by unfold Func.isWrapper; first | (rw [if_pos (by decide +kernel)]; kernel_rfl) | (rw [if_neg (by decide +kernel)]; exact ⟨rfl, rfl⟩))
    (fun os started H enc _ => lifted os started H enc)

theorem card : Rows.CrcOwnCardSaid :=
  Claim7.holds_tied_plain_at .later [] [.data] true (true, "c082d05e0ccff59637ce646535d3dd9c96b95f671bc1b631a3e847f7c71fe612") false
    proved (fun _ h => by cases h) (by kernel_rfl) (fun _ h => by cases h) crcOwn_row_tie rfl ⟨rfl, rfl⟩ (by kernel_rfl) rfl
    (fun f fn hf hfn => by
      obtain rfl : f = 7 := Option.some.inj ((show Tryd.prog.funcNamed "catchment/catchmentlaw07.CrcOwn" = some 7 by kernel_rfl).symm.trans hf) |>.symm
      obtain rfl : fn = Tryd.f7 := (Option.some.inj (Tryd.func7.symm.trans hfn)).symm
      exact ⟨by kernel_rfl, fun j t ht => by
        rw [Tryd.params7] at ht
        have hm : t ∈ [23] := by simpa using Array.mem_of_getElem? ht
        have hall : ([23].all fun u => !Tryd.prog.wantsStandIn u) = true := by kernel_rfl
        exact (show Tryd.prog.wantsStandIn t = false by simpa using List.all_eq_true.1 hall t hm)⟩)
    (by kernel_rfl)
end OwnLaw
theorem crcOwn_holds : Rows.CrcOwnCardSaid := OwnLaw.card
#print axioms crcOwn_holds
end Go.Proofs.YtnedlogfgpgchaaDoor
