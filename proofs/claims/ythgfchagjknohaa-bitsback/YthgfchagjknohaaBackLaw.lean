/- BitsBack: for all numbers, bytes and widths the law returns true: numbers that are packed with any width that is wide enough are unpacked; bytes that are unpacked are packed as they were; nothing that was there is written. No condition. -/
import Derived.Test.YthgfchagjknohaaLift
set_option linter.unusedVariables false
namespace Go.Proofs.Ythgfchagjknohaa
namespace BackLaw
open Go.ChangeShapes Go.WideShapes Go.ChangeAt Go.RowKit Go.Lib

/-- Which width the law takes. -/
theorem wide_can {l : List Nat} {m wide : Nat} (h64 : ∀ x ∈ l, x < 18446744073709551616) (hl : l.length ≤ 256) (hw : min 64 (wd l + m) = wide) : can l (wide : Int) = true := by
  have := wd64 h64
  unfold can
  exact decide_eq_true ⟨by omega, by omega, hl, by omega⟩

set_option maxRecDepth 100000 in
set_option maxHeartbeats 8000000 in
theorem walk {v : Value} {l : List Nat} {W0 : World} (hl : Sn .u64 W0 v l ∧ ∀ x ∈ l, x < 18446744073709551616) (more : Int) {vb : Value} {b : List Nat} (hb : Sn .u8 W0 vb b ∧ ∀ x ∈ b, x < 256) (x : Int) (w : World) (hw : w = W0) :
    Calls Try.prog 5 #[v, .int .i64 more, vb, .int .i64 x] w fun e w' => e = .returned (.bool true) ∧ Below w.heap.size w w' := by
  subst hw
  obtain ⟨hsn, h64⟩ := hl
  obtain ⟨hsb, h8⟩ := hb
  have HS := hidden hsn.1
  have HT := hidden hsb.1
  obtain ⟨a, cap, rfl, hm, hcl⟩ := hsn.1
  have hm2 : l.length ≤ 9223372036854775807 := by unfold maxLen at hm; omega
  obtain ⟨a', cap', rfl, hm', hcl'⟩ := hsb.1
  have hm3 : b.length ≤ 9223372036854775807 := by unfold maxLen at hm'; omega
  clear hsn hm hcl hsb hm' hcl'
  have H64 := hidden h64
  have H8 := hidden h8
  clear h64 h8
  by_cases hbig : (l.length : Int) > 256
  · clear HS HT
    go_enter Try.func5, Try.ntmps5
    go_wp2_with fail
    refine (alive_any _).mono ?_
    rintro e w1 ⟨rfl, hb1⟩
    go_wp2_with fail
    go_ret
    exact ⟨rfl, hb1⟩
  · obtain ⟨u, hu⟩ : ∃ u : Nat, IntKind.u64.wrap more = (u : Int) := ⟨(IntKind.u64.wrap more).toNat, by rw [IntKind.wrap_u64]; omega⟩
    obtain ⟨m, hm⟩ : ∃ m, u % 9 = m := ⟨_, rfl⟩
    have hmi : (u : Int) % 9 = (m : Int) := by omega
    have hm9 : m < 9 := by omega
    obtain ⟨wide, hwide⟩ : ∃ wide, min 64 (wd l + m) = wide := ⟨_, rfl⟩
    have hcan := wide_can H64.out (by omega) hwide
    have hwl := wd64 H64.out
    have HMN : Hid (min (64 : Int) ((wd l : Int) + (m : Int)) = (wide : Int)) := hidden (by omega)
    obtain ⟨hE, hR⟩ := back_one hcan
    have HW := hidden (fun W (hW : Sx .u64 W (.slice a l.length cap) l) => refWidth_any hW H64.out)
    have HP := hidden (fun W (hW : Sx .u64 W (.slice a l.length cap) l) => pack_any hW H64.out (wide : Int))
    rw [hcan] at HP
    have HUN := hidden (fun W v' (hW : Sx .u8 W v' (packR l wide)) => unpack_any hW packR_lt (l.length : Int) (wide : Int))
    rw [hE, hR] at HUN
    generalize packR l (wide : Int) = R at *
    have hmw : m ≤ 8 := by omega
    have hww : wide ≤ 64 := by omega
    clear hE hR hcan hm hwide
    generalize wd l = W at *
    go_enter Try.func5, Try.ntmps5
    go_wp2_with fail
    refine (alive_any _).mono ?_
    rintro e w1 ⟨rfl, hb1⟩
    have HS1 := hidden (HS.out.kept hb1)
    have HT1 := hidden (HT.out.kept hb1)
    have HB1 := hidden hb1
    clear hb1 HS HT
    go_wp2_with fail
    refine (HW.out _ HS1.out).mono ?_
    rintro e w2 ⟨rfl, rfl⟩
    go_wp2_with fail
    all_goals
      first
        | rw [show (W : Int) + (m : Int) = (wide : Int) by have := HMN.out; omega]
        | rw [show (64 : Int) = (wide : Int) by have := HMN.out; omega]
      refine (HP.out _ HS1.out).mono ?_
      rintro e w3 ⟨v3, rfl, o3, hb3⟩
      have HS3 := hidden (HS1.out.kept hb3)
      have HT3 := hidden (HT1.out.kept hb3)
      have HB3 := hidden (below_then HB1.out hb3)
      have HR3 := hidden (Sx.of_own o3)
      clear o3 hb3 HS1 HT1 HB1
      go_wp2_with fail
      refine (HUN.out _ _ HR3.out).mono ?_
      rintro e w4 ⟨v4, rfl, o4, hb4⟩
      have HT4 := hidden (HT3.out.kept hb4)
      have HB4 := hidden (below_then HB3.out hb4)
      have HSM := hidden (same_any (HS3.out.kept hb4) (Sx.of_own o4))
      rw [decide_eq_true rfl] at HSM
      clear o4 hb4 HS3 HT3 HB3 HR3
      go_wp2_with fail
      refine HSM.out.mono ?_
      rintro e w5 ⟨rfl, hb5⟩
      have HT5 := hidden (HT4.out.kept hb5)
      have HB5 := hidden (below_then HB4.out hb5)
      clear hb5 HT4 HB4 HSM HW HP HUN
      by_cases hx1 : x < 1
      · go_wp2_with fail
        go_ret
        exact ⟨rfl, HB5.out⟩
      · by_cases hx2 : x > 64
        · go_wp2_with fail
          go_ret
          exact ⟨rfl, HB5.out⟩
        · by_cases hb2 : (b.length : Int) > 2048
          · go_wp2_with fail
            go_ret
            exact ⟨rfl, HB5.out⟩
          · obtain ⟨ww, rfl⟩ := Int.eq_ofNat_of_zero_le (show 0 ≤ x by omega)
            obtain ⟨n, hn⟩ : ∃ n, b.length * 8 / ww = n := ⟨_, rfl⟩
            have h8i : (b.length : Int) * 8 = ((b.length * 8 : Nat) : Int) := by simp
            have hni : ((b.length * 8 : Nat) : Int) / (ww : Int) = (n : Int) := by rw [← hn]; simp
            have hM : b.length * 8 ≤ 16384 := by omega
            have hnM : n ≤ 16384 := by rw [← hn]; exact Nat.le_trans (Nat.div_le_self _ _) hM
            have hwne : (ww : Int) ≠ 0 := by omega
            have HU := hidden (unpack_any HT5.out H8.out (n : Int) (ww : Int))
            have HBK := hidden (fun h => back_two (n := (n : Int)) (w := (ww : Int)) H8.out h)
            have HNO := hidden (fun h => unR_no (b := b) (n := (n : Int)) (x := (ww : Int)) h)
            have HLT : Hid (∀ x ∈ unR b (n : Int) (ww : Int), x < 18446744073709551616) := hidden unR_lt
            clear hn
            generalize b.length * 8 = M at *
            generalize unE b (n : Int) (ww : Int) = E at *
            generalize unR b (n : Int) (ww : Int) = R2 at *
            by_cases hE : ((E : Int) == 0) = true
            · have hE0 : E = 0 := by have : (E : Int) = 0 := by simpa using hE
                                     omega
              obtain ⟨hc, hp⟩ := HBK.out hE0
              subst hE0
              clear hE
              go_wp2_with fail
              refine HU.out.mono ?_
              rintro e w6 ⟨v6, rfl, o6, hb6⟩
              have HT6 := hidden (HT5.out.kept hb6)
              have HB6 := hidden (below_then HB5.out hb6)
              have HPK := hidden (pack_any (Sx.of_own o6) HLT.out (ww : Int))
              rw [hc, hp] at HPK
              clear o6 hb6 HT5 HB5 hc hp
              go_wp2_with fail
              refine HPK.out.mono ?_
              rintro e w7 ⟨v7, rfl, o7, hb7⟩
              have hc1 := (Sx.of_own o7).conv H8.out
              have hc2 := (HT6.out.kept hb7).conv H8.out
              obtain ⟨s, hs⟩ : ∃ s, txt b = .string s := ⟨_, rfl⟩
              rw [hs] at hc1 hc2
              have HB7 := hidden (below_then HB6.out hb7)
              clear o7 hb7 hs HT6 HB6
              go_wp2_with fail
              go_ret
              exact ⟨rfl, HB7.out⟩
            · have hEf : ((E : Int) == 0) = false := by simpa using hE
              have hR0 := HNO.out (fun h => hE (by rw [h]; rfl))
              subst hR0
              clear hE
              go_wp2_with fail
              refine HU.out.mono ?_
              rintro e w6 ⟨v6, rfl, o6, hb6⟩
              obtain ⟨a6, cap6, rfl⟩ := own_len o6
              have HB6 := hidden (below_then HB5.out hb6)
              clear o6 hb6
              go_wp2_with fail
              go_ret
              exact ⟨rfl, HB6.out⟩

set_option maxRecDepth 100000 in
theorem lifted (os : Os) (started : os.Started) (H : Type) (enc : TypeId × Value → H) :
    ReturnsInHanded {} Try.checked os 5 .any (Rows.bitsBackSpec.pre6 enc Try.prog Try.f5 Rows.bitsBackRow.domain false) (Rows.bitsBackSpec.post enc Try.prog Try.f5 false true false false) := by
  refine returnsInHanded_of_change (C := Try.checked) own started (by kernel_rfl) Try.func5
    (ChangeSpec.witness6 (enc := enc) (C := Try.checked) false ⟨#[], #[.slice none 0 0, .int .i64 0, .slice none 0 0, .int .i64 0], []⟩ 8 (by kernel_rfl) (by kernel_rfl) (by kernel_rfl) (by kernel_rfl)) ?_
  intro W base args ds gs before hval0 hW hcnd _
  have hval : ∀ (j : Nat) t v, Try.f5.params[j]? = some t → args[j]? = some v → Value.okWide Try.prog W .any base t v := hval0
  have hW' := hW
  obtain ⟨p, q, hA0, hV, rfl, hfz, hnd⟩ := hW
  have hA : DataW.TrodAll enc Try.prog W 0 (fun _ => true) true Try.f5.params.toList args.toList ds p := hA0
  rw [Try.params5] at hA hval
  obtain ⟨v0, vs0, d0, ds0, p0, q0, hargs, rfl, rfl, h0, r0⟩ := trodAll_cons hA
  obtain ⟨v1, vs1, d1, ds1, p1, q1, rfl, rfl, rfl, h1, r1⟩ := trodAll_cons r0
  obtain ⟨v2, vs2, d2, ds2, p2, q2, rfl, rfl, rfl, h2, r2⟩ := trodAll_cons r1
  obtain ⟨v3, vs3, d3, ds3, p3, q3, rfl, rfl, rfl, h3, r3⟩ := trodAll_cons r2
  obtain ⟨rfl, rfl, rfl⟩ := trodAll_nil r3
  obtain rfl : args = #[v0, v1, v2, v3] := by cases args; simp_all
  obtain ⟨rfl, rfl⟩ := trodVars_none hV
  obtain ⟨a0, len0, cap0, rfl⟩ := okWide_slice Try.underlying22 (hval 0 22 v0 rfl rfl)
  have lt0 : ∀ x ∈ p0, x.block < W.heap.size := by obtain ⟨m, hm⟩ := h0; exact DataW.trod_lt m _ _ _ hm
  obtain ⟨l0, hl0⟩ := open_nums h0
  obtain ⟨a1, rfl, rfl, rfl, w1⟩ := open_int Try.underlying3 (hval 1 3 v1 rfl rfl) h1
  obtain ⟨a2, len2, cap2, rfl⟩ := okWide_slice Try.underlying24 (hval 2 24 v2 rfl rfl)
  have lt2 : ∀ x ∈ p2, x.block < W.heap.size := by obtain ⟨m, hm⟩ := h2; exact DataW.trod_lt m _ _ _ hm
  obtain ⟨l2, hl2⟩ := open_bytes h2
  obtain ⟨a3, rfl, rfl, rfl, w3⟩ := open_int Try.underlying3 (hval 3 3 v3 rfl rfl) h3
  clear hA0 hval0
  refine (walk hl0 a1 hl2 a3 W rfl).mono fun e W' ⟨he, bel⟩ => ?_
  subst he
  exact ⟨_, rfl, _, _, _, [], _, [], hW', trodAll_mk1 (shut_bool Try.underlying4 _), (trodAll_cons_mk (Below.trod laidOut (by kernel_rfl) (of_decide_eq_true (by kernel_rfl)) h0 bel lt0) (trodAll_cons_mk (shut_int Try.underlying3 w1) (trodAll_cons_mk (Below.trod laidOut (by kernel_rfl) (of_decide_eq_true (by kernel_rfl)) h2 bel lt2) (trodAll_cons_mk (shut_int Try.underlying3 w3) trodAll_mk0)))), rfl, bel.frame _, fun h => by cases h⟩

theorem proved : Rows.BitsBackSaid :=
  OpenClaim.holds_of_wide 5 Try.f5 rfl rfl rfl rfl rfl rfl rfl ⟨rfl, rfl, rfl, rfl, rfl⟩ rfl rfl rfl rfl rfl (by kernel_rfl) Try.func5 (by kernel_rfl)
    (of_decide_eq_true (by kernel_rfl)) (by unfold Func.isWrapper; first | (rw [if_pos (by decide +kernel)]; kernel_rfl) | (rw [if_neg (by decide +kernel)]; exact ⟨rfl, rfl⟩))
    (fun os started H enc _ => lifted os started H enc)
end BackLaw
theorem bitsBack_holds : Rows.BitsBackSaid := BackLaw.proved
#print axioms bitsBack_holds
end Go.Proofs.Ythgfchagjknohaa
