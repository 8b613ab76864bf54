/- SignsSelf: for every two texts the law returns true: any text is like % and like as many _ as it has signs, and not like one more; of clean texts one without % and _ is like itself alone; nothing that was there is written. No condition. -/
import Derived.Test.YtgcdnigfojihiaaSelfPure
import Derived.Test.YtgcdnigfojihiaaCountsLaw
set_option linter.unusedVariables false
namespace Go.Proofs.Ytgcdnigfojihiaa
namespace SelfLaw
open Go.ChangeShapes Go.WideShapes Go.ChangeAt Go.RowKit
open Go.ChangeMaps (open_string shut_string)

set_option maxRecDepth 100000 in
set_option maxHeartbeats 1000000 in
theorem walk (s t : ByteArray) (w : World) :
    Calls Try.prog 7 #[.string s, .string t] w fun e w' => e = .returned (.bool true) ∧ Below w.heap.size w w' := by
  go_enter Try.func7, Try.ntmps7
  go_wp2_with fail
  refine (alive_any _).mono ?_
  rintro e w1 ⟨rfl, hb⟩
  have HB1 := hidden hb
  have hz1 := hb.size
  clear hb
  by_cases hg : (s.size : Int) > 300
  · go_wp2_with fail
    go_ret
    exact ⟨rfl, HB1.out⟩
  · by_cases hg2 : (t.size : Int) > 300
    · go_wp2_with fail
      go_ret
      exact ⟨rfl, HB1.out⟩
    · have hs : s.size ≤ 100000 := by omega
      have hts : t.size ≤ 100000 := by omega
      have hV := V_le (lb s)
      rw [lb_size] at hV
      have HRL := hidden (runes_len (lb s))
      go_wp2_with fail
      refine (signs_any s hs _).mono ?_
      rintro e w2 ⟨⟨a, b, rfl, ha, hb⟩, hbel⟩
      have HB2 := hidden (HB1.out.trans (hbel.mono hz1))
      have hz2 := HB2.out.size
      obtain ⟨⟨ad, cap, rfl, _⟩, hca⟩ := own_form ha
      have HCA := hidden hca
      clear ha hb hbel HB1 hca
      go_wp2_with fail
      go_loopw [8, 9, 10] (fun x y i wr => wr = w2 ∧ ∃ k : Nat, k ≤ (V (lb s)).length ∧ i = .int .i64 k ∧ x = .bool (wld ((runes (lb s)).take k)) ∧ y = .string (BS k)) (fun _ _ i _ => (V (lb s)).length - (intOf i).toNat)
      case atStart => exact ⟨rfl, 0, by omega, rfl, rfl, rfl⟩
      case round =>
        obtain ⟨rfl, k, hk, rfl, rfl, rfl⟩ := hrel
        by_cases hlt : k < (V (lb s)).length
        · have hkr : k < (runes (lb s)).length := by rw [HRL.out]; exact hlt
          obtain ⟨g, c, hsl, hg3, _, hcells⟩ := HCA.out (by omega)
          simp only [Value.slice.injEq] at hsl
          obtain ⟨rfl, _, rfl⟩ := hsl
          have hcell := hcells k _ (sgn_get hlt)
          have hri : (runes (lb s))[k] = (V (lb s))[k].1 := by simp [runes]
          have HW : Hid (wld ((runes (lb s)).take (k + 1)) = (wld ((runes (lb s)).take k) || (V (lb s))[k].1 == 37 || (V (lb s))[k].1 == 95)) := by
            show wld ((runes (lb s)).take (k + 1)) = _
            rw [List.take_succ_eq_append_getElem hkr, wld_snoc, hri]
          clear hcells hri
          generalize (V (lb s))[k].1 = r at *
          generalize wld ((runes (lb s)).take k) = q at *
          have hbz := BS_size k
          have hadd : ∀ w, (Op.stringOp .add (BS k) { data := #[95] }).run Try.prog w = .ok (.string (BS (k + 1))) w := fun w => by
            rw [run_string_add_sum w _ _ (by rw [hbz]; show k + 1 ≤ _; omega), BS_succ]
          clear hbz
          cases q with
          | true =>
            go_wp2_with fail
            go_roundw
            case rel => exact ⟨trivial, k + 1, by omega, by go_num, by rw [HW.out]; rfl, rfl⟩
            case measure => simp [intOf]; omega
          | false =>
            by_cases h37 : r = 37
            · subst h37
              go_wp2_with fail
              go_roundw
              case rel => exact ⟨trivial, k + 1, by omega, by go_num, by rw [HW.out]; rfl, rfl⟩
              case measure => simp [intOf]; omega
            · have h37b : ((r : Int) == 37) = false := by simp; omega
              by_cases h95 : r = 95
              · subst h95
                go_wp2_with fail
                go_roundw
                case rel => exact ⟨trivial, k + 1, by omega, by go_num, by rw [HW.out]; rfl, rfl⟩
                case measure => simp [intOf]; omega
              · have h95b : ((r : Int) == 95) = false := by simp; omega
                go_wp2_with fail
                go_roundw
                case rel => exact ⟨trivial, k + 1, by omega, by go_num, by rw [HW.out]; simp [h37, h95], rfl⟩
                case measure => simp [intOf]; omega
        · obtain rfl : k = (V (lb s)).length := by omega
          have hbz := BS_size (V (lb s)).length
          have hl1 : (BS (V (lb s)).length).size ≤ 100000 := by omega
          have hl2 : (BS ((V (lb s)).length + 1)).size ≤ 100000 := by rw [BS_size]; omega
          have hadd : ∀ w, (Op.stringOp .add (BS (V (lb s)).length) { data := #[95] }).run Try.prog w = .ok (.string (BS ((V (lb s)).length + 1))) w := fun w => by
            rw [run_string_add_sum w _ _ (by rw [hbz]; show (V (lb s)).length + 1 ≤ _; omega), BS_succ]
          have k1 : lk (runes (lb { data := #[37] })) (runes (lb s)) = true := by
            have : lb { data := #[37] } = [37] := rfl
            rw [this, runes_percent, lk_percent]
          have k2 : lk (runes (lb (BS (V (lb s)).length))) (runes (lb s)) = true := by
            rw [lb_BS, runes_bars, lk_bars, HRL.out]; simp
          have k3 : lk (runes (lb (BS ((V (lb s)).length + 1)))) (runes (lb s)) = false := by
            rw [lb_BS, runes_bars, lk_bars, HRL.out]; simp
          have K1 := hidden k1
          have K2 := hidden k2
          have K3 := hidden k3
          rw [← HRL.out, List.take_length, HRL.out]
          clear hbz k1 k2 k3
          generalize hB0 : BS (V (lb s)).length = b0 at *
          generalize hB1 : BS ((V (lb s)).length + 1) = b1 at *
          clear hB0 hB1
          go_wp2_with fail
          refine (like_any s _ hs (by decide) _).mono ?_
          rintro e w3 ⟨rfl, hb⟩
          rw [K1.out]
          have HB3 := hidden (HB2.out.trans (hb.mono hz2))
          have hz3 := HB3.out.size
          clear hb HB2
          go_wp2_with fail
          refine (like_any s _ hs hl1 _).mono ?_
          rintro e w4 ⟨rfl, hb⟩
          rw [K2.out]
          have HB4 := hidden (HB3.out.trans (hb.mono hz3))
          have hz4 := HB4.out.size
          clear hb HB3
          go_wp2_with fail
          refine (like_any s _ hs hl2 _).mono ?_
          rintro e w5 ⟨rfl, hb⟩
          rw [K3.out]
          have HB5 := hidden (HB4.out.trans (hb.mono hz4))
          have hz5 := HB5.out.size
          clear hb HB4
          cases hcs : clean (lb s) with
          | false =>
            clear hcs
            go_wp2_with fail
            go_ret
            exact ⟨rfl, HB5.out⟩
          | true =>
            cases hwl : wld (runes (lb s)) with
            | true =>
              clear hcs hwl
              go_wp2_with fail
              go_ret
              exact ⟨rfl, HB5.out⟩
            | false =>
              have HCS := hidden hcs
              have HWL := hidden hwl
              clear hcs hwl
              go_wp2_with fail
              refine (clean_any t hts _).mono ?_
              rintro e w6 ⟨rfl, hb⟩
              have HB6 := hidden (HB5.out.trans (hb.mono hz5))
              have hz6 := HB6.out.size
              clear hb HB5
              cases hct : clean (lb t) with
              | false =>
                clear hct
                go_wp2_with fail
                go_ret
                exact ⟨rfl, HB6.out⟩
              | true =>
                have HCT := hidden hct
                clear hct
                go_wp2_with fail
                refine (like_any s s hs hs _).mono ?_
                rintro e w7 ⟨rfl, hb⟩
                rw [lk_plain _ _ HWL.out, decide_eq_true rfl]
                have HB7 := hidden (HB6.out.trans (hb.mono hz6))
                have hz7 := HB7.out.size
                clear hb HB6
                go_wp2_with fail
                refine (like_any t s hts hs _).mono ?_
                rintro e w8 ⟨rfl, hb⟩
                rw [lk_plain _ _ HWL.out, clean_inj HCS.out HCT.out, ← toList_lb, ← toList_lb]
                have HB8 := hidden (HB7.out.trans (hb.mono hz7))
                clear hb HB7
                cases hq : (s.toList == t.toList)
                all_goals
                  go_wp2_with fail
                  go_ret
                  exact ⟨rfl, HB8.out⟩

set_option maxRecDepth 100000 in
theorem lifted (os : Os) (started : os.Started) (H : Type) (enc : TypeId × Value → H) :
    ReturnsInHanded {} Try.checked os 7 .any (Rows.signsSelfSpec.pre6 enc Try.prog Try.f7 Rows.signsSelfRow.domain false) (Rows.signsSelfSpec.post enc Try.prog Try.f7 false true false false) := by
  refine returnsInHanded_of_change (C := Try.checked) own started (by kernel_rfl) Try.func7
    (ChangeSpec.witness6 (enc := enc) (C := Try.checked) false ⟨#[], #[.string ⟨#[]⟩, .string ⟨#[]⟩], []⟩ 8 (by kernel_rfl) (by kernel_rfl) (by kernel_rfl) (by kernel_rfl)) ?_
  intro W base args ds gs before hval0 hW hcnd _
  have hval : ∀ (j : Nat) t v, Try.f7.params[j]? = some t → args[j]? = some v → Value.okWide Try.prog W .any base t v := hval0
  have hW' := hW
  obtain ⟨p, q, hA0, hV, rfl, hfz, hnd⟩ := hW
  have hA : DataW.TrodAll enc Try.prog W 0 (fun _ => true) true Try.f7.params.toList args.toList ds p := hA0
  rw [Try.params7] at hA hval
  obtain ⟨v0, vs0, d0, ds0, p0, q0, hargs, rfl, rfl, h0, r0⟩ := trodAll_cons hA
  obtain ⟨v1, vs1, d1, ds1, p1, q1, rfl, rfl, rfl, h1, r1⟩ := trodAll_cons r0
  obtain ⟨rfl, rfl, rfl⟩ := trodAll_nil r1
  obtain rfl : args = #[v0, v1] := by cases args; simp_all
  obtain ⟨rfl, rfl⟩ := trodVars_none hV
  obtain ⟨a0, rfl, rfl, rfl, w0⟩ := open_string Try.underlying9 (hval 0 9 v0 rfl rfl) h0
  obtain ⟨a1, rfl, rfl, rfl, w1⟩ := open_string Try.underlying9 (hval 1 9 v1 rfl rfl) h1
  clear hA0 hval0
  refine (walk a0 a1 W).mono fun e W' ⟨he, bel⟩ => ?_
  subst he
  exact ⟨_, rfl, _, _, _, [], _, [], hW', trodAll_mk1 (shut_bool Try.underlying4 _), (trodAll_cons_mk (shut_string Try.underlying9 w0) (trodAll_cons_mk (shut_string Try.underlying9 w1) trodAll_mk0)), rfl, bel.frame _, fun h => by cases h⟩

theorem proved : Rows.SignsSelfSaid :=
  OpenClaim.holds_of_wide 7 Try.f7 rfl rfl rfl rfl rfl rfl rfl ⟨rfl, rfl, rfl, rfl, rfl⟩ rfl rfl rfl rfl rfl (by kernel_rfl) Try.func7 (by kernel_rfl)
    (of_decide_eq_true (by kernel_rfl)) (by unfold Func.isWrapper; first | (rw [if_pos (by decide +kernel)]; kernel_rfl) | (rw [if_neg (by decide +kernel)]; exact ⟨rfl, rfl⟩))
    (fun os started H enc _ => lifted os started H enc)
end SelfLaw
theorem signsSelf_holds : Rows.SignsSelfSaid := SelfLaw.proved
#print axioms signsSelf_holds
end Go.Proofs.Ytgcdnigfojihiaa
