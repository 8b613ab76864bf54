/- SignsBound: for every two texts and every number the law returns true: what lies above is not ahead of the text, nor of any that begins with its first signs, and has no more signs than were asked for; nothing that was there is written. No condition. -/
import Derived.Test.YtgcdnigfojihiaaBoundPure
import Derived.Test.YtgcdnigfojihiaaCountsLaw
set_option linter.unusedVariables false
namespace Go.Proofs.Ytgcdnigfojihiaa
namespace BoundLaw
open Go.ChangeShapes Go.WideShapes Go.ChangeAt Go.RowKit
open Go.ChangeMaps (open_string shut_string)

set_option maxRecDepth 100000 in
theorem walk (s : ByteArray) (n : Int) (m : ByteArray) (w : World) :
    Calls Try.prog 5 #[.string s, .int .i64 n, .string m] w fun e w' => e = .returned (.bool true) ∧ Below w.heap.size w w' := by
  go_enter Try.func5, Try.ntmps5
  go_wp2_with fail
  refine (alive_any _).mono ?_
  rintro e w1 ⟨rfl, hb⟩
  have HB1 := hidden hb
  have hz1 := hb.size
  clear hb
  by_cases hg : (s.size : Int) > 3000
  · go_wp2_with fail
    go_ret
    exact ⟨rfl, HB1.out⟩
  · by_cases hg2 : (m.size : Int) > 3000
    · go_wp2_with fail
      go_ret
      exact ⟨rfl, HB1.out⟩
    · have hs : s.size ≤ 100000 := by omega
      go_wp2_with fail
      refine (above_any s n hs _).mono ?_
      rintro e w2 ⟨⟨t, o, rfl, ho, ht⟩, hb⟩
      have HB2 := hidden (HB1.out.trans (hb.mono hz1))
      have hz2 := HB2.out.size
      clear hb HB1
      cases ha : aboveL (lb s) n with
      | none =>
        rw [ha] at ho ht
        obtain rfl : t = ⟨#[]⟩ := lb_inj (by rw [ht]; rfl)
        obtain rfl : o = false := ho
        clear ha ht
        go_wp2_with fail
        go_ret
        exact ⟨rfl, HB2.out⟩
      | some a =>
        rw [ha] at ho ht
        obtain rfl : o = true := ho
        have hta : lb t = a := ht
        subst hta
        have HA := hidden ha
        clear ha ht
        by_cases hn : ((V (lb s)).length : Int) ≤ n
        · have hst : t = s := by
            have h1 := HA.out
            unfold aboveL at h1
            by_cases hc : clean (lb s) = true
            · rw [if_pos hc, if_pos hn] at h1
              exact (lb_inj (Option.some.inj h1)).symm
            · rw [if_neg hc] at h1; cases h1
          subst hst
          go_wp2_with fail
          refine (count_any t hs _).mono ?_
          rintro e w3 ⟨rfl, hb⟩
          have HB3 := hidden (HB2.out.trans (hb.mono hz2))
          clear hb HB2
          go_wp2_with fail
          go_ret
          exact ⟨rfl, HB3.out⟩
        · obtain ⟨b1, b2, b3⟩ := above_bound HA.out hn (lb m)
          rw [← toList_lb, ← toList_lb] at b1
          go_wp2_with fail
          refine (count_any s hs _).mono ?_
          rintro e w3 ⟨rfl, hb⟩
          have HB3 := hidden (HB2.out.trans (hb.mono hz2))
          have hz3 := HB3.out.size
          clear hb HB2
          go_wp2_with fail
          refine (first_any s n hs _).mono ?_
          rintro e w4 ⟨⟨t2, rfl, ht2⟩, hb⟩
          have HB4 := hidden (HB3.out.trans (hb.mono hz3))
          have hz4 := HB4.out.size
          clear hb HB3
          rw [← ht2, ← lb_append, ← toList_lb, ← toList_lb] at b2
          have hts : t2.size ≤ 3000 := by
            have := firstL_len (lb s) n
            rw [← ht2, lb_size, lb_size] at this
            omega
          have hadd : ∀ w, (Op.stringOp .add t2 m).run Try.prog w = .ok (.string (t2 ++ m)) w := fun w => run_string_add_sum w _ _ (by omega)
          have htt : t.size ≤ 100000 := by
            have h4 := above_size HA.out
            rw [lb_size, lb_size] at h4
            omega
          have HC := hidden (count_any t htt)
          clear ht2
          go_wp2_with fail
          refine (HC.out _).mono ?_
          rintro e w5 ⟨rfl, hb⟩
          have HB5 := hidden (HB4.out.trans (hb.mono hz4))
          clear hb HB4
          go_wp2_with fail
          go_ret
          exact ⟨rfl, HB5.out⟩

set_option maxRecDepth 100000 in
theorem lifted (os : Os) (started : os.Started) (H : Type) (enc : TypeId × Value → H) :
    ReturnsInHanded {} Try.checked os 5 .any (Rows.signsBoundSpec.pre6 enc Try.prog Try.f5 Rows.signsBoundRow.domain false) (Rows.signsBoundSpec.post enc Try.prog Try.f5 false true false false) := by
  refine returnsInHanded_of_change (C := Try.checked) own started (by kernel_rfl) Try.func5
    (ChangeSpec.witness6 (enc := enc) (C := Try.checked) false ⟨#[], #[.string ⟨#[]⟩, .int .i64 0, .string ⟨#[]⟩], []⟩ 8 (by kernel_rfl) (by kernel_rfl) (by kernel_rfl) (by kernel_rfl)) ?_
  intro W base args ds gs before hval0 hW hcnd _
  have hval : ∀ (j : Nat) t v, Try.f5.params[j]? = some t → args[j]? = some v → Value.okWide Try.prog W .any base t v := hval0
  have hW' := hW
  obtain ⟨p, q, hA0, hV, rfl, hfz, hnd⟩ := hW
  have hA : DataW.TrodAll enc Try.prog W 0 (fun _ => true) true Try.f5.params.toList args.toList ds p := hA0
  rw [Try.params5] at hA hval
  obtain ⟨v0, vs0, d0, ds0, p0, q0, hargs, rfl, rfl, h0, r0⟩ := trodAll_cons hA
  obtain ⟨v1, vs1, d1, ds1, p1, q1, rfl, rfl, rfl, h1, r1⟩ := trodAll_cons r0
  obtain ⟨v2, vs2, d2, ds2, p2, q2, rfl, rfl, rfl, h2, r2⟩ := trodAll_cons r1
  obtain ⟨rfl, rfl, rfl⟩ := trodAll_nil r2
  obtain rfl : args = #[v0, v1, v2] := by cases args; simp_all
  obtain ⟨rfl, rfl⟩ := trodVars_none hV
  obtain ⟨a0, rfl, rfl, rfl, w0⟩ := open_string Try.underlying9 (hval 0 9 v0 rfl rfl) h0
  obtain ⟨a1, rfl, rfl, rfl, w1⟩ := open_int Try.underlying3 (hval 1 3 v1 rfl rfl) h1
  obtain ⟨a2, rfl, rfl, rfl, w2⟩ := open_string Try.underlying9 (hval 2 9 v2 rfl rfl) h2
  clear hA0 hval0
  refine (walk a0 a1 a2 W).mono fun e W' ⟨he, bel⟩ => ?_
  subst he
  exact ⟨_, rfl, _, _, _, [], _, [], hW', trodAll_mk1 (shut_bool Try.underlying4 _), (trodAll_cons_mk (shut_string Try.underlying9 w0) (trodAll_cons_mk (shut_int Try.underlying3 w1) (trodAll_cons_mk (shut_string Try.underlying9 w2) trodAll_mk0))), rfl, bel.frame _, fun h => by cases h⟩

theorem proved : Rows.SignsBoundSaid :=
  OpenClaim.holds_of_wide 5 Try.f5 rfl rfl rfl rfl rfl rfl rfl ⟨rfl, rfl, rfl, rfl, rfl⟩ rfl rfl rfl rfl rfl (by kernel_rfl) Try.func5 (by kernel_rfl)
    (of_decide_eq_true (by kernel_rfl)) (by unfold Func.isWrapper; first | (rw [if_pos (by decide +kernel)]; kernel_rfl) | (rw [if_neg (by decide +kernel)]; exact ⟨rfl, rfl⟩))
    (fun os started H enc _ => lifted os started H enc)
end BoundLaw
theorem signsBound_holds : Rows.SignsBoundSaid := BoundLaw.proved
#print axioms signsBound_holds
end Go.Proofs.Ytgcdnigfojihiaa
