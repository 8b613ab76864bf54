/- SignsCounts: for every text and every number the law returns true: how many signs the text has, whether it is clean, and how it begins, is as the document says; nothing that was there is written. No condition. -/
import Derived.Test.YtgcdnigfojihiaaAlive
import Derived.ProofKit
import Derived.OpenShut
import Derived.ShutString
import Derived.ChangeOld
import Derived.ChangeMaps5
import Derived.Below
set_option linter.unusedVariables false
namespace Go.Proofs.Ytgcdnigfojihiaa
theorem own : ownKnob Try.prog.godebug = none := by kernel_rfl
namespace CountsLaw
open Go.ChangeShapes Go.WideShapes Go.ChangeAt Go.RowKit
open Go.ChangeMaps (open_string shut_string)

set_option maxRecDepth 100000 in
theorem walk (s : ByteArray) (n : Int) (w : World) :
    Calls Try.prog 3 #[.string s, .int .i64 n] w fun e w' => e = .returned (.bool true) ∧ Below w.heap.size w w' := by
  go_enter Try.func3, Try.ntmps3
  go_wp2_with fail
  refine (alive_any _).mono ?_
  rintro e w1 ⟨rfl, hb⟩
  have HB1 := hidden hb
  have hz1 := hb.size
  clear hb
  by_cases hg : (s.size : Int) > 3000
  · go_wp2_with fail
    go_ret
    exact ⟨rfl, HB1.out⟩
  · have hs : s.size ≤ 100000 := by omega
    go_wp2_with fail
    refine (signs_any s hs _).mono ?_
    rintro e w2 ⟨⟨a, b, rfl, ha, hb⟩, hbel⟩
    have HB2 := hidden (HB1.out.trans (hbel.mono hz1))
    have hz2 := HB2.out.size
    obtain ⟨⟨ad, cap, rfl, _⟩, _⟩ := own_form ha
    clear ha hb hbel HB1
    go_wp2_with fail
    refine (count_any s hs _).mono ?_
    rintro e w3 ⟨rfl, hb⟩
    have HB3 := hidden (HB2.out.trans (hb.mono hz2))
    have hz3 := HB3.out.size
    clear hb HB2
    go_wp2_with fail
    refine (clean_any s hs _).mono ?_
    rintro e w4 ⟨rfl, hb⟩
    have HB4 := hidden (HB3.out.trans (hb.mono hz3))
    have hz4 := HB4.out.size
    clear hb HB3
    generalize clean (lb s) = cl at *
    go_wp2_with fail
    refine (first_any s n hs _).mono ?_
    rintro e w5 ⟨⟨t, rfl, ht⟩, hb⟩
    have HB5 := hidden (HB4.out.trans (hb.mono hz4))
    have hz5 := HB5.out.size
    have HT := hidden ht
    clear hb HB4 ht
    go_wp2_with fail
    refine (refFirst_any s n hs _).mono ?_
    rintro e w6 ⟨⟨t2, rfl, ht⟩, hb⟩
    have HB6 := hidden (HB5.out.trans (hb.mono hz5))
    obtain rfl : t = t2 := lb_inj (HT.out.trans ht.symm)
    clear hb HB5 ht HT
    go_wp2_with fail
    go_ret
    exact ⟨rfl, HB6.out⟩

set_option maxRecDepth 100000 in
theorem lifted (os : Os) (started : os.Started) (H : Type) (enc : TypeId × Value → H) :
    ReturnsInHanded {} Try.checked os 3 .any (Rows.signsCountsSpec.pre6 enc Try.prog Try.f3 Rows.signsCountsRow.domain false) (Rows.signsCountsSpec.post enc Try.prog Try.f3 false true false false) := by
  refine returnsInHanded_of_change (C := Try.checked) own started (by kernel_rfl) Try.func3
    (ChangeSpec.witness6 (enc := enc) (C := Try.checked) false ⟨#[], #[.string ⟨#[]⟩, .int .i64 0], []⟩ 8 (by kernel_rfl) (by kernel_rfl) (by kernel_rfl) (by kernel_rfl)) ?_
  intro W base args ds gs before hval0 hW hcnd _
  have hval : ∀ (j : Nat) t v, Try.f3.params[j]? = some t → args[j]? = some v → Value.okWide Try.prog W .any base t v := hval0
  have hW' := hW
  obtain ⟨p, q, hA0, hV, rfl, hfz, hnd⟩ := hW
  have hA : DataW.TrodAll enc Try.prog W 0 (fun _ => true) true Try.f3.params.toList args.toList ds p := hA0
  rw [Try.params3] at hA hval
  obtain ⟨v0, vs0, d0, ds0, p0, q0, hargs, rfl, rfl, h0, r0⟩ := trodAll_cons hA
  obtain ⟨v1, vs1, d1, ds1, p1, q1, rfl, rfl, rfl, h1, r1⟩ := trodAll_cons r0
  obtain ⟨rfl, rfl, rfl⟩ := trodAll_nil r1
  obtain rfl : args = #[v0, v1] := by cases args; simp_all
  obtain ⟨rfl, rfl⟩ := trodVars_none hV
  obtain ⟨a0, rfl, rfl, rfl, w0⟩ := open_string Try.underlying9 (hval 0 9 v0 rfl rfl) h0
  obtain ⟨a1, rfl, rfl, rfl, w1⟩ := open_int Try.underlying3 (hval 1 3 v1 rfl rfl) h1
  clear hA0 hval0
  refine (walk a0 a1 W).mono fun e W' ⟨he, bel⟩ => ?_
  subst he
  exact ⟨_, rfl, _, _, _, [], _, [], hW', trodAll_mk1 (shut_bool Try.underlying4 _), (trodAll_cons_mk (shut_string Try.underlying9 w0) (trodAll_cons_mk (shut_int Try.underlying3 w1) trodAll_mk0)), rfl, bel.frame _, fun h => by cases h⟩

theorem proved : Rows.SignsCountsSaid :=
  OpenClaim.holds_of_wide 3 Try.f3 rfl rfl rfl rfl rfl rfl rfl ⟨rfl, rfl, rfl, rfl, rfl⟩ rfl rfl rfl rfl rfl (by kernel_rfl) Try.func3 (by kernel_rfl)
    (of_decide_eq_true (by kernel_rfl)) (by unfold Func.isWrapper; first | (rw [if_pos (by decide +kernel)]; kernel_rfl) | (rw [if_neg (by decide +kernel)]; exact ⟨rfl, rfl⟩))
    (fun os started H enc _ => lifted os started H enc)
end CountsLaw
theorem signsCounts_holds : Rows.SignsCountsSaid := CountsLaw.proved
#print axioms signsCounts_holds
end Go.Proofs.Ytgcdnigfojihiaa
