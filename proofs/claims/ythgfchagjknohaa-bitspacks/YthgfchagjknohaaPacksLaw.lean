/- BitsPacks: for every list of numbers and every width the law returns true: how wide the numbers are and how they are packed is the document's; nothing that was there is written. No condition. -/
import Derived.Test.YthgfchagjknohaaLift
set_option linter.unusedVariables false
namespace Go.Proofs.Ythgfchagjknohaa
namespace PacksLaw
open Go.ChangeShapes Go.WideShapes Go.ChangeAt Go.RowKit Go.Lib

set_option maxRecDepth 100000 in
set_option maxHeartbeats 4000000 in
theorem walk {v : Value} {l : List Nat} {W0 : World} (hl : Sn .u64 W0 v l ∧ ∀ x ∈ l, x < 18446744073709551616) (x : Int) (w : World) (hw : w = W0) :
    Calls Try.prog 3 #[v, .int .i64 x] w fun e w' => e = .returned (.bool true) ∧ Below w.heap.size w w' := by
  subst hw
  obtain ⟨hsn, h64⟩ := hl
  have HS := hidden hsn.1
  obtain ⟨a, cap, rfl, hm, hcl⟩ := hsn.1
  have hm2 : l.length ≤ 9223372036854775807 := by unfold maxLen at hm; omega
  clear hsn hm hcl
  have H64 := hidden h64
  clear h64
  by_cases hbig : (l.length : Int) > 1000
  · clear HS
    go_enter Try.func3, Try.ntmps3
    go_wp2_with fail
    refine (alive_any _).mono ?_
    rintro e w1 ⟨rfl, hb1⟩
    go_wp2_with fail
    go_ret
    exact ⟨rfl, hb1⟩
  · go_enter Try.func3, Try.ntmps3
    go_wp2_with fail
    refine (alive_any _).mono ?_
    rintro e w1 ⟨rfl, hb1⟩
    have HS1 := hidden (HS.out.kept hb1)
    have HB1 := hidden hb1
    clear hb1
    go_wp2_with fail
    refine (pack_any HS1.out H64.out x).mono ?_
    rintro e w2 ⟨v2, rfl, o2, hb2⟩
    have HS2 := hidden (HS1.out.kept hb2)
    have HP2 := hidden (Sx.of_own o2)
    have HB2 := hidden (below_then HB1.out hb2)
    clear o2 hb2 HS1 HB1
    go_wp2_with fail
    refine (refPack_any HS2.out H64.out x).mono ?_
    rintro e w3 ⟨v3, rfl, o3, hb3⟩
    have HS3 := hidden (HS2.out.kept hb3)
    have hc2 := (HP2.out.kept hb3).conv packR_lt
    have hc3 := (Sx.of_own o3).conv packR_lt
    have HB3 := hidden (below_then HB2.out hb3)
    obtain ⟨s, hs⟩ : ∃ s, txt (packR l x) = .string s := ⟨_, rfl⟩
    rw [hs] at hc2 hc3
    clear o3 hb3 HS2 HB2 hs HP2
    have HW := hidden (width_any HS3.out H64.out)
    have HR := hidden (refWidth_any HS3.out H64.out)
    generalize can l x = c at *
    generalize wd l = W at *
    go_wp2_with fail
    refine HW.out.mono ?_
    rintro e w4 ⟨rfl, rfl⟩
    go_wp2_with fail
    refine HR.out.mono ?_
    rintro e w5 ⟨rfl, rfl⟩
    go_wp2_with fail
    go_ret
    exact ⟨rfl, HB3.out⟩

set_option maxRecDepth 100000 in
theorem lifted (os : Os) (started : os.Started) (H : Type) (enc : TypeId × Value → H) :
    ReturnsInHanded {} Try.checked os 3 .any (Rows.bitsPacksSpec.pre6 enc Try.prog Try.f3 Rows.bitsPacksRow.domain false) (Rows.bitsPacksSpec.post enc Try.prog Try.f3 false true false false) := by
  refine returnsInHanded_of_change (C := Try.checked) own started (by kernel_rfl) Try.func3
    (ChangeSpec.witness6 (enc := enc) (C := Try.checked) false ⟨#[], #[.slice none 0 0, .int .i64 0], []⟩ 8 (by kernel_rfl) (by kernel_rfl) (by kernel_rfl) (by kernel_rfl)) ?_
  intro W base args ds gs before hval0 hW hcnd _
  have hval : ∀ (j : Nat) t v, Try.f3.params[j]? = some t → args[j]? = some v → Value.okWide Try.prog W .any base t v := hval0
  have hW' := hW
  obtain ⟨p, q, hA0, hV, rfl, hfz, hnd⟩ := hW
  have hA : DataW.TrodAll enc Try.prog W 0 (fun _ => true) true Try.f3.params.toList args.toList ds p := hA0
  rw [Try.params3] at hA hval
  obtain ⟨v0, vs0, d0, ds0, p0, q0, hargs, rfl, rfl, h0, r0⟩ := trodAll_cons hA
  obtain ⟨v1, vs1, d1, ds1, p1, q1, rfl, rfl, rfl, h1, r1⟩ := trodAll_cons r0
  obtain ⟨rfl, rfl, rfl⟩ := trodAll_nil r1
  obtain rfl : args = #[v0, v1] := by cases args; simp_all
  obtain ⟨rfl, rfl⟩ := trodVars_none hV
  obtain ⟨a0, len0, cap0, rfl⟩ := okWide_slice Try.underlying22 (hval 0 22 v0 rfl rfl)
  have lt0 : ∀ x ∈ p0, x.block < W.heap.size := by obtain ⟨m, hm⟩ := h0; exact DataW.trod_lt m _ _ _ hm
  obtain ⟨l0, hl0⟩ := open_nums h0
  obtain ⟨a1, rfl, rfl, rfl, w1⟩ := open_int Try.underlying3 (hval 1 3 v1 rfl rfl) h1
  clear hA0 hval0
  refine (walk hl0 a1 W rfl).mono fun e W' ⟨he, bel⟩ => ?_
  subst he
  exact ⟨_, rfl, _, _, _, [], _, [], hW', trodAll_mk1 (shut_bool Try.underlying4 _), (trodAll_cons_mk (Below.trod laidOut (by kernel_rfl) (of_decide_eq_true (by kernel_rfl)) h0 bel lt0) (trodAll_cons_mk (shut_int Try.underlying3 w1) trodAll_mk0)), rfl, bel.frame _, fun h => by cases h⟩

theorem proved : Rows.BitsPacksSaid :=
  OpenClaim.holds_of_wide 3 Try.f3 rfl rfl rfl rfl rfl rfl rfl ⟨rfl, rfl, rfl, rfl, rfl⟩ rfl rfl rfl rfl rfl (by kernel_rfl) Try.func3 (by kernel_rfl)
    (of_decide_eq_true (by kernel_rfl)) (by unfold Func.isWrapper; first | (rw [if_pos (by decide +kernel)]; kernel_rfl) | (rw [if_neg (by decide +kernel)]; exact ⟨rfl, rfl⟩))
    (fun os started H enc _ => lifted os started H enc)
end PacksLaw
theorem bitsPacks_holds : Rows.BitsPacksSaid := PacksLaw.proved
#print axioms bitsPacks_holds
end Go.Proofs.Ythgfchagjknohaa
