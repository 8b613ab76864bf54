/- IntsEncodes: for every byte and every list of whole numbers the law returns true: the bytes of any codec, and the fewest ones, are the document's; nothing that was there is written. No condition. -/
import Derived.Test.YtnlanilejhjkkaaLift
import Derived.Test.YtnlanilejhjkkaaRefBest
set_option linter.unusedVariables false
namespace Go.Proofs.Ytnlanilejhjkkaa
namespace EncodesLaw
open Go.ChangeShapes Go.WideShapes Go.ChangeAt Go.RowKit Go.Lib

theorem encM_bytes (c : Nat) {l : List Int} (hi : Is l) : Bs (encM c l) := by
  unfold encM
  split
  · next h => exact (encC_size c hi h.2).2
  · exact fun x hx => by simp at hx

theorem bestM_bytes {l : List Int} (hi : Is l) : Bs (bestM l) := by
  unfold bestM
  split
  · next h =>
    obtain ⟨c, h1, h2⟩ := bestUp_form l 4
    rw [h2]
    intro x hx
    rcases List.mem_cons.1 hx with rfl | hx
    · omega
    · exact (encC_size c hi h).2 x hx
  · exact fun x hx => by simp at hx

set_option maxRecDepth 100000 in
set_option maxHeartbeats 4000000 in
theorem walk (c : Nat) (hc : c < 256) {v : Value} {l : List Int} (w : World) (hl : Sv w v (ivals l) ∧ Is l) :
    Calls Try.prog 3 #[.int .u8 (c : Int), v] w fun e w' => e = .returned (.bool true) ∧ Below w.heap.size w w' := by
  obtain ⟨hs, hi⟩ := hl
  have HS := hidden hs
  have HI := hidden hi
  obtain ⟨a, cap, rfl, hcap, hcm⟩ := hs.form
  have hm : l.length ≤ 9223372036854775807 := by unfold maxLen at hcm; omega
  have HBE := hidden (encM_bytes c hi)
  have HBB := hidden (bestM_bytes hi)
  clear hs hi hcap hcm
  by_cases hbig : (l.length : Int) > 600
  · go_enter Try.func3, Try.ntmps3
    go_wp2_with fail
    refine (alive_any _).mono ?_
    rintro e w1 ⟨rfl, hb1⟩
    go_wp2_with fail
    go_ret
    exact ⟨rfl, hb1⟩
  · go_enter Try.func3, Try.ntmps3
    go_wp2_with fail
    refine (alive_any _).mono ?_
    rintro e w1 ⟨rfl, hb1⟩
    have HB1 := hidden hb1
    clear hb1
    go_wp2_with fail
    refine (encode_any (HS.out.kept HB1.out) HI.out c hc).mono ?_
    rintro e w2 ⟨⟨v2, rfl, o2⟩, hb2⟩
    have HO2 := hidden o2
    have HB2 := hidden (below_then HB1.out hb2)
    clear o2 hb2
    go_wp2_with fail
    refine (refEncode_any (HS.out.kept HB2.out) HI.out c).mono ?_
    rintro e w3 ⟨⟨v3, rfl, o3⟩, hb3⟩
    have HO3 := hidden o3
    have HO23 := hidden (HO2.out.kept hb3)
    have HB3 := hidden (below_then HB2.out hb3)
    clear o3 hb3
    go_wp2_with fail
    refine (best_any (HS.out.kept HB3.out) HI.out).mono ?_
    rintro e w4 ⟨⟨v4, rfl, o4⟩, hb4⟩
    have HO4 := hidden o4
    have HO24 := hidden (HO23.out.kept hb4)
    have HO34 := hidden (HO3.out.kept hb4)
    have HB4 := hidden (below_then HB3.out hb4)
    clear o4 hb4
    go_wp2_with fail
    refine (refBest_any (HS.out.kept HB4.out) HI.out).mono ?_
    rintro e w5 ⟨⟨v5, rfl, o5⟩, hb5⟩
    have hc2 := (HO24.out.kept hb5).sv.conv HBE.out
    have hc3 := (HO34.out.kept hb5).sv.conv HBE.out
    have hc4 := (HO4.out.kept hb5).sv.conv HBB.out
    have hc5 := o5.sv.conv HBB.out
    have HB5 := hidden (below_then HB4.out hb5)
    obtain ⟨s, hs⟩ : ∃ s, txt (encM c l) = .string s := ⟨_, rfl⟩
    obtain ⟨t, ht⟩ : ∃ t, txt (bestM l) = .string t := ⟨_, rfl⟩
    rw [hs] at hc2 hc3
    rw [ht] at hc4 hc5
    clear o5 hb5 hs ht
    generalize decide (c ≤ 4 ∧ l.length ≤ 256) = y1 at *
    generalize decide (l.length ≤ 256) = y2 at *
    go_wp2_with fail
    go_ret
    exact ⟨rfl, HB5.out⟩

set_option maxRecDepth 100000 in
theorem lifted (os : Os) (started : os.Started) (H : Type) (enc : TypeId × Value → H) :
    ReturnsInHanded {} Try.checked os 3 .any (Rows.intsEncodesSpec.pre6 enc Try.prog Try.f3 Rows.intsEncodesRow.domain false) (Rows.intsEncodesSpec.post enc Try.prog Try.f3 false true false false) := by
  refine returnsInHanded_of_change (C := Try.checked) own started (by kernel_rfl) Try.func3
    (ChangeSpec.witness6 (enc := enc) (C := Try.checked) false ⟨#[], #[.int .u8 0, .slice none 0 0], []⟩ 8 (by kernel_rfl) (by kernel_rfl) (by kernel_rfl) (by kernel_rfl)) ?_
  intro W base args ds gs before hval0 hW hcnd _
  have hval : ∀ (j : Nat) t v, Try.f3.params[j]? = some t → args[j]? = some v → Value.okWide Try.prog W .any base t v := hval0
  have hW' := hW
  obtain ⟨p, q, hA0, hV, rfl, hfz, hnd⟩ := hW
  have hA : DataW.TrodAll enc Try.prog W 0 (fun _ => true) true Try.f3.params.toList args.toList ds p := hA0
  rw [Try.params3] at hA hval
  obtain ⟨v0, vs0, d0, ds0, p0, q0, hargs, rfl, rfl, h0, r0⟩ := trodAll_cons hA
  obtain ⟨v1, vs1, d1, ds1, p1, q1, rfl, rfl, rfl, h1, r1⟩ := trodAll_cons r0
  obtain ⟨rfl, rfl, rfl⟩ := trodAll_nil r1
  obtain rfl : args = #[v0, v1] := by cases args; simp_all
  obtain ⟨rfl, rfl⟩ := trodVars_none hV
  obtain ⟨a0, rfl, rfl, rfl, w0⟩ := open_int Try.underlying5 (hval 0 5 v0 rfl rfl) h0
  have g0 := bounds_u8 w0
  obtain ⟨n0, rfl⟩ := Int.eq_ofNat_of_zero_le g0.1
  obtain ⟨a1, len1, cap1, rfl⟩ := okWide_slice Try.underlying22 (hval 1 22 v1 rfl rfl)
  have lt1 : ∀ x ∈ p1, x.block < W.heap.size := by obtain ⟨m, hm⟩ := h1; exact DataW.trod_lt m _ _ _ hm
  obtain ⟨l1, hl1⟩ := open_ints h1
  clear hA0 hval0
  refine (walk n0 (by omega) W hl1).mono fun e W' ⟨he, bel⟩ => ?_
  subst he
  exact ⟨_, rfl, _, _, _, [], _, [], hW', trodAll_mk1 (shut_bool Try.underlying4 _), (trodAll_cons_mk (shut_int Try.underlying5 w0) (trodAll_cons_mk (Below.trod laidOut (by kernel_rfl) (of_decide_eq_true (by kernel_rfl)) h1 bel lt1) trodAll_mk0)), rfl, bel.frame _, fun h => by cases h⟩

theorem proved : Rows.IntsEncodesSaid :=
  OpenClaim.holds_of_wide 3 Try.f3 rfl rfl rfl rfl rfl rfl rfl ⟨rfl, rfl, rfl, rfl, rfl⟩ rfl rfl rfl rfl rfl (by kernel_rfl) Try.func3 (by kernel_rfl)
    (of_decide_eq_true (by kernel_rfl)) (by unfold Func.isWrapper; first | (rw [if_pos (by decide +kernel)]; kernel_rfl) | (rw [if_neg (by decide +kernel)]; exact ⟨rfl, rfl⟩))
    (fun os started H enc _ => lifted os started H enc)
end EncodesLaw
theorem intsEncodes_holds : Rows.IntsEncodesSaid := EncodesLaw.proved
#print axioms intsEncodes_holds
end Go.Proofs.Ytnlanilejhjkkaa
