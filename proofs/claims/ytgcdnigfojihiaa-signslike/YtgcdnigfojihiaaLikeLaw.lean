/- SignsLike: for every two texts the law returns true: whether the second, as a pattern, stands for the first is as the document says; nothing that was there is written. No condition. -/
import Derived.Test.YtgcdnigfojihiaaRefLike
import Derived.Test.YtgcdnigfojihiaaCountsLaw
set_option linter.unusedVariables false
namespace Go.Proofs.Ytgcdnigfojihiaa
namespace LikeLaw
open Go.ChangeShapes Go.WideShapes Go.ChangeAt Go.RowKit
open Go.ChangeMaps (open_string shut_string)

theorem sgn_rune {u : List (Nat × Nat)} {j c : Nat} (h : (u.map Prod.fst)[j]? = some c) : (sgn u u.length)[j]? = some (.int .i64 (c : Int)) := by
  rw [List.getElem?_map] at h
  obtain ⟨x, hx, rfl⟩ := Option.map_eq_some_iff.1 h
  simp [sgn, hx]

set_option maxRecDepth 100000 in
theorem refLike_any (s p : ByteArray) (hs : s.size ≤ 100000) (hp : p.size ≤ 100000) (w : World) :
    Calls Try.prog 18 #[.string s, .string p] w fun e w' => e = .returned (.bool (lk (runes (lb p)) (runes (lb s)))) ∧ Below w.heap.size w w' := by
  have hV1 := V_le (lb s)
  have hV2 := V_le (lb p)
  rw [lb_size] at hV1 hV2
  have R1 := hidden (runes_len (lb s))
  have R2 := hidden (runes_len (lb p))
  go_enter Try.func18, Try.ntmps18
  go_wp2_with fail
  refine (signs_any s hs _).mono ?_
  rintro e w1 ⟨⟨a, b, rfl, ha, hb⟩, hbel⟩
  have HB1 := hidden hbel
  have HO1 := hidden ha
  have hz1 := hbel.size
  obtain ⟨⟨ad1, cap1, rfl, _⟩, _⟩ := own_form ha
  obtain ⟨⟨bd1, bap1, rfl, _⟩, _⟩ := own_form hb
  clear hbel ha hb
  go_wp2_with fail
  refine (signs_any p hp _).mono ?_
  rintro e w2 ⟨⟨a2, b2, rfl, ha2, hb2⟩, hbel2⟩
  have HB2 := hidden (HB1.out.trans (hbel2.mono hz1))
  have HO2 := hidden (own_kept HO1.out hbel2)
  have HO3 := hidden ha2
  have hz2 := HB2.out.size
  obtain ⟨⟨ad2, cap2, rfl, _⟩, _⟩ := own_form ha2
  obtain ⟨⟨bd2, bap2, rfl, _⟩, _⟩ := own_form hb2
  clear hbel2 ha2 hb2 HB1 HO1
  have k1 : 0 < (runes (lb s)).length → ∃ g1, ad1 = some ⟨g1, 0, none⟩ ∧ g1 < w2.heap.size ∧ IntRow w2 g1 (runes (lb s)) := fun h => by
    rw [R1.out] at h
    obtain ⟨g, c, hsl, hg, _, hc⟩ := (own_form HO2.out).2 h
    simp only [Value.slice.injEq] at hsl
    obtain ⟨rfl, _, _⟩ := hsl
    exact ⟨g, rfl, hg, fun j c hj => hc j _ (sgn_rune hj)⟩
  have k2 : 0 < (runes (lb p)).length → ∃ g2, ad2 = some ⟨g2, 0, none⟩ ∧ g2 < w2.heap.size ∧ IntRow w2 g2 (runes (lb p)) := fun h => by
    rw [R2.out] at h
    obtain ⟨g, c, hsl, hg, _, hc⟩ := (own_form HO3.out).2 h
    simp only [Value.slice.injEq] at hsl
    obtain ⟨rfl, _, _⟩ := hsl
    exact ⟨g, rfl, hg, fun j c hj => hc j _ (sgn_rune hj)⟩
  obtain ⟨g1, k1'⟩ : ∃ g1, 0 < (runes (lb s)).length → ad1 = some ⟨g1, 0, none⟩ ∧ g1 < w2.heap.size ∧ IntRow w2 g1 (runes (lb s)) := by
    by_cases h : 0 < (runes (lb s)).length
    · obtain ⟨g1, hg1⟩ := k1 h
      exact ⟨g1, fun _ => hg1⟩
    · exact ⟨0, fun h2 => absurd h2 h⟩
  obtain ⟨g2, k2'⟩ : ∃ g2, 0 < (runes (lb p)).length → ad2 = some ⟨g2, 0, none⟩ ∧ g2 < w2.heap.size ∧ IntRow w2 g2 (runes (lb p)) := by
    by_cases h : 0 < (runes (lb p)).length
    · obtain ⟨g2, hg2⟩ := k2 h
      exact ⟨g2, fun _ => hg2⟩
    · exact ⟨0, fun h2 => absurd h2 h⟩
  have hcall := refMatch_any (runes (lb s)) (runes (lb p)) ad1 ad2 g1 g2 cap1 cap2 (by rw [R1.out]; omega) (by rw [R2.out]; omega) w2 k1' k2'
  rw [R1.out, R2.out] at hcall
  have HCL := hidden hcall
  clear hcall k1 k2 k1' k2' HO2 HO3
  go_wp2_with fail
  refine HCL.out.mono ?_
  rintro e w3 ⟨rfl, hb⟩
  go_wp2_with fail
  go_ret
  exact ⟨rfl, HB2.out.trans (hb.mono hz2)⟩

set_option maxRecDepth 100000 in
theorem walk (s p : ByteArray) (w : World) :
    Calls Try.prog 6 #[.string s, .string p] w fun e w' => e = .returned (.bool true) ∧ Below w.heap.size w w' := by
  go_enter Try.func6, Try.ntmps6
  go_wp2_with fail
  refine (alive_any _).mono ?_
  rintro e w1 ⟨rfl, hb⟩
  have HB1 := hidden hb
  have hz1 := hb.size
  clear hb
  by_cases hg : (s.size : Int) > 300
  · go_wp2_with fail
    go_ret
    exact ⟨rfl, HB1.out⟩
  · by_cases hg2 : (p.size : Int) > 100
    · go_wp2_with fail
      go_ret
      exact ⟨rfl, HB1.out⟩
    · have hs : s.size ≤ 100000 := by omega
      have hp : p.size ≤ 100000 := by omega
      go_wp2_with fail
      refine (like_any s p hs hp _).mono ?_
      rintro e w2 ⟨rfl, hb⟩
      have HB2 := hidden (HB1.out.trans (hb.mono hz1))
      have hz2 := HB2.out.size
      clear hb HB1
      have HR := hidden (refLike_any s p hs hp)
      generalize lk (runes (lb p)) (runes (lb s)) = q at *
      go_wp2_with fail
      refine (HR.out _).mono ?_
      rintro e w3 ⟨rfl, hb⟩
      have HB3 := hidden (HB2.out.trans (hb.mono hz2))
      clear hb HB2 HR
      cases q
      all_goals
        go_wp2_with fail
        go_ret
        exact ⟨rfl, HB3.out⟩

set_option maxRecDepth 100000 in
theorem lifted (os : Os) (started : os.Started) (H : Type) (enc : TypeId × Value → H) :
    ReturnsInHanded {} Try.checked os 6 .any (Rows.signsLikeSpec.pre6 enc Try.prog Try.f6 Rows.signsLikeRow.domain false) (Rows.signsLikeSpec.post enc Try.prog Try.f6 false true false false) := by
  refine returnsInHanded_of_change (C := Try.checked) own started (by kernel_rfl) Try.func6
    (ChangeSpec.witness6 (enc := enc) (C := Try.checked) false ⟨#[], #[.string ⟨#[]⟩, .string ⟨#[]⟩], []⟩ 8 (by kernel_rfl) (by kernel_rfl) (by kernel_rfl) (by kernel_rfl)) ?_
  intro W base args ds gs before hval0 hW hcnd _
  have hval : ∀ (j : Nat) t v, Try.f6.params[j]? = some t → args[j]? = some v → Value.okWide Try.prog W .any base t v := hval0
  have hW' := hW
  obtain ⟨p, q, hA0, hV, rfl, hfz, hnd⟩ := hW
  have hA : DataW.TrodAll enc Try.prog W 0 (fun _ => true) true Try.f6.params.toList args.toList ds p := hA0
  rw [Try.params6] at hA hval
  obtain ⟨v0, vs0, d0, ds0, p0, q0, hargs, rfl, rfl, h0, r0⟩ := trodAll_cons hA
  obtain ⟨v1, vs1, d1, ds1, p1, q1, rfl, rfl, rfl, h1, r1⟩ := trodAll_cons r0
  obtain ⟨rfl, rfl, rfl⟩ := trodAll_nil r1
  obtain rfl : args = #[v0, v1] := by cases args; simp_all
  obtain ⟨rfl, rfl⟩ := trodVars_none hV
  obtain ⟨a0, rfl, rfl, rfl, w0⟩ := open_string Try.underlying9 (hval 0 9 v0 rfl rfl) h0
  obtain ⟨a1, rfl, rfl, rfl, w1⟩ := open_string Try.underlying9 (hval 1 9 v1 rfl rfl) h1
  clear hA0 hval0
  refine (walk a0 a1 W).mono fun e W' ⟨he, bel⟩ => ?_
  subst he
  exact ⟨_, rfl, _, _, _, [], _, [], hW', trodAll_mk1 (shut_bool Try.underlying4 _), (trodAll_cons_mk (shut_string Try.underlying9 w0) (trodAll_cons_mk (shut_string Try.underlying9 w1) trodAll_mk0)), rfl, bel.frame _, fun h => by cases h⟩

theorem proved : Rows.SignsLikeSaid :=
  OpenClaim.holds_of_wide 6 Try.f6 rfl rfl rfl rfl rfl rfl rfl ⟨rfl, rfl, rfl, rfl, rfl⟩ rfl rfl rfl rfl rfl (by kernel_rfl) Try.func6 (by kernel_rfl)
    (of_decide_eq_true (by kernel_rfl)) (by unfold Func.isWrapper; first | (rw [if_pos (by decide +kernel)]; kernel_rfl) | (rw [if_neg (by decide +kernel)]; exact ⟨rfl, rfl⟩))
    (fun os started H enc _ => lifted os started H enc)
end LikeLaw
theorem signsLike_holds : Rows.SignsLikeSaid := LikeLaw.proved
#print axioms signsLike_holds
end Go.Proofs.Ytgcdnigfojihiaa
