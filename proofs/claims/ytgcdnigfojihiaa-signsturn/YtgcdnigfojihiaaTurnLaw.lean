/- SignsTurn: for every text the law returns true: a text turned round is as the document says, has as many signs and is clean; turned again it is the text, if that is clean; nothing that was there is written. No condition. -/
import Derived.Test.YtgcdnigfojihiaaRefTurn
import Derived.Test.YtgcdnigfojihiaaCountsLaw
set_option linter.unusedVariables false
namespace Go.Proofs.Ytgcdnigfojihiaa
namespace TurnLaw
open Go.ChangeShapes Go.WideShapes Go.ChangeAt Go.RowKit
open Go.ChangeMaps (open_string shut_string)

set_option maxRecDepth 100000 in
theorem walk (s : ByteArray) (w : World) :
    Calls Try.prog 8 #[.string s] w fun e w' => e = .returned (.bool true) ∧ Below w.heap.size w w' := by
  go_enter Try.func8, Try.ntmps8
  go_wp2_with fail
  refine (alive_any _).mono ?_
  rintro e w1 ⟨rfl, hb⟩
  have HB1 := hidden hb
  have hz1 := hb.size
  clear hb
  by_cases hg : (s.size : Int) > 3000
  · go_wp2_with fail
    go_ret
    exact ⟨rfl, HB1.out⟩
  · have hs : s.size ≤ 100000 := by omega
    have hV := V_le (lb s)
    rw [lb_size] at hV
    go_wp2_with fail
    refine (turn_any s hs _).mono ?_
    rintro e w2 ⟨⟨t, rfl, ht⟩, hb⟩
    have HB2 := hidden (HB1.out.trans (hb.mono hz1))
    have hz2 := HB2.out.size
    have HT := hidden ht
    have hrv : ∀ r ∈ (runes (lb s)).reverse, vr r := fun r hr => runes_vr (lb s) r (by simpa using hr)
    have hts : t.size ≤ 100000 := by
      have := flat_length (runes (lb s)).reverse
      rw [← ht, lb_size, List.length_reverse, runes_len] at this
      omega
    have hlen : (V (lb t)).length = (V (lb s)).length := by
      rw [← runes_len, ← runes_len, ht, runes_flat _ hrv, List.length_reverse]
    have hcl : clean (lb t) = true := by rw [ht]; exact clean_flat _ hrv
    have hrr : runes (lb t) = (runes (lb s)).reverse := by rw [ht, runes_flat _ hrv]
    have HRR := hidden hrr
    have HL := hidden hlen
    have HC := hidden hcl
    clear hb HB1 ht hrv hlen hcl hrr
    go_wp2_with fail
    refine (refTurn_any s hs _).mono ?_
    rintro e w3 ⟨⟨t2, rfl, ht2⟩, hb⟩
    have HB3 := hidden (HB2.out.trans (hb.mono hz2))
    have hz3 := HB3.out.size
    obtain rfl : t = t2 := lb_inj (HT.out.trans ht2.symm)
    clear hb HB2 ht2
    go_wp2_with fail
    refine (count_any t hts _).mono ?_
    rintro e w4 ⟨rfl, hb⟩
    rw [HL.out]
    have HB4 := hidden (HB3.out.trans (hb.mono hz3))
    have hz4 := HB4.out.size
    clear hb HB3
    go_wp2_with fail
    refine (count_any s hs _).mono ?_
    rintro e w5 ⟨rfl, hb⟩
    have HB5 := hidden (HB4.out.trans (hb.mono hz4))
    have hz5 := HB5.out.size
    clear hb HB4
    go_wp2_with fail
    refine (clean_any t hts _).mono ?_
    rintro e w6 ⟨rfl, hb⟩
    rw [HC.out]
    have HB6 := hidden (HB5.out.trans (hb.mono hz5))
    have hz6 := HB6.out.size
    clear hb HB5
    go_wp2_with fail
    refine (clean_any s hs _).mono ?_
    rintro e w7 ⟨rfl, hb⟩
    have HB7 := hidden (HB6.out.trans (hb.mono hz6))
    have hz7 := HB7.out.size
    clear hb HB6
    cases hcs : clean (lb s) with
    | false =>
      clear hcs
      go_wp2_with fail
      go_ret
      exact ⟨rfl, HB7.out⟩
    | true =>
      have HCS := hidden hcs
      clear hcs
      go_wp2_with fail
      refine (turn_any t hts _).mono ?_
      rintro e w8 ⟨⟨t3, rfl, ht3⟩, hb⟩
      have HB8 := hidden (HB7.out.trans (hb.mono hz7))
      obtain rfl : t3 = s := lb_inj (by rw [ht3, HRR.out, List.reverse_reverse]; exact (clean_eq HCS.out).symm)
      clear hb HB7 ht3
      go_wp2_with fail
      go_ret
      exact ⟨rfl, HB8.out⟩

set_option maxRecDepth 100000 in
theorem lifted (os : Os) (started : os.Started) (H : Type) (enc : TypeId × Value → H) :
    ReturnsInHanded {} Try.checked os 8 .any (Rows.signsTurnSpec.pre6 enc Try.prog Try.f8 Rows.signsTurnRow.domain false) (Rows.signsTurnSpec.post enc Try.prog Try.f8 false true false false) := by
  refine returnsInHanded_of_change (C := Try.checked) own started (by kernel_rfl) Try.func8
    (ChangeSpec.witness6 (enc := enc) (C := Try.checked) false ⟨#[], #[.string ⟨#[]⟩], []⟩ 8 (by kernel_rfl) (by kernel_rfl) (by kernel_rfl) (by kernel_rfl)) ?_
  intro W base args ds gs before hval0 hW hcnd _
  have hval : ∀ (j : Nat) t v, Try.f8.params[j]? = some t → args[j]? = some v → Value.okWide Try.prog W .any base t v := hval0
  have hW' := hW
  obtain ⟨p, q, hA0, hV, rfl, hfz, hnd⟩ := hW
  have hA : DataW.TrodAll enc Try.prog W 0 (fun _ => true) true Try.f8.params.toList args.toList ds p := hA0
  rw [Try.params8] at hA hval
  obtain ⟨v0, vs0, d0, ds0, p0, q0, hargs, rfl, rfl, h0, r0⟩ := trodAll_cons hA
  obtain ⟨rfl, rfl, rfl⟩ := trodAll_nil r0
  obtain rfl : args = #[v0] := by cases args; simp_all
  obtain ⟨rfl, rfl⟩ := trodVars_none hV
  obtain ⟨a0, rfl, rfl, rfl, w0⟩ := open_string Try.underlying9 (hval 0 9 v0 rfl rfl) h0
  clear hA0 hval0
  refine (walk a0 W).mono fun e W' ⟨he, bel⟩ => ?_
  subst he
  exact ⟨_, rfl, _, _, _, [], _, [], hW', trodAll_mk1 (shut_bool Try.underlying4 _), (trodAll_cons_mk (shut_string Try.underlying9 w0) trodAll_mk0), rfl, bel.frame _, fun h => by cases h⟩

theorem proved : Rows.SignsTurnSaid :=
  OpenClaim.holds_of_wide 8 Try.f8 rfl rfl rfl rfl rfl rfl rfl ⟨rfl, rfl, rfl, rfl, rfl⟩ rfl rfl rfl rfl rfl (by kernel_rfl) Try.func8 (by kernel_rfl)
    (of_decide_eq_true (by kernel_rfl)) (by unfold Func.isWrapper; first | (rw [if_pos (by decide +kernel)]; kernel_rfl) | (rw [if_neg (by decide +kernel)]; exact ⟨rfl, rfl⟩))
    (fun os started H enc _ => lifted os started H enc)
end TurnLaw
theorem signsTurn_holds : Rows.SignsTurnSaid := TurnLaw.proved
#print axioms signsTurn_holds
end Go.Proofs.Ytgcdnigfojihiaa
