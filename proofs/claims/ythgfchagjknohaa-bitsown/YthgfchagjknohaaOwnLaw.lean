/- BitsOwn: for all numbers, bytes, widths and counts the law returns true: what is handed in stays as it was; nothing that was there is written. No condition. -/
import Derived.Test.YthgfchagjknohaaLift
set_option linter.unusedVariables false
namespace Go.Proofs.Ythgfchagjknohaa
namespace OwnLaw
open Go.ChangeShapes Go.WideShapes Go.ChangeAt Go.RowKit Go.Lib

set_option maxRecDepth 100000 in
set_option maxHeartbeats 4000000 in
theorem walk {v : Value} {l : List Nat} {W0 : World} (hl : Sn .u64 W0 v l ∧ ∀ x ∈ l, x < 18446744073709551616) (x : Int) {vb : Value} {b : List Nat} (hb : Sn .u8 W0 vb b ∧ ∀ x ∈ b, x < 256) (n : Int) (w : World) (hw : w = W0) :
    Calls Try.prog 7 #[v, .int .i64 x, vb, .int .i64 n] w fun e w' => e = .returned (.bool true) ∧ Below w.heap.size w w' := by
  subst hw
  obtain ⟨hsn, h64⟩ := hl
  obtain ⟨hsb, h8⟩ := hb
  have HS := hidden hsn
  have HT := hidden hsb
  obtain ⟨a, cap, rfl, hm, hcl⟩ := hsn.1
  have hm2 : l.length ≤ 9223372036854775807 := by unfold maxLen at hm; omega
  obtain ⟨a', cap', rfl, hm', hcl'⟩ := hsb.1
  have hm3 : b.length ≤ 9223372036854775807 := by unfold maxLen at hm'; omega
  clear hsn hm hcl hsb hm' hcl'
  have H64 := hidden h64
  have H8 := hidden h8
  clear h64 h8
  by_cases hbig : (l.length : Int) > 1000
  · clear HS HT
    go_enter Try.func7, Try.ntmps7
    go_wp2_with fail
    refine (alive_any _).mono ?_
    rintro e w1 ⟨rfl, hb1⟩
    go_wp2_with fail
    go_ret
    exact ⟨rfl, hb1⟩
  · by_cases hbig2 : (b.length : Int) > 5000
    · clear HS HT
      go_enter Try.func7, Try.ntmps7
      go_wp2_with fail
      refine (alive_any _).mono ?_
      rintro e w1 ⟨rfl, hb1⟩
      go_wp2_with fail
      go_ret
      exact ⟨rfl, hb1⟩
    · go_enter Try.func7, Try.ntmps7
      go_wp2_with fail
      refine (alive_any _).mono ?_
      rintro e w1 ⟨rfl, hb1⟩
      have HB1 := hidden hb1
      have HLit : Hid ((w1.alloc (.cells #[] 39)).ownsRow w1.heap.size 39 1 (.slice (some ⟨w1.heap.size, 0, none⟩) 0 0) 0 (vals .u64 [])) := hidden (World.ownsRow_lit w1 #[] 0 (Nat.le_refl _) (by unfold maxLen; omega) rfl)
      have HBA := hidden (below_alloc w1 (.cells #[] 39))
      have HSA := hidden ((HS.out.kept hb1).kept HBA.out)
      have HTA := hidden ((HT.out.kept hb1).kept HBA.out)
      clear hb1
      go_wp2_with (first | (at_builtin; refine wpList_append_nums rfl _ _ rfl w1.heap.size _ _ _ [] l rfl HLit.out rfl HSA.out ?_ ?_ ?_))
      · omega
      · simp
      intro v2 w2 o2 hb2
      have hbb2 := HBA.out.trans hb2
      have HS2 := hidden ((HS.out.kept HB1.out).kept hbb2)
      have HT2 := hidden ((HT.out.kept HB1.out).kept hbb2)
      have HX2 := hidden (Sx.of_own o2)
      have HB2 := hidden (below_then HB1.out hbb2)
      have HLit2 : Hid ((w2.alloc (.cells #[] 5)).ownsRow w2.heap.size 5 1 (.slice (some ⟨w2.heap.size, 0, none⟩) 0 0) 0 (vals .u8 [])) := hidden (World.ownsRow_lit w2 #[] 0 (Nat.le_refl _) (by unfold maxLen; omega) rfl)
      have HBA2 := hidden (below_alloc w2 (.cells #[] 5))
      have HTB := hidden (HT2.out.kept HBA2.out)
      clear o2 hb2 hbb2 HLit HBA HSA HTA HB1
      go_wp2_with (first | (at_builtin; refine wpList_append_bytes rfl _ _ rfl w2.heap.size _ _ _ [] b rfl HLit2.out rfl HTB.out ?_ ?_ ?_))
      · omega
      · simp
      intro v3 w3 o3 hb3
      have hbb3 := HBA2.out.trans hb3
      have HS3 := hidden (HS2.out.kept hbb3).1
      have HT3 := hidden (HT2.out.kept hbb3).1
      have HX3 := hidden (HX2.out.kept hbb3)
      have HY3 := hidden (Sx.of_own o3)
      have HB3 := hidden (below_then HB2.out hbb3)
      clear o3 hb3 hbb3 HLit2 HBA2 HTB HS2 HT2 HX2 HB2 HS HT
      go_wp2_with fail
      refine (pack_any HS3.out H64.out x).mono ?_
      rintro e w4 ⟨v4, rfl, _, hb4⟩
      have HS4 := hidden (HS3.out.kept hb4)
      have HT4 := hidden (HT3.out.kept hb4)
      have HX4 := hidden (HX3.out.kept hb4)
      have HY4 := hidden (HY3.out.kept hb4)
      have HB4 := hidden (below_then HB3.out hb4)
      clear hb4 HS3 HT3 HX3 HY3 HB3
      go_wp2_with fail
      refine (unpack_any HT4.out H8.out n x).mono ?_
      rintro e w5 ⟨v5, rfl, _, hb5⟩
      have HS5 := hidden (HS4.out.kept hb5)
      have HT5 := hidden (HT4.out.kept hb5)
      have HX5 := hidden (HX4.out.kept hb5)
      have HY5 := hidden (HY4.out.kept hb5)
      have HB5 := hidden (below_then HB4.out hb5)
      clear hb5 HS4 HT4 HX4 HY4 HB4
      go_wp2_with fail
      refine (width_any HS5.out H64.out).mono ?_
      rintro e w6 ⟨rfl, rfl⟩
      have HSM := hidden (same_any HS5.out HX5.out)
      try rw [List.nil_append] at HSM
      rw [decide_eq_true rfl] at HSM
      go_wp2_with fail
      refine HSM.out.mono ?_
      rintro e w7 ⟨rfl, hb7⟩
      have hc1 := (HT5.out.kept hb7).conv H8.out
      have hc2 := (HY5.out.kept hb7).conv (by first | exact H8.out | (rw [List.nil_append]; exact H8.out))
      try rw [List.nil_append] at hc2
      obtain ⟨s, hs⟩ : ∃ s, txt b = .string s := ⟨_, rfl⟩
      rw [hs] at hc1 hc2
      have HB7 := hidden (below_then HB5.out hb7)
      clear hb7 HS5 HT5 HX5 HY5 HB5 hs
      go_wp2_with fail
      go_ret
      exact ⟨rfl, HB7.out⟩

set_option maxRecDepth 100000 in
theorem lifted (os : Os) (started : os.Started) (H : Type) (enc : TypeId × Value → H) :
    ReturnsInHanded {} Try.checked os 7 .any (Rows.bitsOwnSpec.pre6 enc Try.prog Try.f7 Rows.bitsOwnRow.domain false) (Rows.bitsOwnSpec.post enc Try.prog Try.f7 false true false false) := by
  refine returnsInHanded_of_change (C := Try.checked) own started (by kernel_rfl) Try.func7
    (ChangeSpec.witness6 (enc := enc) (C := Try.checked) false ⟨#[], #[.slice none 0 0, .int .i64 0, .slice none 0 0, .int .i64 0], []⟩ 8 (by kernel_rfl) (by kernel_rfl) (by kernel_rfl) (by kernel_rfl)) ?_
  intro W base args ds gs before hval0 hW hcnd _
  have hval : ∀ (j : Nat) t v, Try.f7.params[j]? = some t → args[j]? = some v → Value.okWide Try.prog W .any base t v := hval0
  have hW' := hW
  obtain ⟨p, q, hA0, hV, rfl, hfz, hnd⟩ := hW
  have hA : DataW.TrodAll enc Try.prog W 0 (fun _ => true) true Try.f7.params.toList args.toList ds p := hA0
  rw [Try.params7] at hA hval
  obtain ⟨v0, vs0, d0, ds0, p0, q0, hargs, rfl, rfl, h0, r0⟩ := trodAll_cons hA
  obtain ⟨v1, vs1, d1, ds1, p1, q1, rfl, rfl, rfl, h1, r1⟩ := trodAll_cons r0
  obtain ⟨v2, vs2, d2, ds2, p2, q2, rfl, rfl, rfl, h2, r2⟩ := trodAll_cons r1
  obtain ⟨v3, vs3, d3, ds3, p3, q3, rfl, rfl, rfl, h3, r3⟩ := trodAll_cons r2
  obtain ⟨rfl, rfl, rfl⟩ := trodAll_nil r3
  obtain rfl : args = #[v0, v1, v2, v3] := by cases args; simp_all
  obtain ⟨rfl, rfl⟩ := trodVars_none hV
  obtain ⟨a0, len0, cap0, rfl⟩ := okWide_slice Try.underlying22 (hval 0 22 v0 rfl rfl)
  have lt0 : ∀ x ∈ p0, x.block < W.heap.size := by obtain ⟨m, hm⟩ := h0; exact DataW.trod_lt m _ _ _ hm
  obtain ⟨l0, hl0⟩ := open_nums h0
  obtain ⟨a1, rfl, rfl, rfl, w1⟩ := open_int Try.underlying3 (hval 1 3 v1 rfl rfl) h1
  obtain ⟨a2, len2, cap2, rfl⟩ := okWide_slice Try.underlying24 (hval 2 24 v2 rfl rfl)
  have lt2 : ∀ x ∈ p2, x.block < W.heap.size := by obtain ⟨m, hm⟩ := h2; exact DataW.trod_lt m _ _ _ hm
  obtain ⟨l2, hl2⟩ := open_bytes h2
  obtain ⟨a3, rfl, rfl, rfl, w3⟩ := open_int Try.underlying3 (hval 3 3 v3 rfl rfl) h3
  clear hA0 hval0
  refine (walk hl0 a1 hl2 a3 W rfl).mono fun e W' ⟨he, bel⟩ => ?_
  subst he
  exact ⟨_, rfl, _, _, _, [], _, [], hW', trodAll_mk1 (shut_bool Try.underlying4 _), (trodAll_cons_mk (Below.trod laidOut (by kernel_rfl) (of_decide_eq_true (by kernel_rfl)) h0 bel lt0) (trodAll_cons_mk (shut_int Try.underlying3 w1) (trodAll_cons_mk (Below.trod laidOut (by kernel_rfl) (of_decide_eq_true (by kernel_rfl)) h2 bel lt2) (trodAll_cons_mk (shut_int Try.underlying3 w3) trodAll_mk0)))), rfl, bel.frame _, fun h => by cases h⟩

theorem proved : Rows.BitsOwnSaid :=
  OpenClaim.holds_of_wide 7 Try.f7 rfl rfl rfl rfl rfl rfl rfl ⟨rfl, rfl, rfl, rfl, rfl⟩ rfl rfl rfl rfl rfl (by kernel_rfl) Try.func7 (by kernel_rfl)
    (of_decide_eq_true (by kernel_rfl)) (by unfold Func.isWrapper; first | (rw [if_pos (by decide +kernel)]; kernel_rfl) | (rw [if_neg (by decide +kernel)]; exact ⟨rfl, rfl⟩))
    (fun os started H enc _ => lifted os started H enc)
end OwnLaw
theorem bitsOwn_holds : Rows.BitsOwnSaid := OwnLaw.proved
#print axioms bitsOwn_holds
end Go.Proofs.Ythgfchagjknohaa
