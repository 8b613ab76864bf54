/- BitsUnpacks: for every list of bytes, every count and every width the law returns true: what they are unpacked as is the document's, with its error; nothing that was there is written. No condition. -/
import Derived.Test.YthgfchagjknohaaLift
set_option linter.unusedVariables false
namespace Go.Proofs.Ythgfchagjknohaa
namespace UnpacksLaw
open Go.ChangeShapes Go.WideShapes Go.ChangeAt Go.RowKit Go.Lib

set_option maxRecDepth 100000 in
set_option maxHeartbeats 4000000 in
theorem walk {vb : Value} {b : List Nat} {W1 : World} (hb : Sn .u8 W1 vb b ∧ ∀ x ∈ b, x < 256) (n x : Int) (w : World) (hw : w = W1) :
    Calls Try.prog 4 #[vb, .int .i64 n, .int .i64 x] w fun e w' => e = .returned (.bool true) ∧ Below w.heap.size w w' := by
  subst hw
  obtain ⟨hsn, h8⟩ := hb
  have HS := hidden hsn.1
  obtain ⟨a, cap, rfl, hm, hcl⟩ := hsn.1
  have hm2 : b.length ≤ 9223372036854775807 := by unfold maxLen at hm; omega
  clear hsn hm hcl
  have H8 := hidden h8
  clear h8
  go_enter Try.func4, Try.ntmps4
  go_wp2_with fail
  refine (alive_any _).mono ?_
  rintro e w1 ⟨rfl, hb1⟩
  have HS1 := hidden (HS.out.kept hb1)
  have HB1 := hidden hb1
  clear hb1
  go_wp2_with fail
  refine (unpack_any HS1.out H8.out n x).mono ?_
  rintro e w2 ⟨v2, rfl, o2, hb2⟩
  have HS2 := hidden (HS1.out.kept hb2)
  have HP2 := hidden (Sx.of_own o2)
  have HB2 := hidden (below_then HB1.out hb2)
  clear o2 hb2 HS1 HB1
  go_wp2_with fail
  refine (refUnpack_any HS2.out H8.out n x).mono ?_
  rintro e w3 ⟨v3, rfl, o3, hb3⟩
  have HP3 := hidden (HP2.out.kept hb3)
  have HQ3 := hidden (Sx.of_own o3)
  have HB3 := hidden (below_then HB2.out hb3)
  have HSM := hidden (same_any HP3.out HQ3.out)
  rw [decide_eq_true rfl] at HSM
  clear o3 hb3 HS2 HB2 HP2
  generalize unE b n x = E at *
  go_wp2_with fail
  refine HSM.out.mono ?_
  rintro e w4 ⟨rfl, hb4⟩
  have HB4 := hidden (below_then HB3.out hb4)
  clear hb4
  go_wp2_with fail
  go_ret
  exact ⟨rfl, HB4.out⟩

set_option maxRecDepth 100000 in
theorem lifted (os : Os) (started : os.Started) (H : Type) (enc : TypeId × Value → H) :
    ReturnsInHanded {} Try.checked os 4 .any (Rows.bitsUnpacksSpec.pre6 enc Try.prog Try.f4 Rows.bitsUnpacksRow.domain false) (Rows.bitsUnpacksSpec.post enc Try.prog Try.f4 false true false false) := by
  refine returnsInHanded_of_change (C := Try.checked) own started (by kernel_rfl) Try.func4
    (ChangeSpec.witness6 (enc := enc) (C := Try.checked) false ⟨#[], #[.slice none 0 0, .int .i64 0, .int .i64 0], []⟩ 8 (by kernel_rfl) (by kernel_rfl) (by kernel_rfl) (by kernel_rfl)) ?_
  intro W base args ds gs before hval0 hW hcnd _
  have hval : ∀ (j : Nat) t v, Try.f4.params[j]? = some t → args[j]? = some v → Value.okWide Try.prog W .any base t v := hval0
  have hW' := hW
  obtain ⟨p, q, hA0, hV, rfl, hfz, hnd⟩ := hW
  have hA : DataW.TrodAll enc Try.prog W 0 (fun _ => true) true Try.f4.params.toList args.toList ds p := hA0
  rw [Try.params4] at hA hval
  obtain ⟨v0, vs0, d0, ds0, p0, q0, hargs, rfl, rfl, h0, r0⟩ := trodAll_cons hA
  obtain ⟨v1, vs1, d1, ds1, p1, q1, rfl, rfl, rfl, h1, r1⟩ := trodAll_cons r0
  obtain ⟨v2, vs2, d2, ds2, p2, q2, rfl, rfl, rfl, h2, r2⟩ := trodAll_cons r1
  obtain ⟨rfl, rfl, rfl⟩ := trodAll_nil r2
  obtain rfl : args = #[v0, v1, v2] := by cases args; simp_all
  obtain ⟨rfl, rfl⟩ := trodVars_none hV
  obtain ⟨a0, len0, cap0, rfl⟩ := okWide_slice Try.underlying24 (hval 0 24 v0 rfl rfl)
  have lt0 : ∀ x ∈ p0, x.block < W.heap.size := by obtain ⟨m, hm⟩ := h0; exact DataW.trod_lt m _ _ _ hm
  obtain ⟨l0, hl0⟩ := open_bytes h0
  obtain ⟨a1, rfl, rfl, rfl, w1⟩ := open_int Try.underlying3 (hval 1 3 v1 rfl rfl) h1
  obtain ⟨a2, rfl, rfl, rfl, w2⟩ := open_int Try.underlying3 (hval 2 3 v2 rfl rfl) h2
  clear hA0 hval0
  refine (walk hl0 a1 a2 W rfl).mono fun e W' ⟨he, bel⟩ => ?_
  subst he
  exact ⟨_, rfl, _, _, _, [], _, [], hW', trodAll_mk1 (shut_bool Try.underlying4 _), (trodAll_cons_mk (Below.trod laidOut (by kernel_rfl) (of_decide_eq_true (by kernel_rfl)) h0 bel lt0) (trodAll_cons_mk (shut_int Try.underlying3 w1) (trodAll_cons_mk (shut_int Try.underlying3 w2) trodAll_mk0))), rfl, bel.frame _, fun h => by cases h⟩

theorem proved : Rows.BitsUnpacksSaid :=
  OpenClaim.holds_of_wide 4 Try.f4 rfl rfl rfl rfl rfl rfl rfl ⟨rfl, rfl, rfl, rfl, rfl⟩ rfl rfl rfl rfl rfl (by kernel_rfl) Try.func4 (by kernel_rfl)
    (of_decide_eq_true (by kernel_rfl)) (by unfold Func.isWrapper; first | (rw [if_pos (by decide +kernel)]; kernel_rfl) | (rw [if_neg (by decide +kernel)]; exact ⟨rfl, rfl⟩))
    (fun os started H enc _ => lifted os started H enc)
end UnpacksLaw
theorem bitsUnpacks_holds : Rows.BitsUnpacksSaid := UnpacksLaw.proved
#print axioms bitsUnpacks_holds
end Go.Proofs.Ythgfchagjknohaa
