/- VarintOrder: for every two numbers the law returns true: a greater number has no fewer bytes, other numbers have other bytes, and never more than ten; nothing that was there is written. No condition. -/
import Derived.Test.YtkkeeefhleekdaaLift
set_option linter.unusedVariables false
namespace Go.Proofs.Ytkkeeefhleekdaa
namespace OrderLaw
open Go.ChangeShapes Go.WideShapes Go.ChangeAt Go.RowKit Go.Lib

theorem eq_tells (a b : Nat) : (uvarint a == uvarint b) = ((a : Int) == (b : Int)) := by
  rw [Bool.eq_iff_iff]
  simp only [beq_iff_eq]
  constructor
  · intro h; rw [uv_inj h]
  · intro h; rw [show a = b by omega]

set_option maxRecDepth 100000 in
theorem walk (a : Nat) (ha : a < 18446744073709551616) (b : Nat) (hb : b < 18446744073709551616) (w : World) :
    Calls Try.prog 6 #[.int .u64 (a : Int), .int .u64 (b : Int)] w fun e w' => e = .returned (.bool true) ∧ Below w.heap.size w w' := by
  have HA := hidden (put_any a ha)
  have HB := hidden (put_any b hb)
  have hl := uvarint_length64 ha
  have hl2 := uvarint_length64 hb
  have hpa := uvarint_pos a
  have hpb := uvarint_pos b
  have HM := hidden (uv_mono a a b (Nat.le_refl _))
  have HEQ := hidden (eq_tells a b)
  go_enter Try.func6, Try.ntmps6
  go_wp2_with fail
  refine (alive_any _).mono ?_
  rintro e w1 ⟨rfl, hb1⟩
  have HB1 := hidden hb1
  have hz1 := hb1.size
  clear hb1
  go_wp2_with fail
  refine (HA.out _).mono ?_
  rintro e w2 ⟨⟨x, rfl, ox⟩, hb2⟩
  have HB2 := hidden (HB1.out.trans (hb2.mono hz1))
  have hz2 := HB2.out.size
  clear hb2
  have HX := hidden ox
  clear ox
  go_wp2_with fail
  refine (HB.out _).mono ?_
  rintro e w3 ⟨⟨y, rfl, oy⟩, hb3⟩
  have HB3 := hidden (HB2.out.trans (hb3.mono hz2))
  have ox := own_kept HX.out hb3
  have hcx := (Sl.of_own ox).conv hpa
  have hcy := (Sl.of_own oy).conv hpb
  obtain ⟨⟨ax, cx, rfl, _⟩, _⟩ := own_form ox
  obtain ⟨⟨ay, cy, rfl, _⟩, _⟩ := own_form oy
  clear hb3 ox oy HX
  have hq : (((a : Int) == (b : Int)) == (uvarint a == uvarint b)) = true := by rw [HEQ.out]; simp
  have hten : ((uvarint a).length : Int) ≤ 10 := by omega
  by_cases hab : (a : Int) > (b : Int)
  · go_wp2_with fail
    go_ret
    exact ⟨rfl, HB3.out⟩
  · have hle : ((uvarint a).length : Int) ≤ ((uvarint b).length : Int) := by have := HM.out (by omega); omega
    go_wp2_with fail
    go_ret
    exact ⟨rfl, HB3.out⟩

set_option maxRecDepth 100000 in
theorem lifted (os : Os) (started : os.Started) (H : Type) (enc : TypeId × Value → H) :
    ReturnsInHanded {} Try.checked os 6 .any (Rows.varintOrderSpec.pre6 enc Try.prog Try.f6 Rows.varintOrderRow.domain false) (Rows.varintOrderSpec.post enc Try.prog Try.f6 false true false false) := by
  refine returnsInHanded_of_change (C := Try.checked) own started (by kernel_rfl) Try.func6
    (ChangeSpec.witness6 (enc := enc) (C := Try.checked) false ⟨#[], #[.int .u64 0, .int .u64 0], []⟩ 8 (by kernel_rfl) (by kernel_rfl) (by kernel_rfl) (by kernel_rfl)) ?_
  intro W base args ds gs before hval0 hW hcnd _
  have hval : ∀ (j : Nat) t v, Try.f6.params[j]? = some t → args[j]? = some v → Value.okWide Try.prog W .any base t v := hval0
  have hW' := hW
  obtain ⟨p, q, hA0, hV, rfl, hfz, hnd⟩ := hW
  have hA : DataW.TrodAll enc Try.prog W 0 (fun _ => true) true Try.f6.params.toList args.toList ds p := hA0
  rw [Try.params6] at hA hval
  obtain ⟨v0, vs0, d0, ds0, p0, q0, hargs, rfl, rfl, h0, r0⟩ := trodAll_cons hA
  obtain ⟨v1, vs1, d1, ds1, p1, q1, rfl, rfl, rfl, h1, r1⟩ := trodAll_cons r0
  obtain ⟨rfl, rfl, rfl⟩ := trodAll_nil r1
  obtain rfl : args = #[v0, v1] := by cases args; simp_all
  obtain ⟨rfl, rfl⟩ := trodVars_none hV
  obtain ⟨a0, rfl, rfl, rfl, w0⟩ := open_int Try.underlying22 (hval 0 22 v0 rfl rfl) h0
  have g0 := bounds_u64 w0
  obtain ⟨n0, rfl⟩ := Int.eq_ofNat_of_zero_le g0.1
  obtain ⟨a1, rfl, rfl, rfl, w1⟩ := open_int Try.underlying22 (hval 1 22 v1 rfl rfl) h1
  have g1 := bounds_u64 w1
  obtain ⟨n1, rfl⟩ := Int.eq_ofNat_of_zero_le g1.1
  clear hA0 hval0
  refine (walk n0 (by omega) n1 (by omega) W).mono fun e W' ⟨he, bel⟩ => ?_
  subst he
  exact ⟨_, rfl, _, _, _, [], _, [], hW', trodAll_mk1 (shut_bool Try.underlying4 _), (trodAll_cons_mk (shut_int Try.underlying22 w0) (trodAll_cons_mk (shut_int Try.underlying22 w1) trodAll_mk0)), rfl, bel.frame _, fun h => by cases h⟩

theorem proved : Rows.VarintOrderSaid :=
  OpenClaim.holds_of_wide 6 Try.f6 rfl rfl rfl rfl rfl rfl rfl ⟨rfl, rfl, rfl, rfl, rfl⟩ rfl rfl rfl rfl rfl (by kernel_rfl) Try.func6 (by kernel_rfl)
    (of_decide_eq_true (by kernel_rfl)) (by unfold Func.isWrapper; first | (rw [if_pos (by decide +kernel)]; kernel_rfl) | (rw [if_neg (by decide +kernel)]; exact ⟨rfl, rfl⟩))
    (fun os started H enc _ => lifted os started H enc)
end OrderLaw
theorem varintOrder_holds : Rows.VarintOrderSaid := OrderLaw.proved
#print axioms varintOrder_holds
end Go.Proofs.Ytkkeeefhleekdaa
