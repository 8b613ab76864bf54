/- VarintPuts: for every number the law returns true: its bytes, as a number and as a whole one, are the document's; nothing that was there is written. No condition. -/
import Derived.Test.YtkkeeefhleekdaaLift
import Derived.Deep.RegionWith
set_option linter.unusedVariables false
namespace Go.Proofs.Ytkkeeefhleekdaa
namespace PutsLaw
open Go.ChangeShapes Go.WideShapes Go.ChangeAt Go.RowKit Go.Lib

theorem conv_of {W : World} {B n : Nat} {v : Value} {l : List UInt8} (hl : 1 ≤ l.length) (h : W.ownsRow B 5 1 v n (byteVals l)) : (convert 24 9 v).run Try.prog W = .ok (.string ⟨l.toArray⟩) W := (Sl.of_own h).conv hl

theorem below_then {a w w2 : World} (h : Below a.heap.size a w) (h2 : Below w.heap.size w w2) : Below a.heap.size a w2 := h.trans (h2.mono h.size)

set_option maxRecDepth 100000 in
set_option maxHeartbeats 4000000 in
theorem walk (n : Nat) (hn : n < 18446744073709551616) (w : World) :
    Calls Try.prog 3 #[.int .u64 (n : Int)] w fun e w' => e = .returned (.bool true) ∧ Below w.heap.size w w' := by
  obtain ⟨z, hz⟩ : ∃ z : Int, IntKind.i64.wrap (n : Int) = z := ⟨_, rfl⟩
  have hz1 : -9223372036854775808 ≤ z ∧ z ≤ 9223372036854775807 := by
    rw [IntKind.wrap_i64] at hz
    omega
  have HP := hidden (put_any n hn)
  have HQ := hidden (refPut_any n hn)
  have HA := hidden (putInt_any z hz1.1 hz1.2)
  have HB := hidden (refPutInt_any z hz1.1 hz1.2)
  have hp := hidden (uvarint_pos n)
  have hq := hidden (uvarint_pos (zigzag z))
  generalize uvarint (zigzag z) = y at *
  generalize uvarint n = x at *
  clear hz1
  have HAL := hidden alive_any
  go_enter Try.func3, Try.ntmps3
  go_wp2_with fail
  go_region_with (first
    | (go_at_call 9; refine (HAL.out _).mono ?_; rintro e w1 ⟨rfl, b1⟩)
    | (go_at_call 10; refine (HP.out _).mono ?_; rintro e w2 ⟨⟨v2, rfl, o2⟩, b2⟩; have c2 := conv_of hp.out o2; have HO2 := hidden o2; clear o2)
    | (go_at_call 11; refine (HQ.out _).mono ?_; rintro e w3 ⟨⟨v3, rfl, o3⟩, b3⟩; have c3 := conv_of hp.out o3; have c23 := conv_of hp.out (own_kept HO2.out b3); clear o3)
    | (go_at_call 12; refine (HA.out _).mono ?_; rintro e w4 ⟨⟨v4, rfl, o4⟩, b4⟩; have c4 := conv_of hq.out o4; have HO4 := hidden o4; clear o4)
    | (go_at_call 13; refine (HB.out _).mono ?_; rintro e w5 ⟨⟨v5, rfl, o5⟩, b5⟩; have c5 := conv_of hq.out o5; have c45 := conv_of hq.out (own_kept HO4.out b5); clear o5))
  all_goals
    have HBX := hidden (below_then (below_then (below_then (below_then (below_then (Below.refl w.heap.size w).drew b1) b2) b3) b4) b5)
    clear b1 b2 b3 b4 b5 c2 c3 c4 c5 c23 c45
    go_wp2_with fail
    go_ret
    exact ⟨rfl, HBX.out⟩

set_option maxRecDepth 100000 in
theorem lifted (os : Os) (started : os.Started) (H : Type) (enc : TypeId × Value → H) :
    ReturnsInHanded {} Try.checked os 3 .any (Rows.varintPutsSpec.pre6 enc Try.prog Try.f3 Rows.varintPutsRow.domain false) (Rows.varintPutsSpec.post enc Try.prog Try.f3 false true false false) := by
  refine returnsInHanded_of_change (C := Try.checked) own started (by kernel_rfl) Try.func3
    (ChangeSpec.witness6 (enc := enc) (C := Try.checked) false ⟨#[], #[.int .u64 0], []⟩ 8 (by kernel_rfl) (by kernel_rfl) (by kernel_rfl) (by kernel_rfl)) ?_
  intro W base args ds gs before hval0 hW hcnd _
  have hval : ∀ (j : Nat) t v, Try.f3.params[j]? = some t → args[j]? = some v → Value.okWide Try.prog W .any base t v := hval0
  have hW' := hW
  obtain ⟨p, q, hA0, hV, rfl, hfz, hnd⟩ := hW
  have hA : DataW.TrodAll enc Try.prog W 0 (fun _ => true) true Try.f3.params.toList args.toList ds p := hA0
  rw [Try.params3] at hA hval
  obtain ⟨v0, vs0, d0, ds0, p0, q0, hargs, rfl, rfl, h0, r0⟩ := trodAll_cons hA
  obtain ⟨rfl, rfl, rfl⟩ := trodAll_nil r0
  obtain rfl : args = #[v0] := by cases args; simp_all
  obtain ⟨rfl, rfl⟩ := trodVars_none hV
  obtain ⟨a0, rfl, rfl, rfl, w0⟩ := open_int Try.underlying22 (hval 0 22 v0 rfl rfl) h0
  have g0 := bounds_u64 w0
  obtain ⟨n0, rfl⟩ := Int.eq_ofNat_of_zero_le g0.1
  clear hA0 hval0
  refine (walk n0 (by omega) W).mono fun e W' ⟨he, bel⟩ => ?_
  subst he
  exact ⟨_, rfl, _, _, _, [], _, [], hW', trodAll_mk1 (shut_bool Try.underlying4 _), (trodAll_cons_mk (shut_int Try.underlying22 w0) trodAll_mk0), rfl, bel.frame _, fun h => by cases h⟩

theorem proved : Rows.VarintPutsSaid :=
  OpenClaim.holds_of_wide 3 Try.f3 rfl rfl rfl rfl rfl rfl rfl ⟨rfl, rfl, rfl, rfl, rfl⟩ rfl rfl rfl rfl rfl (by kernel_rfl) Try.func3 (by kernel_rfl)
    (of_decide_eq_true (by kernel_rfl)) (by unfold Func.isWrapper; first | (rw [if_pos (by decide +kernel)]; kernel_rfl) | (rw [if_neg (by decide +kernel)]; exact ⟨rfl, rfl⟩))
    (fun os started H enc _ => lifted os started H enc)
end PutsLaw
theorem varintPuts_holds : Rows.VarintPutsSaid := PutsLaw.proved
#print axioms varintPuts_holds
end Go.Proofs.Ytkkeeefhleekdaa
