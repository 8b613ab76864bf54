/- ValueNumbers: whatever two whole numbers are handed in, the law returns true: Number tells the number that a value is, Compare puts numbers in order as they are, KindOf says Whole; nothing that was there is written. No condition. -/
import Derived.Test.YtamigccnkhoidaaOdd
import Derived.ProofKit
import Derived.OpenShut
import Derived.ShutString
import Derived.ChangeOld
import Derived.Below
namespace Go.Proofs.Ytamigccnkhoidaa
namespace Numbers
open Go.ChangeShapes Go.WideShapes Go.ChangeAt Go.RowKit

theorem own : ownKnob Try.prog.godebug = none := by kernel_rfl
theorem laidOut : laidOutB Try.prog = true := by kernel_rfl

theorem compare_ints (a b : Int) (w : World) : Calls Try.prog 17 #[.iface 2 (.int .i64 a), .iface 2 (.int .i64 b)] w fun e w' => e = .returned (.int .i64 (c3 a b)) ∧ Below w.heap.size w w' := by
  have h := compare_any (val_int a) (val_int b) w
  rw [show or3 (c3 1 1) (c3 a b) (cS ⟨#[]⟩ ⟨#[]⟩) = c3 a b by
    unfold or3
    rw [show c3 1 1 = 0 by decide, show cS ⟨#[]⟩ ⟨#[]⟩ = 0 by decide +kernel]
    by_cases h : c3 a b = 0 <;> simp [h]] at h
  exact h

set_option maxHeartbeats 1000000 in
theorem walk (a b : Int) (w : World) : Calls Try.prog 7 #[.int .i64 a, .int .i64 b] w fun e w' => e = .returned (.bool true) ∧ Below w.heap.size w w' := by
  have hc := compare_ints a b
  obtain ⟨c, hcc⟩ : ∃ c, c3 a b = c := ⟨_, rfl⟩
  rw [hcc] at hc
  have HC : Hid (∀ w : World, Calls Try.prog 17 #[.iface 2 (.int .i64 a), .iface 2 (.int .i64 b)] w fun e w' => e = .returned (.int .i64 c) ∧ Below w.heap.size w w') := hc
  clear hc
  have hcase : (a < b ∧ c = -1) ∨ (b < a ∧ c = 1) ∨ (a = b ∧ c = 0) := by
    unfold c3 at hcc
    by_cases h1 : a < b
    · rw [if_pos h1] at hcc; omega
    · rw [if_neg h1] at hcc
      by_cases h2 : b < a
      · rw [if_pos h2] at hcc; omega
      · rw [if_neg h2] at hcc; omega
  clear hcc
  rcases hcase with ⟨h1, rfl⟩ | ⟨h1, rfl⟩ | ⟨rfl, rfl⟩
  all_goals
    go_enter Try.func7, Try.ntmps7
    go_wp2_with fail
    refine (alive_any _).mono ?_
    rintro e w1 ⟨rfl, hb1⟩
    have hz1 := hb1.size
    go_wp2_with fail
    refine (number_any _ _).mono ?_
    rintro e w2 ⟨rfl, rfl⟩
    go_wp2_with fail
    refine (HC.out _).mono ?_
    rintro e w3 ⟨rfl, hb3⟩
    go_wp2_with fail
    refine (KindOf_any (val_int _) _).mono ?_
    rintro e w4 ⟨rfl, rfl⟩
    go_wp2_with fail
    go_ret
    exact ⟨rfl, hb1.trans (hb3.mono hz1)⟩

set_option maxRecDepth 100000 in
theorem lifted (os : Os) (started : os.Started) (H : Type) (enc : TypeId × Value → H) :
    ReturnsInHanded {} Try.checked os 7 .any (Rows.valueNumbersSpec.pre6 enc Try.prog Try.f7 Rows.valueNumbersRow.domain false) (Rows.valueNumbersSpec.post enc Try.prog Try.f7 false true false false) := by
  refine returnsInHanded_of_change (C := Try.checked) own started (by kernel_rfl) Try.func7
    (ChangeSpec.witness6 (enc := enc) (C := Try.checked) false ⟨#[], #[.int .i64 0, .int .i64 0], []⟩ 8 (by kernel_rfl) (by kernel_rfl) (by kernel_rfl) (by kernel_rfl)) ?_
  intro W base args ds gs before hval0 hW hcnd _
  have hval : ∀ (j : Nat) t v, Try.f7.params[j]? = some t → args[j]? = some v → Value.okWide Try.prog W .any base t v := hval0
  have hW' := hW
  obtain ⟨p, q, hA0, hV, rfl, hfz, hnd⟩ := hW
  have hA : DataW.TrodAll enc Try.prog W 0 (fun _ => true) true Try.f7.params.toList args.toList ds p := hA0
  rw [Try.params7] at hA hval
  obtain ⟨v0, vs0, d0, ds0, p0, q0, hargs, rfl, rfl, h0, r0⟩ := trodAll_cons hA
  obtain ⟨v1, vs1, d1, ds1, p1, q1, rfl, rfl, rfl, h1, r1⟩ := trodAll_cons r0
  obtain ⟨rfl, rfl, rfl⟩ := trodAll_nil r1
  obtain rfl : args = #[v0, v1] := by cases args; simp_all
  obtain ⟨rfl, rfl⟩ := trodVars_none hV
  obtain ⟨a0, rfl, rfl, rfl, w0⟩ := open_int Try.underlying2 (hval 0 2 v0 rfl rfl) h0
  obtain ⟨a1, rfl, rfl, rfl, w1⟩ := open_int Try.underlying2 (hval 1 2 v1 rfl rfl) h1
  clear hA0 hval0
  refine (walk a0 a1 W).mono fun e W' ⟨he, bel⟩ => ?_
  subst he
  exact ⟨_, rfl, _, _, _, [], _, [], hW', trodAll_mk1 (shut_bool Try.underlying4 _), (trodAll_cons_mk (shut_int Try.underlying2 w0) (trodAll_cons_mk (shut_int Try.underlying2 w1) trodAll_mk0)), rfl, bel.frame _, fun h => by cases h⟩

theorem proved : Rows.ValueNumbersSaid :=
  OpenClaim.holds_of_wide 7 Try.f7 rfl rfl rfl rfl rfl rfl rfl ⟨rfl, rfl, rfl, rfl, rfl⟩ rfl rfl rfl rfl rfl (by kernel_rfl) Try.func7 (by kernel_rfl)
    (of_decide_eq_true (by kernel_rfl)) (by unfold Func.isWrapper; first | (rw [if_pos (by decide +kernel)]; kernel_rfl) | (rw [if_neg (by decide +kernel)]; exact ⟨rfl, rfl⟩))
    (fun os started H enc _ => lifted os started H enc)
end Numbers
theorem valueNumbers_holds : Rows.ValueNumbersSaid := Numbers.proved
#print axioms valueNumbers_holds
end Go.Proofs.Ytamigccnkhoidaa
