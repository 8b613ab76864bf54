/- ValueThree: whatever three bytes are handed in, the law returns true: And, Or and Not are the lesser one, the greater one and the contrary by the order No, Unknown, Yes, whatever is beyond Yes counting as Unknown; not of and is or of the nots; and is the same in whatever order; Is says Yes or No; nothing that was there is written. No condition. -/
import Derived.Test.YtamigccnkhoidaaOdd
import Derived.ProofKit
import Derived.OpenShut
import Derived.ShutString
import Derived.ChangeOld
import Derived.Below
namespace Go.Proofs.Ytamigccnkhoidaa
namespace Three
open Go.ChangeShapes Go.WideShapes Go.ChangeAt Go.RowKit

theorem own : ownKnob Try.prog.godebug = none := by kernel_rfl

theorem tm_low {a : Int} (h : a ≤ 2) : tm a = a := by unfold tm; rw [if_neg (by omega)]

theorem and_eq (a b r : Int) (h : min (tm a) (tm b) = r) (w : World) : Calls Try.prog 20 #[.int .u8 a, .int .u8 b] w fun e w' => e = .returned (.int .u8 r) ∧ w' = w := by
  subst h; exact and_any a b w
theorem or_eq (a b r : Int) (h : max (tm a) (tm b) = r) (w : World) : Calls Try.prog 21 #[.int .u8 a, .int .u8 b] w fun e w' => e = .returned (.int .u8 r) ∧ w' = w := by
  subst h; exact or_three_any a b w
theorem not_eq (a r : Int) (h0 : 0 ≤ a) (h : 2 - tm a = r) (w : World) : Calls Try.prog 22 #[.int .u8 a] w fun e w' => e = .returned (.int .u8 r) ∧ w' = w := by
  subst h; exact not_any a h0 w
theorem ref_eq (a r : Int) (h : tm a = r) (w : World) : Calls Try.prog 19 #[.int .i64 a] w fun e w' => e = .returned (.int .i64 r) ∧ w' = w := by
  subst h; exact refThree_any a w

set_option maxHeartbeats 2000000 in
theorem walk (a b c : Int) (ha0 : 0 ≤ a) (ha1 : a ≤ 255) (hb0 : 0 ≤ b) (hb1 : b ≤ 255) (hc0 : 0 ≤ c) (w : World) :
    Calls Try.prog 6 #[.int .u8 a, .int .u8 b, .int .u8 c] w fun e w' => e = .returned (.bool true) ∧ Below w.heap.size w w' := by
  obtain ⟨p, hp⟩ : ∃ p, tm a = p := ⟨_, rfl⟩
  obtain ⟨q, hq⟩ : ∃ q, tm b = q := ⟨_, rfl⟩
  obtain ⟨t, ht⟩ : ∃ t, tm c = t := ⟨_, rfl⟩
  have hpm := tm_mem ha0
  have hqm := tm_mem hb0
  have htm := tm_mem hc0
  rw [hp] at hpm
  rw [hq] at hqm
  rw [ht] at htm
  have p0 : 0 ≤ p := by omega
  have p2 : p ≤ 2 := by omega
  have q0 : 0 ≤ q := by omega
  have q2 : q ≤ 2 := by omega
  have t0 : 0 ≤ t := by omega
  have t2 : t ≤ 2 := by omega
  clear hpm hqm htm
  obtain ⟨m, hm⟩ : ∃ m, min p q = m := ⟨_, rfl⟩
  obtain ⟨M, hM⟩ : ∃ M, max p q = M := ⟨_, rfl⟩
  obtain ⟨s, hs⟩ : ∃ s, min q t = s := ⟨_, rfl⟩
  obtain ⟨r, hr⟩ : ∃ r, min p s = r := ⟨_, rfl⟩
  have m0 : 0 ≤ m := by omega
  have m2 : m ≤ 2 := by omega
  have M0 : 0 ≤ M := by omega
  have M2 : M ≤ 2 := by omega
  have s2 : s ≤ 2 := by omega
  have HN : Hid (∀ w : World, Calls Try.prog 22 #[.int .u8 a] w fun e w' => e = .returned (.int .u8 (2 - p)) ∧ w' = w) := not_eq a _ ha0 (by rw [hp])
  have HNb : Hid (∀ w : World, Calls Try.prog 22 #[.int .u8 b] w fun e w' => e = .returned (.int .u8 (2 - q)) ∧ w' = w) := not_eq b _ hb0 (by rw [hq])
  have HNm : Hid (∀ w : World, Calls Try.prog 22 #[.int .u8 m] w fun e w' => e = .returned (.int .u8 (2 - m)) ∧ w' = w) := not_eq m _ m0 (by rw [tm_low m2])
  have HOn : Hid (∀ w : World, Calls Try.prog 21 #[.int .u8 (2 - p), .int .u8 (2 - q)] w fun e w' => e = .returned (.int .u8 (2 - m)) ∧ w' = w) := or_eq _ _ _ (by rw [tm_low (by omega), tm_low (by omega)]; omega)
  have HA : Hid (∀ w : World, Calls Try.prog 20 #[.int .u8 a, .int .u8 b] w fun e w' => e = .returned (.int .u8 m) ∧ w' = w) := and_eq a b m (by rw [hp, hq, hm])
  have HAr : Hid (∀ w : World, Calls Try.prog 20 #[.int .u8 b, .int .u8 a] w fun e w' => e = .returned (.int .u8 m) ∧ w' = w) := and_eq b a m (by rw [hp, hq]; omega)
  have HO : Hid (∀ w : World, Calls Try.prog 21 #[.int .u8 a, .int .u8 b] w fun e w' => e = .returned (.int .u8 M) ∧ w' = w) := or_eq a b M (by rw [hp, hq, hM])
  have HBc : Hid (∀ w : World, Calls Try.prog 20 #[.int .u8 b, .int .u8 c] w fun e w' => e = .returned (.int .u8 s) ∧ w' = w) := and_eq b c s (by rw [hq, ht, hs])
  have HAs : Hid (∀ w : World, Calls Try.prog 20 #[.int .u8 a, .int .u8 s] w fun e w' => e = .returned (.int .u8 r) ∧ w' = w) := and_eq a s r (by rw [hp, tm_low s2, hr])
  have HMc : Hid (∀ w : World, Calls Try.prog 20 #[.int .u8 m, .int .u8 c] w fun e w' => e = .returned (.int .u8 r) ∧ w' = w) := and_eq m c r (by rw [ht, tm_low m2]; omega)
  have HRa : Hid (∀ w : World, Calls Try.prog 19 #[.int .i64 a] w fun e w' => e = .returned (.int .i64 p) ∧ w' = w) := ref_eq a p hp
  have HRb : Hid (∀ w : World, Calls Try.prog 19 #[.int .i64 b] w fun e w' => e = .returned (.int .i64 q) ∧ w' = w) := ref_eq b q hq
  have hcase : (p < q ∧ m = p ∧ M = q) ∨ (q < p ∧ m = q ∧ M = p) ∨ (p = q ∧ m = q ∧ M = q) := by omega
  clear hp hq ht hm hM hs hr hc0 t0 t2 s2
  have hI : b < a ∨ a ≤ b := by omega
  rcases hcase with ⟨h1, rfl, rfl⟩ | ⟨h1, rfl, rfl⟩ | ⟨rfl, rfl, rfl⟩
  all_goals rcases hI with h2 | h2
  all_goals
    go_enter Try.func6, Try.ntmps6
    go_wp2_with fail
    refine (alive_any _).mono ?_
    rintro e w1 ⟨rfl, hbl⟩
    go_wp2_with fail
    refine (HRa.out _).mono ?_
    rintro e w2 ⟨rfl, rfl⟩
    go_wp2_with fail
    refine (HRb.out _).mono ?_
    rintro e w3 ⟨rfl, rfl⟩
    go_wp2_with fail
    refine (HA.out _).mono ?_
    rintro e w4 ⟨rfl, rfl⟩
    go_wp2_with fail
    refine (HO.out _).mono ?_
    rintro e w5 ⟨rfl, rfl⟩
    go_wp2_with fail
    refine (HN.out _).mono ?_
    rintro e w6 ⟨rfl, rfl⟩
    go_wp2_with fail
    refine (HA.out _).mono ?_
    rintro e w7 ⟨rfl, rfl⟩
    go_wp2_with fail
    refine (HNm.out _).mono ?_
    rintro e w8 ⟨rfl, rfl⟩
    go_wp2_with fail
    refine (HN.out _).mono ?_
    rintro e w9 ⟨rfl, rfl⟩
    go_wp2_with fail
    refine (HNb.out _).mono ?_
    rintro e w10 ⟨rfl, rfl⟩
    go_wp2_with fail
    refine (HOn.out _).mono ?_
    rintro e w11 ⟨rfl, rfl⟩
    go_wp2_with fail
    refine (HBc.out _).mono ?_
    rintro e w12 ⟨rfl, rfl⟩
    go_wp2_with fail
    refine (HAs.out _).mono ?_
    rintro e w13 ⟨rfl, rfl⟩
    go_wp2_with fail
    refine (HA.out _).mono ?_
    rintro e w14 ⟨rfl, rfl⟩
    go_wp2_with fail
    refine (HMc.out _).mono ?_
    rintro e w15 ⟨rfl, rfl⟩
    go_wp2_with fail
    refine (HA.out _).mono ?_
    rintro e w16 ⟨rfl, rfl⟩
    go_wp2_with fail
    refine (HAr.out _).mono ?_
    rintro e w17 ⟨rfl, rfl⟩
    go_wp2_with fail
    refine (is_any _ _).mono ?_
    rintro e w18 ⟨rfl, rfl⟩
    go_wp2_with fail
    go_ret
    exact ⟨rfl, hbl⟩

set_option maxRecDepth 100000 in
theorem lifted (os : Os) (started : os.Started) (H : Type) (enc : TypeId × Value → H) :
    ReturnsInHanded {} Try.checked os 6 .any (Rows.valueThreeSpec.pre6 enc Try.prog Try.f6 Rows.valueThreeRow.domain false) (Rows.valueThreeSpec.post enc Try.prog Try.f6 false true false false) := by
  refine returnsInHanded_of_change (C := Try.checked) own started (by kernel_rfl) Try.func6
    (ChangeSpec.witness6 (enc := enc) (C := Try.checked) false ⟨#[], #[.int .u8 0, .int .u8 0, .int .u8 0], []⟩ 8 (by kernel_rfl) (by kernel_rfl) (by kernel_rfl) (by kernel_rfl)) ?_
  intro W base args ds gs before hval0 hW hcnd _
  have hval : ∀ (j : Nat) t v, Try.f6.params[j]? = some t → args[j]? = some v → Value.okWide Try.prog W .any base t v := hval0
  have hW' := hW
  obtain ⟨p, q, hA0, hV, rfl, hfz, hnd⟩ := hW
  have hA : DataW.TrodAll enc Try.prog W 0 (fun _ => true) true Try.f6.params.toList args.toList ds p := hA0
  rw [Try.params6] at hA hval
  obtain ⟨v0, vs0, d0, ds0, p0, q0, hargs, rfl, rfl, h0, r0⟩ := trodAll_cons hA
  obtain ⟨v1, vs1, d1, ds1, p1, q1, rfl, rfl, rfl, h1, r1⟩ := trodAll_cons r0
  obtain ⟨v2, vs2, d2, ds2, p2, q2, rfl, rfl, rfl, h2, r2⟩ := trodAll_cons r1
  obtain ⟨rfl, rfl, rfl⟩ := trodAll_nil r2
  obtain rfl : args = #[v0, v1, v2] := by cases args; simp_all
  obtain ⟨rfl, rfl⟩ := trodVars_none hV
  obtain ⟨a0, rfl, rfl, rfl, w0⟩ := open_int Try.underlying5 (hval 0 5 v0 rfl rfl) h0
  obtain ⟨a1, rfl, rfl, rfl, w1⟩ := open_int Try.underlying5 (hval 1 5 v1 rfl rfl) h1
  obtain ⟨a2, rfl, rfl, rfl, w2⟩ := open_int Try.underlying5 (hval 2 5 v2 rfl rfl) h2
  clear hA0 hval0
  have b0 := bounds_u8 w0
  have b1 := bounds_u8 w1
  have b2 := bounds_u8 w2
  refine (walk a0 a1 a2 b0.1 b0.2 b1.1 b1.2 b2.1 W).mono fun e W' ⟨he, bel⟩ => ?_
  subst he
  exact ⟨_, rfl, _, _, _, [], _, [], hW', trodAll_mk1 (shut_bool Try.underlying4 _), (trodAll_cons_mk (shut_int Try.underlying5 w0) (trodAll_cons_mk (shut_int Try.underlying5 w1) (trodAll_cons_mk (shut_int Try.underlying5 w2) trodAll_mk0))), rfl, bel.frame _, fun h => by cases h⟩

theorem proved : Rows.ValueThreeSaid :=
  OpenClaim.holds_of_wide 6 Try.f6 rfl rfl rfl rfl rfl rfl rfl ⟨rfl, rfl, rfl, rfl, rfl⟩ rfl rfl rfl rfl rfl (by kernel_rfl) Try.func6 (by kernel_rfl)
    (of_decide_eq_true (by kernel_rfl)) (by unfold Func.isWrapper; first | (rw [if_pos (by decide +kernel)]; kernel_rfl) | (rw [if_neg (by decide +kernel)]; exact ⟨rfl, rfl⟩))
    (fun os started H enc _ => lifted os started H enc)
end Three
theorem valueThree_holds : Rows.ValueThreeSaid := Three.proved
#print axioms valueThree_holds
end Go.Proofs.Ytamigccnkhoidaa
