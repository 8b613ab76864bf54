/- BitsTight: for every list of numbers the law returns true: with a width less than Width they are not packed; with it they are, in as few bytes as may be; nothing that was there is written. No condition. -/
import Derived.Test.YthgfchagjknohaaLift
set_option linter.unusedVariables false
namespace Go.Proofs.Ythgfchagjknohaa
namespace TightLaw
open Go.ChangeShapes Go.WideShapes Go.ChangeAt Go.RowKit Go.Lib

theorem can_wd {l : List Nat} (h64 : ∀ x ∈ l, x < 18446744073709551616) (hl : l.length ≤ 256) : can l (wd l : Int) = true ∧ can l ((wd l : Int) - 1) = false := by
  have := wd64 h64
  unfold can
  constructor
  · exact decide_eq_true ⟨by omega, by omega, hl, by omega⟩
  · refine decide_eq_false ?_
    rintro ⟨h1, h2, h3, h4⟩
    omega

theorem pack_wd {l : List Nat} (h : can l (wd l : Int) = true) : (packR l (wd l : Int)).length = by8 (l.length * wd l) := by
  unfold packR
  rw [if_pos h, dig_length]
  rfl

set_option maxRecDepth 100000 in
set_option maxHeartbeats 4000000 in
theorem walk {v : Value} {l : List Nat} {W0 : World} (hl : Sn .u64 W0 v l ∧ ∀ x ∈ l, x < 18446744073709551616) (w : World) (hw : w = W0) :
    Calls Try.prog 6 #[v] w fun e w' => e = .returned (.bool true) ∧ Below w.heap.size w w' := by
  subst hw
  obtain ⟨hsn, h64⟩ := hl
  have HS := hidden hsn.1
  obtain ⟨a, cap, rfl, hm, hcl⟩ := hsn.1
  have hm2 : l.length ≤ 9223372036854775807 := by unfold maxLen at hm; omega
  clear hsn hm hcl
  have H64 := hidden h64
  clear h64
  by_cases hbig : (l.length : Int) > 256
  · clear HS
    go_enter Try.func6, Try.ntmps6
    go_wp2_with fail
    refine (alive_any _).mono ?_
    rintro e w1 ⟨rfl, hb1⟩
    go_wp2_with fail
    go_ret
    exact ⟨rfl, hb1⟩
  · obtain ⟨hc1, hc2⟩ := can_wd H64.out (by omega)
    have hlenb := pack_wd hc1
    have hwl := wd64 H64.out
    have hc : l.length * wd l ≤ 16384 := Nat.le_trans (Nat.mul_le_mul (show l.length ≤ 256 by omega) hwl) (by omega)
    have hmul : (l.length : Int) * (wd l : Int) = ((l.length * wd l : Nat) : Int) := by simp
    have h8i : (((l.length * wd l : Nat) : Int) + 7) / 8 = ((by8 (l.length * wd l) : Nat) : Int) := by unfold by8; omega
    have h0 : wd l = 0 → by8 (l.length * wd l) = 0 := fun h => by rw [h, Nat.mul_zero]; rfl
    have HP := hidden (fun W (hW : Sx .u64 W (.slice a l.length cap) l) => pack_any hW H64.out (wd l : Int))
    have HQ := hidden (fun W (hW : Sx .u64 W (.slice a l.length cap) l) => pack_any hW H64.out ((wd l : Int) - 1))
    rw [hc1, hlenb] at HP
    rw [hc2, packR_no hc2] at HQ
    have HW := hidden (fun W (hW : Sx .u64 W (.slice a l.length cap) l) => width_any hW H64.out)
    have hL : by8 (l.length * wd l) ≤ 2048 := by unfold by8; omega
    generalize packR l (wd l : Int) = R at *
    clear hc1 hc2 hlenb
    generalize by8 (l.length * wd l) = L at *
    generalize l.length * wd l = c at *
    generalize wd l = ww at *
    have H0 := hidden h0
    clear h0
    go_enter Try.func6, Try.ntmps6
    go_wp2_with fail
    refine (alive_any _).mono ?_
    rintro e w1 ⟨rfl, hb1⟩
    have HS1 := hidden (HS.out.kept hb1)
    have HB1 := hidden hb1
    clear hb1
    go_wp2_with fail
    refine (HW.out _ HS1.out).mono ?_
    rintro e w2 ⟨rfl, rfl⟩
    go_wp2_with fail
    refine (HP.out _ HS1.out).mono ?_
    rintro e w3 ⟨v3, rfl, o3, hb3⟩
    obtain ⟨a3, cap3, rfl⟩ := own_len o3
    have HS3 := hidden (HS1.out.kept hb3)
    have HB3 := hidden (below_then HB1.out hb3)
    clear o3 hb3 HS1 HB1
    go_wp2_with fail
    refine (HQ.out _ HS3.out).mono ?_
    rintro e w4 ⟨v4, rfl, o4, hb4⟩
    have HB4 := hidden (below_then HB3.out hb4)
    clear o4 hb4 HS3 HB3
    rcases Nat.eq_zero_or_pos ww with hz | hp
    · have hL0 := H0.out hz
      subst hL0
      subst hz
      go_wp2_with fail
      go_ret
      exact ⟨rfl, HB4.out⟩
    · have hp2 : (ww : Int) > 0 := by omega
      go_wp2_with fail
      go_ret
      exact ⟨rfl, HB4.out⟩

set_option maxRecDepth 100000 in
theorem lifted (os : Os) (started : os.Started) (H : Type) (enc : TypeId × Value → H) :
    ReturnsInHanded {} Try.checked os 6 .any (Rows.bitsTightSpec.pre6 enc Try.prog Try.f6 Rows.bitsTightRow.domain false) (Rows.bitsTightSpec.post enc Try.prog Try.f6 false true false false) := by
  refine returnsInHanded_of_change (C := Try.checked) own started (by kernel_rfl) Try.func6
    (ChangeSpec.witness6 (enc := enc) (C := Try.checked) false ⟨#[], #[.slice none 0 0], []⟩ 8 (by kernel_rfl) (by kernel_rfl) (by kernel_rfl) (by kernel_rfl)) ?_
  intro W base args ds gs before hval0 hW hcnd _
  have hval : ∀ (j : Nat) t v, Try.f6.params[j]? = some t → args[j]? = some v → Value.okWide Try.prog W .any base t v := hval0
  have hW' := hW
  obtain ⟨p, q, hA0, hV, rfl, hfz, hnd⟩ := hW
  have hA : DataW.TrodAll enc Try.prog W 0 (fun _ => true) true Try.f6.params.toList args.toList ds p := hA0
  rw [Try.params6] at hA hval
  obtain ⟨v0, vs0, d0, ds0, p0, q0, hargs, rfl, rfl, h0, r0⟩ := trodAll_cons hA
  obtain ⟨rfl, rfl, rfl⟩ := trodAll_nil r0
  obtain rfl : args = #[v0] := by cases args; simp_all
  obtain ⟨rfl, rfl⟩ := trodVars_none hV
  obtain ⟨a0, len0, cap0, rfl⟩ := okWide_slice Try.underlying22 (hval 0 22 v0 rfl rfl)
  have lt0 : ∀ x ∈ p0, x.block < W.heap.size := by obtain ⟨m, hm⟩ := h0; exact DataW.trod_lt m _ _ _ hm
  obtain ⟨l0, hl0⟩ := open_nums h0
  clear hA0 hval0
  refine (walk hl0 W rfl).mono fun e W' ⟨he, bel⟩ => ?_
  subst he
  exact ⟨_, rfl, _, _, _, [], _, [], hW', trodAll_mk1 (shut_bool Try.underlying4 _), (trodAll_cons_mk (Below.trod laidOut (by kernel_rfl) (of_decide_eq_true (by kernel_rfl)) h0 bel lt0) trodAll_mk0), rfl, bel.frame _, fun h => by cases h⟩

theorem proved : Rows.BitsTightSaid :=
  OpenClaim.holds_of_wide 6 Try.f6 rfl rfl rfl rfl rfl rfl rfl ⟨rfl, rfl, rfl, rfl, rfl⟩ rfl rfl rfl rfl rfl (by kernel_rfl) Try.func6 (by kernel_rfl)
    (of_decide_eq_true (by kernel_rfl)) (by unfold Func.isWrapper; first | (rw [if_pos (by decide +kernel)]; kernel_rfl) | (rw [if_neg (by decide +kernel)]; exact ⟨rfl, rfl⟩))
    (fun os started H enc _ => lifted os started H enc)
end TightLaw
theorem bitsTight_holds : Rows.BitsTightSaid := TightLaw.proved
#print axioms bitsTight_holds
end Go.Proofs.Ythgfchagjknohaa
