/- VarintGets: for every bytes the law returns true: what they say as a number and as a whole one, how many of them it has, and the error, is as the document says; nothing that was there is written. No condition. -/
import Derived.Test.YtkkeeefhleekdaaLift
set_option linter.unusedVariables false
namespace Go.Proofs.Ytkkeeefhleekdaa
namespace GetsLaw
open Go.ChangeShapes Go.WideShapes Go.ChangeAt Go.RowKit Go.Lib

set_option maxRecDepth 100000 in
theorem walk {v : Value} {l : List UInt8} {W0 : World} (h : Sl W0 v l) (w : World) (hw : w = W0) :
    Calls Try.prog 4 #[v] w fun e w' => e = .returned (.bool true) ∧ Below w.heap.size w w' := by
  subst hw
  have HS := hidden h
  clear h
  have HF := hidden (getL_form l)
  generalize hg : getL l = x at *
  have HG := hidden hg
  clear hg
  obtain ⟨n, u, c⟩ := x
  simp only at *
  generalize hq : unzig n = q
  have HQ := hidden hq
  clear hq
  have HT1 : Hid (tell .u64 ((getL l).1 : Int) (getL l).2.1 (getL l).2.2 = .returned (.tuple #[.int .u64 (n : Int), .int .i64 (u : Int), .int .i64 (c : Int)])) := by
    show _ = _
    rw [HG.out]; rfl
  have HT2 : Hid (tell .i64 (unzig (getL l).1) (getL l).2.1 (getL l).2.2 = .returned (.tuple #[.int .i64 q, .int .i64 (u : Int), .int .i64 (c : Int)])) := by
    show _ = _
    rw [HG.out, ← HQ.out]; rfl
  clear HG HQ HF
  go_enter Try.func4, Try.ntmps4
  go_wp2_with fail
  refine (alive_any _).mono ?_
  rintro e w1 ⟨rfl, hb1⟩
  have HB1 := hidden hb1
  have hz1 := hb1.size
  have HS1 := hidden (HS.out.kept hb1)
  clear hb1 HS
  go_wp2_with fail
  refine (get_any HS1.out).mono ?_
  rintro e w2 ⟨rfl, rfl⟩
  rw [HT1.out]
  go_wp2_with fail
  refine (refGet_any HS1.out).mono ?_
  rintro e w3 ⟨rfl, hb3⟩
  have HB3 := hidden (HB1.out.trans (hb3.mono hz1))
  have hz3 := HB3.out.size
  have HS3 := hidden (HS1.out.kept hb3)
  clear hb3 HS1
  rw [HT1.out]
  go_wp2_with fail
  refine (getInt_any HS3.out).mono ?_
  rintro e w4 ⟨rfl, rfl⟩
  rw [HT2.out]
  go_wp2_with fail
  refine (refGetInt_any HS3.out).mono ?_
  rintro e w5 ⟨rfl, hb5⟩
  have HB5 := hidden (HB3.out.trans (hb5.mono hz3))
  clear hb5
  rw [HT2.out]
  go_wp2_with fail
  go_ret
  exact ⟨rfl, HB5.out⟩

set_option maxRecDepth 100000 in
theorem lifted (os : Os) (started : os.Started) (H : Type) (enc : TypeId × Value → H) :
    ReturnsInHanded {} Try.checked os 4 .any (Rows.varintGetsSpec.pre6 enc Try.prog Try.f4 Rows.varintGetsRow.domain false) (Rows.varintGetsSpec.post enc Try.prog Try.f4 false true false false) := by
  refine returnsInHanded_of_change (C := Try.checked) own started (by kernel_rfl) Try.func4
    (ChangeSpec.witness6 (enc := enc) (C := Try.checked) false ⟨#[], #[.slice none 0 0], []⟩ 8 (by kernel_rfl) (by kernel_rfl) (by kernel_rfl) (by kernel_rfl)) ?_
  intro W base args ds gs before hval0 hW hcnd _
  have hval : ∀ (j : Nat) t v, Try.f4.params[j]? = some t → args[j]? = some v → Value.okWide Try.prog W .any base t v := hval0
  have hW' := hW
  obtain ⟨p, q, hA0, hV, rfl, hfz, hnd⟩ := hW
  have hA : DataW.TrodAll enc Try.prog W 0 (fun _ => true) true Try.f4.params.toList args.toList ds p := hA0
  rw [Try.params4] at hA hval
  obtain ⟨v0, vs0, d0, ds0, p0, q0, hargs, rfl, rfl, h0, r0⟩ := trodAll_cons hA
  obtain ⟨rfl, rfl, rfl⟩ := trodAll_nil r0
  obtain rfl : args = #[v0] := by cases args; simp_all
  obtain ⟨rfl, rfl⟩ := trodVars_none hV
  obtain ⟨a0, len0, cap0, rfl⟩ := okWide_slice Try.underlying24 (hval 0 24 v0 rfl rfl)
  have lt0 : ∀ x ∈ p0, x.block < W.heap.size := by obtain ⟨m, hm⟩ := h0; exact DataW.trod_lt m _ _ _ hm
  obtain ⟨l0, hl0⟩ := open_bytes h0
  clear hA0 hval0
  refine (walk hl0 W rfl).mono fun e W' ⟨he, bel⟩ => ?_
  subst he
  exact ⟨_, rfl, _, _, _, [], _, [], hW', trodAll_mk1 (shut_bool Try.underlying4 _), (trodAll_cons_mk (Below.trod laidOut (by kernel_rfl) (of_decide_eq_true (by kernel_rfl)) h0 bel lt0) trodAll_mk0), rfl, bel.frame _, fun h => by cases h⟩

theorem proved : Rows.VarintGetsSaid :=
  OpenClaim.holds_of_wide 4 Try.f4 rfl rfl rfl rfl rfl rfl rfl ⟨rfl, rfl, rfl, rfl, rfl⟩ rfl rfl rfl rfl rfl (by kernel_rfl) Try.func4 (by kernel_rfl)
    (of_decide_eq_true (by kernel_rfl)) (by unfold Func.isWrapper; first | (rw [if_pos (by decide +kernel)]; kernel_rfl) | (rw [if_neg (by decide +kernel)]; exact ⟨rfl, rfl⟩))
    (fun os started H enc _ => lifted os started H enc)
end GetsLaw
theorem varintGets_holds : Rows.VarintGetsSaid := GetsLaw.proved
#print axioms varintGets_holds
end Go.Proofs.Ytkkeeefhleekdaa
