/- IntsBack: for every byte and every list of whole numbers the law returns true: numbers that were written by any codec are read, and no codec has fewer bytes than the best; nothing that was there is written. No condition. -/
import Derived.Test.YtnlanilejhjkkaaLift
set_option linter.unusedVariables false
namespace Go.Proofs.Ytnlanilejhjkkaa
namespace BackLaw
open Go.ChangeShapes Go.WideShapes Go.ChangeAt Go.RowKit Go.Lib

theorem best_back {l : List Int} (hi : Is l) (hl : l.length ≤ 256) : readM (bestUp l 4) l.length = (l, 0) := by
  obtain ⟨c, h1, h2⟩ := bestUp_form l 4
  rw [h2]
  exact readM_back (by omega) hi hl

theorem best_bytes {l : List Int} (hi : Is l) (hl : l.length ≤ 256) : Bs (bestUp l 4) ∧ (bestUp l 4).length ≤ 5131 := by
  obtain ⟨c, h1, h2⟩ := bestUp_form l 4
  rw [h2]
  have := encC_size c hi hl
  refine ⟨fun x hx => ?_, by simp; omega⟩
  rcases List.mem_cons.1 hx with rfl | hx
  · omega
  · exact this.2 x hx

set_option maxRecDepth 100000 in
set_option maxHeartbeats 4000000 in
theorem walk (c : Nat) (hc : c < 256) {v : Value} {l : List Int} (w : World) (hl : Sv w v (ivals l) ∧ Is l) :
    Calls Try.prog 5 #[.int .u8 (c : Int), v] w fun e w' => e = .returned (.bool true) ∧ Below w.heap.size w w' := by
  obtain ⟨hs, hi⟩ := hl
  have HS := hidden hs
  obtain ⟨a, cap, rfl, hcap, hcm⟩ := hs.form
  have hm : l.length ≤ 9223372036854775807 := by unfold maxLen at hcm; omega
  by_cases hbig : (l.length : Int) > 256
  · clear HS hs hi hcap hcm
    go_enter Try.func5, Try.ntmps5
    go_wp2_with fail
    refine (alive_any _).mono ?_
    rintro e w1 ⟨rfl, hb1⟩
    go_wp2_with fail
    go_ret
    exact ⟨rfl, hb1⟩
  · have hl : l.length ≤ 256 := by omega
    obtain ⟨d, hd⟩ : ∃ d, c % 5 = d := ⟨_, rfl⟩
    have hd4 : d ≤ 4 := by omega
    have hd1 : (c : Int) % 5 = (d : Int) := by omega
    have hd2 : (c : Int).tmod 5 = (d : Int) := by rw [Int.tmod_eq_emod_of_nonneg (by omega)]; exact hd1
    have HEM : Hid (encM d l = encC d l) := if_pos ⟨hd4, hl⟩
    have HBM : Hid (bestM l = bestUp l 4) := if_pos hl
    have hdec : decide (d ≤ 4 ∧ l.length ≤ 256) = true := decide_eq_true ⟨hd4, hl⟩
    have hdec2 : decide (l.length ≤ 256) = true := decide_eq_true hl
    have HI := hidden hi
    have HR1 := hidden (readM_back (c := d) hd4 hi hl)
    have HR2 := hidden (best_back hi hl)
    have hsz := (encC_size d hi hl).1
    have HBE : Hid (Bs ([d] ++ encC d l)) := hidden (fun x hx => by
      rcases List.mem_append.1 hx with hx | hx
      · rw [List.mem_singleton.1 hx]; omega
      · exact (encC_size d hi hl).2 x hx)
    obtain ⟨hbb, hbl⟩ := best_bytes hi hl
    have HBB := hidden hbb
    have hle := bestUp_le l 4 d hd4
    have HEN : Hid (∀ W, Sv W (.slice a l.length cap) (ivals l) → Calls Try.prog 10 #[.int .u8 (d : Int), .slice a l.length cap] W fun e w' => (∃ v', e = .returned (.tuple #[v', .bool true]) ∧ OwnB w' W.heap.size v' (encC d l)) ∧ Below W.heap.size W w') := hidden (fun W h => by
      have := encode_any h hi d (by omega)
      rwa [hdec, HEM.out] at this)
    have HBN : Hid (∀ W, Sv W (.slice a l.length cap) (ivals l) → Calls Try.prog 12 #[.slice a l.length cap] W fun e w' => (∃ v', e = .returned (.tuple #[v', .bool true]) ∧ OwnB w' W.heap.size v' (bestUp l 4)) ∧ Below W.heap.size W w') := hidden (fun W h => by
      have := best_any h hi
      rwa [hdec2, HBM.out] at this)
    clear hs hi hcap hcm hd hbb HEM HBM hdec hdec2
    generalize encC d l = E at *
    generalize bestUp l 4 = B at *
    go_enter Try.func5, Try.ntmps5
    go_wp2_with fail
    refine (alive_any _).mono ?_
    rintro e w1 ⟨rfl, hb1⟩
    have HB1 := hidden hb1
    clear hb1
    go_wp2_with fail
    refine (HEN.out _ (HS.out.kept HB1.out)).mono ?_
    rintro e w2 ⟨⟨v2, rfl, o2⟩, hb2⟩
    have HO2 := hidden o2
    have HB2 := hidden (below_then HB1.out hb2)
    obtain ⟨a2, c2, rfl⟩ := o2.len
    clear o2 hb2
    go_wp2_with fail
    refine (HBN.out _ (HS.out.kept HB2.out)).mono ?_
    rintro e w3 ⟨⟨v3, rfl, o3⟩, hb3⟩
    have HO3 := hidden o3
    have HO23 := hidden (HO2.out.kept hb3)
    have HB3 := hidden (below_then HB2.out hb3)
    obtain ⟨a3, c3, rfl⟩ := o3.len
    clear o3 hb3
    have HLIT := hidden (lit_own w3 d)
    have HBA := hidden (below_alloc w3 (.cells #[.int .u8 (d : Int)] 5))
    have HE4 := hidden (HO23.out.kept HBA.out)
    go_wp2_with (first | (at_builtin; refine wpList_append_sv rfl _ _ rfl w3.heap.size _ _ [d] E rfl HLIT.out rfl HE4.out.sv ?c1 ?c2 ?_))
    case c1 => simp; omega
    case c2 => first | omega | (rw [World.size_alloc]; omega)
    intro v4 w4 o4 b4
    have HO4 := hidden o4
    have HB34 := hidden (HBA.out.trans b4)
    have HB4 := hidden (below_then HB3.out HB34.out)
    have HO24 := hidden (HO23.out.kept HB34.out)
    have HO34 := hidden (HO3.out.kept HB34.out)
    have HRD := hidden (read_any (b := [d] ++ E) o4.sv HBE.out (l.length : Int))
    rw [show readM ([d] ++ E) (l.length : Int) = (l, 0) from HR1.out] at HRD
    clear o4 b4
    go_wp2_with fail
    refine HRD.out.mono ?_
    rintro e w5 ⟨⟨v5, rfl, o5⟩, hb5⟩
    have HO5 := hidden o5
    have HB5 := hidden (below_then HB4.out hb5)
    have HO35 := hidden (HO34.out.kept hb5)
    have HRD2 := hidden (read_any HO35.out.sv HBB.out (l.length : Int))
    rw [HR2.out] at HRD2
    clear o5 hb5
    go_wp2_with fail
    refine HRD2.out.mono ?_
    rintro e w6 ⟨⟨v6, rfl, o6⟩, hb6⟩
    have HO6 := hidden o6
    have HO56 := hidden (HO5.out.kept hb6)
    have HB6 := hidden (below_then HB5.out hb6)
    clear o6 hb6
    have HSA := hidden (same_any (HS.out.kept HB6.out).si HO56.out.sv.si)
    rw [decide_eq_true rfl] at HSA
    have hcmp : (B.length : Int) ≤ (E.length : Int) + 1 := by omega
    go_wp2_with fail
    refine HSA.out.mono ?_
    rintro e w7 ⟨rfl, hb7⟩
    have HB7 := hidden (below_then HB6.out hb7)
    have HSB := hidden (same_any (HS.out.kept HB7.out).si (HO6.out.kept hb7).sv.si)
    rw [decide_eq_true rfl] at HSB
    clear hb7
    go_wp2_with fail
    refine HSB.out.mono ?_
    rintro e w8 ⟨rfl, hb8⟩
    have HB8 := hidden (below_then HB7.out hb8)
    clear hb8
    go_wp2_with fail
    go_ret
    exact ⟨rfl, HB8.out⟩

set_option maxRecDepth 100000 in
theorem lifted (os : Os) (started : os.Started) (H : Type) (enc : TypeId × Value → H) :
    ReturnsInHanded {} Try.checked os 5 .any (Rows.intsBackSpec.pre6 enc Try.prog Try.f5 Rows.intsBackRow.domain false) (Rows.intsBackSpec.post enc Try.prog Try.f5 false true false false) := by
  refine returnsInHanded_of_change (C := Try.checked) own started (by kernel_rfl) Try.func5
    (ChangeSpec.witness6 (enc := enc) (C := Try.checked) false ⟨#[], #[.int .u8 0, .slice none 0 0], []⟩ 8 (by kernel_rfl) (by kernel_rfl) (by kernel_rfl) (by kernel_rfl)) ?_
  intro W base args ds gs before hval0 hW hcnd _
  have hval : ∀ (j : Nat) t v, Try.f5.params[j]? = some t → args[j]? = some v → Value.okWide Try.prog W .any base t v := hval0
  have hW' := hW
  obtain ⟨p, q, hA0, hV, rfl, hfz, hnd⟩ := hW
  have hA : DataW.TrodAll enc Try.prog W 0 (fun _ => true) true Try.f5.params.toList args.toList ds p := hA0
  rw [Try.params5] at hA hval
  obtain ⟨v0, vs0, d0, ds0, p0, q0, hargs, rfl, rfl, h0, r0⟩ := trodAll_cons hA
  obtain ⟨v1, vs1, d1, ds1, p1, q1, rfl, rfl, rfl, h1, r1⟩ := trodAll_cons r0
  obtain ⟨rfl, rfl, rfl⟩ := trodAll_nil r1
  obtain rfl : args = #[v0, v1] := by cases args; simp_all
  obtain ⟨rfl, rfl⟩ := trodVars_none hV
  obtain ⟨a0, rfl, rfl, rfl, w0⟩ := open_int Try.underlying5 (hval 0 5 v0 rfl rfl) h0
  have g0 := bounds_u8 w0
  obtain ⟨n0, rfl⟩ := Int.eq_ofNat_of_zero_le g0.1
  obtain ⟨a1, len1, cap1, rfl⟩ := okWide_slice Try.underlying22 (hval 1 22 v1 rfl rfl)
  have lt1 : ∀ x ∈ p1, x.block < W.heap.size := by obtain ⟨m, hm⟩ := h1; exact DataW.trod_lt m _ _ _ hm
  obtain ⟨l1, hl1⟩ := open_ints h1
  clear hA0 hval0
  refine (walk n0 (by omega) W hl1).mono fun e W' ⟨he, bel⟩ => ?_
  subst he
  exact ⟨_, rfl, _, _, _, [], _, [], hW', trodAll_mk1 (shut_bool Try.underlying4 _), (trodAll_cons_mk (shut_int Try.underlying5 w0) (trodAll_cons_mk (Below.trod laidOut (by kernel_rfl) (of_decide_eq_true (by kernel_rfl)) h1 bel lt1) trodAll_mk0)), rfl, bel.frame _, fun h => by cases h⟩

theorem proved : Rows.IntsBackSaid :=
  OpenClaim.holds_of_wide 5 Try.f5 rfl rfl rfl rfl rfl rfl rfl ⟨rfl, rfl, rfl, rfl, rfl⟩ rfl rfl rfl rfl rfl (by kernel_rfl) Try.func5 (by kernel_rfl)
    (of_decide_eq_true (by kernel_rfl)) (by unfold Func.isWrapper; first | (rw [if_pos (by decide +kernel)]; kernel_rfl) | (rw [if_neg (by decide +kernel)]; exact ⟨rfl, rfl⟩))
    (fun os started H enc _ => lifted os started H enc)
end BackLaw
theorem intsBack_holds : Rows.IntsBackSaid := BackLaw.proved
#print axioms intsBack_holds
end Go.Proofs.Ytnlanilejhjkkaa
