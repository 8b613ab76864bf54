/- IntsCut: for every byte, every list of whole numbers, every cut and every further byte the law returns true: bytes of a list that are cut off are not read, nor with one more; nothing that was there is written. No condition. -/
import Derived.Test.YtnlanilejhjkkaaLift
set_option linter.unusedVariables false
namespace Go.Proofs.Ytnlanilejhjkkaa
namespace CutLaw
open Go.ChangeShapes Go.WideShapes Go.ChangeAt Go.RowKit Go.Lib

theorem lit_none (w : World) : OwnB (w.alloc (.cells #[] 5)) w.heap.size (.slice (some ⟨w.heap.size, 0, none⟩) 0 0) [] :=
  World.ownsRow_lit w #[] 0 (Nat.le_refl _) (by unfold maxLen; omega) rfl

theorem OwnB.form {W : World} {B : Nat} {v : Value} {l : List Nat} (h : OwnB W B v l) (hp : 0 < l.length) : ∃ g cap, v = .slice (some ⟨g, 0, none⟩) l.length cap ∧ l.length ≤ cap ∧ cap ≤ 9223372036854775807 := by
  rcases h.2 with ⟨_, h0⟩ | ⟨g, cap, cur, rfl, _, _, h1, h2, _⟩
  · omega
  · exact ⟨g, cap, rfl, h1, by unfold maxLen at h2; omega⟩

set_option maxRecDepth 100000 in
set_option maxHeartbeats 4000000 in
theorem walk (c : Nat) (hc : c < 256) {v : Value} {l : List Int} (w : World) (hl : Sv w v (ivals l) ∧ Is l) (cut : Int) (m : Nat) (hm : m < 256) :
    Calls Try.prog 7 #[.int .u8 (c : Int), v, .int .i64 cut, .int .u8 (m : Int)] w fun e w' => e = .returned (.bool true) ∧ Below w.heap.size w w' := by
  obtain ⟨hs, hi⟩ := hl
  have HS := hidden hs
  obtain ⟨a, cap, rfl, hcap, hcm⟩ := hs.form
  have hmx : l.length ≤ 9223372036854775807 := by unfold maxLen at hcm; omega
  by_cases hbig : (l.length : Int) > 256
  · clear HS hs hi hcap hcm
    go_enter Try.func7, Try.ntmps7
    go_wp2_with fail
    refine (alive_any _).mono ?_
    rintro e w1 ⟨rfl, hb1⟩
    go_wp2_with fail
    go_ret
    exact ⟨rfl, hb1⟩
  · have hl : l.length ≤ 256 := by omega
    obtain ⟨d, hd⟩ : ∃ d, c % 5 = d := ⟨_, rfl⟩
    have hd4 : d ≤ 4 := by omega
    have hd1 : (c : Int) % 5 = (d : Int) := by omega
    have hd2 : (c : Int).tmod 5 = (d : Int) := by rw [Int.tmod_eq_emod_of_nonneg (by omega)]; exact hd1
    have hsz := (encC_size d hi hl).1
    have HBE : Hid (Bs ([d] ++ encC d l)) := hidden (fun x hx => by
      rcases List.mem_append.1 hx with hx | hx
      · rw [List.mem_singleton.1 hx]; omega
      · exact (encC_size d hi hl).2 x hx)
    have HEN : Hid (∀ W, Sv W (.slice a l.length cap) (ivals l) → Calls Try.prog 10 #[.int .u8 (d : Int), .slice a l.length cap] W fun e w' => (∃ v', e = .returned (.tuple #[v', .bool true]) ∧ OwnB w' W.heap.size v' (encC d l)) ∧ Below W.heap.size W w') := hidden (fun W h => by
      have := encode_any h hi d (by omega)
      rwa [decide_eq_true (⟨hd4, hl⟩ : d ≤ 4 ∧ l.length ≤ 256), show encM d l = encC d l from if_pos ⟨hd4, hl⟩] at this)
    have HMO := hidden (readM_more (c := d) hd4 hi hl m [])
    have HCU : Hid (∀ k, k < ([d] ++ encC d l).length → readM (([d] ++ encC d l).take k) l.length = ([], 30)) := fun k hk => readM_cut (c := d) hd4 hi hl k hk
    clear hs hi hcap hcm hd
    obtain ⟨E, hE⟩ : ∃ E, encC d l = E := ⟨_, rfl⟩
    rw [hE] at HMO
    have HMO2 : Hid (readM ([d] ++ E ++ [m]) (l.length : Int) = ([], 32)) := HMO
    rw [hE] at hsz HBE HCU
    rw [hE] at HEN
    clear HMO hE
    obtain ⟨F, hF⟩ : ∃ F, [d] ++ E = F := ⟨_, rfl⟩
    have hFl : F.length = E.length + 1 := by rw [← hF]; simp
    rw [hF] at HBE HCU HMO2
    have HFM : Hid (Bs (F ++ [m])) := hidden (fun x hx => by
      rcases List.mem_append.1 hx with hx | hx
      · exact HBE.out x hx
      · rw [List.mem_singleton.1 hx]; exact hm)
    have HF := hidden hF
    clear hF
    have hFz : F.length ≤ 5131 := by omega
    have hFp : 0 < F.length := by omega
    clear hFl
    by_cases hcut : 0 ≤ cut ∧ cut < (F.length : Int)
    · obtain ⟨k, rfl⟩ := Int.eq_ofNat_of_zero_le hcut.1
      have hk : k < F.length := by omega
      have hk0 : (k : Int) ≥ 0 := by omega
      have hk1 : (k : Int) < (F.length : Int) := by omega
      have HCK := hidden (HCU.out k hk)
      clear hcut
      go_enter Try.func7, Try.ntmps7
      go_wp2_with fail
      refine (alive_any _).mono ?_
      rintro e w1 ⟨rfl, hb1⟩
      have HB1 := hidden hb1
      clear hb1
      go_wp2_with fail
      refine (HEN.out _ (HS.out.kept HB1.out)).mono ?_
      rintro e w2 ⟨⟨v2, rfl, o2⟩, hb2⟩
      have HO2 := hidden o2
      have HB2 := hidden (below_then HB1.out hb2)
      clear o2 hb2
      have HLIT := hidden (lit_own w2 d)
      have HBA := hidden (below_alloc w2 (.cells #[.int .u8 (d : Int)] 5))
      have HE3 := hidden (HO2.out.kept HBA.out)
      go_wp2_with (first | (at_builtin; refine wpList_append_sv rfl _ _ rfl w2.heap.size _ _ [d] E rfl HLIT.out rfl HE3.out.sv ?c1 ?c2 ?_))
      case c1 => simp; omega
      case c2 => first | omega | (rw [World.size_alloc]; omega)
      intro v4 w4 o4 b4
      have o4' : OwnB w4 w2.heap.size v4 F := by rw [← HF.out]; exact o4
      have HO4 := hidden o4'
      have HB24 := hidden (HBA.out.trans b4)
      have HB4 := hidden (below_then HB2.out HB24.out)
      obtain ⟨g4, c4, rfl, hc4, hc4m⟩ := OwnB.form o4' hFp
      clear o4 o4' b4
      have HRD := hidden (read_any (b := F.take k) (by rw [vals_take]; exact HO4.out.sv.take (k := k) (by rw [vals_length]; omega)) (fun x hx => HBE.out x (List.mem_of_mem_take hx)) (l.length : Int))
      rw [HCK.out] at HRD
      go_wp2_with fail
      refine HRD.out.mono ?_
      rintro e w5 ⟨⟨v5, rfl, o5⟩, hb5⟩
      have HO5 := hidden (HO4.out.kept hb5)
      have HB5 := hidden (below_then HB4.out hb5)
      clear o5 hb5
      have HLN := hidden (lit_none w5)
      have HBN := hidden (below_alloc w5 (.cells #[] 5))
      have HO6 := hidden (HO5.out.kept HBN.out)
      go_wp2_with (first | (at_builtin; refine wpList_append_sv rfl _ _ rfl w5.heap.size _ _ [] F rfl HLN.out rfl HO6.out.sv ?d1 ?d2 ?_))
      case d1 => simp; omega
      case d2 => first | omega | (rw [World.size_alloc]; omega)
      intro v7 w7 o7 b7
      have o7' : OwnB w7 w5.heap.size v7 F := o7
      have HB57 := hidden (HBN.out.trans b7)
      have HLM := hidden (lit_own w7 m)
      have HBM := hidden (below_alloc w7 (.cells #[.int .u8 (m : Int)] 5))
      have HO8 := hidden (o7'.kept HBM.out)
      have hz7 := HB57.out.size
      clear o7 o7' b7
      go_wp2_with (first | (at_builtin; refine wpList_append_sv rfl _ _ rfl w5.heap.size _ _ F [m] rfl HO8.out rfl HLM.out.sv ?e1 ?e2 ?_))
      case e1 => simp; omega
      case e2 => first | omega | (rw [World.size_alloc]; omega)
      intro v9 w9 o9 b9
      have HB9 := hidden (below_then HB5.out (HB57.out.trans ((HBM.out.mono hz7).trans b9)))
      have HRM := hidden (read_any (b := F ++ [m]) o9.sv HFM.out (l.length : Int))
      rw [HMO2.out] at HRM
      clear o9 b9
      go_wp2_with fail
      refine HRM.out.mono ?_
      rintro e w10 ⟨⟨v10, rfl, o10⟩, hb10⟩
      have HB10 := hidden (below_then HB9.out hb10)
      clear o10 hb10
      go_wp2_with fail
      go_ret
      exact ⟨rfl, HB10.out⟩
    · have hdc : ¬ cut ≥ 0 ∨ (cut ≥ 0 ∧ ¬ cut < (F.length : Int)) := by omega
      go_enter Try.func7, Try.ntmps7
      go_wp2_with fail
      refine (alive_any _).mono ?_
      rintro e w1 ⟨rfl, hb1⟩
      have HB1 := hidden hb1
      clear hb1
      go_wp2_with fail
      refine (HEN.out _ (HS.out.kept HB1.out)).mono ?_
      rintro e w2 ⟨⟨v2, rfl, o2⟩, hb2⟩
      have HO2 := hidden o2
      have HB2 := hidden (below_then HB1.out hb2)
      clear o2 hb2
      have HLIT := hidden (lit_own w2 d)
      have HBA := hidden (below_alloc w2 (.cells #[.int .u8 (d : Int)] 5))
      have HE3 := hidden (HO2.out.kept HBA.out)
      go_wp2_with (first | (at_builtin; refine wpList_append_sv rfl _ _ rfl w2.heap.size _ _ [d] E rfl HLIT.out rfl HE3.out.sv ?c1 ?c2 ?_))
      case c1 => simp; omega
      case c2 => first | omega | (rw [World.size_alloc]; omega)
      intro v4 w4 o4 b4
      have o4' : OwnB w4 w2.heap.size v4 F := by rw [← HF.out]; exact o4
      have HO4 := hidden o4'
      have HB24 := hidden (HBA.out.trans b4)
      have HB4 := hidden (below_then HB2.out HB24.out)
      obtain ⟨g4, c4, rfl, hc4, hc4m⟩ := OwnB.form o4' hFp
      clear o4 o4' b4 hcut
      have HLN := hidden (lit_none w4)
      have HBN := hidden (below_alloc w4 (.cells #[] 5))
      have HO6 := hidden (HO4.out.kept HBN.out)
      rcases hdc with hdc | ⟨hdc, hdc2⟩
      · go_wp2_with (first | (at_builtin; refine wpList_append_sv rfl _ _ rfl w4.heap.size _ _ [] F rfl HLN.out rfl HO6.out.sv ?d1 ?d2 ?_))
        case d1 => first | omega | (simp; omega)
        intro v7 w7 o7 b7
        have o7' : OwnB w7 w4.heap.size v7 F := o7
        have HB57 := hidden (HBN.out.trans b7)
        have HLM := hidden (lit_own w7 m)
        have HBM := hidden (below_alloc w7 (.cells #[.int .u8 (m : Int)] 5))
        have HO8 := hidden (o7'.kept HBM.out)
        have hz7 := HB57.out.size
        clear o7 o7' b7
        go_wp2_with (first | (at_builtin; refine wpList_append_sv rfl _ _ rfl w4.heap.size _ _ F [m] rfl HO8.out rfl HLM.out.sv ?e1 ?e2 ?_))
        case e1 => simp; omega
        case e2 => first | omega | (rw [World.size_alloc]; omega)
        intro v9 w9 o9 b9
        have HB9 := hidden (below_then HB4.out (HB57.out.trans ((HBM.out.mono hz7).trans b9)))
        have HRM := hidden (read_any (b := F ++ [m]) o9.sv HFM.out (l.length : Int))
        rw [HMO2.out] at HRM
        clear o9 b9
        go_wp2_with fail
        refine HRM.out.mono ?_
        rintro e w10 ⟨⟨v10, rfl, o10⟩, hb10⟩
        have HB10 := hidden (below_then HB9.out hb10)
        clear o10 hb10
        go_wp2_with fail
        go_ret
        exact ⟨rfl, HB10.out⟩
      · go_wp2_with (first | (at_builtin; refine wpList_append_sv rfl _ _ rfl w4.heap.size _ _ [] F rfl HLN.out rfl HO6.out.sv ?d1 ?d2 ?_))
        case d1 => first | omega | (simp; omega)
        intro v7 w7 o7 b7
        have o7' : OwnB w7 w4.heap.size v7 F := o7
        have HB57 := hidden (HBN.out.trans b7)
        have HLM := hidden (lit_own w7 m)
        have HBM := hidden (below_alloc w7 (.cells #[.int .u8 (m : Int)] 5))
        have HO8 := hidden (o7'.kept HBM.out)
        have hz7 := HB57.out.size
        clear o7 o7' b7
        go_wp2_with (first | (at_builtin; refine wpList_append_sv rfl _ _ rfl w4.heap.size _ _ F [m] rfl HO8.out rfl HLM.out.sv ?e1 ?e2 ?_))
        case e1 => simp; omega
        case e2 => first | omega | (rw [World.size_alloc]; omega)
        intro v9 w9 o9 b9
        have HB9 := hidden (below_then HB4.out (HB57.out.trans ((HBM.out.mono hz7).trans b9)))
        have HRM := hidden (read_any (b := F ++ [m]) o9.sv HFM.out (l.length : Int))
        rw [HMO2.out] at HRM
        clear o9 b9
        go_wp2_with fail
        refine HRM.out.mono ?_
        rintro e w10 ⟨⟨v10, rfl, o10⟩, hb10⟩
        have HB10 := hidden (below_then HB9.out hb10)
        clear o10 hb10
        go_wp2_with fail
        go_ret
        exact ⟨rfl, HB10.out⟩

set_option maxRecDepth 100000 in
theorem lifted (os : Os) (started : os.Started) (H : Type) (enc : TypeId × Value → H) :
    ReturnsInHanded {} Try.checked os 7 .any (Rows.intsCutSpec.pre6 enc Try.prog Try.f7 Rows.intsCutRow.domain false) (Rows.intsCutSpec.post enc Try.prog Try.f7 false true false false) := by
  refine returnsInHanded_of_change (C := Try.checked) own started (by kernel_rfl) Try.func7
    (ChangeSpec.witness6 (enc := enc) (C := Try.checked) false ⟨#[], #[.int .u8 0, .slice none 0 0, .int .i64 0, .int .u8 0], []⟩ 8 (by kernel_rfl) (by kernel_rfl) (by kernel_rfl) (by kernel_rfl)) ?_
  intro W base args ds gs before hval0 hW hcnd _
  have hval : ∀ (j : Nat) t v, Try.f7.params[j]? = some t → args[j]? = some v → Value.okWide Try.prog W .any base t v := hval0
  have hW' := hW
  obtain ⟨p, q, hA0, hV, rfl, hfz, hnd⟩ := hW
  have hA : DataW.TrodAll enc Try.prog W 0 (fun _ => true) true Try.f7.params.toList args.toList ds p := hA0
  rw [Try.params7] at hA hval
  obtain ⟨v0, vs0, d0, ds0, p0, q0, hargs, rfl, rfl, h0, r0⟩ := trodAll_cons hA
  obtain ⟨v1, vs1, d1, ds1, p1, q1, rfl, rfl, rfl, h1, r1⟩ := trodAll_cons r0
  obtain ⟨v2, vs2, d2, ds2, p2, q2, rfl, rfl, rfl, h2, r2⟩ := trodAll_cons r1
  obtain ⟨v3, vs3, d3, ds3, p3, q3, rfl, rfl, rfl, h3, r3⟩ := trodAll_cons r2
  obtain ⟨rfl, rfl, rfl⟩ := trodAll_nil r3
  obtain rfl : args = #[v0, v1, v2, v3] := by cases args; simp_all
  obtain ⟨rfl, rfl⟩ := trodVars_none hV
  obtain ⟨a0, rfl, rfl, rfl, w0⟩ := open_int Try.underlying5 (hval 0 5 v0 rfl rfl) h0
  have g0 := bounds_u8 w0
  obtain ⟨n0, rfl⟩ := Int.eq_ofNat_of_zero_le g0.1
  obtain ⟨a1, len1, cap1, rfl⟩ := okWide_slice Try.underlying22 (hval 1 22 v1 rfl rfl)
  have lt1 : ∀ x ∈ p1, x.block < W.heap.size := by obtain ⟨m, hm⟩ := h1; exact DataW.trod_lt m _ _ _ hm
  obtain ⟨l1, hl1⟩ := open_ints h1
  obtain ⟨a2, rfl, rfl, rfl, w2⟩ := open_int Try.underlying3 (hval 2 3 v2 rfl rfl) h2
  obtain ⟨a3, rfl, rfl, rfl, w3⟩ := open_int Try.underlying5 (hval 3 5 v3 rfl rfl) h3
  have g3 := bounds_u8 w3
  obtain ⟨n3, rfl⟩ := Int.eq_ofNat_of_zero_le g3.1
  clear hA0 hval0
  refine (walk n0 (by omega) W hl1 a2 n3 (by omega)).mono fun e W' ⟨he, bel⟩ => ?_
  subst he
  exact ⟨_, rfl, _, _, _, [], _, [], hW', trodAll_mk1 (shut_bool Try.underlying4 _), (trodAll_cons_mk (shut_int Try.underlying5 w0) (trodAll_cons_mk (Below.trod laidOut (by kernel_rfl) (of_decide_eq_true (by kernel_rfl)) h1 bel lt1) (trodAll_cons_mk (shut_int Try.underlying3 w2) (trodAll_cons_mk (shut_int Try.underlying5 w3) trodAll_mk0)))), rfl, bel.frame _, fun h => by cases h⟩

theorem proved : Rows.IntsCutSaid :=
  OpenClaim.holds_of_wide 7 Try.f7 rfl rfl rfl rfl rfl rfl rfl ⟨rfl, rfl, rfl, rfl, rfl⟩ rfl rfl rfl rfl rfl (by kernel_rfl) Try.func7 (by kernel_rfl)
    (of_decide_eq_true (by kernel_rfl)) (by unfold Func.isWrapper; first | (rw [if_pos (by decide +kernel)]; kernel_rfl) | (rw [if_neg (by decide +kernel)]; exact ⟨rfl, rfl⟩))
    (fun os started H enc _ => lifted os started H enc)
end CutLaw
theorem intsCut_holds : Rows.IntsCutSaid := CutLaw.proved
#print axioms intsCut_holds
end Go.Proofs.Ytnlanilejhjkkaa
