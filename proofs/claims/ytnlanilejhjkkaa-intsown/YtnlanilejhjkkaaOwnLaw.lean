/- IntsOwn: for every list of whole numbers and every count the law returns true: what is handed in stays as it was, and what is told is new; nothing that was there is written. No condition. -/
import Derived.Test.YtnlanilejhjkkaaLift
set_option linter.unusedVariables false
namespace Go.Proofs.Ytnlanilejhjkkaa
namespace OwnLaw
open Go.ChangeShapes Go.WideShapes Go.ChangeAt Go.RowKit Go.Lib

theorem lit_none (w : World) : OwnB (w.alloc (.cells #[] 5)) w.heap.size (.slice (some ⟨w.heap.size, 0, none⟩) 0 0) [] :=
  World.ownsRow_lit w #[] 0 (Nat.le_refl _) (by unfold maxLen; omega) rfl
theorem lit_noneI (w : World) : OwnI (w.alloc (.cells #[] 2)) w.heap.size (.slice (some ⟨w.heap.size, 0, none⟩) 0 0) [] :=
  World.ownsRow_lit w #[] 0 (Nat.le_refl _) (by unfold maxLen; omega) rfl

theorem wpList_append_iv {w : World} {ops : Array Oper} {rest : List Oper} {o : Oper} {a : Act} {Q : Exit → Act → World → Prop} (hgd : o.guard = none) (s x : Operand)
    (ho : o.op = .call { callee := .builtin .append, args := #[s, x], argTypes := #[22, 22] })
    (base : Nat) (v vx : Value) (l0 l : List Int) (hs : a.eval s = v) (hown : OwnI w base v l0) (hx : a.eval x = vx) (hsl : Sv w vx (ivals l))
    (hbytes : l0.length + l.length ≤ 100000) (hbase : base ≤ w.heap.size)
    (h : ∀ v' w', OwnI w' base v' (l0 ++ l) → Below base w w' → wpList Try.prog ops Q rest (a.put o.dst v') w') :
    wpList Try.prog ops Q (o :: rest) a w := by
  obtain ⟨i0, hi, hz0, hz1', hz2⟩ := info_parts info2
  unfold OwnI at *
  obtain ⟨ad, cap, rfl, h1, h2, h3, h4⟩ := hsl
  rw [ivals_length] at *
  cases ad with
  | none =>
    have hc := h3 rfl
    subst hc
    have hl : l = [] := List.eq_nil_of_length_eq_zero (by omega)
    subst hl
    refine wpList_plain hgd fun K hK => ?_
    have hr := run_append_owned_none (P := Try.prog) (w := w) base 22 o.type 2 i0 1 Try.underlying22 hi v l0.length (ivals l0) hown
    unfold Oper.wp execOp
    simp only [ho, resolve, invoke, builtin, Sem.run_bind, Sem.run_pure, Result.andThen_ok, List.map_toArray, List.map_cons, List.map_nil, hs, hx, hr, List.length_nil]
    refine hK _ _ (h v w ?_ (Below.refl _ _))
    rw [List.append_nil]
    exact hown
  | some ad =>
    refine wpList_append_own_at (w := w) hgd s x 22 ho base 2 i0 (.int .i64 0) 1 8 Try.underlying22 hi hz0 hz1' hz2 rfl (by decide) v l0.length (ivals l0) hs hown ad l.length cap (ivals l) hx (by rw [ivals_length]; omega) ?_ (ivals_oneCell _) (by unfold maxLen; omega) (by omega) hbase ?_
    · intro j u hu
      have hj : j < l.length := by
        have := (List.getElem?_eq_some_iff.1 hu).1
        rwa [ivals_length] at this
      obtain ⟨b, off, h5, _, h6⟩ := h4 (by omega)
      cases h5
      rw [addj]
      exact h6 j u hu
    · intro v' w' o1 g1 _ _
      refine h v' w' ?_ ((Below.refl base w).grown g1 hbase (fun k hk => (hown.lt k hk).1))
      rw [ivals_append, List.length_append]
      exact o1

theorem best_bytes {l : List Int} (hi : Is l) (hl : l.length ≤ 256) : Bs (bestUp l 4) ∧ (bestUp l 4).length ≤ 5131 := by
  obtain ⟨c, h1, h2⟩ := bestUp_form l 4
  rw [h2]
  have := encC_size c hi hl
  refine ⟨fun x hx => ?_, by simp; omega⟩
  rcases List.mem_cons.1 hx with rfl | hx
  · omega
  · exact this.2 x hx

theorem best_back {l : List Int} (hi : Is l) (hl : l.length ≤ 256) : readM (bestUp l 4) l.length = (l, 0) := by
  obtain ⟨c, h1, h2⟩ := bestUp_form l 4
  rw [h2]
  exact readM_back (by omega) hi hl

theorem OwnI.form {W : World} {B : Nat} {v : Value} {l : List Int} (h : OwnI W B v l) (hp : 0 < l.length) : ∃ g cap, v = .slice (some ⟨g, 0, none⟩) l.length cap ∧ B ≤ g := by
  rcases h.2 with ⟨_, h0⟩ | ⟨g, cap, cur, rfl, h1, _⟩
  · omega
  · exact ⟨g, cap, rfl, h1⟩

set_option maxRecDepth 100000 in
set_option maxHeartbeats 4000000 in
theorem walk {v : Value} {l : List Int} (w : World) (hl : Sv w v (ivals l) ∧ Is l) (n : Int) :
    Calls Try.prog 8 #[v, .int .i64 n] w fun e w' => e = .returned (.bool true) ∧ Below w.heap.size w w' := by
  obtain ⟨hs, hi⟩ := hl
  have HS := hidden hs
  obtain ⟨a, cap, rfl, hcap, hcm⟩ := hs.form
  have hmx : l.length ≤ 9223372036854775807 := by unfold maxLen at hcm; omega
  by_cases hbig : (l.length : Int) > 256
  · clear HS hs hi hcap hcm
    go_enter Try.func8, Try.ntmps8
    go_wp2_with fail
    refine (alive_any _).mono ?_
    rintro e w1 ⟨rfl, hb1⟩
    go_wp2_with fail
    go_ret
    exact ⟨rfl, hb1⟩
  · have hl : l.length ≤ 256 := by omega
    obtain ⟨hbb, hbl⟩ := best_bytes hi hl
    have HBB := hidden hbb
    have HR2 := hidden (best_back hi hl)
    have HBN : Hid (∀ W, Sv W (.slice a l.length cap) (ivals l) → Calls Try.prog 12 #[.slice a l.length cap] W fun e w' => (∃ v', e = .returned (.tuple #[v', .bool true]) ∧ OwnB w' W.heap.size v' (bestUp l 4)) ∧ Below W.heap.size W w') := hidden (fun W h => by
      have := best_any h hi
      rwa [decide_eq_true hl, show bestM l = bestUp l 4 from if_pos hl] at this)
    have HEN : Hid (∀ W (c : Nat), c < 256 → Sv W (.slice a l.length cap) (ivals l) → Calls Try.prog 10 #[.int .u8 (c : Int), .slice a l.length cap] W fun e w' => (∃ v' r, e = .returned (.tuple #[v', r])) ∧ Below W.heap.size W w') := hidden (fun W c hc h => by
      refine (encode_any h hi c hc).mono ?_
      rintro e w' ⟨⟨v', rfl, _⟩, hb⟩
      exact ⟨⟨_, _, rfl⟩, hb⟩)
    clear hs hi hcap hcm hbb
    generalize bestUp l 4 = B at *
    go_enter Try.func8, Try.ntmps8
    go_wp2_with fail
    refine (alive_any _).mono ?_
    rintro e w1 ⟨rfl, hb1⟩
    have HB1 := hidden hb1
    clear hb1
    have HLN := hidden (lit_noneI w1)
    have HBA := hidden (below_alloc w1 (.cells #[] 2))
    have HS1 := hidden ((HS.out.kept HB1.out).kept HBA.out)
    go_wp2_with (first | (at_builtin; refine wpList_append_iv rfl _ _ rfl w1.heap.size _ _ [] l rfl HLN.out rfl HS1.out ?c1 ?c2 ?_))
    case c1 => first | omega | (simp; omega)
    case c2 => first | omega | (rw [World.size_alloc]; omega)
    intro vx w2 o2 b2
    have o2' : OwnI w2 w1.heap.size vx l := o2
    have HX2 := hidden o2'.sv
    have HB2 := hidden (below_then HB1.out (HBA.out.trans b2))
    clear o2 o2' b2
    go_wp2_with fail
    refine (HBN.out _ (HS.out.kept HB2.out)).mono ?_
    rintro e w3 ⟨⟨v3, rfl, o3⟩, hb3⟩
    have HX3 := hidden (HX2.out.kept hb3)
    have HO3 := hidden o3
    have HB3 := hidden (below_then HB2.out hb3)
    clear o3 hb3
    have HLN3 := hidden (lit_none w3)
    have HBA3 := hidden (below_alloc w3 (.cells #[] 5))
    have HO3b := hidden (HO3.out.kept HBA3.out)
    go_wp2_with (first | (at_builtin; refine wpList_append_sv rfl _ _ rfl w3.heap.size _ _ [] B rfl HLN3.out rfl HO3b.out.sv ?d1 ?d2 ?_))
    case d1 => first | omega | (simp; omega)
    case d2 => first | omega | (rw [World.size_alloc]; omega)
    intro vy w4 o4 b4
    have o4' : OwnB w4 w3.heap.size vy B := o4
    have HY4 := hidden o4'.sv
    have HB34 := hidden (HBA3.out.trans b4)
    have HX4 := hidden (HX3.out.kept HB34.out)
    have HC4 := hidden (HO3.out.sv.kept HB34.out)
    have HB4 := hidden (below_then HB3.out HB34.out)
    clear o4 o4' b4
    have HRD := hidden (read_any HC4.out HBB.out (l.length : Int))
    rw [HR2.out] at HRD
    go_wp2_with fail
    refine HRD.out.mono ?_
    rintro e w5 ⟨⟨v5, rfl, o5⟩, hb5⟩
    have HO5 := hidden o5
    have HB5 := hidden hb5
    obtain ⟨a5, c5, rfl⟩ := o5.len
    clear o5 hb5
    go_wp2_with fail
    go_loopw [11] (fun i wr => ∃ (k : Nat) (m : List Int), i = .int .i64 (k : Int) ∧ k ≤ l.length ∧ m.length = l.length ∧ OwnI wr w4.heap.size (.slice a5 l.length c5) m ∧ Below w4.heap.size w4 wr) (fun i _ => l.length - (intOf i).toNat)
    case atStart => exact ⟨0, l, rfl, by omega, rfl, HO5.out, HB5.out⟩
    case round =>
      obtain ⟨k, m, rfl, hk, hml, how, hbel⟩ := hrel
      have HB := hidden hbel
      by_cases hlt : k < l.length
      · obtain ⟨g, cg, hg, hgB⟩ := OwnI.form how (by omega)
        simp only [Value.slice.injEq] at hg
        obtain ⟨rfl, _, rfl⟩ := hg
        have how' : wr.ownsRow w4.heap.size 2 1 (.slice (some ⟨g, 0, none⟩) l.length c5) l.length (ivals m) := by
          have := how
          unfold OwnI at this
          rwa [hml] at this
        have hkm : k < m.length := by omega
        have hck := (how'.cellAt k (by omega)).trans (ivals_get hkm)
        have hfr := how'.frozenAt k
        obtain ⟨z, hz⟩ : ∃ z, IntKind.i64.wrap (m[k] + 1) = z := ⟨_, rfl⟩
        have hST := how'.stored k (.int .i64 z)
        rw [ivals_set] at hST
        have HST := hidden hST
        have hgz := (how'.lt g rfl).2
        have HML := hidden hml
        have HGB := hidden hgB
        clear hST how how' hbel hml hgB
        generalize m[k] = x at *
        go_wp2_with fail
        go_roundw
        case rel =>
          refine ⟨k + 1, m.set k z, by go_num, by omega, by rw [List.length_set]; exact HML.out, ?_, below_set HB.out HGB.out _⟩
          unfold OwnI
          rw [List.length_set, HML.out]
          exact HST.out.1
        case measure => simp [intOf]; omega
      · obtain rfl : k = l.length := by omega
        have HX6 := hidden (HX4.out.kept hbel)
        have HY6 := hidden (HY4.out.kept hbel)
        have HC6 := hidden (HC4.out.kept hbel)
        have HB6 := hidden (below_then HB4.out hbel)
        clear how hbel hml HB
        go_wp2_with fail
        go_loopw [12] (fun i wq => ∃ k : Nat, k ≤ 5 ∧ i = .int .u8 (k : Int) ∧ Below wr.heap.size wr wq) (fun i _ => 5 - (intOf i).toNat)
        case atStart => exact ⟨0, by omega, rfl, Below.refl _ _⟩
        case round =>
          obtain ⟨q, hq, rfl, hbq⟩ := hrel
          have HBQ := hidden hbq
          have HB7 := hidden (below_then HB6.out hbq)
          by_cases hq5 : (q : Int) < 5
          · clear hbq
            go_wp2_with fail
            refine (HEN.out _ q (by omega) (HS.out.kept HB7.out)).mono ?_
            rintro e w8 ⟨⟨v8, r8, rfl⟩, hb8⟩
            have HB8 := hidden (below_then HBQ.out hb8)
            clear hb8
            go_wp2_with fail
            go_roundw
            case rel => exact ⟨q + 1, by omega, by go_num, HB8.out⟩
            case measure => simp [intOf]; omega
          · have HX7 := hidden (HX6.out.kept hbq)
            have HY7 := hidden (HY6.out.kept hbq)
            have HC7 := hidden (HC6.out.kept hbq)
            clear hbq
            go_wp2_with fail
            refine (read_any HC7.out HBB.out n).mono ?_
            rintro e w8 ⟨⟨v8, rfl, o8⟩, hb8⟩
            have HX8 := hidden (HX7.out.kept hb8)
            have HY8 := hidden (HY7.out.kept hb8)
            have HC8 := hidden (HC7.out.kept hb8)
            have HB8 := hidden (below_then HB7.out hb8)
            clear o8 hb8
            have HSA := hidden (same_any (HS.out.kept HB8.out).si HX8.out.si)
            rw [decide_eq_true rfl] at HSA
            go_wp2_with fail
            refine HSA.out.mono ?_
            rintro e w9 ⟨rfl, hb9⟩
            have hc1 := (HC8.out.kept hb9).conv HBB.out
            have hc2 := (HY8.out.kept hb9).conv HBB.out
            obtain ⟨s, hs⟩ : ∃ s, txt B = .string s := ⟨_, rfl⟩
            rw [hs] at hc1 hc2
            have HB9 := hidden (below_then HB8.out hb9)
            clear hs hb9
            go_wp2_with fail
            go_ret
            exact ⟨rfl, HB9.out⟩

set_option maxRecDepth 100000 in
theorem lifted (os : Os) (started : os.Started) (H : Type) (enc : TypeId × Value → H) :
    ReturnsInHanded {} Try.checked os 8 .any (Rows.intsOwnSpec.pre6 enc Try.prog Try.f8 Rows.intsOwnRow.domain false) (Rows.intsOwnSpec.post enc Try.prog Try.f8 false true false false) := by
  refine returnsInHanded_of_change (C := Try.checked) own started (by kernel_rfl) Try.func8
    (ChangeSpec.witness6 (enc := enc) (C := Try.checked) false ⟨#[], #[.slice none 0 0, .int .i64 0], []⟩ 8 (by kernel_rfl) (by kernel_rfl) (by kernel_rfl) (by kernel_rfl)) ?_
  intro W base args ds gs before hval0 hW hcnd _
  have hval : ∀ (j : Nat) t v, Try.f8.params[j]? = some t → args[j]? = some v → Value.okWide Try.prog W .any base t v := hval0
  have hW' := hW
  obtain ⟨p, q, hA0, hV, rfl, hfz, hnd⟩ := hW
  have hA : DataW.TrodAll enc Try.prog W 0 (fun _ => true) true Try.f8.params.toList args.toList ds p := hA0
  rw [Try.params8] at hA hval
  obtain ⟨v0, vs0, d0, ds0, p0, q0, hargs, rfl, rfl, h0, r0⟩ := trodAll_cons hA
  obtain ⟨v1, vs1, d1, ds1, p1, q1, rfl, rfl, rfl, h1, r1⟩ := trodAll_cons r0
  obtain ⟨rfl, rfl, rfl⟩ := trodAll_nil r1
  obtain rfl : args = #[v0, v1] := by cases args; simp_all
  obtain ⟨rfl, rfl⟩ := trodVars_none hV
  obtain ⟨a0, len0, cap0, rfl⟩ := okWide_slice Try.underlying22 (hval 0 22 v0 rfl rfl)
  have lt0 : ∀ x ∈ p0, x.block < W.heap.size := by obtain ⟨m, hm⟩ := h0; exact DataW.trod_lt m _ _ _ hm
  obtain ⟨l0, hl0⟩ := open_ints h0
  obtain ⟨a1, rfl, rfl, rfl, w1⟩ := open_int Try.underlying3 (hval 1 3 v1 rfl rfl) h1
  clear hA0 hval0
  refine (walk W hl0 a1).mono fun e W' ⟨he, bel⟩ => ?_
  subst he
  exact ⟨_, rfl, _, _, _, [], _, [], hW', trodAll_mk1 (shut_bool Try.underlying4 _), (trodAll_cons_mk (Below.trod laidOut (by kernel_rfl) (of_decide_eq_true (by kernel_rfl)) h0 bel lt0) (trodAll_cons_mk (shut_int Try.underlying3 w1) trodAll_mk0)), rfl, bel.frame _, fun h => by cases h⟩

theorem proved : Rows.IntsOwnSaid :=
  OpenClaim.holds_of_wide 8 Try.f8 rfl rfl rfl rfl rfl rfl rfl ⟨rfl, rfl, rfl, rfl, rfl⟩ rfl rfl rfl rfl rfl (by kernel_rfl) Try.func8 (by kernel_rfl)
    (of_decide_eq_true (by kernel_rfl)) (by unfold Func.isWrapper; first | (rw [if_pos (by decide +kernel)]; kernel_rfl) | (rw [if_neg (by decide +kernel)]; exact ⟨rfl, rfl⟩))
    (fun os started H enc _ => lifted os started H enc)
end OwnLaw
theorem intsOwn_holds : Rows.IntsOwnSaid := OwnLaw.proved
#print axioms intsOwn_holds
end Go.Proofs.Ytnlanilejhjkkaa
