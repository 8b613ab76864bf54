/- IntsOne: for every bytes and every two counts the law returns true: what was read is written by its codec as just these bytes, and by the first three codecs the bytes are not read as another count; nothing that was there is written. No condition. -/
import Derived.Test.YtnlanilejhjkkaaLift
set_option linter.unusedVariables false
namespace Go.Proofs.Ytnlanilejhjkkaa
namespace OneLaw
open Go.ChangeShapes Go.WideShapes Go.ChangeAt Go.RowKit Go.Lib

theorem none_left {b : List Nat} {n : Int} {e : Nat} {l : List Int} (h : readM b n = (l, e)) (he : e ≠ 0) : l = [] := by
  have := readM_none (b := b) (n := n) (by rw [h]; exact he)
  rw [h] at this
  exact this

set_option maxRecDepth 100000 in
set_option maxHeartbeats 4000000 in
theorem walk {v : Value} {b : List Nat} (w : World) (hl : Sv w v (vals .u8 b) ∧ Bs b) (n o : Int) :
    Calls Try.prog 6 #[v, .int .i64 n, .int .i64 o] w fun e w' => e = .returned (.bool true) ∧ Below w.heap.size w w' := by
  obtain ⟨hs, h8⟩ := hl
  have HS := hidden hs
  have H8 := hidden h8
  have hsl := hs.sx
  obtain ⟨a, cap, rfl, hm, _⟩ := hsl
  have hm2 : b.length ≤ 9223372036854775807 := by unfold maxLen at hm; omega
  by_cases hbig : (b.length : Int) > 6000
  · clear HS hs h8 hm
    go_enter Try.func6, Try.ntmps6
    go_wp2_with fail
    refine (alive_any _).mono ?_
    rintro e w1 ⟨rfl, hb1⟩
    go_wp2_with fail
    go_ret
    exact ⟨rfl, hb1⟩
  · have HRD : Hid (∀ W k, Sv W (.slice a b.length cap) (vals .u8 b) → Calls Try.prog 14 #[.slice a b.length cap, .int .i64 k] W (ReadPost (readM b k) W)) := fun W k h => read_any h h8 k
    clear hs h8 hm
    obtain ⟨l, e, hR⟩ : ∃ l e, readM b n = (l, e) := ⟨_, _, rfl⟩
    by_cases he : e = 0
    · subst he
      obtain ⟨hn0, hn1, c, t, hbt, hc, hln, hil, hen⟩ := readM_inv H8.out hR
      subst hbt
      obtain ⟨m, f, hR2⟩ : ∃ m f, readM (c :: t) o = (m, f) := ⟨_, _, rfl⟩
      have HEN : Hid (∀ W v, Sv W v (ivals l) → Calls Try.prog 10 #[.int .u8 (c : Int), v] W fun e w' => (∃ v', e = .returned (.tuple #[v', .bool true]) ∧ OwnB w' W.heap.size v' t) ∧ Below W.heap.size W w') := hidden (fun W v h => by
        have := encode_any h hil c (by omega)
        rw [decide_eq_true (by omega : c ≤ 4 ∧ l.length ≤ 256), show encM c l = t from (if_pos (by omega : c ≤ 4 ∧ l.length ≤ 256)).trans hen] at this
        exact this)
      have HBT : Hid (Bs t) := fun x hx => H8.out x (by simp [hx])
      have HF : Hid (o ≠ n → c ≤ 2 → f ≠ 0 ∧ m = []) := hidden (fun h1 h2 => by
        have h3 : f ≠ 0 := by
          intro h4
          subst h4
          exact h1 (readM_other H8.out h2 hR hR2).symm
        exact ⟨h3, none_left hR2 h3⟩)
      have HR := hidden hR
      have HR2 := hidden hR2
      have HIL := hidden hil
      obtain ⟨g, off, cap', hv, q1, q2, q3, q4, _, A, hA, hSA⟩ := HS.out.uncons
      simp only [Value.slice.injEq] at hv
      obtain ⟨rfl, _, rfl⟩ := hv
      have HSA := hidden hSA
      have hcm : cap ≤ 9223372036854775807 := by unfold maxLen at q2; omega
      clear hR hR2 hil hen hln hSA q2
      rw [List.length_cons] at *
      go_enter Try.func6, Try.ntmps6
      go_wp2_with fail
      refine (alive_any _).mono ?_
      rintro e w1 ⟨rfl, hb1⟩
      have HB1 := hidden hb1
      have hrd := HRD.out w1 n (HS.out.kept hb1)
      rw [HR.out] at hrd
      have HRD1 := hidden hrd
      clear hb1 hrd
      go_wp2_with fail
      refine HRD1.out.mono ?_
      rintro e w2 ⟨⟨v2, rfl, o2⟩, hb2⟩
      have HO2 := hidden o2
      have HB2 := hidden (below_then HB1.out hb2)
      have k4 := (HB2.out.cell (p := ⟨g, off, none⟩) q3).trans q4
      have HEN2 := hidden (HEN.out w2 v2 o2.sv)
      have q4' := q4
      have q4'' := q4
      clear o2 hb2 q4
      go_wp2_with fail
      refine HEN2.out.mono ?_
      rintro e w3 ⟨⟨v3, rfl, o3⟩, hb3⟩
      have HB3 := hidden (below_then HB2.out hb3)
      obtain ⟨s, hs⟩ : ∃ s, txt t = .string s := ⟨_, rfl⟩
      have hc3 : ∀ n, (convert 24 9 v3).run Try.prog (w3.drewN n) = .ok (.string s) (w3.drewN n) := fun n => by rw [← hs]; exact (o3.sv.kept (below_drewN (Below.refl _ _) n)).conv HBT.out
      have hcA : ∀ n, (convert 24 9 (.slice A t.length (cap - 1))).run Try.prog (w3.drewN n) = .ok (.string s) (w3.drewN n) := fun n => by rw [← hs]; exact (HSA.out.kept (below_drewN HB3.out n)).conv HBT.out
      have k5 := (HB3.out.cell (p := ⟨g, off, none⟩) q3).trans q4'
      clear o3 hb3 hs k4 q4'
      go_wp2_with fail
      go_quiet (fail)
      go_wp2_with fail
      have HB4 := hidden (below_drewN HB3.out nq)
      have hrd := HRD.out (w3.drewN nq) o (HS.out.kept HB4.out)
      rw [HR2.out] at hrd
      have HRD2 := hidden hrd
      have k6 := (HB4.out.cell (p := ⟨g, off, none⟩) q3).trans q4''
      clear hrd k5 hc3 hcA q4''
      refine HRD2.out.mono ?_
      rintro e w5 ⟨⟨v5, rfl, o5⟩, hb5⟩
      have HB5 := hidden (below_then HB4.out hb5)
      obtain ⟨a5, c5, rfl⟩ := o5.len
      have k7 := (hb5.cell (p := ⟨g, off, none⟩) (Nat.lt_of_lt_of_le q3 HB4.out.size)).trans k6
      clear o5 hb5 k6
      by_cases hon : (o == n) = true
      · go_wp2_with fail
        go_ret
        exact ⟨rfl, HB5.out⟩
      · have honf : (o == n) = false := by simpa using hon
        have hne : o ≠ n := by simpa using hon
        clear hon
        by_cases hc2 : (c : Int) > 2
        · go_wp2_with fail
          go_ret
          exact ⟨rfl, HB5.out⟩
        · obtain ⟨hf0, rfl⟩ := HF.out hne (by omega)
          have hff : ((f : Int) != 0) = true := by simpa using hf0
          clear hne hf0
          go_wp2_with fail
          go_ret
          exact ⟨rfl, HB5.out⟩
    · have HR := hidden hR
      have hl0 := none_left hR he
      subst hl0
      have hne : ((e : Int) != 0) = true := by simpa using he
      clear hR he
      go_enter Try.func6, Try.ntmps6
      go_wp2_with fail
      refine (alive_any _).mono ?_
      rintro e1 w1 ⟨rfl, hb1⟩
      have HB1 := hidden hb1
      have hrd := HRD.out w1 n (HS.out.kept hb1)
      rw [HR.out] at hrd
      have HRD1 := hidden hrd
      clear hb1 hrd
      go_wp2_with fail
      refine HRD1.out.mono ?_
      rintro e2 w2 ⟨⟨v2, rfl, o2⟩, hb2⟩
      have HB2 := hidden (below_then HB1.out hb2)
      obtain ⟨a2, c2, rfl⟩ := o2.len
      clear o2 hb2
      go_wp2_with fail
      go_ret
      exact ⟨rfl, HB2.out⟩

set_option maxRecDepth 100000 in
theorem lifted (os : Os) (started : os.Started) (H : Type) (enc : TypeId × Value → H) :
    ReturnsInHanded {} Try.checked os 6 .any (Rows.intsOneSpec.pre6 enc Try.prog Try.f6 Rows.intsOneRow.domain false) (Rows.intsOneSpec.post enc Try.prog Try.f6 false true false false) := by
  refine returnsInHanded_of_change (C := Try.checked) own started (by kernel_rfl) Try.func6
    (ChangeSpec.witness6 (enc := enc) (C := Try.checked) false ⟨#[], #[.slice none 0 0, .int .i64 0, .int .i64 0], []⟩ 8 (by kernel_rfl) (by kernel_rfl) (by kernel_rfl) (by kernel_rfl)) ?_
  intro W base args ds gs before hval0 hW hcnd _
  have hval : ∀ (j : Nat) t v, Try.f6.params[j]? = some t → args[j]? = some v → Value.okWide Try.prog W .any base t v := hval0
  have hW' := hW
  obtain ⟨p, q, hA0, hV, rfl, hfz, hnd⟩ := hW
  have hA : DataW.TrodAll enc Try.prog W 0 (fun _ => true) true Try.f6.params.toList args.toList ds p := hA0
  rw [Try.params6] at hA hval
  obtain ⟨v0, vs0, d0, ds0, p0, q0, hargs, rfl, rfl, h0, r0⟩ := trodAll_cons hA
  obtain ⟨v1, vs1, d1, ds1, p1, q1, rfl, rfl, rfl, h1, r1⟩ := trodAll_cons r0
  obtain ⟨v2, vs2, d2, ds2, p2, q2, rfl, rfl, rfl, h2, r2⟩ := trodAll_cons r1
  obtain ⟨rfl, rfl, rfl⟩ := trodAll_nil r2
  obtain rfl : args = #[v0, v1, v2] := by cases args; simp_all
  obtain ⟨rfl, rfl⟩ := trodVars_none hV
  obtain ⟨a0, len0, cap0, rfl⟩ := okWide_slice Try.underlying24 (hval 0 24 v0 rfl rfl)
  have lt0 : ∀ x ∈ p0, x.block < W.heap.size := by obtain ⟨m, hm⟩ := h0; exact DataW.trod_lt m _ _ _ hm
  obtain ⟨l0, hl0⟩ := open_bytes h0
  obtain ⟨a1, rfl, rfl, rfl, w1⟩ := open_int Try.underlying3 (hval 1 3 v1 rfl rfl) h1
  obtain ⟨a2, rfl, rfl, rfl, w2⟩ := open_int Try.underlying3 (hval 2 3 v2 rfl rfl) h2
  clear hA0 hval0
  refine (walk W hl0 a1 a2).mono fun e W' ⟨he, bel⟩ => ?_
  subst he
  exact ⟨_, rfl, _, _, _, [], _, [], hW', trodAll_mk1 (shut_bool Try.underlying4 _), (trodAll_cons_mk (Below.trod laidOut (by kernel_rfl) (of_decide_eq_true (by kernel_rfl)) h0 bel lt0) (trodAll_cons_mk (shut_int Try.underlying3 w1) (trodAll_cons_mk (shut_int Try.underlying3 w2) trodAll_mk0))), rfl, bel.frame _, fun h => by cases h⟩

theorem proved : Rows.IntsOneSaid :=
  OpenClaim.holds_of_wide 6 Try.f6 rfl rfl rfl rfl rfl rfl rfl ⟨rfl, rfl, rfl, rfl, rfl⟩ rfl rfl rfl rfl rfl (by kernel_rfl) Try.func6 (by kernel_rfl)
    (of_decide_eq_true (by kernel_rfl)) (by unfold Func.isWrapper; first | (rw [if_pos (by decide +kernel)]; kernel_rfl) | (rw [if_neg (by decide +kernel)]; exact ⟨rfl, rfl⟩))
    (fun os started H enc _ => lifted os started H enc)
end OneLaw
theorem intsOne_holds : Rows.IntsOneSaid := OneLaw.proved
#print axioms intsOne_holds
end Go.Proofs.Ytnlanilejhjkkaa
