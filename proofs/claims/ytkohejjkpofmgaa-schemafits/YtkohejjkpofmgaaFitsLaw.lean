/- For every schema, row and field: Fit and Place answer as the document says. No conditions. -/
import Derived.Test.YtkohejjkpofmgaaAlive
import Derived.Test.YtkohejjkpofmgaaFit2
import Derived.Test.YtkohejjkpofmgaaRefFit
import Derived.Test.YtkohejjkpofmgaaGreat
import Derived.Test.YtkohejjkpofmgaaStill
import Derived.Test.YtkohejjkpofmgaaOpen
set_option linter.unusedVariables false
set_option linter.unusedSimpArgs false
namespace Go.Proofs.Ytkohejjkpofmgaa
namespace FitsLaw
open Go.ChangeShapes Go.WideShapes Go.ChangeAt Go.RowKit Go.Lib
open Go.ChangeMaps (open_string shut_string)

theorem plz_max (p : Option Nat) : max (plz p) 0 = ((p.getD 0 : Nat) : Int) ∧ decide (plz p ≥ 0) = p.isSome := by
  cases p with
  | none => exact ⟨by decide, by decide⟩
  | some k =>
    refine ⟨?_, ?_⟩
    · show max (k : Int) 0 = (k : Int)
      omega
    · show decide ((k : Int) ≥ 0) = true
      exact decide_eq_true (by omega)

set_option maxRecDepth 100000 in
set_option maxHeartbeats 8000000 in
theorem walk {w : World} {u cv : Value} {l : List Fd} {r : List Cl} (hs : Sf w u l) (ho : ∀ f ∈ l, Okf f) (id : Nat) (hid : id < 4294967296) (hc : Sc w cv r) (hoc : ∀ c ∈ r, Okc c) (fid : Nat) (hf : fid < 4294967296) :
    Calls Try.prog 4 #[.agg #[.int .u32 (id : Int), u], cv, .int .u32 (fid : Int)] w fun e w' => e = .returned (.bool true) ∧ Below w.heap.size w w' := by
  have HOC := hidden hoc
  obtain ⟨a, cap, rfl, hcap, hcm⟩ := hs.form
  obtain ⟨ra, rcap, rfl, hrcap, hrcm⟩ := hc.form
  have hrcm' : rcap ≤ 9223372036854775807 := by unfold maxLen at hrcm; omega
  have hb0 := below_one w (.cells #[.int .u32 (id : Int), .slice a l.length cap] 25)
  have hz : w.heap.size < (w.alloc (.cells #[.int .u32 (id : Int), .slice a l.length cap] 25)).heap.size := by rw [World.size_alloc]; omega
  have HT : Hid (∀ U, Below (w.alloc (.cells #[.int .u32 (id : Int), .slice a l.length cap] 25)).heap.size (w.alloc (.cells #[.int .u32 (id : Int), .slice a l.length cap] 25)) U → Sf U (.slice a l.length cap) l ∧ (U.cell? ⟨w.heap.size, 0, none⟩ = some (.int .u32 (id : Int)) ∧ U.cell? ⟨w.heap.size, 1, none⟩ = some (.slice a l.length cap)) ∧ Sc U (.slice ra r.length rcap) r) := hidden (fun U h => by
    obtain ⟨c0, c1⟩ := cell_new2 w (.int .u32 (id : Int)) (.slice a l.length cap) 25
    exact ⟨(hs.kept hb0).kept h, ⟨(h.cell (p := ⟨w.heap.size, 0, none⟩) hz).trans c0, (h.cell (p := ⟨w.heap.size, 1, none⟩) hz).trans c1⟩, (hc.kept hb0).kept h⟩)
  have HB0 := hidden hb0
  clear hs hb0 ho hcap hcm hc hoc hrcap hrcm
  generalize hW : w.alloc (.cells #[.int .u32 (id : Int), .slice a l.length cap] 25) = W at *
  go_enter Try.func4, Try.ntmps4
  go_wp2_with fail
  try rw [hW]
  clear hW
  refine (alive_any _).mono ?_
  rintro e w1 ⟨rfl, hb1⟩
  have HX1 := hidden hb1
  obtain ⟨hsf, ⟨c0, c1⟩, _⟩ := HT.out _ hb1
  have HG := hidden (great_any hsf id)
  clear hb1 hsf
  go_wp2_with fail
  refine HG.out.mono ?_
  rintro e w2 ⟨⟨g, rfl, hg⟩, hb2⟩
  have HX2 := hidden (below_then HX1.out hb2)
  have HB2 := hidden (below_then HB0.out HX2.out)
  have HGG := hidden hg
  clear hg hb2 c0 c1 HG
  cases g with
  | true =>
    go_wp2_with fail
    go_ret
    exact ⟨rfl, HB2.out⟩
  | false =>
    obtain ⟨hl, hsz⟩ := HGG.out rfl
    by_cases hn : (r.length : Int) > 100
    · go_wp2_with fail
      go_ret
      exact ⟨rfl, HB2.out⟩
    · have hr600 : r.length ≤ 600 := by omega
      obtain ⟨hsf, ⟨c0, c1⟩, _⟩ := HT.out _ HX2.out
      have HP := hidden (place_any hsf id fid)
      have HPM := hidden (plz_max (place l fid))
      clear hsf
      go_wp2_with fail
      refine HP.out.mono ?_
      rintro e w3 ⟨rfl, hb3⟩
      have HX3 := hidden (below_then HX2.out hb3)
      clear hb3 c0 c1 HP
      obtain ⟨hsf, ⟨c0, c1⟩, _⟩ := HT.out _ HX3.out
      have HP := hidden (refPlace_any hsf id fid)
      clear hsf
      go_wp2_with fail
      refine HP.out.mono ?_
      rintro e w4 ⟨rfl, hb4⟩
      have HX4 := hidden (below_then HX3.out hb4)
      clear hb4 c0 c1 HP
      generalize place l fid = P at *
      have HFIN : Hid (∀ c ∈ r.map fixC, Fine c) := hidden (fun c hc => by
        obtain ⟨x, hx, rfl⟩ := List.mem_map.1 hc
        exact fixC_fine (HOC.out x hx))
      have HCC : Hid (∀ U, Below w4.heap.size w4 U → U.cell? ⟨w.heap.size, 0, none⟩ = some (.int .u32 (id : Int)) ∧ U.cell? ⟨w.heap.size, 1, none⟩ = some (.slice a l.length cap)) := hidden (fun U h => (HT.out U (below_then HX4.out h)).2.1)
      have HS1 : Hid (∀ U, Below w4.heap.size w4 U → Calls Try.prog 19 #[.slice ra r.length rcap] U fun e w' => ∃ v', e = .returned v' ∧ Sv w' v' (vvals (r.map fixC)) ∧ Below U.heap.size U w' ∧ Below w4.heap.size w4 w' ∧ (w'.cell? ⟨w.heap.size, 0, none⟩ = some (.int .u32 (id : Int)) ∧ w'.cell? ⟨w.heap.size, 1, none⟩ = some (.slice a l.length cap))) := hidden (fun U h => (row6_any (HT.out U (below_then HX4.out h)).2.2 HOC.out hr600).mono (by
        rintro e w5 ⟨⟨v5, rfl, o5⟩, hb5⟩
        exact ⟨v5, rfl, o5.sv, hb5, below_then h hb5, HCC.out _ (below_then h hb5)⟩))
      have HS2 : Hid (∀ U, Below w4.heap.size w4 U → Calls Try.prog 21 #[.slice ra r.length rcap] U fun e w' => ∃ v', e = .returned v' ∧ Sc w' v' (r.map fixC) ∧ Below U.heap.size U w' ∧ Below w4.heap.size w4 w' ∧ (w'.cell? ⟨w.heap.size, 0, none⟩ = some (.int .u32 (id : Int)) ∧ w'.cell? ⟨w.heap.size, 1, none⟩ = some (.slice a l.length cap))) := hidden (fun U h => (fixRow_any (HT.out U (below_then HX4.out h)).2.2 hr600).mono (by
        rintro e w5 ⟨⟨v5, rfl, o5⟩, hb5⟩
        exact ⟨v5, rfl, o5.sc, hb5, below_then h hb5, HCC.out _ (below_then h hb5)⟩))
      have HS3 : Hid (∀ U v, Below w4.heap.size w4 U → Sv U v (vvals (r.map fixC)) → Calls Try.prog 18 #[.agg #[.int .u32 (id : Int), .slice a l.length cap], v] U fun e w' => e = .returned (.int .i64 (fitM l (r.map fixC) : Int)) ∧ Below U.heap.size U w' ∧ Below w4.heap.size w4 w' ∧ (w'.cell? ⟨w.heap.size, 0, none⟩ = some (.int .u32 (id : Int)) ∧ w'.cell? ⟨w.heap.size, 1, none⟩ = some (.slice a l.length cap))) := hidden (fun U v h hv => (fit_any (HT.out U (below_then HX4.out h)).1 hv HFIN.out id).mono (by
        rintro e w5 ⟨rfl, hb5⟩
        exact ⟨rfl, hb5, below_then h hb5, HCC.out _ (below_then h hb5)⟩))
      have HS4 : Hid (∀ U v, Below w4.heap.size w4 U → Sc U v (r.map fixC) → Calls Try.prog 20 #[.agg #[.int .u32 (id : Int), .slice a l.length cap], v] U fun e w' => e = .returned (.int .i64 (fitM l (r.map fixC) : Int)) ∧ Below U.heap.size U w' ∧ Below w4.heap.size w4 w' ∧ (w'.cell? ⟨w.heap.size, 0, none⟩ = some (.int .u32 (id : Int)) ∧ w'.cell? ⟨w.heap.size, 1, none⟩ = some (.slice a l.length cap))) := hidden (fun U v h hv => (refFit_any (HT.out U (below_then HX4.out h)).1 hv id).mono (by
        rintro e w5 ⟨rfl, hb5⟩
        exact ⟨rfl, hb5, below_then h hb5, HCC.out _ (below_then h hb5)⟩))
      generalize fitM l (r.map fixC) = FM at *
      obtain ⟨c0, c1⟩ := HCC.out w4 (Below.refl _ _)
      have HB4 := hidden (below_then HB0.out HX4.out)
      have hcase : P = none ∨ P = some 0 ∨ ∃ k : Nat, P = some k ∧ 0 < k := by
        cases P with
        | none => exact Or.inl rfl
        | some k =>
          rcases Nat.eq_zero_or_pos k with h | h
          · exact Or.inr (Or.inl (by rw [h]))
          · exact Or.inr (Or.inr ⟨k, rfl, h⟩)
      clear HPM HT HFIN HOC HX1 HX2 HX3 HX4 HGG HB2
      rcases hcase with rfl | rfl | ⟨k, rfl, hk⟩
      · simp only [Option.getD_none, Option.isSome_none, show plz none = -1 from rfl]
        go_wp2_with fail
        go_region_held3 (fun w' => w'.cell? ⟨w.heap.size, 0, none⟩ = some (.int .u32 (id : Int)) ∧ w'.cell? ⟨w.heap.size, 1, none⟩ = some (.slice a l.length cap)) (first | assumption | go_keep) (first
          | (go_at_call 19; refine (HS1.out _ ?_).mono ?_; (first | exact HW5.out | exact HW6.out | exact HW7.out | exact HW8.out | exact (Below.refl _ _).drew | exact below_drewN (Below.refl _ _) _); rintro e w5 ⟨v5, rfl, hv5, hb5, hw5, hk5⟩; have HV5 := hidden hv5; have HB5 := hidden hb5; have HW5 := hidden hw5; clear hv5 hb5 hw5)
          | (go_at_call 21; refine (HS2.out _ ?_).mono ?_; (first | exact HW5.out | exact HW6.out | exact HW7.out | exact HW8.out | exact (Below.refl _ _).drew | exact below_drewN (Below.refl _ _) _); rintro e w6 ⟨v6, rfl, hv6, hb6, hw6, hk6⟩; have HV6 := hidden hv6; have HB6 := hidden hb6; have HW6 := hidden hw6; clear hv6 hb6 hw6)
          | (go_at_call 18; refine (HS3.out _ _ ?_ ?_).mono ?_; (first | exact HW5.out | exact HW6.out | exact HW7.out | exact HW8.out | exact (Below.refl _ _).drew | exact below_drewN (Below.refl _ _) _); (first | exact HV5.out | exact HV5.out.kept HB6.out | exact (HV5.out.kept HB6.out).kept HB8.out); rintro e w7 ⟨rfl, hb7, hw7, hk7⟩; have HB7 := hidden hb7; have HW7 := hidden hw7; clear hb7 hw7)
          | (go_at_call 20; refine (HS4.out _ _ ?_ ?_).mono ?_; (first | exact HW5.out | exact HW6.out | exact HW7.out | exact HW8.out | exact (Below.refl _ _).drew | exact below_drewN (Below.refl _ _) _); (first | exact HV6.out | exact HV6.out.kept HB5.out | exact (HV6.out.kept HB5.out).kept HB7.out); rintro e w8 ⟨rfl, hb8, hw8, hk8⟩; have HB8 := hidden hb8; have HW8 := hidden hw8; clear hb8 hw8))
        all_goals go_wp2_with fail
        all_goals go_ret
        all_goals first | exact ⟨rfl, below_then HB4.out HW8.out⟩ | exact ⟨rfl, below_then HB4.out HW7.out⟩
      · simp only [Option.getD_some, Option.isSome_some, show plz (some 0) = 0 from rfl]
        go_wp2_with fail
        go_region_held3 (fun w' => w'.cell? ⟨w.heap.size, 0, none⟩ = some (.int .u32 (id : Int)) ∧ w'.cell? ⟨w.heap.size, 1, none⟩ = some (.slice a l.length cap)) (first | assumption | go_keep) (first
          | (go_at_call 19; refine (HS1.out _ ?_).mono ?_; (first | exact HW5.out | exact HW6.out | exact HW7.out | exact HW8.out | exact (Below.refl _ _).drew | exact below_drewN (Below.refl _ _) _); rintro e w5 ⟨v5, rfl, hv5, hb5, hw5, hk5⟩; have HV5 := hidden hv5; have HB5 := hidden hb5; have HW5 := hidden hw5; clear hv5 hb5 hw5)
          | (go_at_call 21; refine (HS2.out _ ?_).mono ?_; (first | exact HW5.out | exact HW6.out | exact HW7.out | exact HW8.out | exact (Below.refl _ _).drew | exact below_drewN (Below.refl _ _) _); rintro e w6 ⟨v6, rfl, hv6, hb6, hw6, hk6⟩; have HV6 := hidden hv6; have HB6 := hidden hb6; have HW6 := hidden hw6; clear hv6 hb6 hw6)
          | (go_at_call 18; refine (HS3.out _ _ ?_ ?_).mono ?_; (first | exact HW5.out | exact HW6.out | exact HW7.out | exact HW8.out | exact (Below.refl _ _).drew | exact below_drewN (Below.refl _ _) _); (first | exact HV5.out | exact HV5.out.kept HB6.out | exact (HV5.out.kept HB6.out).kept HB8.out); rintro e w7 ⟨rfl, hb7, hw7, hk7⟩; have HB7 := hidden hb7; have HW7 := hidden hw7; clear hb7 hw7)
          | (go_at_call 20; refine (HS4.out _ _ ?_ ?_).mono ?_; (first | exact HW5.out | exact HW6.out | exact HW7.out | exact HW8.out | exact (Below.refl _ _).drew | exact below_drewN (Below.refl _ _) _); (first | exact HV6.out | exact HV6.out.kept HB5.out | exact (HV6.out.kept HB5.out).kept HB7.out); rintro e w8 ⟨rfl, hb8, hw8, hk8⟩; have HB8 := hidden hb8; have HW8 := hidden hw8; clear hb8 hw8))
        all_goals go_wp2_with fail
        all_goals go_ret
        all_goals first | exact ⟨rfl, below_then HB4.out HW8.out⟩ | exact ⟨rfl, below_then HB4.out HW7.out⟩
      · simp only [Option.getD_some, Option.isSome_some, show plz (some k) = (k : Int) from rfl]
        have hk1 : (0 : Int) < (k : Int) := by omega
        have hk2 : ¬ (k : Int) < 0 := by omega
        have hk3 : (k : Int) ≥ 0 := by omega
        have hk4 : ((k : Int) == 0) = false := beq_eq_false_iff_ne.2 (by omega)
        go_wp2_with fail
        go_region_held3 (fun w' => w'.cell? ⟨w.heap.size, 0, none⟩ = some (.int .u32 (id : Int)) ∧ w'.cell? ⟨w.heap.size, 1, none⟩ = some (.slice a l.length cap)) (first | assumption | go_keep) (first
          | (go_at_call 19; refine (HS1.out _ ?_).mono ?_; (first | exact HW5.out | exact HW6.out | exact HW7.out | exact HW8.out | exact (Below.refl _ _).drew | exact below_drewN (Below.refl _ _) _); rintro e w5 ⟨v5, rfl, hv5, hb5, hw5, hk5⟩; have HV5 := hidden hv5; have HB5 := hidden hb5; have HW5 := hidden hw5; clear hv5 hb5 hw5)
          | (go_at_call 21; refine (HS2.out _ ?_).mono ?_; (first | exact HW5.out | exact HW6.out | exact HW7.out | exact HW8.out | exact (Below.refl _ _).drew | exact below_drewN (Below.refl _ _) _); rintro e w6 ⟨v6, rfl, hv6, hb6, hw6, hk6⟩; have HV6 := hidden hv6; have HB6 := hidden hb6; have HW6 := hidden hw6; clear hv6 hb6 hw6)
          | (go_at_call 18; refine (HS3.out _ _ ?_ ?_).mono ?_; (first | exact HW5.out | exact HW6.out | exact HW7.out | exact HW8.out | exact (Below.refl _ _).drew | exact below_drewN (Below.refl _ _) _); (first | exact HV5.out | exact HV5.out.kept HB6.out | exact (HV5.out.kept HB6.out).kept HB8.out); rintro e w7 ⟨rfl, hb7, hw7, hk7⟩; have HB7 := hidden hb7; have HW7 := hidden hw7; clear hb7 hw7)
          | (go_at_call 20; refine (HS4.out _ _ ?_ ?_).mono ?_; (first | exact HW5.out | exact HW6.out | exact HW7.out | exact HW8.out | exact (Below.refl _ _).drew | exact below_drewN (Below.refl _ _) _); (first | exact HV6.out | exact HV6.out.kept HB5.out | exact (HV6.out.kept HB5.out).kept HB7.out); rintro e w8 ⟨rfl, hb8, hw8, hk8⟩; have HB8 := hidden hb8; have HW8 := hidden hw8; clear hb8 hw8))
        all_goals go_wp2_with fail
        all_goals go_ret
        all_goals first | exact ⟨rfl, below_then HB4.out HW8.out⟩ | exact ⟨rfl, below_then HB4.out HW7.out⟩

set_option maxRecDepth 100000 in
theorem lifted (os : Os) (started : os.Started) (H : Type) (enc : TypeId × Value → H) :
    ReturnsInHanded {} Try.checked os 4 .any (Rows.schemaFitsSpec.pre6 enc Try.prog Try.f4 Rows.schemaFitsRow.domain false) (Rows.schemaFitsSpec.post enc Try.prog Try.f4 false true false false) := by
  refine returnsInHanded_of_change (C := Try.checked) own started (by kernel_rfl) Try.func4
    (ChangeSpec.witness6 (enc := enc) (C := Try.checked) false ⟨#[], #[.agg #[.int .u32 0, .slice none 0 0], .slice none 0 0, .int .u32 0], []⟩ 8 (by kernel_rfl) (by kernel_rfl) (by kernel_rfl) (by kernel_rfl)) ?_
  intro W base args ds gs before hval0 hW hcnd _
  have hval : ∀ (j : Nat) t v, Try.f4.params[j]? = some t → args[j]? = some v → Value.okWide Try.prog W .any base t v := hval0
  have hW' := hW
  obtain ⟨p, q, hA0, hV, rfl, hfz, hnd⟩ := hW
  have hA : DataW.TrodAll enc Try.prog W 0 (fun _ => true) true Try.f4.params.toList args.toList ds p := hA0
  rw [Try.params4] at hA hval
  obtain ⟨v0, vs0, d0, ds0, p0, q0, hargs, rfl, rfl, h0, r0⟩ := trodAll_cons hA
  obtain ⟨v1, vs1, d1, ds1, p1, q1, rfl, rfl, rfl, h1, r1⟩ := trodAll_cons r0
  obtain ⟨v2, vs2, d2, ds2, p2, q2, rfl, rfl, rfl, h2, r2⟩ := trodAll_cons r1
  obtain ⟨rfl, rfl, rfl⟩ := trodAll_nil r2
  obtain rfl : args = #[v0, v1, v2] := by cases args; simp_all
  obtain ⟨rfl, rfl⟩ := trodVars_none hV
  have lt0 : ∀ x ∈ p0, x.block < W.heap.size := by obtain ⟨m, hm⟩ := h0; exact DataW.trod_lt m _ _ _ hm
  obtain ⟨id0, u0, l0, rfl, hid0, hl0, ho0⟩ := open_schema (hval 0 25 v0 rfl rfl) h0
  have lt1 : ∀ x ∈ p1, x.block < W.heap.size := by obtain ⟨m, hm⟩ := h1; exact DataW.trod_lt m _ _ _ hm
  obtain ⟨a1, len1, cap1, rfl⟩ := okWide_slice Try.underlying38 (hval 1 38 v1 rfl rfl)
  obtain ⟨l1, hl1, ho1⟩ := open_cells h1
  obtain ⟨a2, rfl, rfl, rfl, w2⟩ := open_int Try.underlying22 (hval 2 22 v2 rfl rfl) h2
  have g2 := bounds_u32 w2
  obtain ⟨n2, rfl⟩ := Int.eq_ofNat_of_zero_le g2.1
  clear hA0 hval0
  refine (walk hl0 ho0 id0 hid0 hl1 ho1 n2 (by omega)).mono fun e W' ⟨he, bel⟩ => ?_
  subst he
  exact ⟨_, rfl, _, _, _, [], _, [], hW', trodAll_mk1 (shut_bool Try.underlying4 _), (trodAll_cons_mk (Below.trod laidOut (by kernel_rfl) (of_decide_eq_true (by kernel_rfl)) h0 bel lt0) (trodAll_cons_mk (Below.trod laidOut (by kernel_rfl) (of_decide_eq_true (by kernel_rfl)) h1 bel lt1) (trodAll_cons_mk (shut_int Try.underlying22 w2) trodAll_mk0))), rfl, bel.frame _, fun h => by cases h⟩

theorem proved : Rows.SchemaFitsSaid :=
  OpenClaim.holds_of_wide 4 Try.f4 rfl rfl rfl rfl rfl rfl rfl ⟨rfl, rfl, rfl, rfl, rfl⟩ rfl rfl rfl rfl rfl (by kernel_rfl) Try.func4 (by kernel_rfl)
    (of_decide_eq_true (by kernel_rfl)) (by unfold Func.isWrapper; first | (rw [if_pos (by decide +kernel)]; kernel_rfl) | (rw [if_neg (by decide +kernel)]; exact ⟨rfl, rfl⟩))
    (fun os started H enc _ => lifted os started H enc)
end FitsLaw
theorem schemaFits_holds : Rows.SchemaFitsSaid := FitsLaw.proved
#print axioms schemaFits_holds
end Go.Proofs.Ytkohejjkpofmgaa
