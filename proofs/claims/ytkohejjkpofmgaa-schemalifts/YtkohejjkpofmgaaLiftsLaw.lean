/- For any two schemas and any row: Lift answers as the document says. No conditions. -/
import Derived.Test.YtkohejjkpofmgaaAlive
import Derived.Test.YtkohejjkpofmgaaGreat
import Derived.Test.YtkohejjkpofmgaaOpen
set_option linter.unusedVariables false
set_option linter.unusedSimpArgs false
namespace Go.Proofs.Ytkohejjkpofmgaa
namespace LiftsLaw
open Go.ChangeShapes Go.WideShapes Go.ChangeAt Go.RowKit Go.Lib
open Go.ChangeMaps (open_string shut_string)

set_option maxRecDepth 100000 in
set_option maxHeartbeats 8000000 in
theorem walk {w : World} {u1 u2 cv : Value} {l m : List Fd} {r : List Cl} (hs1 : Sf w u1 l) (ho1 : ∀ f ∈ l, Okf f) (i1 : Nat) (hid1 : i1 < 4294967296) (hs2 : Sf w u2 m) (ho2 : ∀ f ∈ m, Okf f) (i2 : Nat) (hid2 : i2 < 4294967296) (hc : Sc w cv r) (hoc : ∀ c ∈ r, Okc c) :
    Calls Try.prog 5 #[.agg #[.int .u32 (i1 : Int), u1], .agg #[.int .u32 (i2 : Int), u2], cv] w fun e w' => e = .returned (.bool true) ∧ Below w.heap.size w w' := by
  have HOC := hidden hoc
  obtain ⟨a, cap, rfl, hcap, hcm⟩ := hs1.form
  obtain ⟨a2, cap2, rfl, hcap2, hcm2⟩ := hs2.form
  obtain ⟨ra, rcap, rfl, hrcap, hrcm⟩ := hc.form
  have hrcm' : rcap ≤ 9223372036854775807 := by unfold maxLen at hrcm; omega
  have hb0 : Below w.heap.size w ((w.alloc (.cells #[.int .u32 (i1 : Int), .slice a l.length cap] 25)).alloc (.cells #[.int .u32 (i2 : Int), .slice a2 m.length cap2] 25)) := ((Below.refl _ _).alloc (Nat.le_refl _) _).alloc (by rw [World.size_alloc]; omega) _
  have hz0 : (w.alloc (.cells #[.int .u32 (i1 : Int), .slice a l.length cap] 25)).heap.size = w.heap.size + 1 := World.size_alloc _ _
  have hzW : w.heap.size + 1 < ((w.alloc (.cells #[.int .u32 (i1 : Int), .slice a l.length cap] 25)).alloc (.cells #[.int .u32 (i2 : Int), .slice a2 m.length cap2] 25)).heap.size := by rw [World.size_alloc, World.size_alloc]; omega
  have HT : Hid (∀ U, Below ((w.alloc (.cells #[.int .u32 (i1 : Int), .slice a l.length cap] 25)).alloc (.cells #[.int .u32 (i2 : Int), .slice a2 m.length cap2] 25)).heap.size ((w.alloc (.cells #[.int .u32 (i1 : Int), .slice a l.length cap] 25)).alloc (.cells #[.int .u32 (i2 : Int), .slice a2 m.length cap2] 25)) U → (Sf U (.slice a l.length cap) l ∧ Sf U (.slice a2 m.length cap2) m ∧ Sc U (.slice ra r.length rcap) r) ∧ (U.cell? ⟨w.heap.size, 0, none⟩ = some (.int .u32 (i1 : Int)) ∧ U.cell? ⟨w.heap.size, 1, none⟩ = some (.slice a l.length cap) ∧ U.cell? ⟨w.heap.size + 1, 0, none⟩ = some (.int .u32 (i2 : Int)) ∧ U.cell? ⟨w.heap.size + 1, 1, none⟩ = some (.slice a2 m.length cap2))) := hidden (fun U h => by
    obtain ⟨c0, c1⟩ := cell_new2 w (.int .u32 (i1 : Int)) (.slice a l.length cap) 25
    have hb1 := below_one (w.alloc (.cells #[.int .u32 (i1 : Int), .slice a l.length cap] 25)) (.cells #[.int .u32 (i2 : Int), .slice a2 m.length cap2] 25)
    obtain ⟨e0, e1⟩ := cell_new2 (w.alloc (.cells #[.int .u32 (i1 : Int), .slice a l.length cap] 25)) (.int .u32 (i2 : Int)) (.slice a2 m.length cap2) 25
    rw [hz0] at e0 e1
    exact ⟨⟨(hs1.kept hb0).kept h, (hs2.kept hb0).kept h, (hc.kept hb0).kept h⟩, (h.cell (p := ⟨w.heap.size, 0, none⟩) (show w.heap.size < _ by omega)).trans ((hb1.cell (p := ⟨w.heap.size, 0, none⟩) (show w.heap.size < _ by omega)).trans c0), (h.cell (p := ⟨w.heap.size, 1, none⟩) (show w.heap.size < _ by omega)).trans ((hb1.cell (p := ⟨w.heap.size, 1, none⟩) (show w.heap.size < _ by omega)).trans c1), (h.cell (p := ⟨w.heap.size + 1, 0, none⟩) hzW).trans e0, (h.cell (p := ⟨w.heap.size + 1, 1, none⟩) hzW).trans e1⟩)
  have HB0 := hidden hb0
  clear hs1 hs2 hb0 ho1 ho2 hcap hcm hcap2 hcm2 hc hoc hrcap hrcm hz0
  generalize hW : ((w.alloc (.cells #[.int .u32 (i1 : Int), .slice a l.length cap] 25)).alloc (.cells #[.int .u32 (i2 : Int), .slice a2 m.length cap2] 25)) = W at *
  go_enter Try.func5, Try.ntmps5
  go_wp2_with fail
  try rw [hW]
  clear hW
  refine (alive_any _).mono ?_
  rintro e w1 ⟨rfl, hb1⟩
  have HX1 := hidden hb1
  obtain ⟨⟨hsf, _, _⟩, c0, c1, c2, c3⟩ := HT.out _ hb1
  have HG := hidden (great_any hsf i1)
  clear hb1 hsf
  go_wp2_with fail
  refine HG.out.mono ?_
  rintro e w2 ⟨⟨g, rfl, hg⟩, hb2⟩
  have HX2 := hidden (below_then HX1.out hb2)
  have HB2 := hidden (below_then HB0.out HX2.out)
  have HGG := hidden hg
  clear hg hb2 c0 c1 c2 c3 HG
  cases g with
  | true =>
    go_wp2_with fail
    go_ret
    exact ⟨rfl, HB2.out⟩
  | false =>
    obtain ⟨hl, hsz⟩ := HGG.out rfl
    obtain ⟨⟨_, hsf, _⟩, c0, c1, c2, c3⟩ := HT.out _ HX2.out
    have HG2 := hidden (great_any hsf i2)
    clear hsf
    go_wp2_with fail
    refine HG2.out.mono ?_
    rintro e w3 ⟨⟨g, rfl, hg⟩, hb3⟩
    have HX3 := hidden (below_then HX2.out hb3)
    have HB3 := hidden (below_then HB0.out HX3.out)
    have HGG2 := hidden hg
    clear hg hb3 c0 c1 c2 c3 HG2
    cases g with
    | true =>
      go_wp2_with fail
      go_ret
      exact ⟨rfl, HB3.out⟩
    | false =>
      obtain ⟨hl2, hsz2⟩ := HGG2.out rfl
      by_cases hn : (r.length : Int) > 100
      · go_wp2_with fail
        go_ret
        exact ⟨rfl, HB3.out⟩
      · have hr600 : r.length ≤ 600 := by omega
        have HFIN : Hid (∀ c ∈ r.map fixC, Fine c) := hidden (fun c hc => by
          obtain ⟨x, hx, rfl⟩ := List.mem_map.1 hc
          exact fixC_fine (HOC.out x hx))
        have HFL : Hid (∀ c ∈ liftM l m (r.map fixC), Fine c) := hidden (lift_fine (P := Fine) (Or.inl rfl) HFIN.out)
        have hlm : (liftM l m (r.map fixC)).length ≤ 600 := by rw [liftM_length]; omega
        have HCC : Hid (∀ U, Below w3.heap.size w3 U → U.cell? ⟨w.heap.size, 0, none⟩ = some (.int .u32 (i1 : Int)) ∧ U.cell? ⟨w.heap.size, 1, none⟩ = some (.slice a l.length cap) ∧ U.cell? ⟨w.heap.size + 1, 0, none⟩ = some (.int .u32 (i2 : Int)) ∧ U.cell? ⟨w.heap.size + 1, 1, none⟩ = some (.slice a2 m.length cap2)) := hidden (fun U h => (HT.out U (below_then HX3.out h)).2)
        have HS1 : Hid (∀ U, Below w3.heap.size w3 U → Calls Try.prog 19 #[.slice ra r.length rcap] U fun e w' => ∃ v', e = .returned v' ∧ Sv w' v' (vvals (r.map fixC)) ∧ Below U.heap.size U w' ∧ Below w3.heap.size w3 w' ∧ (w'.cell? ⟨w.heap.size, 0, none⟩ = some (.int .u32 (i1 : Int)) ∧ w'.cell? ⟨w.heap.size, 1, none⟩ = some (.slice a l.length cap) ∧ w'.cell? ⟨w.heap.size + 1, 0, none⟩ = some (.int .u32 (i2 : Int)) ∧ w'.cell? ⟨w.heap.size + 1, 1, none⟩ = some (.slice a2 m.length cap2))) := hidden (fun U h => (row6_any (HT.out U (below_then HX3.out h)).1.2.2 HOC.out hr600).mono (by
          rintro e w5 ⟨⟨v5, rfl, o5⟩, hb5⟩
          exact ⟨v5, rfl, o5.sv, hb5, below_then h hb5, HCC.out _ (below_then h hb5)⟩))
        have HS2 : Hid (∀ U v, Below w3.heap.size w3 U → Sv U v (vvals (r.map fixC)) → Calls Try.prog 24 #[.agg #[.int .u32 (i1 : Int), .slice a l.length cap], .agg #[.int .u32 (i2 : Int), .slice a2 m.length cap2], v] U fun e w' => ∃ v', e = .returned v' ∧ Sv w' v' (vvals (liftM l m (r.map fixC))) ∧ Below U.heap.size U w' ∧ Below w3.heap.size w3 w' ∧ (w'.cell? ⟨w.heap.size, 0, none⟩ = some (.int .u32 (i1 : Int)) ∧ w'.cell? ⟨w.heap.size, 1, none⟩ = some (.slice a l.length cap) ∧ w'.cell? ⟨w.heap.size + 1, 0, none⟩ = some (.int .u32 (i2 : Int)) ∧ w'.cell? ⟨w.heap.size + 1, 1, none⟩ = some (.slice a2 m.length cap2))) := hidden (fun U v h hv => (lift_any (HT.out U (below_then HX3.out h)).1.1 (HT.out U (below_then HX3.out h)).1.2.1 hv hl2 i1 i2).mono (by
          rintro e w5 ⟨⟨v5, rfl, o5⟩, hb5⟩
          exact ⟨v5, rfl, o5.sv, hb5, below_then h hb5, HCC.out _ (below_then h hb5)⟩))
        have HS3 : Hid (∀ U v, Below w3.heap.size w3 U → Sv U v (vvals (liftM l m (r.map fixC))) → Calls Try.prog 23 #[v] U fun e w' => ∃ v', e = .returned v' ∧ Sc w' v' (liftM l m (r.map fixC)) ∧ Below U.heap.size U w' ∧ Below w3.heap.size w3 w' ∧ (w'.cell? ⟨w.heap.size, 0, none⟩ = some (.int .u32 (i1 : Int)) ∧ w'.cell? ⟨w.heap.size, 1, none⟩ = some (.slice a l.length cap) ∧ w'.cell? ⟨w.heap.size + 1, 0, none⟩ = some (.int .u32 (i2 : Int)) ∧ w'.cell? ⟨w.heap.size + 1, 1, none⟩ = some (.slice a2 m.length cap2))) := hidden (fun U v h hv => (cells_any hv HFL.out hlm).mono (by
          rintro e w5 ⟨⟨v5, rfl, o5⟩, hb5⟩
          exact ⟨v5, rfl, o5.sc, hb5, below_then h hb5, HCC.out _ (below_then h hb5)⟩))
        have HS4 : Hid (∀ U, Below w3.heap.size w3 U → Calls Try.prog 21 #[.slice ra r.length rcap] U fun e w' => ∃ v', e = .returned v' ∧ Sc w' v' (r.map fixC) ∧ Below U.heap.size U w' ∧ Below w3.heap.size w3 w' ∧ (w'.cell? ⟨w.heap.size, 0, none⟩ = some (.int .u32 (i1 : Int)) ∧ w'.cell? ⟨w.heap.size, 1, none⟩ = some (.slice a l.length cap) ∧ w'.cell? ⟨w.heap.size + 1, 0, none⟩ = some (.int .u32 (i2 : Int)) ∧ w'.cell? ⟨w.heap.size + 1, 1, none⟩ = some (.slice a2 m.length cap2))) := hidden (fun U h => (fixRow_any (HT.out U (below_then HX3.out h)).1.2.2 hr600).mono (by
          rintro e w5 ⟨⟨v5, rfl, o5⟩, hb5⟩
          exact ⟨v5, rfl, o5.sc, hb5, below_then h hb5, HCC.out _ (below_then h hb5)⟩))
        have HS5 : Hid (∀ U v, Below w3.heap.size w3 U → Sc U v (r.map fixC) → Calls Try.prog 25 #[.agg #[.int .u32 (i1 : Int), .slice a l.length cap], .agg #[.int .u32 (i2 : Int), .slice a2 m.length cap2], v] U fun e w' => ∃ v', e = .returned v' ∧ Sc w' v' (liftM l m (r.map fixC)) ∧ Below U.heap.size U w' ∧ Below w3.heap.size w3 w' ∧ (w'.cell? ⟨w.heap.size, 0, none⟩ = some (.int .u32 (i1 : Int)) ∧ w'.cell? ⟨w.heap.size, 1, none⟩ = some (.slice a l.length cap) ∧ w'.cell? ⟨w.heap.size + 1, 0, none⟩ = some (.int .u32 (i2 : Int)) ∧ w'.cell? ⟨w.heap.size + 1, 1, none⟩ = some (.slice a2 m.length cap2))) := hidden (fun U v h hv => (refLift_any (HT.out U (below_then HX3.out h)).1.1 (HT.out U (below_then HX3.out h)).1.2.1 hv hl2 i1 i2).mono (by
          rintro e w5 ⟨⟨v5, rfl, o5⟩, hb5⟩
          exact ⟨v5, rfl, o5.sc, hb5, below_then h hb5, HCC.out _ (below_then h hb5)⟩))
        have HBS : Hid (∀ c ∈ liftM l m (r.map fixC), Bs c.2.2) := hidden (fun c hc => (HFL.out c hc).okc.2.2)
        have HS6 : Hid (∀ U v v', Below w3.heap.size w3 U → Sc U v (liftM l m (r.map fixC)) → Sc U v' (liftM l m (r.map fixC)) → Calls Try.prog 22 #[v, v'] U fun e w' => e = .returned (.bool true) ∧ Below U.heap.size U w' ∧ Below w3.heap.size w3 w' ∧ (w'.cell? ⟨w.heap.size, 0, none⟩ = some (.int .u32 (i1 : Int)) ∧ w'.cell? ⟨w.heap.size, 1, none⟩ = some (.slice a l.length cap) ∧ w'.cell? ⟨w.heap.size + 1, 0, none⟩ = some (.int .u32 (i2 : Int)) ∧ w'.cell? ⟨w.heap.size + 1, 1, none⟩ = some (.slice a2 m.length cap2))) := hidden (fun U v v' h hv hv' => (sameRow_any hv hv' HBS.out HBS.out).mono (by
          rintro e w5 ⟨rfl, hb5⟩
          rw [decide_eq_true rfl]
          exact ⟨rfl, hb5, below_then h hb5, HCC.out _ (below_then h hb5)⟩))
        generalize liftM l m (r.map fixC) = LM at *
        generalize hfr : r.map fixC = FR at *
        obtain ⟨c0, c1, c2, c3⟩ := HCC.out w3 (Below.refl _ _)
        clear HT HFIN HFL HBS hlm HOC HX1 HX2 HX3 HGG HGG2 HB2 hfr
        go_wp2_with fail
        go_region_held3 (fun w' => w'.cell? ⟨w.heap.size, 0, none⟩ = some (.int .u32 (i1 : Int)) ∧ w'.cell? ⟨w.heap.size, 1, none⟩ = some (.slice a l.length cap) ∧ w'.cell? ⟨w.heap.size + 1, 0, none⟩ = some (.int .u32 (i2 : Int)) ∧ w'.cell? ⟨w.heap.size + 1, 1, none⟩ = some (.slice a2 m.length cap2)) (first | assumption | go_keep) (first
          | (go_at_call 19; refine (HS1.out _ ?_).mono ?_; (first | exact (Below.refl _ _).drew | exact below_drewN (Below.refl _ _) _); rintro e w5 ⟨v5, rfl, hv5, hb5, hw5, hk5⟩; have HV5 := hidden hv5; have HW5 := hidden hw5; clear hv5 hb5 hw5)
          | (go_at_call 24; refine (HS2.out _ _ ?_ ?_).mono ?_; exact HW5.out; exact HV5.out; rintro e w6 ⟨v6, rfl, hv6, hb6, hw6, hk6⟩; have HV6 := hidden hv6; have HW6 := hidden hw6; clear hv6 hb6 hw6)
          | (go_at_call 23; refine (HS3.out _ _ ?_ ?_).mono ?_; exact HW6.out; exact HV6.out; rintro e w7 ⟨v7, rfl, hv7, hb7, hw7, hk7⟩; have HV7 := hidden hv7; have HW7 := hidden hw7; clear hv7 hb7 hw7)
          | (go_at_call 21; refine (HS4.out _ ?_).mono ?_; exact HW7.out; rintro e w8 ⟨v8, rfl, hv8, hb8, hw8, hk8⟩; have HV8 := hidden hv8; have HV78 := hidden (HV7.out.kept hb8); have HW8 := hidden hw8; clear hv8 hb8 hw8)
          | (go_at_call 25; refine (HS5.out _ _ ?_ ?_).mono ?_; exact HW8.out; exact HV8.out; rintro e w9 ⟨v9, rfl, hv9, hb9, hw9, hk9⟩; have HV9 := hidden hv9; have HV79 := hidden (HV78.out.kept hb9); have HW9 := hidden hw9; clear hv9 hb9 hw9)
          | (go_at_call 22; refine (HS6.out _ _ _ ?_ ?_ ?_).mono ?_; exact HW9.out; exact HV79.out; exact HV9.out; rintro e w10 ⟨rfl, hb10, hw10, hk10⟩; have HW10 := hidden hw10; clear hb10 hw10))
        all_goals go_wp2_with fail
        all_goals go_ret
        all_goals exact ⟨rfl, below_then HB3.out HW10.out⟩

set_option maxRecDepth 100000 in
theorem lifted (os : Os) (started : os.Started) (H : Type) (enc : TypeId × Value → H) :
    ReturnsInHanded {} Try.checked os 5 .any (Rows.schemaLiftsSpec.pre6 enc Try.prog Try.f5 Rows.schemaLiftsRow.domain false) (Rows.schemaLiftsSpec.post enc Try.prog Try.f5 false true false false) := by
  refine returnsInHanded_of_change (C := Try.checked) own started (by kernel_rfl) Try.func5
    (ChangeSpec.witness6 (enc := enc) (C := Try.checked) false ⟨#[], #[.agg #[.int .u32 0, .slice none 0 0], .agg #[.int .u32 0, .slice none 0 0], .slice none 0 0], []⟩ 8 (by kernel_rfl) (by kernel_rfl) (by kernel_rfl) (by kernel_rfl)) ?_
  intro W base args ds gs before hval0 hW hcnd _
  have hval : ∀ (j : Nat) t v, Try.f5.params[j]? = some t → args[j]? = some v → Value.okWide Try.prog W .any base t v := hval0
  have hW' := hW
  obtain ⟨p, q, hA0, hV, rfl, hfz, hnd⟩ := hW
  have hA : DataW.TrodAll enc Try.prog W 0 (fun _ => true) true Try.f5.params.toList args.toList ds p := hA0
  rw [Try.params5] at hA hval
  obtain ⟨v0, vs0, d0, ds0, p0, q0, hargs, rfl, rfl, h0, r0⟩ := trodAll_cons hA
  obtain ⟨v1, vs1, d1, ds1, p1, q1, rfl, rfl, rfl, h1, r1⟩ := trodAll_cons r0
  obtain ⟨v2, vs2, d2, ds2, p2, q2, rfl, rfl, rfl, h2, r2⟩ := trodAll_cons r1
  obtain ⟨rfl, rfl, rfl⟩ := trodAll_nil r2
  obtain rfl : args = #[v0, v1, v2] := by cases args; simp_all
  obtain ⟨rfl, rfl⟩ := trodVars_none hV
  have lt0 : ∀ x ∈ p0, x.block < W.heap.size := by obtain ⟨m, hm⟩ := h0; exact DataW.trod_lt m _ _ _ hm
  obtain ⟨id0, u0, l0, rfl, hid0, hl0, ho0⟩ := open_schema (hval 0 25 v0 rfl rfl) h0
  have lt1 : ∀ x ∈ p1, x.block < W.heap.size := by obtain ⟨m, hm⟩ := h1; exact DataW.trod_lt m _ _ _ hm
  obtain ⟨id1, u1, l1, rfl, hid1, hl1, ho1⟩ := open_schema (hval 1 25 v1 rfl rfl) h1
  have lt2 : ∀ x ∈ p2, x.block < W.heap.size := by obtain ⟨m, hm⟩ := h2; exact DataW.trod_lt m _ _ _ hm
  obtain ⟨a2, len2, cap2, rfl⟩ := okWide_slice Try.underlying38 (hval 2 38 v2 rfl rfl)
  obtain ⟨l2, hl2, ho2⟩ := open_cells h2
  clear hA0 hval0
  refine (walk hl0 ho0 id0 hid0 hl1 ho1 id1 hid1 hl2 ho2).mono fun e W' ⟨he, bel⟩ => ?_
  subst he
  exact ⟨_, rfl, _, _, _, [], _, [], hW', trodAll_mk1 (shut_bool Try.underlying4 _), (trodAll_cons_mk (Below.trod laidOut (by kernel_rfl) (of_decide_eq_true (by kernel_rfl)) h0 bel lt0) (trodAll_cons_mk (Below.trod laidOut (by kernel_rfl) (of_decide_eq_true (by kernel_rfl)) h1 bel lt1) (trodAll_cons_mk (Below.trod laidOut (by kernel_rfl) (of_decide_eq_true (by kernel_rfl)) h2 bel lt2) trodAll_mk0))), rfl, bel.frame _, fun h => by cases h⟩

theorem proved : Rows.SchemaLiftsSaid :=
  OpenClaim.holds_of_wide 5 Try.f5 rfl rfl rfl rfl rfl rfl rfl ⟨rfl, rfl, rfl, rfl, rfl⟩ rfl rfl rfl rfl rfl (by kernel_rfl) Try.func5 (by kernel_rfl)
    (of_decide_eq_true (by kernel_rfl)) (by unfold Func.isWrapper; first | (rw [if_pos (by decide +kernel)]; kernel_rfl) | (rw [if_neg (by decide +kernel)]; exact ⟨rfl, rfl⟩))
    (fun os started H enc _ => lifted os started H enc)
end LiftsLaw
theorem schemaLifts_holds : Rows.SchemaLiftsSaid := LiftsLaw.proved
#print axioms schemaLifts_holds
end Go.Proofs.Ytkohejjkpofmgaa
