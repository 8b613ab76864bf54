/- For every schema, name and kind: Check and Add answer as the document says. No conditions. -/
import Derived.Test.YtkohejjkpofmgaaAlive
import Derived.Test.YtkohejjkpofmgaaRefAdd
import Derived.Test.YtkohejjkpofmgaaSame
import Derived.Test.YtkohejjkpofmgaaGreat
import Derived.Test.YtkohejjkpofmgaaStill
import Derived.Test.YtkohejjkpofmgaaOpen
set_option linter.unusedVariables false
set_option linter.unusedSimpArgs false
namespace Go.Proofs.Ytkohejjkpofmgaa
namespace ChecksLaw
open Go.ChangeShapes Go.WideShapes Go.ChangeAt Go.RowKit Go.Lib
open Go.ChangeMaps (open_string shut_string)

set_option maxRecDepth 100000 in
set_option maxHeartbeats 8000000 in
theorem walk {w : World} {u : Value} {l : List Fd} (hs : Sf w u l) (ho : ∀ f ∈ l, Okf f) (id : Nat) (hid : id < 4294967296) (n : ByteArray) (k : Nat) (hk : k < 256) :
    Calls Try.prog 3 #[.agg #[.int .u32 (id : Int), u], .string n, .int .u8 (k : Int)] w fun e w' => e = .returned (.bool true) ∧ Below w.heap.size w w' := by
  have HO := hidden ho
  obtain ⟨a, cap, rfl, hcap, hcm⟩ := hs.form
  have hb0 := below_one w (.cells #[.int .u32 (id : Int), .slice a l.length cap] 25)
  have hz : w.heap.size < (w.alloc (.cells #[.int .u32 (id : Int), .slice a l.length cap] 25)).heap.size := by rw [World.size_alloc]; omega
  have HT : Hid (∀ U, Below (w.alloc (.cells #[.int .u32 (id : Int), .slice a l.length cap] 25)).heap.size (w.alloc (.cells #[.int .u32 (id : Int), .slice a l.length cap] 25)) U → Sf U (.slice a l.length cap) l ∧ U.cell? ⟨w.heap.size, 0, none⟩ = some (.int .u32 (id : Int)) ∧ U.cell? ⟨w.heap.size, 1, none⟩ = some (.slice a l.length cap)) := hidden (fun U h => by
    obtain ⟨c0, c1⟩ := cell_new2 w (.int .u32 (id : Int)) (.slice a l.length cap) 25
    exact ⟨(hs.kept hb0).kept h, (h.cell (p := ⟨w.heap.size, 0, none⟩) hz).trans c0, (h.cell (p := ⟨w.heap.size, 1, none⟩) hz).trans c1⟩)
  have HB0 := hidden hb0
  clear hs hb0 ho hcap hcm
  generalize hW : w.alloc (.cells #[.int .u32 (id : Int), .slice a l.length cap] 25) = W at *
  go_enter Try.func3, Try.ntmps3
  go_wp2_with fail
  try rw [hW]
  clear hW
  refine (alive_any _).mono ?_
  rintro e w1 ⟨rfl, hb1⟩
  have HX1 := hidden hb1
  obtain ⟨hsf, c0, c1⟩ := HT.out _ hb1
  have HG := hidden (great_any hsf id)
  clear hb1 hsf
  go_wp2_with fail
  refine HG.out.mono ?_
  rintro e w2 ⟨⟨g, rfl, hg⟩, hb2⟩
  have HX2 := hidden (below_then HX1.out hb2)
  have HB2 := hidden (below_then HB0.out HX2.out)
  have HGG := hidden hg
  clear hg hb2 c0 c1 HG
  cases g with
  | true =>
    go_wp2_with fail
    go_ret
    exact ⟨rfl, HB2.out⟩
  | false =>
    obtain ⟨hl, hsz⟩ := HGG.out rfl
    by_cases hn : (n.size : Int) > 1000
    · go_wp2_with fail
      go_ret
      exact ⟨rfl, HB2.out⟩
    · obtain ⟨hsf, c0, c1⟩ := HT.out _ HX2.out
      have HA := hidden (add_any hsf id hid HO.out n k)
      clear hsf
      obtain ⟨ri, rl, re, hR⟩ : ∃ ri rl re, addM id l n k = (ri, rl, re) := ⟨_, _, _, rfl⟩
      rw [hR] at HA
      have HRR := hidden hR
      clear hR
      go_wp2_with fail
      refine HA.out.mono ?_
      rintro e w3 ⟨⟨v3, rfl, o3⟩, hb3⟩
      simp only at o3
      obtain ⟨a3, cap3, rfl, _, _⟩ := own_slice o3
      have HX3 := hidden (below_then HX2.out (below_then hb3 (below_one w3 (.cells #[.int .u32 (ri : Int), .slice a3 rl.length cap3] 25))))
      have hz3 : w3.heap.size < (w3.alloc (.cells #[.int .u32 (ri : Int), .slice a3 rl.length cap3] 25)).heap.size := by rw [World.size_alloc]; omega
      have HT3 : Hid (∀ U, Below (w3.alloc (.cells #[.int .u32 (ri : Int), .slice a3 rl.length cap3] 25)).heap.size (w3.alloc (.cells #[.int .u32 (ri : Int), .slice a3 rl.length cap3] 25)) U → Sf U (.slice a3 rl.length cap3) rl ∧ U.cell? ⟨w3.heap.size, 0, none⟩ = some (.int .u32 (ri : Int)) ∧ U.cell? ⟨w3.heap.size, 1, none⟩ = some (.slice a3 rl.length cap3)) := hidden (fun U h => by
        obtain ⟨c0, c1⟩ := cell_new2 w3 (.int .u32 (ri : Int)) (.slice a3 rl.length cap3) 25
        exact ⟨(o3.sf.kept (below_one _ _)).kept h, (h.cell (p := ⟨w3.heap.size, 0, none⟩) hz3).trans c0, (h.cell (p := ⟨w3.heap.size, 1, none⟩) hz3).trans c1⟩)
      have hw3 : w.heap.size < w3.heap.size := Nat.lt_of_lt_of_le hz (Nat.le_trans HX2.out.size hb3.size)
      clear o3 hb3 c0 c1
      obtain ⟨hsf, c0, c1⟩ := HT.out _ HX3.out
      have HRA := hidden (refAdd_any hsf id hid HO.out n k hk)
      rw [HRR.out] at HRA
      clear hsf
      generalize hV : w3.alloc (.cells #[.int .u32 (ri : Int), .slice a3 rl.length cap3] 25) = V at *
      go_wp2_with fail
      try rw [hV]
      clear hV
      refine HRA.out.mono ?_
      rintro e w4 ⟨⟨v4, rfl, o4⟩, hb4⟩
      simp only at o4
      obtain ⟨a4, cap4, rfl, _, _⟩ := own_slice o4
      have hb5 := below_then hb4 (below_one w4 (.cells #[.int .u32 (ri : Int), .slice a4 rl.length cap4] 25))
      have HX4 := hidden (below_then HX3.out hb5)
      have HB4 := hidden (below_then HB0.out HX4.out)
      have hz4 : w4.heap.size < (w4.alloc (.cells #[.int .u32 (ri : Int), .slice a4 rl.length cap4] 25)).heap.size := by rw [World.size_alloc]; omega
      have HT4 : Hid (∀ U, Below (w4.alloc (.cells #[.int .u32 (ri : Int), .slice a4 rl.length cap4] 25)).heap.size (w4.alloc (.cells #[.int .u32 (ri : Int), .slice a4 rl.length cap4] 25)) U → (Sf U (.slice a4 rl.length cap4) rl ∧ U.cell? ⟨w4.heap.size, 0, none⟩ = some (.int .u32 (ri : Int)) ∧ U.cell? ⟨w4.heap.size, 1, none⟩ = some (.slice a4 rl.length cap4)) ∧ (Sf U (.slice a3 rl.length cap3) rl ∧ U.cell? ⟨w3.heap.size, 0, none⟩ = some (.int .u32 (ri : Int)) ∧ U.cell? ⟨w3.heap.size, 1, none⟩ = some (.slice a3 rl.length cap3)) ∧ (Sf U (.slice a l.length cap) l ∧ U.cell? ⟨w.heap.size, 0, none⟩ = some (.int .u32 (id : Int)) ∧ U.cell? ⟨w.heap.size, 1, none⟩ = some (.slice a l.length cap))) := hidden (fun U h => by
        obtain ⟨c0, c1⟩ := cell_new2 w4 (.int .u32 (ri : Int)) (.slice a4 rl.length cap4) 25
        exact ⟨⟨(o4.sf.kept (below_one _ _)).kept h, (h.cell (p := ⟨w4.heap.size, 0, none⟩) hz4).trans c0, (h.cell (p := ⟨w4.heap.size, 1, none⟩) hz4).trans c1⟩, HT3.out U (below_then hb5 h), HT.out U (below_then HX4.out h)⟩)
      clear o4 hb4 hb5 c0 c1 HT HT3
      generalize hZ : w4.alloc (.cells #[.int .u32 (ri : Int), .slice a4 rl.length cap4] 25) = Z at *
      go_wp2_with fail
      try rw [hZ]
      clear hZ
      have HC1 := hidden (fun U h => check_sch (HT4.out U h).2.2.1 id)
      have HC2 := hidden (fun U h => refCheck_any (HT4.out U h).2.2.1 id)
      have HC3 := hidden (fun U h => sameSch_any (HT4.out U h).2.1.1 (HT4.out U h).1.1 ri ri)
      rw [decide_eq_true (show ri = ri ∧ rl = rl from ⟨rfl, rfl⟩)] at HC3
      have j0 : ∀ s : SubW (fun x => Below Z.heap.size Z x), s.w.cell? ⟨w.heap.size, 0, none⟩ = some (.int .u32 (id : Int)) := fun s => (HT4.out s.w s.ok).2.2.2.1
      have j1 : ∀ s : SubW (fun x => Below Z.heap.size Z x), s.w.cell? ⟨w.heap.size, 1, none⟩ = some (.slice a l.length cap) := fun s => (HT4.out s.w s.ok).2.2.2.2
      have j2 : ∀ s : SubW (fun x => Below Z.heap.size Z x), s.w.cell? ⟨w3.heap.size, 0, none⟩ = some (.int .u32 (ri : Int)) := fun s => (HT4.out s.w s.ok).2.1.2.1
      have j3 : ∀ s : SubW (fun x => Below Z.heap.size Z x), s.w.cell? ⟨w3.heap.size, 1, none⟩ = some (.slice a3 rl.length cap3) := fun s => (HT4.out s.w s.ok).2.1.2.2
      have j4 : ∀ s : SubW (fun x => Below Z.heap.size Z x), s.w.cell? ⟨w4.heap.size, 0, none⟩ = some (.int .u32 (ri : Int)) := fun s => (HT4.out s.w s.ok).1.2.1
      have j5 : ∀ s : SubW (fun x => Below Z.heap.size Z x), s.w.cell? ⟨w4.heap.size, 1, none⟩ = some (.slice a4 rl.length cap4) := fun s => (HT4.out s.w s.ok).1.2.2
      haveI : Nonempty (SubW (fun x => Below Z.heap.size Z x)) := ⟨SubW.mk Z (Below.refl _ _)⟩
      generalize chk id l = ch at *
      refine wp_region_still (S := fun x => Below Z.heap.size Z x) (by kernel_rfl) (by kernel_rfl) (Below.refl _ _).drew ?_
      repeat (go_big_quiet_step (first | (go_at_call 13; exact (HC1.out _ (SubW.ok _)).mono (fun e w' h => ⟨h.1, SubW.mk w' (below_then (SubW.ok _) h.2), rfl⟩)) | (go_at_call 14; exact (HC2.out _ (SubW.ok _)).mono (fun e w' h => ⟨h.1, SubW.mk w' (below_then (SubW.ok _) h.2), rfl⟩)) | (go_at_call 15; exact (HC3.out _ (SubW.ok _)).mono (fun e w' h => ⟨h.1, SubW.mk w' (below_then (SubW.ok _) h.2), rfl⟩))))
      refine wpQuiet_nil ?_
      rintro _ ⟨s2, rfl⟩
      obtain ⟨w6, hw6⟩ : ∃ x, x = s2.w := ⟨_, rfl⟩
      have hb6 := s2.ok
      rw [← hw6] at hb6 ⊢
      have HB6 := hidden (below_then HB4.out hb6)
      clear hw6 hb6 j0 j1 j2 j3 j4 j5
      go_wp2_with fail
      go_ret
      exact ⟨rfl, HB6.out⟩

set_option maxRecDepth 100000 in
theorem lifted (os : Os) (started : os.Started) (H : Type) (enc : TypeId × Value → H) :
    ReturnsInHanded {} Try.checked os 3 .any (Rows.schemaChecksSpec.pre6 enc Try.prog Try.f3 Rows.schemaChecksRow.domain false) (Rows.schemaChecksSpec.post enc Try.prog Try.f3 false true false false) := by
  refine returnsInHanded_of_change (C := Try.checked) own started (by kernel_rfl) Try.func3
    (ChangeSpec.witness6 (enc := enc) (C := Try.checked) false ⟨#[], #[.agg #[.int .u32 0, .slice none 0 0], .string ⟨#[]⟩, .int .u8 0], []⟩ 8 (by kernel_rfl) (by kernel_rfl) (by kernel_rfl) (by kernel_rfl)) ?_
  intro W base args ds gs before hval0 hW hcnd _
  have hval : ∀ (j : Nat) t v, Try.f3.params[j]? = some t → args[j]? = some v → Value.okWide Try.prog W .any base t v := hval0
  have hW' := hW
  obtain ⟨p, q, hA0, hV, rfl, hfz, hnd⟩ := hW
  have hA : DataW.TrodAll enc Try.prog W 0 (fun _ => true) true Try.f3.params.toList args.toList ds p := hA0
  rw [Try.params3] at hA hval
  obtain ⟨v0, vs0, d0, ds0, p0, q0, hargs, rfl, rfl, h0, r0⟩ := trodAll_cons hA
  obtain ⟨v1, vs1, d1, ds1, p1, q1, rfl, rfl, rfl, h1, r1⟩ := trodAll_cons r0
  obtain ⟨v2, vs2, d2, ds2, p2, q2, rfl, rfl, rfl, h2, r2⟩ := trodAll_cons r1
  obtain ⟨rfl, rfl, rfl⟩ := trodAll_nil r2
  obtain rfl : args = #[v0, v1, v2] := by cases args; simp_all
  obtain ⟨rfl, rfl⟩ := trodVars_none hV
  have lt0 : ∀ x ∈ p0, x.block < W.heap.size := by obtain ⟨m, hm⟩ := h0; exact DataW.trod_lt m _ _ _ hm
  obtain ⟨id0, u0, l0, rfl, hid0, hl0, ho0⟩ := open_schema (hval 0 25 v0 rfl rfl) h0
  obtain ⟨a1, rfl, rfl, rfl, w1⟩ := open_string Try.underlying9 (hval 1 9 v1 rfl rfl) h1
  obtain ⟨a2, rfl, rfl, rfl, w2⟩ := open_int Try.underlying5 (hval 2 5 v2 rfl rfl) h2
  have g2 := bounds_u8 w2
  obtain ⟨n2, rfl⟩ := Int.eq_ofNat_of_zero_le g2.1
  clear hA0 hval0
  refine (walk hl0 ho0 id0 hid0 a1 n2 (by omega)).mono fun e W' ⟨he, bel⟩ => ?_
  subst he
  exact ⟨_, rfl, _, _, _, [], _, [], hW', trodAll_mk1 (shut_bool Try.underlying4 _), (trodAll_cons_mk (Below.trod laidOut (by kernel_rfl) (of_decide_eq_true (by kernel_rfl)) h0 bel lt0) (trodAll_cons_mk (shut_string Try.underlying9 w1) (trodAll_cons_mk (shut_int Try.underlying5 w2) trodAll_mk0))), rfl, bel.frame _, fun h => by cases h⟩

theorem proved : Rows.SchemaChecksSaid :=
  OpenClaim.holds_of_wide 3 Try.f3 rfl rfl rfl rfl rfl rfl rfl ⟨rfl, rfl, rfl, rfl, rfl⟩ rfl rfl rfl rfl rfl (by kernel_rfl) Try.func3 (by kernel_rfl)
    (of_decide_eq_true (by kernel_rfl)) (by unfold Func.isWrapper; first | (rw [if_pos (by decide +kernel)]; kernel_rfl) | (rw [if_neg (by decide +kernel)]; exact ⟨rfl, rfl⟩))
    (fun os started H enc _ => lifted os started H enc)
end ChecksLaw
theorem schemaChecks_holds : Rows.SchemaChecksSaid := ChecksLaw.proved
#print axioms schemaChecks_holds
end Go.Proofs.Ytkohejjkpofmgaa
