/- For any bytes: Unpack answers as the document says, with its error. No conditions. -/
import Derived.Test.YtkohejjkpofmgaaAlive
import Derived.Test.YtkohejjkpofmgaaUnp
import Derived.Test.YtkohejjkpofmgaaSame
import Derived.Test.YtkohejjkpofmgaaStill
import Derived.Test.YtkohejjkpofmgaaOpen
set_option linter.unusedVariables false
set_option linter.unusedSimpArgs false
namespace Go.Proofs.Ytkohejjkpofmgaa
namespace UnpacksLaw
open Go.ChangeShapes Go.WideShapes Go.ChangeAt Go.RowKit Go.Lib
open Go.ChangeMaps (open_string shut_string)

set_option maxRecDepth 100000 in
set_option maxHeartbeats 8000000 in
theorem walk {w : World} {v : Value} {b : List Nat} (hs : Sv w v (vals .u8 b)) (hb : Bs b) :
    Calls Try.prog 8 #[v] w fun e w' => e = .returned (.bool true) ∧ Below w.heap.size w w' := by
  obtain ⟨a, cap, rfl, hcap, hcm⟩ := hs.form1
  rw [vals_length] at *
  have HS := hidden hs
  have HB := hidden hb
  clear hs hb hcap hcm
  go_enter Try.func8, Try.ntmps8
  go_wp2_with fail
  refine (alive_any _).mono ?_
  rintro e w1 ⟨rfl, hb1⟩
  have HX1 := hidden hb1
  clear hb1
  by_cases hl : (b.length : Int) > 3000
  · go_wp2_with fail
    go_ret
    exact ⟨rfl, HX1.out⟩
  · have HU := hidden (unpack_any (HS.out.kept HX1.out) HB.out (by omega))
    obtain ⟨ri, rl, rr, rc, hR⟩ : ∃ ri rl rr rc, unpR b = (ri, rl, rr, rc) := ⟨_, _, _, _, rfl⟩
    rw [hR] at HU
    have HRR := hidden hR
    clear hR
    go_wp2_with fail
    refine HU.out.mono ?_
    rintro e w2 ⟨⟨v2, u2, rfl, o2, p2⟩, hb2⟩
    simp only at o2 p2
    obtain ⟨a2, cap2, rfl, _, _⟩ := own_slice o2
    obtain ⟨a3, cap3, rfl, _, _⟩ := own_slice p2
    have HO2 := hidden o2.sf
    have HP2 := hidden p2.sv
    have HX2 := hidden (below_then HX1.out hb2)
    clear o2 p2 hb2 HU
    have hz2 : (w2.alloc (.cells #[.int .u32 (ri : Int), .slice a2 rl.length cap2] 25)).heap.size = w2.heap.size + 1 := World.size_alloc _ _
    have hb2 := below_one w2 (.cells #[.int .u32 (ri : Int), .slice a2 rl.length cap2] 25)
    have hb3 := below_one (w2.alloc (.cells #[.int .u32 (ri : Int), .slice a2 rl.length cap2] 25)) (.cells #[.slice a b.length cap, .int .i64 ((0 : Nat) : Int)] 63)
    have hst := St.make (T := 63) (HS.out.kept HX2.out) HB.out hb2
    rw [hz2] at hst
    have HST := hidden hst
    have HBV := hidden (below_then hb2 hb3)
    have HH2 := hidden ((hb3.block w2.heap.size (by omega)).trans (heap_alloc_new w2 (.cells #[.int .u32 (ri : Int), .slice a2 rl.length cap2] 25)))
    have hzV : ((w2.alloc (.cells #[.int .u32 (ri : Int), .slice a2 rl.length cap2] 25)).alloc (.cells #[.slice a b.length cap, .int .i64 ((0 : Nat) : Int)] 63)).heap.size = w2.heap.size + 2 := by rw [World.size_alloc, hz2]
    have HZV := hidden hzV
    clear hst hb2 hb3 hzV
    generalize hV : (w2.alloc (.cells #[.int .u32 (ri : Int), .slice a2 rl.length cap2] 25)).alloc (.cells #[.slice a b.length cap, .int .i64 ((0 : Nat) : Int)] 63) = V at *
    have hV' : (w2.alloc (.cells #[.int .u32 (ri : Int), .slice a2 rl.length cap2] 25)).alloc (.cells #[.slice a b.length cap, .int .i64 0] 63) = V := hV
    simp only
    go_wp2_with fail
    try rw [hV']
    clear hV hV' hz2
    refine (refSchema_any HST.out).mono ?_
    rintro e w4 ⟨id, l, v4, b', f', rfl, o4, _, _, _, hs4, hr4, hf4⟩
    obtain ⟨a4, cap4, rfl, _, _⟩ := own_slice o4
    have hb5 := below_one w4 (.cells #[.int .u32 (id : Int), .slice a4 l.length cap4] 25)
    have HHZ := hidden (heap_alloc_new w4 (.cells #[.int .u32 (id : Int), .slice a4 l.length cap4] 25))
    have hsz : w2.heap.size + 2 ≤ w4.heap.size := by have := hf4.size; have := HZV.out; omega
    have HX24 : Hid (Below w2.heap.size w2 (w4.alloc (.cells #[.int .u32 (id : Int), .slice a4 l.length cap4] 25))) := by
      have h2 : Below w2.heap.size V w4 := hf4.below (by omega) (by have := HZV.out; omega)
      exact hidden ((HBV.out.trans h2).trans (hb5.mono (by omega)))
    have HX4 := hidden (below_then HX2.out HX24.out)
    have HSA := hidden (HO2.out.kept HX24.out)
    have HSB := hidden (HP2.out.kept HX24.out)
    have HSC := hidden (o4.sf.kept hb5)
    have hlt := hs4.lt
    have HSD := hidden (hs4.kept hb5 hlt)
    have HH1 : Hid ((w4.alloc (.cells #[.int .u32 (id : Int), .slice a4 l.length cap4] 25)).heap[w2.heap.size]? = some (.cells #[.int .u32 (ri : Int), .slice a2 rl.length cap2] 25)) := hidden ((hb5.block _ (by omega)).trans ((hf4.block _ (by have := HZV.out; omega) (by omega)).trans HH2.out))
    have HRD := hidden hr4
    clear o4 hs4 hr4 hf4 hb5 HST HBV HZV HH2
    obtain ⟨ra, rcap, r0, r1, r2, r3, r4, r5, r6, _, _⟩ := HSD.out.cells2
    have HSE := hidden r6
    have HBb := hidden HSD.out.bs
    clear r6
    have hlt4 : w4.heap.size < (w4.alloc (.cells #[.int .u32 (id : Int), .slice a4 l.length cap4] 25)).heap.size := by rw [World.size_alloc]; omega
    have HLT4 := hidden hlt4
    generalize hZ : w4.alloc (.cells #[.int .u32 (id : Int), .slice a4 l.length cap4] 25) = Z at *
    clear hlt4
    have x0 : Z.cell? ⟨w2.heap.size, 0, none⟩ = some (.int .u32 (ri : Int)) := by rw [cell_block HH1.out]; rfl
    have x1 : Z.cell? ⟨w2.heap.size, 1, none⟩ = some (.slice a2 rl.length cap2) := by rw [cell_block HH1.out]; rfl
    have y0 : Z.cell? ⟨w4.heap.size, 0, none⟩ = some (.int .u32 (id : Int)) := by rw [cell_block HHZ.out]; rfl
    have y1 : Z.cell? ⟨w4.heap.size, 1, none⟩ = some (.slice a4 l.length cap4) := by rw [cell_block HHZ.out]; rfl
    by_cases hf : f' = 0
    · have hfa : ((f' : Int) != 0) = false := by simp [hf]
      have hR := HRD.out
      rw [hf] at hR
      have hR2 := (unpR_ok hR).symm.trans HRR.out
      simp only [Prod.mk.injEq] at hR2
      obtain ⟨rfl, rfl, rfl, rfl⟩ := hR2
      clear hR hf
      go_wp2_with fail
      try rw [hZ]
      clear hZ
      have HC3 := hidden (fun U (h : Below Z.heap.size Z U) => sameSch_any (HSA.out.kept h) (HSC.out.kept h) id id)
      rw [decide_eq_true (show id = id ∧ l = l from ⟨rfl, rfl⟩)] at HC3
      have hlt2 : w2.heap.size < Z.heap.size := by have := HLT4.out; omega
      have hlt3 : w2.heap.size + 1 < Z.heap.size := by have := HLT4.out; omega
      have hcel : ∀ (s : SubW (fun x => Below Z.heap.size Z x)) (g o : Nat), g < Z.heap.size → s.w.cell? ⟨g, o, none⟩ = Z.cell? ⟨g, o, none⟩ := fun s g o hg => s.ok.cell (p := ⟨g, o, none⟩) hg
      have j0 : ∀ s : SubW (fun x => Below Z.heap.size Z x), s.w.cell? ⟨w2.heap.size, 0, none⟩ = some (.int .u32 (id : Int)) := fun s => (hcel s _ _ hlt2).trans x0
      have j1 : ∀ s : SubW (fun x => Below Z.heap.size Z x), s.w.cell? ⟨w2.heap.size, 1, none⟩ = some (.slice a2 l.length cap2) := fun s => (hcel s _ _ hlt2).trans x1
      have j2 : ∀ s : SubW (fun x => Below Z.heap.size Z x), s.w.cell? ⟨w4.heap.size, 0, none⟩ = some (.int .u32 (id : Int)) := fun s => (hcel s _ _ HLT4.out).trans y0
      have j3 : ∀ s : SubW (fun x => Below Z.heap.size Z x), s.w.cell? ⟨w4.heap.size, 1, none⟩ = some (.slice a4 l.length cap4) := fun s => (hcel s _ _ HLT4.out).trans y1
      have j4 : ∀ s : SubW (fun x => Below Z.heap.size Z x), s.w.cell? ⟨w2.heap.size + 1, 0, none⟩ = some (.slice ra b'.length rcap) := fun s => (hcel s _ _ hlt3).trans r0
      have j5 : ∀ s : SubW (fun x => Below Z.heap.size Z x), (convert 54 9 (.slice a3 b'.length cap3)).run Try.prog s.w = .ok (.string (bytesT b')) s.w := fun s => (HSB.out.kept s.ok).conv HBb.out
      have j6 : ∀ s : SubW (fun x => Below Z.heap.size Z x), (convert 54 9 (.slice ra b'.length rcap)).run Try.prog s.w = .ok (.string (bytesT b')) s.w := fun s => (HSE.out.kept s.ok).conv HBb.out
      haveI : Nonempty (SubW (fun x => Below Z.heap.size Z x)) := ⟨SubW.mk Z (Below.refl _ _)⟩
      generalize bytesT b' = TX at *
      clear hcel x0 x1 y0 y1 r0 r1 r2 r3
      refine wp_region_still (S := fun x => Below Z.heap.size Z x) (by kernel_rfl) (by kernel_rfl) (Below.refl _ _).drew ?_
      repeat (go_big_quiet_step (first | (go_at_call 15; exact (HC3.out _ (SubW.ok _)).mono (fun e w' h => ⟨h.1, SubW.mk w' (below_then (SubW.ok _) h.2), rfl⟩))))
      refine wpQuiet_nil ?_
      rintro _ ⟨s2, rfl⟩
      obtain ⟨w6, hw6⟩ : ∃ x, x = s2.w := ⟨_, rfl⟩
      have hb6 := s2.ok
      rw [← hw6] at hb6 ⊢
      have HB6 := hidden (below_then HX4.out hb6)
      clear hw6 hb6 j0 j1 j2 j3 j4 j5 j6
      go_wp2_with fail
      go_ret
      exact ⟨rfl, HB6.out⟩
    · have hfa : ((f' : Int) != 0) = true := by simp [hf]
      have hR2 := (unpR_error HRD.out hf).symm.trans HRR.out
      simp only [Prod.mk.injEq] at hR2
      obtain ⟨rfl, rfl, rfl, rfl⟩ := hR2
      have hff : ((f' : Int) == (f' : Int)) = true := by simp
      have HSM := hidden (sameSch_any HSA.out (Sf.nil Z) 0 0)
      rw [decide_eq_true (show (0 : Nat) = 0 ∧ ([] : List Fd) = [] from ⟨rfl, rfl⟩)] at HSM
      clear hf
      go_wp2_with fail
      try rw [hZ]
      clear hZ
      refine HSM.out.mono ?_
      rintro e w5 ⟨rfl, hb5⟩
      have HB5 := hidden (below_then HX4.out hb5)
      clear hb5
      go_wp2_with fail
      go_ret
      exact ⟨rfl, HB5.out⟩

set_option maxRecDepth 100000 in
theorem lifted (os : Os) (started : os.Started) (H : Type) (enc : TypeId × Value → H) :
    ReturnsInHanded {} Try.checked os 8 .any (Rows.schemaUnpacksSpec.pre6 enc Try.prog Try.f8 Rows.schemaUnpacksRow.domain false) (Rows.schemaUnpacksSpec.post enc Try.prog Try.f8 false true false false) := by
  refine returnsInHanded_of_change (C := Try.checked) own started (by kernel_rfl) Try.func8
    (ChangeSpec.witness6 (enc := enc) (C := Try.checked) false ⟨#[], #[.slice none 0 0], []⟩ 8 (by kernel_rfl) (by kernel_rfl) (by kernel_rfl) (by kernel_rfl)) ?_
  intro W base args ds gs before hval0 hW hcnd _
  have hval : ∀ (j : Nat) t v, Try.f8.params[j]? = some t → args[j]? = some v → Value.okWide Try.prog W .any base t v := hval0
  have hW' := hW
  obtain ⟨p, q, hA0, hV, rfl, hfz, hnd⟩ := hW
  have hA : DataW.TrodAll enc Try.prog W 0 (fun _ => true) true Try.f8.params.toList args.toList ds p := hA0
  rw [Try.params8] at hA hval
  obtain ⟨v0, vs0, d0, ds0, p0, q0, hargs, rfl, rfl, h0, r0⟩ := trodAll_cons hA
  obtain ⟨rfl, rfl, rfl⟩ := trodAll_nil r0
  obtain rfl : args = #[v0] := by cases args; simp_all
  obtain ⟨rfl, rfl⟩ := trodVars_none hV
  have lt0 : ∀ x ∈ p0, x.block < W.heap.size := by obtain ⟨m, hm⟩ := h0; exact DataW.trod_lt m _ _ _ hm
  obtain ⟨a0, len0, cap0, rfl⟩ := okWide_slice Try.underlying54 (hval 0 54 v0 rfl rfl)
  obtain ⟨l0, hl0, ho0⟩ := open_bytes h0
  clear hA0 hval0
  refine (walk hl0 ho0).mono fun e W' ⟨he, bel⟩ => ?_
  subst he
  exact ⟨_, rfl, _, _, _, [], _, [], hW', trodAll_mk1 (shut_bool Try.underlying4 _), (trodAll_cons_mk (Below.trod laidOut (by kernel_rfl) (of_decide_eq_true (by kernel_rfl)) h0 bel lt0) trodAll_mk0), rfl, bel.frame _, fun h => by cases h⟩

theorem proved : Rows.SchemaUnpacksSaid :=
  OpenClaim.holds_of_wide 8 Try.f8 rfl rfl rfl rfl rfl rfl rfl ⟨rfl, rfl, rfl, rfl, rfl⟩ rfl rfl rfl rfl rfl (by kernel_rfl) Try.func8 (by kernel_rfl)
    (of_decide_eq_true (by kernel_rfl)) (by unfold Func.isWrapper; first | (rw [if_pos (by decide +kernel)]; kernel_rfl) | (rw [if_neg (by decide +kernel)]; exact ⟨rfl, rfl⟩))
    (fun os started H enc _ => lifted os started H enc)
end UnpacksLaw
theorem schemaUnpacks_holds : Rows.SchemaUnpacksSaid := UnpacksLaw.proved
#print axioms schemaUnpacks_holds
end Go.Proofs.Ytkohejjkpofmgaa
