/- For any schema and any bytes behind: Pack answers as the document says, and its bytes are read as the schema, with what is behind them, if it may be. No conditions. -/
import Derived.Test.YtkohejjkpofmgaaAlive
import Derived.Test.YtkohejjkpofmgaaUnp
import Derived.Test.YtkohejjkpofmgaaSame
import Derived.Test.YtkohejjkpofmgaaGreat
import Derived.Test.YtkohejjkpofmgaaStill
import Derived.Test.YtkohejjkpofmgaaOpen
import Derived.Test.YtkohejjkpofmgaaRefPack
import Derived.Test.YtkohejjkpofmgaaPack
set_option linter.unusedVariables false
set_option linter.unusedSimpArgs false
namespace Go.Proofs.Ytkohejjkpofmgaa
namespace PacksLaw
open Go.ChangeShapes Go.WideShapes Go.ChangeAt Go.RowKit Go.Lib
open Go.ChangeMaps (open_string shut_string)

theorem packM_len {id : Nat} {l : List Fd} (hid : id < 4294967296) (ho : ∀ f ∈ l, Okf f) (hl : l.length ≤ 100) (hz : szs l < 5000) : (packM id l).length ≤ 10020 := by
  have h := packL_take_len ho hl hz l.length
  rw [List.take_length] at h
  have e : packM id l = uv id ++ uv l.length ++ packL l := rfl
  have h1 := uv_ten (n := id) (by omega)
  have h2 := uv_ten (n := l.length) (by omega)
  rw [e, List.length_append, List.length_append]
  omega

set_option maxRecDepth 100000 in
set_option maxHeartbeats 8000000 in
theorem walk {w : World} {u : Value} {l : List Fd} (hs : Sf w u l) (ho : ∀ f ∈ l, Okf f) (id : Nat) (hid : id < 4294967296) {v : Value} {r : List Nat} (hv : Sv w v (vals .u8 r)) (hr : Bs r) :
    Calls Try.prog 7 #[.agg #[.int .u32 (id : Int), u], v] w fun e w' => e = .returned (.bool true) ∧ Below w.heap.size w w' := by
  have HO := hidden ho
  obtain ⟨a, cap, rfl, hcap, hcm⟩ := hs.form
  obtain ⟨ar, capr, rfl, _, _⟩ := hv.form1
  rw [vals_length] at *
  have HBR := hidden hr
  have hb0 := below_one w (.cells #[.int .u32 (id : Int), .slice a l.length cap] 25)
  have hz : w.heap.size < (w.alloc (.cells #[.int .u32 (id : Int), .slice a l.length cap] 25)).heap.size := by rw [World.size_alloc]; omega
  have HT : Hid (∀ U, Below (w.alloc (.cells #[.int .u32 (id : Int), .slice a l.length cap] 25)).heap.size (w.alloc (.cells #[.int .u32 (id : Int), .slice a l.length cap] 25)) U → Sf U (.slice a l.length cap) l ∧ Sv U (.slice ar r.length capr) (vals .u8 r) ∧ U.cell? ⟨w.heap.size, 0, none⟩ = some (.int .u32 (id : Int)) ∧ U.cell? ⟨w.heap.size, 1, none⟩ = some (.slice a l.length cap)) := hidden (fun U h => by
    obtain ⟨c0, c1⟩ := cell_new2 w (.int .u32 (id : Int)) (.slice a l.length cap) 25
    exact ⟨(hs.kept hb0).kept h, (hv.kept hb0).kept h, (h.cell (p := ⟨w.heap.size, 0, none⟩) hz).trans c0, (h.cell (p := ⟨w.heap.size, 1, none⟩) hz).trans c1⟩)
  have HB0 := hidden hb0
  clear hs hb0 ho hcap hcm hv hr
  generalize hW : w.alloc (.cells #[.int .u32 (id : Int), .slice a l.length cap] 25) = W at *
  go_enter Try.func7, Try.ntmps7
  go_wp2_with fail
  try rw [hW]
  clear hW
  refine (alive_any _).mono ?_
  rintro e w1 ⟨rfl, hb1⟩
  have HX1 := hidden hb1
  obtain ⟨hsf, _, c0, c1⟩ := HT.out _ hb1
  have HG := hidden (great_any hsf id)
  clear hb1 hsf
  go_wp2_with fail
  refine HG.out.mono ?_
  rintro e w2 ⟨⟨g, rfl, hg⟩, hb2⟩
  have HX2 := hidden (below_then HX1.out hb2)
  have HB2 := hidden (below_then HB0.out HX2.out)
  have HGG := hidden hg
  clear hg hb2 c0 c1 HG
  cases g with
  | true =>
    go_wp2_with fail
    go_ret
    exact ⟨rfl, HB2.out⟩
  | false =>
    obtain ⟨hl, hsz⟩ := HGG.out rfl
    by_cases hn : (r.length : Int) > 1000
    · go_wp2_with fail
      go_ret
      exact ⟨rfl, HB2.out⟩
    · obtain ⟨hsf, _, c0, c1⟩ := HT.out _ HX2.out
      have HPK := hidden (pack_any hsf HO.out hl hsz id hid)
      have HPL := hidden (packM_len hid HO.out hl hsz)
      have HUP := hidden (unpack_pack hid HO.out hsz hl r)
      have HPB := hidden (packM_bs id l)
      have HRP : Hid (∀ U, Below W.heap.size W U → Calls Try.prog 28 #[.agg #[.int .u32 (id : Int), .slice a l.length cap]] U (Told U (packM id l))) := hidden (fun U h => refPack_any (HT.out U h).1 HO.out hl hsz id hid)
      clear hsf hsz
      generalize packM id l = PM at *
      go_wp2_with fail
      refine HPK.out.mono ?_
      rintro e w3 ⟨⟨v3, rfl, o3⟩, hb3⟩
      obtain ⟨a3, cap3, rfl, _, _⟩ := own_slice o3
      have HX3 := hidden (below_then HX2.out hb3)
      have HSV3 := hidden o3.sv
      clear o3 hb3 c0 c1 HPK
      obtain ⟨_, _, c0, c1⟩ := HT.out _ HX3.out
      have HALL : Hid (∀ U, Below w3.heap.size w3 U → (convert 54 9 (.slice a3 PM.length cap3)).run Try.prog U = .ok (.string (bytesT PM)) U ∧ U.cell? ⟨w.heap.size, 0, none⟩ = some (.int .u32 (id : Int)) ∧ U.cell? ⟨w.heap.size, 1, none⟩ = some (.slice a l.length cap)) := hidden (fun U h => ⟨(HSV3.out.kept h).conv HPB.out, (HT.out U (below_then HX3.out h)).2.2.1, (HT.out U (below_then HX3.out h)).2.2.2⟩)
      obtain ⟨k1, k2, k3⟩ := HALL.out w3.drew (Below.refl _ _).drew
      have HRS : Hid (Calls Try.prog 28 #[.agg #[.int .u32 (id : Int), .slice a l.length cap]] w3.drew (Told w3.drew PM)) := hidden (HRP.out _ (below_then HX3.out (Below.refl _ _).drew))
      have HCM : Hid (∀ U a' n' c', Sv U (.slice a' n' c') (vals .u8 PM) → (convert 54 9 (.slice a' n' c')).run Try.prog U = .ok (.string (bytesT PM)) U) := hidden (fun U a' n' c' h => h.conv HPB.out)
      generalize hTX : bytesT PM = TX at *
      clear hTX
      go_wp2_with fail
      refine wp_region_noPanic ?_
      go_region_held (fun w' => (convert 54 9 (.slice a3 PM.length cap3)).run Try.prog w' = .ok (.string TX) w' ∧ w'.cell? ⟨w.heap.size, 0, none⟩ = some (.int .u32 (id : Int)) ∧ w'.cell? ⟨w.heap.size, 1, none⟩ = some (.slice a l.length cap)) (first | assumption | exact ⟨by assumption, by assumption, by assumption⟩ | go_keep) (first | (go_at_call 28; refine HRS.out.mono ?_; rintro e w6 ⟨⟨u6, rfl, o6⟩, hb6⟩; obtain ⟨a6, cap6, rfl, _, _⟩ := own_slice o6; have hcv := HCM.out _ _ _ _ o6.sv; obtain ⟨j1, j2, j3⟩ := HALL.out _ ((Below.refl _ _).drew.trans hb6); clear o6))
      refine NoPanic.normal ?_
      have HX6 := hidden (below_then HX3.out ((Below.refl w3.heap.size w3).drew.trans hb6))
      have HSV6 := hidden (HSV3.out.kept ((Below.refl w3.heap.size w3).drew.trans hb6))
      clear hb6 hcv j1 j2 j3 k1 k2 k3 c0 c1 HALL HCM HRS
      have hb7 := below_one w6 (.cells #[] 5)
      have HN := hidden (lit_none w6)
      have HX7 := hidden (below_then HX6.out hb7)
      have HSV7 := hidden (HSV6.out.kept hb7)
      clear hb7
      go_wp2_with (first | (at_builtin; refine wpList_append_sv rfl _ _ rfl w6.heap.size _ _ [] PM rfl ?q1 rfl ?q2 ?d1 ?d2 ?_))
      case q1 => exact HN.out
      case q2 => exact HSV7.out
      case d1 => have := HPL.out; simp; omega
      case d2 => rw [World.size_alloc]; omega
      intro v8 w8 o8 hb8
      try rw [List.nil_append] at o8
      obtain ⟨a8, cap8, rfl, _, _⟩ := own_slice o8
      have HO8 := hidden o8
      have HX68 := hidden ((below_one w6 (.cells #[] 5)).trans hb8)
      have HX8 := hidden (below_then HX6.out HX68.out)
      clear o8 hb8
      go_wp2_with (first | (at_builtin; refine wpList_append_sv rfl _ _ rfl w6.heap.size _ _ PM r rfl ?q3 rfl ?q4 ?d3 ?d4 ?_))
      case q3 => exact HO8.out
      case q4 => exact (HT.out _ HX8.out).2.1
      case d3 => have := HPL.out; omega
      case d4 => exact HX68.out.size
      intro v9 w9 o9 hb9
      obtain ⟨a9, cap9, hv9, _, _⟩ := own_slice o9
      rw [List.length_append] at hv9
      subst hv9
      have HX9 := hidden (below_then HX6.out (HX68.out.trans hb9))
      have HUK := hidden (unpack_any o9.sv (HPB.out.app HBR.out) (by rw [List.length_append]; have := HPL.out; omega))
      clear o9 hb9
      go_wp2_with fail
      refine HUK.out.mono ?_
      rintro e w10 ⟨⟨v10, u10, rfl, o10, p10⟩, hb10⟩
      have HX10 := hidden (below_then HX9.out hb10)
      clear hb10 HUK
      have HC := hidden (fun U (h : Below W.heap.size W U) => refCheck_any (HT.out U h).1 id)
      by_cases hch : chk id l = 0
      · have hup := HUP.out
        rw [if_pos hch] at hup
        have hR : unpR (PM ++ r) = (id, l, r, 0) := by unfold unpR; rw [hup]
        rw [hR] at o10 p10 ⊢
        simp only at o10 p10
        obtain ⟨a10, cap10, rfl, _, _⟩ := own_slice o10
        obtain ⟨a11, cap11, rfl, _, _⟩ := own_slice p10
        have HO10 := hidden o10.sf
        have HP10 := hidden p10.sv
        have HCH : Hid (∀ U, Below W.heap.size W U → Calls Try.prog 14 #[.agg #[.int .u32 (id : Int), .slice a l.length cap]] U fun e w' => e = .returned (.int .i64 0) ∧ Below U.heap.size U w') := by
          have h := HC.out
          rw [hch] at h
          exact hidden h
        clear o10 p10 hR hup hch HC
        have hb11 := below_one w10 (.cells #[.int .u32 (id : Int), .slice a10 l.length cap10] 25)
        have HX11 := hidden (below_then HX10.out hb11)
        obtain ⟨s0, s1⟩ := cell_new2 w10 (.int .u32 (id : Int)) (.slice a10 l.length cap10) 25
        have hz11 : w10.heap.size < (w10.alloc (.cells #[.int .u32 (id : Int), .slice a10 l.length cap10] 25)).heap.size := by rw [World.size_alloc]; omega
        have HT11 : Hid (∀ U, Below (w10.alloc (.cells #[.int .u32 (id : Int), .slice a10 l.length cap10] 25)).heap.size (w10.alloc (.cells #[.int .u32 (id : Int), .slice a10 l.length cap10] 25)) U → (U.cell? ⟨w10.heap.size, 0, none⟩ = some (.int .u32 (id : Int)) ∧ U.cell? ⟨w10.heap.size, 1, none⟩ = some (.slice a10 l.length cap10)) ∧ Sf U (.slice a10 l.length cap10) l ∧ Sv U (.slice a11 r.length cap11) (vals .u8 r)) := hidden (fun U h => ⟨⟨(h.cell (p := ⟨w10.heap.size, 0, none⟩) hz11).trans s0, (h.cell (p := ⟨w10.heap.size, 1, none⟩) hz11).trans s1⟩, (HO10.out.kept hb11).kept h, (HP10.out.kept hb11).kept h⟩)
        clear s0 s1 hb11 hz11
        generalize hZ : w10.alloc (.cells #[.int .u32 (id : Int), .slice a10 l.length cap10] 25) = Z at *
        obtain ⟨_, _, c0, c1⟩ := HT.out _ HX11.out
        go_wp2_with fail
        try rw [hZ]
        clear hZ
        refine (HCH.out _ HX11.out).mono ?_
        rintro e w12 ⟨rfl, hb12⟩
        have HX12 := hidden (below_then HX11.out hb12)
        obtain ⟨⟨s0, s1⟩, hsa, hsb⟩ := HT11.out _ hb12
        have HZ12 := hidden hb12
        clear hb12 c0 c1
        obtain ⟨hsc, hsd, c0, c1⟩ := HT.out _ HX12.out
        have HSM := hidden (sameSch_any hsc hsa id id)
        rw [decide_eq_true (show id = id ∧ l = l from ⟨rfl, rfl⟩)] at HSM
        clear hsa hsb hsc hsd
        go_wp2_with fail
        refine HSM.out.mono ?_
        rintro e w13 ⟨rfl, hb13⟩
        have HX13 := hidden (below_then HX12.out hb13)
        obtain ⟨_, _, hsb⟩ := HT11.out _ (below_then HZ12.out hb13)
        obtain ⟨_, hsd, _, _⟩ := HT.out _ HX13.out
        have g1 : (convert 54 9 (.slice a11 r.length cap11)).run Try.prog w13 = .ok (.string (bytesT r)) w13 := hsb.conv HBR.out
        have g2 : (convert 54 9 (.slice ar r.length capr)).run Try.prog w13 = .ok (.string (bytesT r)) w13 := hsd.conv HBR.out
        generalize bytesT r = TR at *
        have HB13 := hidden (below_then HB0.out HX13.out)
        clear hb13 hsb hsd c0 c1 s0 s1
        go_wp2_with fail
        go_ret
        exact ⟨rfl, HB13.out⟩
      · have hup := HUP.out
        rw [if_neg hch] at hup
        obtain ⟨cc, hcc, hup⟩ := hup
        have hR : unpR (PM ++ r) = (0, [], [], cc) := by unfold unpR; rw [hup]
        rw [hR] at o10 p10 ⊢
        simp only at o10 p10
        obtain ⟨a10, cap10, rfl, _, _⟩ := own_slice o10
        have hca : ((cc : Int) != 0) = true := by simp [hcc]
        have hcb : ((chk id l : Int) != 0) = true := by simp [hch]
        generalize chk id l = ch at *
        clear o10 p10 hR hup hch hcc
        have HX11 := hidden (below_then HX10.out (below_one w10 (.cells #[.int .u32 0, .slice a10 0 cap10] 25)))
        obtain ⟨_, _, c0, c1⟩ := HT.out _ HX11.out
        simp only [List.length_nil]
        go_wp2_with fail
        refine (HC.out _ HX11.out).mono ?_
        rintro e w12 ⟨rfl, hb12⟩
        have HB12 := hidden (below_then HB0.out (below_then HX11.out hb12))
        clear hb12
        go_wp2_with fail
        go_ret
        exact ⟨rfl, HB12.out⟩

set_option maxRecDepth 100000 in
theorem lifted (os : Os) (started : os.Started) (H : Type) (enc : TypeId × Value → H) :
    ReturnsInHanded {} Try.checked os 7 .any (Rows.schemaPacksSpec.pre6 enc Try.prog Try.f7 Rows.schemaPacksRow.domain false) (Rows.schemaPacksSpec.post enc Try.prog Try.f7 false true false false) := by
  refine returnsInHanded_of_change (C := Try.checked) own started (by kernel_rfl) Try.func7
    (ChangeSpec.witness6 (enc := enc) (C := Try.checked) false ⟨#[], #[.agg #[.int .u32 0, .slice none 0 0], .slice none 0 0], []⟩ 8 (by kernel_rfl) (by kernel_rfl) (by kernel_rfl) (by kernel_rfl)) ?_
  intro W base args ds gs before hval0 hW hcnd _
  have hval : ∀ (j : Nat) t v, Try.f7.params[j]? = some t → args[j]? = some v → Value.okWide Try.prog W .any base t v := hval0
  have hW' := hW
  obtain ⟨p, q, hA0, hV, rfl, hfz, hnd⟩ := hW
  have hA : DataW.TrodAll enc Try.prog W 0 (fun _ => true) true Try.f7.params.toList args.toList ds p := hA0
  rw [Try.params7] at hA hval
  obtain ⟨v0, vs0, d0, ds0, p0, q0, hargs, rfl, rfl, h0, r0⟩ := trodAll_cons hA
  obtain ⟨v1, vs1, d1, ds1, p1, q1, rfl, rfl, rfl, h1, r1⟩ := trodAll_cons r0
  obtain ⟨rfl, rfl, rfl⟩ := trodAll_nil r1
  obtain rfl : args = #[v0, v1] := by cases args; simp_all
  obtain ⟨rfl, rfl⟩ := trodVars_none hV
  have lt0 : ∀ x ∈ p0, x.block < W.heap.size := by obtain ⟨m, hm⟩ := h0; exact DataW.trod_lt m _ _ _ hm
  obtain ⟨id0, u0, l0, rfl, hid0, hl0, ho0⟩ := open_schema (hval 0 25 v0 rfl rfl) h0
  have lt1 : ∀ x ∈ p1, x.block < W.heap.size := by obtain ⟨m, hm⟩ := h1; exact DataW.trod_lt m _ _ _ hm
  obtain ⟨a1, len1, cap1, rfl⟩ := okWide_slice Try.underlying54 (hval 1 54 v1 rfl rfl)
  obtain ⟨l1, hl1, ho1⟩ := open_bytes h1
  clear hA0 hval0
  refine (walk hl0 ho0 id0 hid0 hl1 ho1).mono fun e W' ⟨he, bel⟩ => ?_
  subst he
  exact ⟨_, rfl, _, _, _, [], _, [], hW', trodAll_mk1 (shut_bool Try.underlying4 _), (trodAll_cons_mk (Below.trod laidOut (by kernel_rfl) (of_decide_eq_true (by kernel_rfl)) h0 bel lt0) (trodAll_cons_mk (Below.trod laidOut (by kernel_rfl) (of_decide_eq_true (by kernel_rfl)) h1 bel lt1) trodAll_mk0)), rfl, bel.frame _, fun h => by cases h⟩

theorem proved : Rows.SchemaPacksSaid :=
  OpenClaim.holds_of_wide 7 Try.f7 rfl rfl rfl rfl rfl rfl rfl ⟨rfl, rfl, rfl, rfl, rfl⟩ rfl rfl rfl rfl rfl (by kernel_rfl) Try.func7 (by kernel_rfl)
    (of_decide_eq_true (by kernel_rfl)) (by unfold Func.isWrapper; first | (rw [if_pos (by decide +kernel)]; kernel_rfl) | (rw [if_neg (by decide +kernel)]; exact ⟨rfl, rfl⟩))
    (fun os started H enc _ => lifted os started H enc)
end PacksLaw
theorem schemaPacks_holds : Rows.SchemaPacksSaid := PacksLaw.proved
#print axioms schemaPacks_holds
end Go.Proofs.Ytkohejjkpofmgaa
