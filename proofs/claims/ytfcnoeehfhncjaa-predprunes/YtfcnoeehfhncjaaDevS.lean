/- Under way. -/
import Derived.Test.YtfcnoeehfhncjaaEqs
set_option linter.unusedVariables false
set_option linter.unusedSimpArgs false
namespace Go.Proofs.Ytfcnoeehfhncjaa
open Go.RowKit Go.Lib

theorem map_fix {cs : List Cl} (hf : ∀ c ∈ cs, Fine c) : cs.map fixC = cs := by
  conv => rhs; rw [← List.map_id cs]
  exact List.map_congr_left fun c hc => fixC_same (hf c hc)
theorem statM_rows (cs : List Cl) : (statM cs).rows = cs.length := by
  unfold statM
  cases nonN cs <;> rfl
theorem statM_some (cs : List Cl) : (statM cs).some = decide ((statM cs).nulls < (cs.length : Int)) := by
  unfold statM
  cases h : nonN cs with
  | nil => simp
  | cons x r =>
    simp only [List.length_cons]
    rw [eq_comm, decide_eq_true_eq]
    omega
theorem agg29_ne (a b : Int) (c d : Bool) (e f : Int) (s : ByteArray) (g h : Int) (t : ByteArray) (w : World) : (binOp .neq 29 (.agg #[.int .i64 a, .int .i64 b, .bool c, .bool d, .int .u8 e, .int .i64 f, .string s, .int .u8 g, .int .i64 h, .string t]) (.agg #[.int .i64 a, .int .i64 b, .bool c, .bool d, .int .u8 e, .int .i64 f, .string s, .int .u8 g, .int .i64 h, .string t])).run Try.prog w = .ok (.bool false) w := by
  simp [go_sem]

set_option maxRecDepth 100000 in
set_option maxHeartbeats 16000000 in
theorem walkS (HAL : ∀ w : World, Calls Try.prog 6 #[] w fun e w' => e = .returned (.bool true) ∧ Below w.heap.size w w') {w : World} (y : Nat) (hy : y < 256) {cv : Value} {cl : List Cl} (hc : Sc w cv cl) (hoc : ∀ c ∈ cl, Okc c) :
    Calls Try.prog 3 #[.int .u8 (y : Int), cv] w fun e w' => e = .returned (.bool true) ∧ Below w.heap.size w w' := by
  obtain ⟨cla, ccap, rfl, hcc, hcm⟩ := hc.form
  have HSC := hidden hc
  have HFI := hidden (colC_fine hoc (1 + y % 3))
  have HKI := hidden (colC_kind (l := cl) (1 + y % 3))
  have HLN := hidden (colC_len (l := cl) (1 + y % 3))
  have HCO := hidden (fun (U : World) (h : Below w.heap.size w U) => column_any (hc.kept h) (1 + y % 3))
  have hm3 : y % 3 < 3 := Nat.mod_lt _ (by omega)
  have hrem : (y : Int).tmod 3 = ((y % 3 : Nat) : Int) := by
    rw [Int.tmod_eq_emod_of_nonneg (by omega)]
    omega
  have hwr : IntKind.u8.wrap (1 + ((y % 3 : Nat) : Int)) = ((1 + y % 3 : Nat) : Int) := by
    have h : y % 3 = 0 ∨ y % 3 = 1 ∨ y % 3 = 2 := by omega
    rcases h with h | h | h <;> (rw [h]; rfl)
  generalize colC (1 + y % 3) cl = cs at *
  generalize hk : 1 + y % 3 = k at *
  generalize y % 3 = m at *
  clear hk hm3 hc hoc hcm
  go_enter Try.func3, Try.ntmps3
  go_wp2_with fail
  refine (HAL _).mono ?_
  rintro e w1 ⟨rfl, hb⟩
  have HB1 := hidden hb
  clear hb
  go_wp2_with fail
  refine (HCO.out _ HB1.out).mono ?_
  rintro e w2 ⟨⟨v2, rfl, ho2⟩, hb2⟩
  have HO2 := hidden ho2.sc
  have HB2 := hidden (below_then HB1.out hb2)
  have HRC := hidden (fun (U : World) (h : Below w2.heap.size w2 U) => refStats_any (ho2.sc.kept h) HFI.out (by have := HLN.out; omega))
  rw [stats_same HFI.out HKI.out] at HRC
  have H6 := hidden (row6_any ho2.sc (fun c hc => (HFI.out c hc).okc) (by have := HLN.out; omega))
  rw [map_fix HFI.out] at H6
  obtain ⟨va, vcap, rfl, hvc, hvm⟩ := ho2.sc.form
  have hvm' : vcap ≤ 9223372036854775807 := by unfold maxLen at hvm; omega
  clear ho2 hb2 hvm
  go_wp2_with fail
  refine (H6.out).mono ?_
  rintro e w3 ⟨⟨v3, rfl, ho3⟩, hb3⟩
  have HB3 := hidden hb3
  have HST := hidden (stats_any ho3.sv HFI.out (by have := HLN.out; omega))
  clear ho3 hb3
  go_wp2_with fail
  refine (HST.out).mono ?_
  rintro e w4 ⟨rfl, hb4⟩
  have HB24 := hidden (below_then HB3.out hb4)
  have HB4 := hidden (below_then HB2.out HB24.out)
  clear hb4
  have hro := statM_rows cs
  have hso := statM_some cs
  have HCV := hidden (fun c (h : c ∈ cs) => statM_cov HFI.out h)
  have HFS := hidden (statM_fine HFI.out)
  clear H6 HST HB3
  generalize statM cs = st at *
  obtain ⟨ro, nu, so, hg, lo, hi⟩ := st
  have hro' : ro = (cs.length : Int) := hro
  have hso' : so = decide (nu < (cs.length : Int)) := hso
  clear hro hso
  subst hro' hso'
  unfold aggS at HRC
  have hS : Stb (w4.alloc (.cells (celS ⟨cs.length, nu, decide (nu < (cs.length : Int)), hg, lo, hi⟩).toArray 29)) w4.heap.size ⟨cs.length, nu, decide (nu < (cs.length : Int)), hg, lo, hi⟩ := Stb.new w4 _
  have hb5 := below_one w4 (.cells (celS ⟨cs.length, nu, decide (nu < (cs.length : Int)), hg, lo, hi⟩).toArray 29)
  unfold celS at hS hb5
  unfold aggS
  simp only at hS hb5 HRC ⊢
  have HS := hidden hS
  have HB25 := hidden (below_then HB24.out hb5)
  have HB5 := hidden (below_then HB4.out hb5)
  clear hS hb5
  go_wp2_with fail
  generalize hV : w4.alloc (.cells #[.int .i64 (cs.length : Int), .int .i64 nu, .bool (decide (nu < (cs.length : Int))), .bool hg, .int .u8 (lo.1 : Int), .int .i64 lo.2.1, .string (bytesT lo.2.2), .int .u8 (hi.1 : Int), .int .i64 hi.2.1, .string (bytesT hi.2.2)] 29) = V at *
  generalize w4.heap.size = p6 at *
  clear hV
  have HSS : Hid (∀ w', Below V.heap.size V w' → w'.cell? ⟨p6, 0, none⟩ = some (.int .i64 (cs.length : Int)) ∧ w'.cell? ⟨p6, 1, none⟩ = some (.int .i64 nu) ∧ w'.cell? ⟨p6, 2, none⟩ = some (.bool (decide (nu < (cs.length : Int)))) ∧ w'.cell? ⟨p6, 3, none⟩ = some (.bool hg) ∧ w'.cell? ⟨p6, 4, none⟩ = some (.int .u8 (lo.1 : Int)) ∧ w'.cell? ⟨p6, 5, none⟩ = some (.int .i64 lo.2.1) ∧ w'.cell? ⟨p6, 6, none⟩ = some (.string (bytesT lo.2.2)) ∧ w'.cell? ⟨p6, 7, none⟩ = some (.int .u8 (hi.1 : Int)) ∧ w'.cell? ⟨p6, 8, none⟩ = some (.int .i64 hi.2.1) ∧ w'.cell? ⟨p6, 9, none⟩ = some (.string (bytesT hi.2.2))) := hidden (fun w' h => by
    obtain ⟨_, ⟨t0, t1, t2, t3⟩, ⟨t4, t5, t6⟩, t7, t8, t9⟩ := (HS.out.kept h).at
    simp only [Nat.zero_add] at t0 t1 t2 t3 t4 t5 t6 t7 t8 t9
    exact ⟨t0, t1, t2, t3, t4, t5, t6, t7, t8, t9⟩)
  have HRC2 : Hid (∀ U, Below V.heap.size V U → Calls Try.prog 10 #[.slice va cs.length vcap] U fun e w' => e = .returned (.agg #[.int .i64 (cs.length : Int), .int .i64 nu, .bool (decide (nu < (cs.length : Int))), .bool hg, .int .u8 (lo.1 : Int), .int .i64 lo.2.1, .string (bytesT lo.2.2), .int .u8 (hi.1 : Int), .int .i64 hi.2.1, .string (bytesT hi.2.2)]) ∧ Below V.heap.size V w' ∧ w'.cell? ⟨p6, 0, none⟩ = some (.int .i64 (cs.length : Int)) ∧ w'.cell? ⟨p6, 1, none⟩ = some (.int .i64 nu) ∧ w'.cell? ⟨p6, 2, none⟩ = some (.bool (decide (nu < (cs.length : Int)))) ∧ w'.cell? ⟨p6, 3, none⟩ = some (.bool hg) ∧ w'.cell? ⟨p6, 4, none⟩ = some (.int .u8 (lo.1 : Int)) ∧ w'.cell? ⟨p6, 5, none⟩ = some (.int .i64 lo.2.1) ∧ w'.cell? ⟨p6, 6, none⟩ = some (.string (bytesT lo.2.2)) ∧ w'.cell? ⟨p6, 7, none⟩ = some (.int .u8 (hi.1 : Int)) ∧ w'.cell? ⟨p6, 8, none⟩ = some (.int .i64 hi.2.1) ∧ w'.cell? ⟨p6, 9, none⟩ = some (.string (bytesT hi.2.2))) := hidden (fun U hU => by
    refine (HRC.out U (below_then HB25.out hU)).mono ?_
    rintro e w6 ⟨rfl, hb6⟩
    have h7 := below_then hU hb6
    exact ⟨rfl, h7, HSS.out _ h7⟩)
  have hkk0 := HSS.out V (Below.refl _ _)
  have hne := agg29_ne (cs.length : Int) nu (decide (nu < (cs.length : Int))) hg (lo.1 : Int) lo.2.1 (bytesT lo.2.2) (hi.1 : Int) hi.2.1 (bytesT hi.2.2)
  clear HRC
  go_region_held3 (fun w' => w'.cell? ⟨p6, 0, none⟩ = some (.int .i64 (cs.length : Int)) ∧ w'.cell? ⟨p6, 1, none⟩ = some (.int .i64 nu) ∧ w'.cell? ⟨p6, 2, none⟩ = some (.bool (decide (nu < (cs.length : Int)))) ∧ w'.cell? ⟨p6, 3, none⟩ = some (.bool hg) ∧ w'.cell? ⟨p6, 4, none⟩ = some (.int .u8 (lo.1 : Int)) ∧ w'.cell? ⟨p6, 5, none⟩ = some (.int .i64 lo.2.1) ∧ w'.cell? ⟨p6, 6, none⟩ = some (.string (bytesT lo.2.2)) ∧ w'.cell? ⟨p6, 7, none⟩ = some (.int .u8 (hi.1 : Int)) ∧ w'.cell? ⟨p6, 8, none⟩ = some (.int .i64 hi.2.1) ∧ w'.cell? ⟨p6, 9, none⟩ = some (.string (bytesT hi.2.2))) (first | assumption | go_keep) (first
    | (go_at_call 10; refine (HRC2.out _ ?_).mono ?_; (first | exact (Below.refl _ _).drew | exact below_drewN (Below.refl _ _) _); rintro e w7 ⟨rfl, hbV, hkk⟩))
  all_goals clear hkk hkk0 hne
  all_goals go_wp2_with fail
  have HSV := hidden (HS.out.kept hbV)
  have HOV := hidden (HO2.out.kept (below_then HB25.out hbV))
  have HBV := hidden (below_then HB5.out hbV)
  clear HS HO2 HB25 HB5 hbV HSS HRC2 HB4 HB24 HB2 HB1
  generalize hso : decide (nu < (cs.length : Int)) = so at *
  clear hso
  go_loopw [7] (fun i wr => ∃ j : Nat, j ≤ cs.length ∧ i = .int .i64 (j : Int) ∧ Below w7.heap.size w7 wr) (fun i _ => cs.length - (intOf i).toNat)
  case atStart => exact ⟨0, by omega, rfl, Below.refl _ _⟩
  case round =>
    obtain ⟨j, hj, rfl, hbel⟩ := hrel
    have HB := hidden hbel
    clear hbel
    by_cases hlt : j < cs.length
    · have hlt' : (j : Int) < (cs.length : Int) := by omega
      have HJ1 : Hid (j + 1 ≤ cs.length) := hidden hlt
      obtain ⟨g, off, rfl, hgg, c0, c1, c2⟩ := (HOV.out.kept HB.out).at hlt
      rw [txt_eq] at c2
      have HCC := hidden (HCV.out cs[j] (List.getElem_mem hlt))
      have HL : Hid (cs[j].1 ≠ 0 → decide (cmpC cs[j] lo < 0) = false ∧ (hg = true → decide (cmpC hi cs[j] < 0) = false)) := hidden (fun h0 => by
        obtain ⟨_, h1, h2⟩ := HCC.out.2 h0
        have h1' : cmpC (fixC lo) cs[j] ≤ 0 := h1
        have h2' : hg = true → cmpC cs[j] (fixC hi) ≤ 0 := h2
        rw [fixC_same HFS.out.1] at h1'
        rw [fixC_same HFS.out.2] at h2'
        have s1 := cmpC_swap lo cs[j]
        have s2 := cmpC_swap cs[j] hi
        refine ⟨decide_eq_false (by omega), fun hh => decide_eq_false (by have := h2' hh; omega)⟩)
      clear HCC
      generalize cs[j] = c at *
      have HLA := hidden (lessC c lo)
      have HLB := hidden (lessC hi c)
      have hcn := Ceb.new wr (.int .u8 (c.1 : Int)) (.int .i64 c.2.1) (.string (bytesT c.2.2))
      have hb2 := below_one wr (.cells #[.int .u8 (c.1 : Int), .int .i64 c.2.1, .string (bytesT c.2.2)] 27)
      have HB2 := hidden (below_then HB.out hb2)
      obtain ⟨⟨d0, d1, d2⟩, _, _⟩ := hcn.facts
      have HCN := hidden hcn
      obtain ⟨_, ⟨t0, t1, t2, t3⟩, ⟨t4, t5, t6⟩, t7, t8, t9⟩ := (HSV.out.kept HB2.out).at
      simp only [Nat.zero_add] at t0 t1 t2 t3 t4 t5 t6 t7 t8 t9
      clear hcn hb2
      generalize hW : wr.alloc (.cells #[.int .u8 (c.1 : Int), .int .i64 c.2.1, .string (bytesT c.2.2)] 27) = W at *
      by_cases h0 : c.1 = 0
      · have h0' : ((c.1 : Int) != 0) = false := by rw [h0]; rfl
        clear h0
        go_wp2_with fail
        go_roundw
        case rel => exact ⟨j + 1, HJ1.out, by go_num, HB2.out⟩
        case measure => simp [intOf]; omega
      · have h0' : ((c.1 : Int) != 0) = true := by simp; omega
        have HL2 := hidden (HL.out h0)
        rw [HL2.out.1] at HLA
        clear h0 HL
        go_wp2_with fail
        refine (HLA.out _).mono ?_
        rintro e w8 ⟨rfl, hb8⟩
        have HB8 := hidden (below_then HB2.out hb8)
        have HCN8 := hidden (HCN.out.kept hb8)
        clear hb8 hW d0 d1 d2 t0 t1 t2 t3 t4 t5 t6 t7 t8 t9
        obtain ⟨⟨d0, d1, d2⟩, _, _⟩ := HCN8.out.facts
        obtain ⟨_, ⟨t0, t1, t2, t3⟩, ⟨t4, t5, t6⟩, t7, t8, t9⟩ := (HSV.out.kept HB8.out).at
        simp only [Nat.zero_add] at t0 t1 t2 t3 t4 t5 t6 t7 t8 t9
        cases hg
        · go_wp2_with fail
          go_roundw
          case rel => exact ⟨j + 1, HJ1.out, by go_num, HB8.out⟩
          case measure => simp [intOf]; omega
        · rw [HL2.out.2 rfl] at HLB
          go_wp2_with fail
          refine (HLB.out _).mono ?_
          rintro e w9 ⟨rfl, hb9⟩
          have HB9 := hidden (below_then HB8.out hb9)
          clear hb9 d0 d1 d2 t0 t1 t2 t3 t4 t5 t6 t7 t8 t9
          go_wp2_with fail
          go_roundw
          case rel => exact ⟨j + 1, HJ1.out, by go_num, HB9.out⟩
          case measure => simp [intOf]; omega
    · obtain rfl : j = cs.length := by omega
      have hge : ¬ ((cs.length : Nat) : Int) < (cs.length : Int) := by omega
      go_wp2_with fail
      go_ret
      exact ⟨rfl, below_then HBV.out HB.out⟩
end Go.Proofs.Ytfcnoeehfhncjaa
