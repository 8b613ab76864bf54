/- The document's Read of layer 6, where a value may be null, by kind. -/
import Derived.Test.YtcmmednihoaekaaGreatRrD
set_option linter.unusedVariables false
set_option linter.unusedSimpArgs false
namespace Go.Proofs.YtcmmednihoaekaaGreat
open Go.RowKit Go.Lib

set_option maxRecDepth 100000 in
set_option maxHeartbeats 16000000 in
theorem refRead6_11 {w : World} {v : Value} {t : List Nat} (hb : Sv w v (vals .u8 (1 :: t))) (h8 : Bs (1 :: t)) (n : Nat) (hn : n ≤ 256) :
    Calls Tryz.prog 15 #[.int .i64 1, v, .int .i64 (n : Int)] w (RefPost (readC 1 (1 :: t) n) w) := by
  have HSB := hidden hb
  have H8 := hidden h8
  obtain ⟨g, off, cap, rfl, h1, h2, h3, h4, h4b, A, hA, hSA⟩ := hb.uncons
  have hcm' : cap ≤ 9223372036854775807 := by unfold maxLen at h2; omega
  have HBT : Hid (Bs t) := fun x hx => h8 x (by simp [hx])
  have HSA := hidden hSA
  have H4 := hidden h4
  have hlen : (((t.length + 1 : Nat) : Int) == 0) = false := beq_eq_false_iff_ne.2 (by omega)
  have hn0 : ¬ (n : Int) < 0 := by omega
  have hn1 : ¬ (n : Int) > 256 := by omega
  have HRN := hidden (fun h => readC_nohead (k := 1) (b := 1 :: t) (n := n) (by rw [head_one]; exact if_neg h))
  have HRY := hidden (fun h => readC_head (k := 1) (b := 1 :: t) (n := n) (by rw [head_one]; exact if_pos h))
  clear hb h8 h4b hSA h2
  generalize readC 1 (1 :: t) n = RC at *
  go_enter Tryz.func15, Tryz.ntmps15
  go_wp2_with fail
  go_loopw [8, 9] (fun vo i wr => ∃ j : Nat, j ≤ n ∧ i = .int .i64 (j : Int) ∧ OwnU wr w.heap.size vo (List.replicate j 1) ∧ Below w.heap.size w wr) (fun _ i _ => n - (intOf i).toNat)
  case atStart => exact ⟨0, by omega, rfl, OwnU.nil _ _, Below.refl _ _⟩
  case round =>
    obtain ⟨j, hj, rfl, how, hbel⟩ := hrel
    have HOa := hidden how
    have HBa := hidden hbel
    have hzra := hbel.size
    clear how hbel
    by_cases hlt : j < n
    · have hlt3 : (j : Int) < (n : Int) := by omega
      have HRS : Hid (List.replicate (j + 1) 1 = List.replicate j 1 ++ [1]) := hidden List.replicate_succ'
      have hll : (List.replicate j 1).length ≤ 100000 := by rw [List.length_replicate]; omega
      generalize List.replicate j 1 = LL at *
      go_wp2_with (first | (at_builtin; refine wpList_append_u rfl _ _ rfl w.heap.size _ _ 1 LL rfl (HOa.out.kept (below_one _ _)) rfl (cell_new _ _ _) hll ?c3 ?_))
      case c3 => first | omega | (rw [World.size_alloc]; omega)
      intro v7 w7 o7 b7
      rw [← HRS.out] at o7
      have HO7 := hidden o7
      have HB7 := hidden ((HBa.out.alloc hzra _).trans b7)
      clear o7 b7
      go_wp2_with fail
      go_roundw
      case rel => exact ⟨j + 1, by omega, by go_num, HO7.out, HB7.out⟩
      case measure => simp [intOf]; omega
    · obtain rfl : j = n := by omega
      have hlt3 : ¬ (j : Int) < (j : Int) := by omega
      have h4' := (HBa.out.cell (p := ⟨g, off, none⟩) h3).trans H4.out
      generalize hn_ : j = n at *
      clear hn_
      have hq : ((n : Int) + 7) / 8 = ((by8 n : Nat) : Int) := by unfold by8; omega
      have hq256 : by8 n ≤ 32 := by unfold by8; omega
      by_cases hl : by8 n ≤ t.length
      · have hl' : ¬ (t.length : Int) < ((by8 n : Nat) : Int) := by omega
        have hlc : by8 n ≤ cap - 1 := by omega
        have HUN := hidden (refUnpack_bits ((HSA.out.kept HBa.out).takeA hl) (HBT.out.take (by8 n)) n hn)
        have HRN2 := hidden (fun (h : unE (t.take (by8 n)) (n : Int) 1 ≠ 0) => HRN.out (fun h2 => h h2.2))
        have HRY2 := hidden (fun (h : unE (t.take (by8 n)) (n : Int) 1 = 0) => HRY.out ⟨hl, h⟩)
        have HULN := hidden (unR_len (b := t.take (by8 n)) (n := n))
        obtain ⟨A2, hA2, hSA2⟩ := HSA.out.dropA hl
        have HSA2 := hidden hSA2
        have HC8 := hidden (HBT.out.drop (by8 n))
        clear hSA2 HRN HRY
        generalize unE (t.take (by8 n)) (n : Int) 1 = eu at *
        generalize unR (t.take (by8 n)) (n : Int) 1 = th at *
        generalize t.drop (by8 n) = rr at *
        generalize by8 n = m8 at *
        go_wp2_with fail
        refine HUN.out.mono ?_
        rintro e w2 ⟨v2, rfl, ho2, hb2⟩
        have HB2 := hidden (HBa.out.trans (hb2.mono hzra))
        have HOa2 := hidden ho2
        have hz2 := HB2.out.size
        clear ho2 hb2 hlt hlt3 h4'
        by_cases he : eu = 0
        · subst he
          obtain ⟨hthl, ht2⟩ := HULN.out rfl
          have HT2 := hidden ht2
          have HRC := hidden (HRY2.out rfl)
          have HSC := hidden (HSA2.out.kept HB2.out)
          obtain ⟨ath, cth, hve, hcth, hcthm⟩ := own_slice HOa2.out
          rw [hthl] at hve hcth
          subst hve
          have HTH := hidden HOa2.out.sv
          have HTHL := hidden hthl
          clear hthl ht2
          generalize w2 = W2 at *
          have hthm : cth ≤ 9223372036854775807 := by unfold maxLen at hcthm; omega
          have HSUM : Hid (∀ k, (th.take k).sum ≤ 256) := hidden (fun k => Nat.le_trans (sum_take_le HT2.out k) (by rw [HTHL.out]; exact hn))
          clear hcthm
          go_wp2_with fail
          go_loopw [13, 14] (fun s i wr => ∃ j : Nat, j ≤ n ∧ i = .int .i64 (j : Int) ∧ s = .int .i64 ((th.take j).sum : Int) ∧ wr = W2) (fun _ i _ => n - (intOf i).toNat)
          case atStart => exact ⟨0, by omega, rfl, rfl, rfl⟩
          case round =>
            obtain ⟨j, hj, rfl, rfl, rfl⟩ := hrel
            by_cases hlt : j < n
            · have hlt3 : (j : Int) < (n : Int) := by omega
              have hltT : j < th.length := by rw [HTHL.out]; exact hlt
              obtain ⟨gt_, ot, rfl, hgt, hct⟩ := HTH.out.atU (k := j) hltT
              have HSS := hidden (sum_take_succ (l := th) (k := j) hltT)
              have hx2 := HT2.out _ (List.getElem_mem hltT)
              have hsm := HSUM.out j
              have hsm' : (th.take (j + 1)).sum ≤ 256 := HSUM.out (j + 1)
              rw [HSS.out] at hsm'
              generalize th[j] = x at *
              clear hltT
              have hw1 : IntKind.i64.wrap (x : Int) = (x : Int) := by rw [IntKind.wrap_i64]; omega
              generalize (th.take j).sum = S at *
              go_wp2_with fail
              go_roundw
              case rel => exact ⟨j + 1, by omega, by go_num, by rw [HSS.out]; simp, trivial⟩
              case measure => simp [intOf]; omega
            · obtain rfl : j = n := by omega
              have hlt3 : ¬ (j : Int) < (j : Int) := by omega
              have HTK : Hid (th.take j = th) := hidden (List.take_of_length_le (by rw [HTHL.out]; exact Nat.le_refl _))
              have hsm := HSUM.out j
              rw [HTK.out] at hsm
              rw [HTK.out]
              generalize hn_ : j = n at *
              clear hn_ hlt3 hlt hj
              have HRI := hidden (refRead_any HSC.out HC8.out (th.sum : Int))
              have HRC2 : Hid (RC = (if (readM rr (th.sum : Int)).2 = 0 then some ((readM rr (th.sum : Int)).1.map fun x => (1, x, [])) else none).bind (finC 1 (1 :: t) th)) := hidden HRC.out
              have HOI : Hid ((readM rr (th.sum : Int)).2 = 0 → ((readM rr (th.sum : Int)).1.map fun x => ((1 : Nat), x, ([] : List Nat))).length = th.sum ∧ ∀ c ∈ ((readM rr (th.sum : Int)).1.map fun x => ((1 : Nat), x, ([] : List Nat))), Cellw 1 c) := hidden (fun h => ownM_inv (k := 1) (b := rr) (n := th.sum) (by omega) HC8.out (by unfold ownM; rw [if_pos rfl, if_pos h]))
              generalize readM rr (th.sum : Int) = RM at *
              generalize hSm : th.sum = Sm at *
              have HSm := hidden hSm
              clear hSm
              obtain ⟨p, f⟩ := RM
              simp only at *
              go_wp2_with fail
              refine HRI.out.mono ?_
              rintro e w4 ⟨⟨v5, rfl, ho5⟩, hb5⟩
              have HB4 := hidden (HB2.out.trans (hb5.mono hz2))
              have HTH4 := hidden (HTH.out.kept hb5)
              have hz4 := HB4.out.size
              have HP4 := hidden ho5.sv
              obtain ⟨ap, cp, rfl⟩ := ho5.len
              clear ho5 hb5
              simp only at *
              by_cases hf : f = 0
              · subst hf
                obtain ⟨hol, hocw⟩ := HOI.out rfl
                have HOCW := hidden hocw
                have hpl : p.length ≤ 256 := by rw [List.length_map] at hol; omega
                have HRC : Hid (RC = finC 1 (1 :: t) th (p.map fun x => ((1 : Nat), x, ([] : List Nat)))) := hidden HRC2.out
                rw [← HSm.out] at hol
                have HOLn := hidden hol
                clear hocw hol
                generalize w4 = W4 at *
                go_wp2_with fail
                go_loopw [15, 18] (fun vo i wr => ∃ j : Nat, j ≤ p.length ∧ i = .int .i64 (j : Int) ∧ OwnC wr W4.heap.size vo ((p.take j).map fun x => ((1 : Nat), x, ([] : List Nat))) ∧ Below W4.heap.size W4 wr) (fun _ i _ => p.length - (intOf i).toNat)
                case atStart => exact ⟨0, by omega, rfl, OwnC.nil _ _, Below.refl _ _⟩
                case round =>
                  obtain ⟨j, hj, rfl, how, hbel⟩ := hrel
                  have HOb := hidden how
                  have HBb := hidden hbel
                  have hzrb := hbel.size
                  clear how hbel
                  by_cases hlt : j < p.length
                  · have hlt3 : (j : Int) < (p.length : Int) := by omega
                    obtain ⟨gp, op, rfl, hgp, hcp0⟩ := HP4.out.at hlt
                    have hcp := (HBb.out.cell (p := ⟨gp, op + j, none⟩) hgp).trans hcp0
                    have HNX : Hid ((p.take (j + 1)).map (fun x => ((1 : Nat), x, ([] : List Nat))) = (p.take j).map (fun x => ((1 : Nat), x, ([] : List Nat))) ++ [(1, p[j], [])]) := hidden (by rw [List.take_succ_eq_append_getElem hlt, List.map_append]; rfl)
                    have hll : ((p.take j).map (fun x => ((1 : Nat), x, ([] : List Nat)))).length ≤ 100000 := by rw [List.length_map, List.length_take]; omega
                    clear hcp0
                    generalize p[j] = x at *
                    generalize (p.take j).map (fun x => ((1 : Nat), x, ([] : List Nat))) = LL at *
                    have HCN := hidden (cell_new3 wr (.int .u8 1) (.int .i64 x) (.string ⟨#[]⟩) 45)
                    go_wp2_with (first | (at_builtin; refine wpList_append_c rfl _ _ rfl W4.heap.size _ _ (1, x, []) LL rfl (HOb.out.kept (below_one _ _)) rfl HCN.out.1 HCN.out.2.1 HCN.out.2.2 hll ?c2 ?_))
                    case c2 => first | omega | (rw [World.size_alloc]; omega)
                    intro v' w5 o5 b5
                    rw [← HNX.out] at o5
                    have HO6 := hidden o5
                    have HB6 := hidden ((HBb.out.alloc hzrb _).trans b5)
                    clear o5 b5
                    go_wp2_with fail
                    go_roundw
                    case rel => exact ⟨j + 1, by omega, by go_num, HO6.out, HB6.out⟩
                    case measure => simp [intOf]; omega
                  · obtain rfl : j = p.length := by omega
                    have hlt3 : ¬ (p.length : Int) < (p.length : Int) := by omega
                    rw [List.take_length] at HOb
                    have hol := HOLn.out
                    generalize (p.map fun x => ((1 : Nat), x, ([] : List Nat))) = o at *
                    have HB5 := hidden (HB4.out.trans (HBb.out.mono hz4))
                    have HOW : Hid (OwnC wr w.heap.size _ o) := hidden (own_low HOb.out hz4)
                    have HTH5 := hidden (HTH4.out.kept HBb.out)
                    clear HOb HBb hzrb hlt hlt3 hj HOLn
                    generalize wr = W5 at *
                    -- the list of what is there: o, owned at W5 above W4
                    have HOFL := hidden (FillAt.zero (th := th) (o := o) hol)
                    obtain ⟨ao, co, rfl, hco, hcom⟩ := own_slice HOW.out
                    have hcom' : co ≤ 9223372036854775807 := by unfold maxLen at hcom; omega
                    have HOC := hidden HOW.out.sc
                    have HFN : Hid (∀ c ∈ fillC th o, Finew c) := hidden (fun c hc => ((fillC_inv (P := Cellw 1) (Or.inl rfl) (th := th) HOCW.out).2 c hc).wide)
                    have HFL : Hid ((fillC th o).length = n) := hidden (by rw [(fillC_inv (P := Cellw 1) (Or.inl rfl) (th := th) HOCW.out).1, HTHL.out])
                    have HFW := hidden (fin_write (k := 1) (b := (1 :: t)) (th := th) (o := o) (by omega) (by rw [HTHL.out]; exact hn) HOCW.out)
                    have ho256 : o.length ≤ 256 := by rw [hol, HSm.out]; exact hsm
                    clear hcom hol
                    go_wp2_with fail
                    go_loopw [25, 26, 27] (fun vo va i wr => ∃ (j q : Nat) (pre : List (Nat × Int × List Nat)), j ≤ n ∧ q ≤ 256 ∧ i = .int .i64 (j : Int) ∧ va = .int .i64 (q : Int) ∧ FillAt th o j q pre ∧ OwnC wr W5.heap.size vo pre ∧ Below W5.heap.size W5 wr) (fun _ _ i _ => n - (intOf i).toNat)
                    case atStart => exact ⟨0, 0, [], by omega, by omega, rfl, rfl, HOFL.out, OwnC.nil _ _, Below.refl _ _⟩
                    case round =>
                      obtain ⟨j, q, pre, hj, hq256, rfl, rfl, hat, how, hbel⟩ := hrel
                      have HAT := hidden hat
                      have HOf := hidden how
                      have HBf := hidden hbel
                      have hzrf := hbel.size
                      have hpl : pre.length = j := hat.2.2.2
                      have hpl' : pre.length ≤ 100000 := by omega
                      clear hat how hbel hpl
                      by_cases hlt : j < n
                      · have hlt3 : (j : Int) < (n : Int) := by omega
                        have hltT : j < th.length := by rw [HTHL.out]; exact hlt
                        obtain ⟨gt_, ot, rfl, hgt, hct0⟩ := (HTH5.out).atU (k := j) hltT
                        have hct := (HBf.out.cell (p := ⟨gt_, ot + j, none⟩) hgt).trans hct0
                        have hx2 := HT2.out _ (List.getElem_mem hltT)
                        by_cases hx0 : th[j] = 0
                        · have HAT2 := hidden (HAT.out.null hltT hx0)
                          rw [hx0] at hct
                          have HCN := hidden (cell_new3 wr (.int .u8 0) (.int .i64 0) (.string ⟨#[]⟩) 45)
                          clear hct0 hx0 hx2 hltT
                          go_wp2_with (first | (at_builtin; refine wpList_append_c rfl _ _ rfl W5.heap.size _ _ nul pre rfl (HOf.out.kept (below_one _ _)) rfl HCN.out.1 HCN.out.2.1 HCN.out.2.2 hpl' ?c2 ?_))
                          case c2 => first | omega | (rw [World.size_alloc]; omega)
                          intro v' w5 o5 b5
                          have HO6 := hidden o5
                          have HB6 := hidden ((HBf.out.alloc hzrf _).trans b5)
                          clear o5 b5
                          go_wp2_with fail
                          go_roundw
                          case rel => exact ⟨j + 1, q, _, by omega, by omega, by go_num, rfl, HAT2.out, HO6.out, HB6.out⟩
                          case measure => simp [intOf]; omega
                        · have hx1 : th[j] = 1 := by omega
                          obtain ⟨hq, hat2⟩ := HAT.out.some hltT hx1
                          have HAT2 := hidden hat2
                          have hqn : q + 1 ≤ 256 := by omega
                          rw [hx1] at hct
                          have hqi : (q : Int) < (o.length : Int) := by omega
                          obtain ⟨go_, oo, rfl, hgo, c0, c1, c2'⟩ := (HOC.out.kept HBf.out).at hq
                          rw [txt_eq] at c2'
                          clear hct0 hx0 hx1 hx2 hltT hat2
                          generalize o[q] = xc at *
                          obtain ⟨xk, xn, xs⟩ := xc
                          simp only at *
                          have HCN := hidden (cell_new3 wr (.int .u8 (xk : Int)) (.int .i64 xn) (.string (bytesT xs)) 45)
                          go_wp2_with (first | (at_builtin; refine wpList_append_c rfl _ _ rfl W5.heap.size _ _ (xk, xn, xs) pre rfl (HOf.out.kept (below_one _ _)) rfl HCN.out.1 HCN.out.2.1 HCN.out.2.2 hpl' ?c2 ?_))
                          case c2 => first | omega | (rw [World.size_alloc]; omega)
                          intro v' w5 o5 b5
                          have HO6 := hidden o5
                          have HB6 := hidden ((HBf.out.alloc hzrf _).trans b5)
                          clear o5 b5
                          go_wp2_with fail
                          go_roundw
                          case rel => exact ⟨j + 1, q + 1, _, by omega, by omega, by go_num, by go_num, HAT2.out, HO6.out, HB6.out⟩
                          case measure => simp [intOf]; omega
                      · obtain rfl : j = n := by omega
                        have hlt3 : ¬ (j : Int) < (j : Int) := by omega
                        have HEL : Hid (fillC th o = pre) := hidden (by
                          have := HAT.out
                          rw [← HTHL.out] at this
                          exact this.last)
                        rw [HEL.out] at HFN HFL HFW
                        have HPL : Hid (pre.length ≤ 600) := hidden (by rw [HFL.out]; omega)
                        have HWR := hidden (refWrite_any HOf.out.sc HFN.out HPL.out 1 (by omega))
                        have HWB := hidden (writeC_bytes HFN.out (k := 1))
                        generalize hn_ : j = n at *
                        clear hn_ hlt3 hlt hj
                        generalize writeC 1 pre = WC at *
                        obtain ⟨wb, er⟩ := WC
                        simp only at *
                        have hzz := HB5.out.size
                        go_wp2_with fail
                        refine HWR.out.mono ?_
                        rintro e w8 ⟨⟨v8, rfl, ho8⟩, hb8⟩
                        have HO8 := hidden ho8
                        have HL8 := hidden (show OwnC _ w.heap.size _ pre from own_low (HOf.out.kept hb8) hzz)
                        have HB8 := hidden ((HB5.out.trans (HBf.out.mono hzz)).trans (hb8.mono (Nat.le_trans hzz hzrf)))
                        clear ho8 hb8
                        simp only at *
                        have hc8 : ∀ m, (convert 24 9 v8).run Tryz.prog (w8.drewN m) = .ok (txt wb) (w8.drewN m) := fun m => (HO8.out.sv.kept (below_drewN (Below.refl _ _) m)).conv HWB.out
                        have hcB : ∀ m, (convert 24 9 (.slice (some ⟨g, off, none⟩) (t.length + 1) cap)).run Tryz.prog (w8.drewN m) = .ok (txt (1 :: t)) (w8.drewN m) := fun m => (HSB.out.kept (below_drewN HB8.out m)).conv H8.out
                        obtain ⟨s1, hs1⟩ : ∃ s1, wb.map Nat.toUInt8 = s1 := ⟨_, rfl⟩
                        obtain ⟨s2, hs2⟩ : ∃ s2, (1 :: t).map Nat.toUInt8 = s2 := ⟨_, rfl⟩
                        have HEQ := hidden (bytes_eq HWB.out H8.out)
                        rw [hs1, hs2] at HEQ
                        unfold txt at hc8 hcB
                        rw [hs1] at hc8
                        rw [hs2] at hcB
                        clear hs1 hs2
                        by_cases her : er = 0
                        · subst her
                          by_cases hw : wb = (1 :: t)
                          · have hss := HEQ.out.2 hw
                            have HR : Hid (RC = some pre) := hidden (by
                              rw [HRC.out]
                              rcases HFW.out with h | h
                              · exact h.2.2
                              · exact absurd hw (by rcases h.1 with h | h; exact absurd rfl h; exact h))
                            rw [hss] at hc8
                            clear hss hw
                            go_wp2_with fail
                            go_quiet (fail)
                            go_wp2_with fail
                            go_ret2
                            rw [HR.out]
                            refine ⟨_, rfl, fun l e => ?_, below_drewN HB8.out _⟩
                            cases e
                            exact HL8.out.kept (below_drewN (Below.refl _ _) _)
                          · have hss : s1 ≠ s2 := fun e => hw (HEQ.out.1 e)
                            have HR : Hid (RC = none) := hidden (by
                              rw [HRC.out]
                              rcases HFW.out with h | h
                              · exact absurd h.2.1 hw
                              · exact h.2)
                            have hbne : (s1 == s2) = false := by simpa using hss
                            clear hw hss
                            go_wp2_with fail
                            go_quiet (fail)
                            go_wp2_with fail
                            go_ret2
                            rw [HR.out]
                            exact ⟨_, rfl, fun l e => (by cases e), below_drewN HB8.out _⟩
                        · have hz1' : ((er : Int) == 0) = false := by simpa using her
                          have HR : Hid (RC = none) := hidden (by
                            rw [HRC.out]
                            rcases HFW.out with h | h
                            · exact absurd h.1 her
                            · exact h.2)
                          clear her
                          go_wp2_with fail
                          go_quiet (fail)
                          go_wp2_with fail
                          go_ret2
                          rw [HR.out]
                          exact ⟨_, rfl, fun l e => (by cases e), below_drewN HB8.out _⟩
              · have hf' : ((f : Int) != 0) = true := by simp; omega
                have HR : Hid (RC = none) := hidden (by rw [HRC2.out, if_neg hf]; rfl)
                clear hf
                go_wp2_with fail
                go_ret2
                rw [HR.out]
                exact ⟨_, rfl, fun l e => (by cases e), HB4.out⟩
        · have he' : ((eu : Int) != 0) = true := by simp; omega
          have HR := hidden (HRN2.out he)
          clear he
          go_wp2_with fail
          go_ret2
          rw [HR.out]
          exact ⟨_, rfl, fun l e => (by cases e), HB2.out⟩
      · have hl' : (t.length : Int) < ((by8 n : Nat) : Int) := by omega
        have HR := hidden (HRN.out (fun h => hl h.1))
        generalize by8 n = m8 at *
        clear hl
        go_wp2_with fail
        go_ret2
        rw [HR.out]
        exact ⟨_, rfl, fun l e => (by cases e), HBa.out⟩

set_option maxRecDepth 100000 in
set_option maxHeartbeats 16000000 in
theorem refRead6_12 {w : World} {v : Value} {t : List Nat} (hb : Sv w v (vals .u8 (1 :: t))) (h8 : Bs (1 :: t)) (n : Nat) (hn : n ≤ 256) :
    Calls Tryz.prog 15 #[.int .i64 2, v, .int .i64 (n : Int)] w (RefPost (readC 2 (1 :: t) n) w) := by
  have HSB := hidden hb
  have H8 := hidden h8
  obtain ⟨g, off, cap, rfl, h1, h2, h3, h4, h4b, A, hA, hSA⟩ := hb.uncons
  have hcm' : cap ≤ 9223372036854775807 := by unfold maxLen at h2; omega
  have HBT : Hid (Bs t) := fun x hx => h8 x (by simp [hx])
  have HSA := hidden hSA
  have H4 := hidden h4
  have hlen : (((t.length + 1 : Nat) : Int) == 0) = false := beq_eq_false_iff_ne.2 (by omega)
  have hn0 : ¬ (n : Int) < 0 := by omega
  have hn1 : ¬ (n : Int) > 256 := by omega
  have HRN := hidden (fun h => readC_nohead (k := 2) (b := 1 :: t) (n := n) (by rw [head_one]; exact if_neg h))
  have HRY := hidden (fun h => readC_head (k := 2) (b := 1 :: t) (n := n) (by rw [head_one]; exact if_pos h))
  clear hb h8 h4b hSA h2
  generalize readC 2 (1 :: t) n = RC at *
  go_enter Tryz.func15, Tryz.ntmps15
  go_wp2_with fail
  go_loopw [8, 9] (fun vo i wr => ∃ j : Nat, j ≤ n ∧ i = .int .i64 (j : Int) ∧ OwnU wr w.heap.size vo (List.replicate j 1) ∧ Below w.heap.size w wr) (fun _ i _ => n - (intOf i).toNat)
  case atStart => exact ⟨0, by omega, rfl, OwnU.nil _ _, Below.refl _ _⟩
  case round =>
    obtain ⟨j, hj, rfl, how, hbel⟩ := hrel
    have HOa := hidden how
    have HBa := hidden hbel
    have hzra := hbel.size
    clear how hbel
    by_cases hlt : j < n
    · have hlt3 : (j : Int) < (n : Int) := by omega
      have HRS : Hid (List.replicate (j + 1) 1 = List.replicate j 1 ++ [1]) := hidden List.replicate_succ'
      have hll : (List.replicate j 1).length ≤ 100000 := by rw [List.length_replicate]; omega
      generalize List.replicate j 1 = LL at *
      go_wp2_with (first | (at_builtin; refine wpList_append_u rfl _ _ rfl w.heap.size _ _ 1 LL rfl (HOa.out.kept (below_one _ _)) rfl (cell_new _ _ _) hll ?c3 ?_))
      case c3 => first | omega | (rw [World.size_alloc]; omega)
      intro v7 w7 o7 b7
      rw [← HRS.out] at o7
      have HO7 := hidden o7
      have HB7 := hidden ((HBa.out.alloc hzra _).trans b7)
      clear o7 b7
      go_wp2_with fail
      go_roundw
      case rel => exact ⟨j + 1, by omega, by go_num, HO7.out, HB7.out⟩
      case measure => simp [intOf]; omega
    · obtain rfl : j = n := by omega
      have hlt3 : ¬ (j : Int) < (j : Int) := by omega
      have h4' := (HBa.out.cell (p := ⟨g, off, none⟩) h3).trans H4.out
      generalize hn_ : j = n at *
      clear hn_
      have hq : ((n : Int) + 7) / 8 = ((by8 n : Nat) : Int) := by unfold by8; omega
      have hq256 : by8 n ≤ 32 := by unfold by8; omega
      by_cases hl : by8 n ≤ t.length
      · have hl' : ¬ (t.length : Int) < ((by8 n : Nat) : Int) := by omega
        have hlc : by8 n ≤ cap - 1 := by omega
        have HUN := hidden (refUnpack_bits ((HSA.out.kept HBa.out).takeA hl) (HBT.out.take (by8 n)) n hn)
        have HRN2 := hidden (fun (h : unE (t.take (by8 n)) (n : Int) 1 ≠ 0) => HRN.out (fun h2 => h h2.2))
        have HRY2 := hidden (fun (h : unE (t.take (by8 n)) (n : Int) 1 = 0) => HRY.out ⟨hl, h⟩)
        have HULN := hidden (unR_len (b := t.take (by8 n)) (n := n))
        obtain ⟨A2, hA2, hSA2⟩ := HSA.out.dropA hl
        have HSA2 := hidden hSA2
        have HC8 := hidden (HBT.out.drop (by8 n))
        clear hSA2 HRN HRY
        generalize unE (t.take (by8 n)) (n : Int) 1 = eu at *
        generalize unR (t.take (by8 n)) (n : Int) 1 = th at *
        generalize t.drop (by8 n) = rr at *
        generalize by8 n = m8 at *
        go_wp2_with fail
        refine HUN.out.mono ?_
        rintro e w2 ⟨v2, rfl, ho2, hb2⟩
        have HB2 := hidden (HBa.out.trans (hb2.mono hzra))
        have HOa2 := hidden ho2
        have hz2 := HB2.out.size
        clear ho2 hb2 hlt hlt3 h4'
        by_cases he : eu = 0
        · subst he
          obtain ⟨hthl, ht2⟩ := HULN.out rfl
          have HT2 := hidden ht2
          have HRC := hidden (HRY2.out rfl)
          have HSC := hidden (HSA2.out.kept HB2.out)
          obtain ⟨ath, cth, hve, hcth, hcthm⟩ := own_slice HOa2.out
          rw [hthl] at hve hcth
          subst hve
          have HTH := hidden HOa2.out.sv
          have HTHL := hidden hthl
          clear hthl ht2
          generalize w2 = W2 at *
          have hthm : cth ≤ 9223372036854775807 := by unfold maxLen at hcthm; omega
          have HSUM : Hid (∀ k, (th.take k).sum ≤ 256) := hidden (fun k => Nat.le_trans (sum_take_le HT2.out k) (by rw [HTHL.out]; exact hn))
          clear hcthm
          go_wp2_with fail
          go_loopw [13, 14] (fun s i wr => ∃ j : Nat, j ≤ n ∧ i = .int .i64 (j : Int) ∧ s = .int .i64 ((th.take j).sum : Int) ∧ wr = W2) (fun _ i _ => n - (intOf i).toNat)
          case atStart => exact ⟨0, by omega, rfl, rfl, rfl⟩
          case round =>
            obtain ⟨j, hj, rfl, rfl, rfl⟩ := hrel
            by_cases hlt : j < n
            · have hlt3 : (j : Int) < (n : Int) := by omega
              have hltT : j < th.length := by rw [HTHL.out]; exact hlt
              obtain ⟨gt_, ot, rfl, hgt, hct⟩ := HTH.out.atU (k := j) hltT
              have HSS := hidden (sum_take_succ (l := th) (k := j) hltT)
              have hx2 := HT2.out _ (List.getElem_mem hltT)
              have hsm := HSUM.out j
              have hsm' : (th.take (j + 1)).sum ≤ 256 := HSUM.out (j + 1)
              rw [HSS.out] at hsm'
              generalize th[j] = x at *
              clear hltT
              have hw1 : IntKind.i64.wrap (x : Int) = (x : Int) := by rw [IntKind.wrap_i64]; omega
              generalize (th.take j).sum = S at *
              go_wp2_with fail
              go_roundw
              case rel => exact ⟨j + 1, by omega, by go_num, by rw [HSS.out]; simp, trivial⟩
              case measure => simp [intOf]; omega
            · obtain rfl : j = n := by omega
              have hlt3 : ¬ (j : Int) < (j : Int) := by omega
              have HTK : Hid (th.take j = th) := hidden (List.take_of_length_le (by rw [HTHL.out]; exact Nat.le_refl _))
              have hsm := HSUM.out j
              rw [HTK.out] at hsm
              rw [HTK.out]
              generalize hn_ : j = n at *
              clear hn_ hlt3 hlt hj
              have HRI := hidden (refUnpack_bits HSC.out HC8.out th.sum hsm)
              have HRC2 : Hid (RC = (if unE rr th.sum 1 = 0 then some ((unR rr th.sum 1).map fun (x : Nat) => (2, (x : Int), [])) else none).bind (finC 2 (1 :: t) th)) := hidden HRC.out
              have HOI : Hid (unE rr th.sum 1 = 0 → ((unR rr th.sum 1).map fun (x : Nat) => ((2 : Nat), (x : Int), ([] : List Nat))).length = th.sum ∧ ∀ c ∈ ((unR rr th.sum 1).map fun (x : Nat) => ((2 : Nat), (x : Int), ([] : List Nat))), Cellw 2 c) := hidden (fun h => ownM_inv (k := 2) (b := rr) (n := th.sum) (by omega) HC8.out (by unfold ownM; rw [if_neg (by omega), if_pos rfl, if_pos h]))
              have HUL : Hid (unE rr th.sum 1 = 0 → ∀ x ∈ unR rr th.sum 1, x < 2) := hidden (fun h => (unR_len h).2)
              generalize unE rr (th.sum : Int) 1 = f at *
              generalize unR rr (th.sum : Int) 1 = p at *
              generalize hSm : th.sum = Sm at *
              have HSm := hidden hSm
              clear hSm
              go_wp2_with fail
              refine HRI.out.mono ?_
              rintro e w4 ⟨v5, rfl, ho5, hb5⟩
              have HB4 := hidden (HB2.out.trans (hb5.mono hz2))
              have HTH4 := hidden (HTH.out.kept hb5)
              have hz4 := HB4.out.size
              have HP4 := hidden ho5.sv
              obtain ⟨ap, cp, rfl, hcp5, hcpm5⟩ := own_slice ho5
              clear hcp5 hcpm5
              clear ho5 hb5
              simp only at *
              by_cases hf : f = 0
              · subst hf
                obtain ⟨hol, hocw⟩ := HOI.out rfl
                have HOCW := hidden hocw
                have hpl : p.length ≤ 256 := by rw [List.length_map] at hol; omega
                have HRC : Hid (RC = finC 2 (1 :: t) th (p.map fun (x : Nat) => ((2 : Nat), (x : Int), ([] : List Nat)))) := hidden HRC2.out
                rw [← HSm.out] at hol
                have HOLn := hidden hol
                clear hocw hol
                generalize w4 = W4 at *
                go_wp2_with fail
                go_loopw [15, 21] (fun vo i wr => ∃ j : Nat, j ≤ p.length ∧ i = .int .i64 (j : Int) ∧ OwnC wr W4.heap.size vo ((p.take j).map fun (x : Nat) => ((2 : Nat), (x : Int), ([] : List Nat))) ∧ Below W4.heap.size W4 wr) (fun _ i _ => p.length - (intOf i).toNat)
                case atStart => exact ⟨0, by omega, rfl, OwnC.nil _ _, Below.refl _ _⟩
                case round =>
                  obtain ⟨j, hj, rfl, how, hbel⟩ := hrel
                  have HOb := hidden how
                  have HBb := hidden hbel
                  have hzrb := hbel.size
                  clear how hbel
                  by_cases hlt : j < p.length
                  · have hlt3 : (j : Int) < (p.length : Int) := by omega
                    obtain ⟨gp, op, rfl, hgp, hcp0⟩ := HP4.out.atU hlt
                    have hcp := (HBb.out.cell (p := ⟨gp, op + j, none⟩) hgp).trans hcp0
                    have HNX : Hid ((p.take (j + 1)).map (fun (x : Nat) => ((2 : Nat), (x : Int), ([] : List Nat))) = (p.take j).map (fun (x : Nat) => ((2 : Nat), (x : Int), ([] : List Nat))) ++ [(2, (p[j] : Int), [])]) := hidden (by rw [List.take_succ_eq_append_getElem hlt, List.map_append]; rfl)
                    have hll : ((p.take j).map (fun (x : Nat) => ((2 : Nat), (x : Int), ([] : List Nat)))).length ≤ 100000 := by rw [List.length_map, List.length_take]; omega
                    clear hcp0
                    have hx2 := HUL.out (by simp) _ (List.getElem_mem hlt)
                    generalize p[j] = x at *
                    have hw1 : IntKind.i64.wrap (x : Int) = (x : Int) := by rw [IntKind.wrap_i64]; omega
                    generalize (p.take j).map (fun (x : Nat) => ((2 : Nat), (x : Int), ([] : List Nat))) = LL at *
                    have HCN := hidden (cell_new3 wr (.int .u8 2) (.int .i64 (x : Int)) (.string ⟨#[]⟩) 45)
                    go_wp2_with (first | (at_builtin; refine wpList_append_c rfl _ _ rfl W4.heap.size _ _ (2, (x : Int), []) LL rfl (HOb.out.kept (below_one _ _)) rfl HCN.out.1 HCN.out.2.1 HCN.out.2.2 hll ?c2 ?_))
                    case c2 => first | omega | (rw [World.size_alloc]; omega)
                    intro v' w5 o5 b5
                    rw [← HNX.out] at o5
                    have HO6 := hidden o5
                    have HB6 := hidden ((HBb.out.alloc hzrb _).trans b5)
                    clear o5 b5
                    go_wp2_with fail
                    go_roundw
                    case rel => exact ⟨j + 1, by omega, by go_num, HO6.out, HB6.out⟩
                    case measure => simp [intOf]; omega
                  · obtain rfl : j = p.length := by omega
                    have hlt3 : ¬ (p.length : Int) < (p.length : Int) := by omega
                    rw [List.take_length] at HOb
                    have hol := HOLn.out
                    generalize (p.map fun (x : Nat) => ((2 : Nat), (x : Int), ([] : List Nat))) = o at *
                    have HB5 := hidden (HB4.out.trans (HBb.out.mono hz4))
                    have HOW : Hid (OwnC wr w.heap.size _ o) := hidden (own_low HOb.out hz4)
                    have HTH5 := hidden (HTH4.out.kept HBb.out)
                    clear HOb HBb hzrb hlt hlt3 hj HOLn
                    generalize wr = W5 at *
                    -- the list of what is there: o, owned at W5 above W4
                    have HOFL := hidden (FillAt.zero (th := th) (o := o) hol)
                    obtain ⟨ao, co, rfl, hco, hcom⟩ := own_slice HOW.out
                    have hcom' : co ≤ 9223372036854775807 := by unfold maxLen at hcom; omega
                    have HOC := hidden HOW.out.sc
                    have HFN : Hid (∀ c ∈ fillC th o, Finew c) := hidden (fun c hc => ((fillC_inv (P := Cellw 2) (Or.inl rfl) (th := th) HOCW.out).2 c hc).wide)
                    have HFL : Hid ((fillC th o).length = n) := hidden (by rw [(fillC_inv (P := Cellw 2) (Or.inl rfl) (th := th) HOCW.out).1, HTHL.out])
                    have HFW := hidden (fin_write (k := 2) (b := (1 :: t)) (th := th) (o := o) (by omega) (by rw [HTHL.out]; exact hn) HOCW.out)
                    have ho256 : o.length ≤ 256 := by rw [hol, HSm.out]; exact hsm
                    clear hcom hol
                    go_wp2_with fail
                    go_loopw [25, 26, 27] (fun vo va i wr => ∃ (j q : Nat) (pre : List (Nat × Int × List Nat)), j ≤ n ∧ q ≤ 256 ∧ i = .int .i64 (j : Int) ∧ va = .int .i64 (q : Int) ∧ FillAt th o j q pre ∧ OwnC wr W5.heap.size vo pre ∧ Below W5.heap.size W5 wr) (fun _ _ i _ => n - (intOf i).toNat)
                    case atStart => exact ⟨0, 0, [], by omega, by omega, rfl, rfl, HOFL.out, OwnC.nil _ _, Below.refl _ _⟩
                    case round =>
                      obtain ⟨j, q, pre, hj, hq256, rfl, rfl, hat, how, hbel⟩ := hrel
                      have HAT := hidden hat
                      have HOf := hidden how
                      have HBf := hidden hbel
                      have hzrf := hbel.size
                      have hpl : pre.length = j := hat.2.2.2
                      have hpl' : pre.length ≤ 100000 := by omega
                      clear hat how hbel hpl
                      by_cases hlt : j < n
                      · have hlt3 : (j : Int) < (n : Int) := by omega
                        have hltT : j < th.length := by rw [HTHL.out]; exact hlt
                        obtain ⟨gt_, ot, rfl, hgt, hct0⟩ := (HTH5.out).atU (k := j) hltT
                        have hct := (HBf.out.cell (p := ⟨gt_, ot + j, none⟩) hgt).trans hct0
                        have hx2 := HT2.out _ (List.getElem_mem hltT)
                        by_cases hx0 : th[j] = 0
                        · have HAT2 := hidden (HAT.out.null hltT hx0)
                          rw [hx0] at hct
                          have HCN := hidden (cell_new3 wr (.int .u8 0) (.int .i64 0) (.string ⟨#[]⟩) 45)
                          clear hct0 hx0 hx2 hltT
                          go_wp2_with (first | (at_builtin; refine wpList_append_c rfl _ _ rfl W5.heap.size _ _ nul pre rfl (HOf.out.kept (below_one _ _)) rfl HCN.out.1 HCN.out.2.1 HCN.out.2.2 hpl' ?c2 ?_))
                          case c2 => first | omega | (rw [World.size_alloc]; omega)
                          intro v' w5 o5 b5
                          have HO6 := hidden o5
                          have HB6 := hidden ((HBf.out.alloc hzrf _).trans b5)
                          clear o5 b5
                          go_wp2_with fail
                          go_roundw
                          case rel => exact ⟨j + 1, q, _, by omega, by omega, by go_num, rfl, HAT2.out, HO6.out, HB6.out⟩
                          case measure => simp [intOf]; omega
                        · have hx1 : th[j] = 1 := by omega
                          obtain ⟨hq, hat2⟩ := HAT.out.some hltT hx1
                          have HAT2 := hidden hat2
                          have hqn : q + 1 ≤ 256 := by omega
                          rw [hx1] at hct
                          have hqi : (q : Int) < (o.length : Int) := by omega
                          obtain ⟨go_, oo, rfl, hgo, c0, c1, c2'⟩ := (HOC.out.kept HBf.out).at hq
                          rw [txt_eq] at c2'
                          clear hct0 hx0 hx1 hx2 hltT hat2
                          generalize o[q] = xc at *
                          obtain ⟨xk, xn, xs⟩ := xc
                          simp only at *
                          have HCN := hidden (cell_new3 wr (.int .u8 (xk : Int)) (.int .i64 xn) (.string (bytesT xs)) 45)
                          go_wp2_with (first | (at_builtin; refine wpList_append_c rfl _ _ rfl W5.heap.size _ _ (xk, xn, xs) pre rfl (HOf.out.kept (below_one _ _)) rfl HCN.out.1 HCN.out.2.1 HCN.out.2.2 hpl' ?c2 ?_))
                          case c2 => first | omega | (rw [World.size_alloc]; omega)
                          intro v' w5 o5 b5
                          have HO6 := hidden o5
                          have HB6 := hidden ((HBf.out.alloc hzrf _).trans b5)
                          clear o5 b5
                          go_wp2_with fail
                          go_roundw
                          case rel => exact ⟨j + 1, q + 1, _, by omega, by omega, by go_num, by go_num, HAT2.out, HO6.out, HB6.out⟩
                          case measure => simp [intOf]; omega
                      · obtain rfl : j = n := by omega
                        have hlt3 : ¬ (j : Int) < (j : Int) := by omega
                        have HEL : Hid (fillC th o = pre) := hidden (by
                          have := HAT.out
                          rw [← HTHL.out] at this
                          exact this.last)
                        rw [HEL.out] at HFN HFL HFW
                        have HPL : Hid (pre.length ≤ 600) := hidden (by rw [HFL.out]; omega)
                        have HWR := hidden (refWrite_any HOf.out.sc HFN.out HPL.out 2 (by omega))
                        have HWB := hidden (writeC_bytes HFN.out (k := 2))
                        generalize hn_ : j = n at *
                        clear hn_ hlt3 hlt hj
                        generalize writeC 2 pre = WC at *
                        obtain ⟨wb, er⟩ := WC
                        simp only at *
                        have hzz := HB5.out.size
                        go_wp2_with fail
                        refine HWR.out.mono ?_
                        rintro e w8 ⟨⟨v8, rfl, ho8⟩, hb8⟩
                        have HO8 := hidden ho8
                        have HL8 := hidden (show OwnC _ w.heap.size _ pre from own_low (HOf.out.kept hb8) hzz)
                        have HB8 := hidden ((HB5.out.trans (HBf.out.mono hzz)).trans (hb8.mono (Nat.le_trans hzz hzrf)))
                        clear ho8 hb8
                        simp only at *
                        have hc8 : ∀ m, (convert 24 9 v8).run Tryz.prog (w8.drewN m) = .ok (txt wb) (w8.drewN m) := fun m => (HO8.out.sv.kept (below_drewN (Below.refl _ _) m)).conv HWB.out
                        have hcB : ∀ m, (convert 24 9 (.slice (some ⟨g, off, none⟩) (t.length + 1) cap)).run Tryz.prog (w8.drewN m) = .ok (txt (1 :: t)) (w8.drewN m) := fun m => (HSB.out.kept (below_drewN HB8.out m)).conv H8.out
                        obtain ⟨s1, hs1⟩ : ∃ s1, wb.map Nat.toUInt8 = s1 := ⟨_, rfl⟩
                        obtain ⟨s2, hs2⟩ : ∃ s2, (1 :: t).map Nat.toUInt8 = s2 := ⟨_, rfl⟩
                        have HEQ := hidden (bytes_eq HWB.out H8.out)
                        rw [hs1, hs2] at HEQ
                        unfold txt at hc8 hcB
                        rw [hs1] at hc8
                        rw [hs2] at hcB
                        clear hs1 hs2
                        by_cases her : er = 0
                        · subst her
                          by_cases hw : wb = (1 :: t)
                          · have hss := HEQ.out.2 hw
                            have HR : Hid (RC = some pre) := hidden (by
                              rw [HRC.out]
                              rcases HFW.out with h | h
                              · exact h.2.2
                              · exact absurd hw (by rcases h.1 with h | h; exact absurd rfl h; exact h))
                            rw [hss] at hc8
                            clear hss hw
                            go_wp2_with fail
                            go_quiet (fail)
                            go_wp2_with fail
                            go_ret2
                            rw [HR.out]
                            refine ⟨_, rfl, fun l e => ?_, below_drewN HB8.out _⟩
                            cases e
                            exact HL8.out.kept (below_drewN (Below.refl _ _) _)
                          · have hss : s1 ≠ s2 := fun e => hw (HEQ.out.1 e)
                            have HR : Hid (RC = none) := hidden (by
                              rw [HRC.out]
                              rcases HFW.out with h | h
                              · exact absurd h.2.1 hw
                              · exact h.2)
                            have hbne : (s1 == s2) = false := by simpa using hss
                            clear hw hss
                            go_wp2_with fail
                            go_quiet (fail)
                            go_wp2_with fail
                            go_ret2
                            rw [HR.out]
                            exact ⟨_, rfl, fun l e => (by cases e), below_drewN HB8.out _⟩
                        · have hz1' : ((er : Int) == 0) = false := by simpa using her
                          have HR : Hid (RC = none) := hidden (by
                            rw [HRC.out]
                            rcases HFW.out with h | h
                            · exact absurd h.1 her
                            · exact h.2)
                          clear her
                          go_wp2_with fail
                          go_quiet (fail)
                          go_wp2_with fail
                          go_ret2
                          rw [HR.out]
                          exact ⟨_, rfl, fun l e => (by cases e), below_drewN HB8.out _⟩
              · have hf' : ((f : Int) != 0) = true := by simp; omega
                have HR : Hid (RC = none) := hidden (by rw [HRC2.out, if_neg hf]; rfl)
                clear hf
                go_wp2_with fail
                go_ret2
                rw [HR.out]
                exact ⟨_, rfl, fun l e => (by cases e), HB4.out⟩
        · have he' : ((eu : Int) != 0) = true := by simp; omega
          have HR := hidden (HRN2.out he)
          clear he
          go_wp2_with fail
          go_ret2
          rw [HR.out]
          exact ⟨_, rfl, fun l e => (by cases e), HB2.out⟩
      · have hl' : (t.length : Int) < ((by8 n : Nat) : Int) := by omega
        have HR := hidden (HRN.out (fun h => hl h.1))
        generalize by8 n = m8 at *
        clear hl
        go_wp2_with fail
        go_ret2
        rw [HR.out]
        exact ⟨_, rfl, fun l e => (by cases e), HBa.out⟩

set_option maxRecDepth 100000 in
set_option maxHeartbeats 16000000 in
theorem refRead6_13 {w : World} {v : Value} {t : List Nat} (hb : Sv w v (vals .u8 (1 :: t))) (h8 : Bs (1 :: t)) (n : Nat) (hn : n ≤ 256) :
    Calls Tryz.prog 15 #[.int .i64 3, v, .int .i64 (n : Int)] w (RefPost (readC 3 (1 :: t) n) w) := by
  have HSB := hidden hb
  have H8 := hidden h8
  obtain ⟨g, off, cap, rfl, h1, h2, h3, h4, h4b, A, hA, hSA⟩ := hb.uncons
  have hcm' : cap ≤ 9223372036854775807 := by unfold maxLen at h2; omega
  have HBT : Hid (Bs t) := fun x hx => h8 x (by simp [hx])
  have HSA := hidden hSA
  have H4 := hidden h4
  have hlen : (((t.length + 1 : Nat) : Int) == 0) = false := beq_eq_false_iff_ne.2 (by omega)
  have hn0 : ¬ (n : Int) < 0 := by omega
  have hn1 : ¬ (n : Int) > 256 := by omega
  have HRN := hidden (fun h => readC_nohead (k := 3) (b := 1 :: t) (n := n) (by rw [head_one]; exact if_neg h))
  have HRY := hidden (fun h => readC_head (k := 3) (b := 1 :: t) (n := n) (by rw [head_one]; exact if_pos h))
  clear hb h8 h4b hSA h2
  generalize readC 3 (1 :: t) n = RC at *
  go_enter Tryz.func15, Tryz.ntmps15
  go_wp2_with fail
  go_loopw [8, 9] (fun vo i wr => ∃ j : Nat, j ≤ n ∧ i = .int .i64 (j : Int) ∧ OwnU wr w.heap.size vo (List.replicate j 1) ∧ Below w.heap.size w wr) (fun _ i _ => n - (intOf i).toNat)
  case atStart => exact ⟨0, by omega, rfl, OwnU.nil _ _, Below.refl _ _⟩
  case round =>
    obtain ⟨j, hj, rfl, how, hbel⟩ := hrel
    have HOa := hidden how
    have HBa := hidden hbel
    have hzra := hbel.size
    clear how hbel
    by_cases hlt : j < n
    · have hlt3 : (j : Int) < (n : Int) := by omega
      have HRS : Hid (List.replicate (j + 1) 1 = List.replicate j 1 ++ [1]) := hidden List.replicate_succ'
      have hll : (List.replicate j 1).length ≤ 100000 := by rw [List.length_replicate]; omega
      generalize List.replicate j 1 = LL at *
      go_wp2_with (first | (at_builtin; refine wpList_append_u rfl _ _ rfl w.heap.size _ _ 1 LL rfl (HOa.out.kept (below_one _ _)) rfl (cell_new _ _ _) hll ?c3 ?_))
      case c3 => first | omega | (rw [World.size_alloc]; omega)
      intro v7 w7 o7 b7
      rw [← HRS.out] at o7
      have HO7 := hidden o7
      have HB7 := hidden ((HBa.out.alloc hzra _).trans b7)
      clear o7 b7
      go_wp2_with fail
      go_roundw
      case rel => exact ⟨j + 1, by omega, by go_num, HO7.out, HB7.out⟩
      case measure => simp [intOf]; omega
    · obtain rfl : j = n := by omega
      have hlt3 : ¬ (j : Int) < (j : Int) := by omega
      have h4' := (HBa.out.cell (p := ⟨g, off, none⟩) h3).trans H4.out
      generalize hn_ : j = n at *
      clear hn_
      have hq : ((n : Int) + 7) / 8 = ((by8 n : Nat) : Int) := by unfold by8; omega
      have hq256 : by8 n ≤ 32 := by unfold by8; omega
      by_cases hl : by8 n ≤ t.length
      · have hl' : ¬ (t.length : Int) < ((by8 n : Nat) : Int) := by omega
        have hlc : by8 n ≤ cap - 1 := by omega
        have HUN := hidden (refUnpack_bits ((HSA.out.kept HBa.out).takeA hl) (HBT.out.take (by8 n)) n hn)
        have HRN2 := hidden (fun (h : unE (t.take (by8 n)) (n : Int) 1 ≠ 0) => HRN.out (fun h2 => h h2.2))
        have HRY2 := hidden (fun (h : unE (t.take (by8 n)) (n : Int) 1 = 0) => HRY.out ⟨hl, h⟩)
        have HULN := hidden (unR_len (b := t.take (by8 n)) (n := n))
        obtain ⟨A2, hA2, hSA2⟩ := HSA.out.dropA hl
        have HSA2 := hidden hSA2
        have HC8 := hidden (HBT.out.drop (by8 n))
        clear hSA2 HRN HRY
        generalize unE (t.take (by8 n)) (n : Int) 1 = eu at *
        generalize unR (t.take (by8 n)) (n : Int) 1 = th at *
        generalize t.drop (by8 n) = rr at *
        generalize by8 n = m8 at *
        go_wp2_with fail
        refine HUN.out.mono ?_
        rintro e w2 ⟨v2, rfl, ho2, hb2⟩
        have HB2 := hidden (HBa.out.trans (hb2.mono hzra))
        have HOa2 := hidden ho2
        have hz2 := HB2.out.size
        clear ho2 hb2 hlt hlt3 h4'
        by_cases he : eu = 0
        · subst he
          obtain ⟨hthl, ht2⟩ := HULN.out rfl
          have HT2 := hidden ht2
          have HRC := hidden (HRY2.out rfl)
          have HSC := hidden (HSA2.out.kept HB2.out)
          obtain ⟨ath, cth, hve, hcth, hcthm⟩ := own_slice HOa2.out
          rw [hthl] at hve hcth
          subst hve
          have HTH := hidden HOa2.out.sv
          have HTHL := hidden hthl
          clear hthl ht2
          generalize w2 = W2 at *
          have hthm : cth ≤ 9223372036854775807 := by unfold maxLen at hcthm; omega
          have HSUM : Hid (∀ k, (th.take k).sum ≤ 256) := hidden (fun k => Nat.le_trans (sum_take_le HT2.out k) (by rw [HTHL.out]; exact hn))
          clear hcthm
          go_wp2_with fail
          go_loopw [13, 14] (fun s i wr => ∃ j : Nat, j ≤ n ∧ i = .int .i64 (j : Int) ∧ s = .int .i64 ((th.take j).sum : Int) ∧ wr = W2) (fun _ i _ => n - (intOf i).toNat)
          case atStart => exact ⟨0, by omega, rfl, rfl, rfl⟩
          case round =>
            obtain ⟨j, hj, rfl, rfl, rfl⟩ := hrel
            by_cases hlt : j < n
            · have hlt3 : (j : Int) < (n : Int) := by omega
              have hltT : j < th.length := by rw [HTHL.out]; exact hlt
              obtain ⟨gt_, ot, rfl, hgt, hct⟩ := HTH.out.atU (k := j) hltT
              have HSS := hidden (sum_take_succ (l := th) (k := j) hltT)
              have hx2 := HT2.out _ (List.getElem_mem hltT)
              have hsm := HSUM.out j
              have hsm' : (th.take (j + 1)).sum ≤ 256 := HSUM.out (j + 1)
              rw [HSS.out] at hsm'
              generalize th[j] = x at *
              clear hltT
              have hw1 : IntKind.i64.wrap (x : Int) = (x : Int) := by rw [IntKind.wrap_i64]; omega
              generalize (th.take j).sum = S at *
              go_wp2_with fail
              go_roundw
              case rel => exact ⟨j + 1, by omega, by go_num, by rw [HSS.out]; simp, trivial⟩
              case measure => simp [intOf]; omega
            · obtain rfl : j = n := by omega
              have hlt3 : ¬ (j : Int) < (j : Int) := by omega
              have HTK : Hid (th.take j = th) := hidden (List.take_of_length_le (by rw [HTHL.out]; exact Nat.le_refl _))
              have hsm := HSUM.out j
              rw [HTK.out] at hsm
              rw [HTK.out]
              generalize hn_ : j = n at *
              clear hn_ hlt3 hlt hj hq
              have HRI := hidden (refWords_any HSC.out HC8.out th.sum hsm)
              have HRC2 : Hid (RC = ((wordsM rr th.sum).map fun l => l.map fun s => (3, 0, s)).bind (finC 3 (1 :: t) th)) := hidden HRC.out
              have HOI : Hid (∀ p, wordsM rr th.sum = some p → (p.map fun s => ((3 : Nat), (0 : Int), (s : List Nat))).length = th.sum ∧ ∀ c ∈ (p.map fun s => ((3 : Nat), (0 : Int), (s : List Nat))), Cellw 3 c) := hidden (fun p h => ownM_inv (k := 3) (b := rr) (n := th.sum) (by omega) HC8.out (by unfold ownM; rw [if_neg (by omega), if_neg (by omega), h]; rfl))
              generalize wordsM rr th.sum = WO at *
              generalize hSm : th.sum = Sm at *
              have HSm := hidden hSm
              clear hSm
              go_wp2_with fail
              refine HRI.out.mono ?_
              rintro e w4 ⟨v5, rfl, hw5, hb5⟩
              have HB4 := hidden (HB2.out.trans (hb5.mono hz2))
              have HTH4 := hidden (HTH.out.kept hb5)
              have hz4 := HB4.out.size
              clear hb5
              cases WO with
              | some p =>
                obtain ⟨hol, hocw⟩ := HOI.out p rfl
                have ho5 := hw5 p rfl
                have HP4 := hidden ho5.sv
                obtain ⟨ap, cp, rfl, hcp5, hcpm5⟩ := own_slice ho5
                have HOCW := hidden hocw
                clear ho5 hw5 hcp5 hcpm5
                simp only [Option.isSome_some]
                have hpl : p.length ≤ 256 := by rw [List.length_map] at hol; omega
                have HRC : Hid (RC = finC 3 (1 :: t) th (p.map fun s => ((3 : Nat), (0 : Int), (s : List Nat)))) := hidden HRC2.out
                rw [← HSm.out] at hol
                have HOLn := hidden hol
                clear hocw hol
                generalize w4 = W4 at *
                go_wp2_with fail
                go_loopw [15, 24] (fun vo i wr => ∃ j : Nat, j ≤ p.length ∧ i = .int .i64 (j : Int) ∧ OwnC wr W4.heap.size vo ((p.take j).map fun s => ((3 : Nat), (0 : Int), (s : List Nat))) ∧ Below W4.heap.size W4 wr) (fun _ i _ => p.length - (intOf i).toNat)
                case atStart => exact ⟨0, by omega, rfl, OwnC.nil _ _, Below.refl _ _⟩
                case round =>
                  obtain ⟨j, hj, rfl, how, hbel⟩ := hrel
                  have HOb := hidden how
                  have HBb := hidden hbel
                  have hzrb := hbel.size
                  clear how hbel
                  by_cases hlt : j < p.length
                  · have hlt3 : (j : Int) < (p.length : Int) := by omega
                    obtain ⟨gp, op, rfl, hgp, hcp0⟩ := HP4.out.at1 (svals_get hlt)
                    rw [txt_eq] at hcp0
                    have hcp := (HBb.out.cell (p := ⟨gp, op + j, none⟩) hgp).trans hcp0
                    have HNX : Hid ((p.take (j + 1)).map (fun s => ((3 : Nat), (0 : Int), (s : List Nat))) = (p.take j).map (fun s => ((3 : Nat), (0 : Int), (s : List Nat))) ++ [(3, 0, p[j])]) := hidden (by rw [List.take_succ_eq_append_getElem hlt, List.map_append]; rfl)
                    have hll : ((p.take j).map (fun s => ((3 : Nat), (0 : Int), (s : List Nat)))).length ≤ 100000 := by rw [List.length_map, List.length_take]; omega
                    clear hcp0
                    generalize p[j] = x at *
                    generalize (p.take j).map (fun s => ((3 : Nat), (0 : Int), (s : List Nat))) = LL at *
                    have HCN := hidden (cell_new3 wr (.int .u8 3) (.int .i64 0) (.string (bytesT x)) 45)
                    go_wp2_with (first | (at_builtin; refine wpList_append_c rfl _ _ rfl W4.heap.size _ _ (3, 0, x) LL rfl (HOb.out.kept (below_one _ _)) rfl HCN.out.1 HCN.out.2.1 HCN.out.2.2 hll ?c2 ?_))
                    case c2 => first | omega | (rw [World.size_alloc]; omega)
                    intro v' w5 o5 b5
                    rw [← HNX.out] at o5
                    have HO6 := hidden o5
                    have HB6 := hidden ((HBb.out.alloc hzrb _).trans b5)
                    clear o5 b5
                    go_wp2_with fail
                    go_roundw
                    case rel => exact ⟨j + 1, by omega, by go_num, HO6.out, HB6.out⟩
                    case measure => simp [intOf]; omega
                  · obtain rfl : j = p.length := by omega
                    have hlt3 : ¬ (p.length : Int) < (p.length : Int) := by omega
                    rw [List.take_length] at HOb
                    have hol := HOLn.out
                    generalize (p.map fun s => ((3 : Nat), (0 : Int), (s : List Nat))) = o at *
                    have HB5 := hidden (HB4.out.trans (HBb.out.mono hz4))
                    have HOW : Hid (OwnC wr w.heap.size _ o) := hidden (own_low HOb.out hz4)
                    have HTH5 := hidden (HTH4.out.kept HBb.out)
                    clear HOb HBb hzrb hlt hlt3 hj HOLn
                    generalize wr = W5 at *
                    -- the list of what is there: o, owned at W5 above W4
                    have HOFL := hidden (FillAt.zero (th := th) (o := o) hol)
                    obtain ⟨ao, co, rfl, hco, hcom⟩ := own_slice HOW.out
                    have hcom' : co ≤ 9223372036854775807 := by unfold maxLen at hcom; omega
                    have HOC := hidden HOW.out.sc
                    have HFN : Hid (∀ c ∈ fillC th o, Finew c) := hidden (fun c hc => ((fillC_inv (P := Cellw 3) (Or.inl rfl) (th := th) HOCW.out).2 c hc).wide)
                    have HFL : Hid ((fillC th o).length = n) := hidden (by rw [(fillC_inv (P := Cellw 3) (Or.inl rfl) (th := th) HOCW.out).1, HTHL.out])
                    have HFW := hidden (fin_write (k := 3) (b := (1 :: t)) (th := th) (o := o) (by omega) (by rw [HTHL.out]; exact hn) HOCW.out)
                    have ho256 : o.length ≤ 256 := by rw [hol, HSm.out]; exact hsm
                    clear hcom hol
                    go_wp2_with fail
                    go_loopw [25, 26, 27] (fun vo va i wr => ∃ (j q : Nat) (pre : List (Nat × Int × List Nat)), j ≤ n ∧ q ≤ 256 ∧ i = .int .i64 (j : Int) ∧ va = .int .i64 (q : Int) ∧ FillAt th o j q pre ∧ OwnC wr W5.heap.size vo pre ∧ Below W5.heap.size W5 wr) (fun _ _ i _ => n - (intOf i).toNat)
                    case atStart => exact ⟨0, 0, [], by omega, by omega, rfl, rfl, HOFL.out, OwnC.nil _ _, Below.refl _ _⟩
                    case round =>
                      obtain ⟨j, q, pre, hj, hq256, rfl, rfl, hat, how, hbel⟩ := hrel
                      have HAT := hidden hat
                      have HOf := hidden how
                      have HBf := hidden hbel
                      have hzrf := hbel.size
                      have hpl : pre.length = j := hat.2.2.2
                      have hpl' : pre.length ≤ 100000 := by omega
                      clear hat how hbel hpl
                      by_cases hlt : j < n
                      · have hlt3 : (j : Int) < (n : Int) := by omega
                        have hltT : j < th.length := by rw [HTHL.out]; exact hlt
                        obtain ⟨gt_, ot, rfl, hgt, hct0⟩ := (HTH5.out).atU (k := j) hltT
                        have hct := (HBf.out.cell (p := ⟨gt_, ot + j, none⟩) hgt).trans hct0
                        have hx2 := HT2.out _ (List.getElem_mem hltT)
                        by_cases hx0 : th[j] = 0
                        · have HAT2 := hidden (HAT.out.null hltT hx0)
                          rw [hx0] at hct
                          have HCN := hidden (cell_new3 wr (.int .u8 0) (.int .i64 0) (.string ⟨#[]⟩) 45)
                          clear hct0 hx0 hx2 hltT
                          go_wp2_with (first | (at_builtin; refine wpList_append_c rfl _ _ rfl W5.heap.size _ _ nul pre rfl (HOf.out.kept (below_one _ _)) rfl HCN.out.1 HCN.out.2.1 HCN.out.2.2 hpl' ?c2 ?_))
                          case c2 => first | omega | (rw [World.size_alloc]; omega)
                          intro v' w5 o5 b5
                          have HO6 := hidden o5
                          have HB6 := hidden ((HBf.out.alloc hzrf _).trans b5)
                          clear o5 b5
                          go_wp2_with fail
                          go_roundw
                          case rel => exact ⟨j + 1, q, _, by omega, by omega, by go_num, rfl, HAT2.out, HO6.out, HB6.out⟩
                          case measure => simp [intOf]; omega
                        · have hx1 : th[j] = 1 := by omega
                          obtain ⟨hq, hat2⟩ := HAT.out.some hltT hx1
                          have HAT2 := hidden hat2
                          have hqn : q + 1 ≤ 256 := by omega
                          rw [hx1] at hct
                          have hqi : (q : Int) < (o.length : Int) := by omega
                          obtain ⟨go_, oo, rfl, hgo, c0, c1, c2'⟩ := (HOC.out.kept HBf.out).at hq
                          rw [txt_eq] at c2'
                          clear hct0 hx0 hx1 hx2 hltT hat2
                          generalize o[q] = xc at *
                          obtain ⟨xk, xn, xs⟩ := xc
                          simp only at *
                          have HCN := hidden (cell_new3 wr (.int .u8 (xk : Int)) (.int .i64 xn) (.string (bytesT xs)) 45)
                          go_wp2_with (first | (at_builtin; refine wpList_append_c rfl _ _ rfl W5.heap.size _ _ (xk, xn, xs) pre rfl (HOf.out.kept (below_one _ _)) rfl HCN.out.1 HCN.out.2.1 HCN.out.2.2 hpl' ?c2 ?_))
                          case c2 => first | omega | (rw [World.size_alloc]; omega)
                          intro v' w5 o5 b5
                          have HO6 := hidden o5
                          have HB6 := hidden ((HBf.out.alloc hzrf _).trans b5)
                          clear o5 b5
                          go_wp2_with fail
                          go_roundw
                          case rel => exact ⟨j + 1, q + 1, _, by omega, by omega, by go_num, by go_num, HAT2.out, HO6.out, HB6.out⟩
                          case measure => simp [intOf]; omega
                      · obtain rfl : j = n := by omega
                        have hlt3 : ¬ (j : Int) < (j : Int) := by omega
                        have HEL : Hid (fillC th o = pre) := hidden (by
                          have := HAT.out
                          rw [← HTHL.out] at this
                          exact this.last)
                        rw [HEL.out] at HFN HFL HFW
                        have HPL : Hid (pre.length ≤ 600) := hidden (by rw [HFL.out]; omega)
                        have HWR := hidden (refWrite_any HOf.out.sc HFN.out HPL.out 3 (by omega))
                        have HWB := hidden (writeC_bytes HFN.out (k := 3))
                        generalize hn_ : j = n at *
                        clear hn_ hlt3 hlt hj
                        generalize writeC 3 pre = WC at *
                        obtain ⟨wb, er⟩ := WC
                        simp only at *
                        have hzz := HB5.out.size
                        go_wp2_with fail
                        refine HWR.out.mono ?_
                        rintro e w8 ⟨⟨v8, rfl, ho8⟩, hb8⟩
                        have HO8 := hidden ho8
                        have HL8 := hidden (show OwnC _ w.heap.size _ pre from own_low (HOf.out.kept hb8) hzz)
                        have HB8 := hidden ((HB5.out.trans (HBf.out.mono hzz)).trans (hb8.mono (Nat.le_trans hzz hzrf)))
                        clear ho8 hb8
                        simp only at *
                        have hc8 : ∀ m, (convert 24 9 v8).run Tryz.prog (w8.drewN m) = .ok (txt wb) (w8.drewN m) := fun m => (HO8.out.sv.kept (below_drewN (Below.refl _ _) m)).conv HWB.out
                        have hcB : ∀ m, (convert 24 9 (.slice (some ⟨g, off, none⟩) (t.length + 1) cap)).run Tryz.prog (w8.drewN m) = .ok (txt (1 :: t)) (w8.drewN m) := fun m => (HSB.out.kept (below_drewN HB8.out m)).conv H8.out
                        obtain ⟨s1, hs1⟩ : ∃ s1, wb.map Nat.toUInt8 = s1 := ⟨_, rfl⟩
                        obtain ⟨s2, hs2⟩ : ∃ s2, (1 :: t).map Nat.toUInt8 = s2 := ⟨_, rfl⟩
                        have HEQ := hidden (bytes_eq HWB.out H8.out)
                        rw [hs1, hs2] at HEQ
                        unfold txt at hc8 hcB
                        rw [hs1] at hc8
                        rw [hs2] at hcB
                        clear hs1 hs2
                        by_cases her : er = 0
                        · subst her
                          by_cases hw : wb = (1 :: t)
                          · have hss := HEQ.out.2 hw
                            have HR : Hid (RC = some pre) := hidden (by
                              rw [HRC.out]
                              rcases HFW.out with h | h
                              · exact h.2.2
                              · exact absurd hw (by rcases h.1 with h | h; exact absurd rfl h; exact h))
                            rw [hss] at hc8
                            clear hss hw
                            go_wp2_with fail
                            go_quiet (fail)
                            go_wp2_with fail
                            go_ret2
                            rw [HR.out]
                            refine ⟨_, rfl, fun l e => ?_, below_drewN HB8.out _⟩
                            cases e
                            exact HL8.out.kept (below_drewN (Below.refl _ _) _)
                          · have hss : s1 ≠ s2 := fun e => hw (HEQ.out.1 e)
                            have HR : Hid (RC = none) := hidden (by
                              rw [HRC.out]
                              rcases HFW.out with h | h
                              · exact absurd h.2.1 hw
                              · exact h.2)
                            have hbne : (s1 == s2) = false := by simpa using hss
                            clear hw hss
                            go_wp2_with fail
                            go_quiet (fail)
                            go_wp2_with fail
                            go_ret2
                            rw [HR.out]
                            exact ⟨_, rfl, fun l e => (by cases e), below_drewN HB8.out _⟩
                        · have hz1' : ((er : Int) == 0) = false := by simpa using her
                          have HR : Hid (RC = none) := hidden (by
                            rw [HRC.out]
                            rcases HFW.out with h | h
                            · exact absurd h.1 her
                            · exact h.2)
                          clear her
                          go_wp2_with fail
                          go_quiet (fail)
                          go_wp2_with fail
                          go_ret2
                          rw [HR.out]
                          exact ⟨_, rfl, fun l e => (by cases e), below_drewN HB8.out _⟩
              | none =>
                have HR : Hid (RC = none) := hidden HRC2.out
                clear hw5
                simp only [Option.isSome_none]
                go_wp2_with fail
                go_ret2
                rw [HR.out]
                exact ⟨_, rfl, fun l e => (by cases e), HB4.out⟩
        · have he' : ((eu : Int) != 0) = true := by simp; omega
          have HR := hidden (HRN2.out he)
          clear he
          go_wp2_with fail
          go_ret2
          rw [HR.out]
          exact ⟨_, rfl, fun l e => (by cases e), HB2.out⟩
      · have hl' : (t.length : Int) < ((by8 n : Nat) : Int) := by omega
        have HR := hidden (HRN.out (fun h => hl h.1))
        generalize by8 n = m8 at *
        clear hl
        go_wp2_with fail
        go_ret2
        rw [HR.out]
        exact ⟨_, rfl, fun l e => (by cases e), HBa.out⟩
end Go.Proofs.YtcmmednihoaekaaGreat
