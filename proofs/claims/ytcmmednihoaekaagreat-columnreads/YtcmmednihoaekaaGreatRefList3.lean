/- Contracts: the document's list by codec 3. -/
import Derived.Test.YtcmmednihoaekaaGreatRefLists
set_option linter.unusedVariables false
set_option linter.unusedSimpArgs false
namespace Go.Proofs.YtcmmednihoaekaaGreat
open Go.RowKit Go.Lib

theorem goes_rise {D : Except Nat (List Int × List Nat)} {G : List Int → List Nat → Except Nat (List Int × List Nat)} {n m : Nat} {b : List Nat} (h : Goes D (if n = 0 then G [] else bindR wh (fun x => bindR (rdU (m - 1) x) (fun u => bindR (pkd n (blen (m - 1))) (fun p => bindR (picked (x :: u) p) G)))) b 0) (hg : ¬ (n < m ∨ m = 0 ∧ 0 < n)) : Goes D (riseK (G3 n G) m [] 0) b 0 := by
  by_cases hn : n = 0
  · subst hn
    obtain rfl : m = 0 := by omega
    rw [if_pos rfl] at h
    exact h
  · rw [if_neg hn, rd3_rise n G m (by omega) hn] at h
    exact h

set_option maxRecDepth 100000 in
set_option maxHeartbeats 8000000 in
theorem refList_3 {D : Except Nat (List Int × List Nat)} {G : List Int → List Nat → Except Nat (List Int × List Nat)} {w : World} {p n f : Nat} {b : List Nat} (h : St 98 w p b f) (hn : n ≤ 256) (hg : Goes D (bindR (rd3 n) G) b f) :
    Calls Tryz.prog 60 #[.pointer (some ⟨p, 0, none⟩), .int .i64 3, .int .i64 (n : Int)] w (RPost D G p n w) := by
  have HS := hidden h
  have hlt := h.lt
  rw [rd3_num] at hg
  have HG := hidden hg
  clear h hg
  have hnn : (n : Int) ≠ 0 ∨ n = 0 := by omega
  go_enter Tryz.func60, Tryz.ntmps60
  go_wp2_with fail
  refine (refNum_any HS.out).mono ?_
  rintro e w2 ⟨m, b2, f2, rfl, hm2, hs2, hgm, hf2⟩
  have HGM := hidden (hgm _ _ HG.out)
  have HS2 := hidden hs2
  have HF2 := hidden hf2
  have hz2 := hf2.size
  obtain ⟨g, off, cap, c0, c1, c2, c3, c4, c5, c6, c7, c8, c9⟩ := hs2.cells
  have H40 := hidden (c8 40)
  clear hs2 hgm hf2 c0 c2 c4 c5 c6 c7 c8 c9
  by_cases hf0 : ((f2 : Int) == 0) = true
  · have hf0' : f2 = 0 := by simpa using hf0
    subst hf0'
    by_cases hbad : n < m ∨ m = 0 ∧ 0 < n
    · have HGB := hidden (HGM.out.bad (K := G []) hbad)
      have HF3 := hidden (HF2.out.set 1 (.int .i64 40))
      by_cases hgt : (m : Int) > (n : Int)
      · have hmp : (0 : Int) < (m : Int) := by omega
        clear hbad hnn
        by_cases hn0 : ((n : Int) == 0) = true
        · go_wp2_with fail
          refine wp_loop_rounds 1 ?_
          rw [rounds_succ]
          go_wp2_with fail
          go_ret
          exact ⟨[], b2, 40, ⟨_, rfl, OwnI.nil _ _⟩, fun x hx => by simp at hx, by simp, H40.out.sn, HGB.out, HF3.out⟩
        · have hn0f : ((n : Int) == 0) = false := by simpa using hn0
          clear hn0
          go_wp2_with fail
          refine wp_loop_rounds 1 ?_
          rw [rounds_succ]
          go_wp2_with fail
          go_ret
          exact ⟨[], b2, 40, ⟨_, rfl, OwnI.nil _ _⟩, fun x hx => by simp at hx, by simp, H40.out.sn, HGB.out, HF3.out⟩
      · obtain rfl : m = 0 := by omega
        have hnp : (n : Int) > 0 := by omega
        have hn0f : ((n : Int) == 0) = false := beq_eq_false_iff_ne.2 (by omega)
        clear hbad hnn
        go_wp2_with fail
        refine wp_loop_rounds 1 ?_
        rw [rounds_succ]
        go_wp2_with fail
        go_ret
        exact ⟨[], b2, 40, ⟨_, rfl, OwnI.nil _ _⟩, fun x hx => by simp at hx, by simp, H40.out.sn, HGB.out, HF3.out⟩
    · have HGR := hidden (goes_rise (HGM.out.good hbad) hbad)
      have hgt : ¬ (m : Int) > (n : Int) := by omega
      have hmn : m ≤ n := by omega
      have hgd : decide (n < m) = false := decide_eq_false (by omega)
      by_cases hn0 : n = 0
      · obtain rfl : m = 0 := by omega
        subst hn0
        have HGZ : Hid (Goes D (G []) b2 0) := HGR.out
        clear hbad hnn HGM HGR
        go_wp2_with fail
        refine wp_loop_rounds 1 ?_
        rw [rounds_succ]
        go_wp2_with fail
        go_ret
        exact ⟨[], b2, 0, ⟨_, rfl, OwnI.nil _ _⟩, fun x hx => by simp at hx, by simp, HS2.out.sn, HGZ.out, HF2.out⟩
      · have hm1 : 0 < m := by omega
        have hn0f : ((n : Int) == 0) = false := beq_eq_false_iff_ne.2 (by omega)
        have hm0f : ((m : Int) == 0) = false := beq_eq_false_iff_ne.2 (by omega)
        have HN0 := hidden hn0
        clear hbad hnn HGM hn0
        go_wp2_with fail
        go_loopw [15, 16] (fun v i wr => ∃ (us : List Int) (last : Int) (b' : List Nat) (f' : Nat), i = .int .u64 (us.length : Int) ∧ us.length ≤ m ∧ Is us ∧ I64 last ∧ (∀ h : 0 < us.length, us[us.length - 1] = last) ∧ OwnI wr w.heap.size v us ∧ St 98 wr p b' f' ∧ Goes D (riseK (G3 n G) m us last) b' f' ∧ Fr p w.heap.size w wr) (fun _ i _ => m - (intOf i).toNat)
        case atStart => exact ⟨[], 0, b2, 0, rfl, by simp, fun x hx => by simp at hx, by unfold I64; omega, fun h => by simp at h, OwnI.nil _ _, HS2.out, HGR.out, HF2.out⟩
        case round =>
          obtain ⟨us, last, b', f', rfl, hk, hus, hla, hlst, how, hst, hgo, hfr⟩ := hrel
          have HUS := hidden hus
          have HO := hidden how
          have HST := hidden hst
          have HGO := hidden hgo
          have HFR := hidden hfr
          have HLA := hidden hla
          have HLST := hidden hlst
          have hzr := hfr.size
          have hltr := hst.lt
          obtain ⟨av, cv, rfl⟩ := how.len
          obtain ⟨g', off', cap', d0, d1, d2, d3, d4, d5, d6, d7, d8, d9⟩ := hst.cells
          clear hus how hst hgo hfr hla hlst c1 c3 d0 d2 d3 d4 d5 d6 d7 d8 d9
          by_cases hf' : ((f' : Int) == 0) = true
          · have hf'' : f' = 0 := by simpa using hf'
            subst hf''
            by_cases hlt2 : (us.length : Int) < (m : Int)
            · by_cases hz : us.length = 0
              · obtain rfl : us = [] := List.eq_nil_of_length_eq_zero hz
                have hgo2 := HGO.out
                rw [riseK_first _ hm1] at hgo2
                have HGO2 := hidden hgo2
                clear hgo2 HGO hz
                rw [List.length_nil] at *
                go_wp2_with fail
                refine (refWhole_any HST.out).mono ?_
                rintro e w5 ⟨x, b5, f5, rfl, hx, hs5, hgx, hf5⟩
                have HX := hidden hx
                have HGX := hidden (hgx _ _ HGO2.out)
                have hz5 := hf5.size
                have HO5 := hidden ((HO.out.fr hf5 hlt).kept (below_alloc' w5 (.cells #[.int .i64 x] 2)))
                have HS5 := hidden (hs5.kept (below_alloc' w5 (.cells #[.int .i64 x] 2)) hs5.lt)
                have HFR5 := hidden ((HFR.out.trans (hf5.mono hzr)).then ((Below.refl w.heap.size _).alloc (by omega) (.cells #[.int .i64 x] 2)))
                clear hx hs5 hgx hf5 d1
                go_wp2_with (first | (at_builtin; refine wpList_append_i rfl _ _ rfl w.heap.size _ _ x [] rfl HO5.out rfl (cell_new _ _ _) ?c2 ?c3 ?_))
                case c2 => simp
                case c3 => first | omega | (rw [World.size_alloc]; omega)
                intro v7 w7 o7 b7
                have o7' : OwnI w7 w.heap.size v7 [x] := o7
                have HO7 := hidden o7'
                have HS7 := hidden (HS5.out.kept b7 hlt)
                have HF7 := hidden (HFR5.out.then b7)
                clear o7 o7' b7
                go_wp2_with fail
                go_roundw
                case rel => exact ⟨[x], x, b5, f5, rfl, by simp; omega, fun y hy => by rw [List.mem_singleton.1 hy]; exact HX.out, HX.out, fun _ => rfl, HO7.out, HS7.out, HGX.out, HF7.out⟩
                case measure => simp [intOf]; omega
              · have hz0 : ((us.length : Int) == 0) = false := beq_eq_false_iff_ne.2 (by omega)
                have hup : 0 < us.length := by omega
                have hgo2 := HGO.out
                rw [riseK_next _ hup (by omega)] at hgo2
                have HGO2 := hidden hgo2
                have hl1 := HLA.out.1
                have hl2 := HLA.out.2
                have HLS := hidden (HLST.out hup)
                obtain ⟨u1, hu1⟩ : ∃ u1, us.length - 1 = u1 := ⟨_, rfl⟩
                have hu2 : (us.length : Int) - 1 = (u1 : Int) := by omega
                have hu3 : (u1 : Int) < (us.length : Int) := by omega
                have hu4 : u1 < us.length := by omega
                have HLS2 : Hid (us[u1] = last) := hidden (by
                  have := HLS.out
                  subst hu1
                  exact this)
                clear hgo2 HGO hz hu1 HLS
                go_wp2_with fail
                refine (refNum_any HST.out).mono ?_
                rintro e w5 ⟨d, b5, f5, rfl, hd64, hs5, hgx, hf5⟩
                have HGX := hidden (hgx _ _ HGO2.out)
                have HS5 := hidden hs5
                have hz5 := hf5.size
                have HO5 := hidden (HO.out.fr hf5 hlt)
                have HFR5 := hidden (HFR.out.trans (hf5.mono hzr))
                obtain ⟨bu, ou, hbo, hbu, hcu⟩ := HO5.out.sv.at hu4
                cases hbo
                rw [HLS2.out] at hcu
                obtain ⟨g5, off5, cap5, e0, e1, e2, e3, e4, e5, e6, e7, e8, e9⟩ := hs5.cells
                have H405 := hidden (e8 40)
                have hzz := HFR5.out.size
                clear hs5 hgx hf5 d1 e0 e2 e4 e5 e6 e7 e8 e9 HGO2
                obtain ⟨A, hA⟩ : ∃ A, IntKind.u64.wrap last = A := ⟨_, rfl⟩
                have hB : IntKind.u64.wrap (9223372036854775807 - A) = 9223372036854775807 - last := by
                  rw [← hA, IntKind.wrap_u64, IntKind.wrap_u64]
                  omega
                obtain ⟨Cc, hCc⟩ : ∃ Cc, IntKind.u64.wrap (A + (d : Int)) = Cc := ⟨_, rfl⟩
                obtain ⟨z, hz⟩ : ∃ z, w64 (last + (d : Int)) = z := ⟨_, rfl⟩
                have hI : IntKind.i64.wrap Cc = z := by
                  rw [← hCc, ← hA, ← hz, ← wrap_w64, IntKind.wrap_i64, IntKind.wrap_i64, IntKind.wrap_u64, IntKind.wrap_u64]
                  omega
                have HZ : Hid (I64 z) := hidden (by rw [← hz]; exact w64_i64 _)
                have HZD : Hid ((d : Int) ≤ 9223372036854775807 - last → z = last + (d : Int)) := hidden (fun h => by rw [← hz, w64_id (by unfold I64; omega)])
                obtain ⟨Q, hQ⟩ : ∃ Q, 9223372036854775807 - last = Q := ⟨_, rfl⟩
                have hQ0 : 0 ≤ Q := by omega
                rw [hQ] at hB HZD
                have HGXQ : Hid (Goes D (if d = 0 ∨ Q < (d : Int) then (fun _ => .error 40) else riseK (G3 n G) m (us ++ [last + (d : Int)]) (last + (d : Int))) b5 f5) := hidden (by rw [← hQ]; exact HGX.out)
                clear hz hQ HGX hl1 hl2
                have HLAST : Hid (∀ h : 0 < (us ++ [z]).length, (us ++ [z])[(us ++ [z]).length - 1] = z) := hidden (fun h => by simp)
                have HUL : Hid ((us ++ [z]).length ≤ m) := hidden (by simp; omega)
                by_cases hf5' : ((f5 : Int) == 0) = true
                · have hf5'' : f5 = 0 := by simpa using hf5'
                  subst hf5''
                  by_cases hbd : d = 0 ∨ Q < (d : Int)
                  · have HGB := hidden (HGXQ.out.bad (K := riseK (G3 n G) m (us ++ [z]) z) hbd)
                    have HFS := hidden (HFR5.out.set 1 (.int .i64 40))
                    have HOS : Hid (OwnI (w5.setCell ⟨p, 1, none⟩ (.int .i64 40)) w.heap.size (.slice (some ⟨bu, ou, none⟩) us.length cv) us) := hidden (HO5.out.fr ((Fr.refl p w5.heap.size w5).set 1 _) hlt)
                    by_cases hd0 : ((d : Int) == 0) = true
                    · clear hbd
                      have HOA := hidden (HOS.out.kept (below_alloc' (w5.setCell ⟨p, 1, none⟩ (.int .i64 40)) (.cells #[.int .i64 z] 2)))
                      have HSA := hidden (H405.out.kept (below_alloc' (w5.setCell ⟨p, 1, none⟩ (.int .i64 40)) (.cells #[.int .i64 z] 2)) H405.out.lt)
                      have HFA := hidden (HFS.out.then ((Below.refl w.heap.size _).alloc (HFS.out.size) (.cells #[.int .i64 z] 2)))
                      go_wp2_with (first | (at_builtin; refine wpList_append_i rfl _ _ rfl w.heap.size _ _ z us rfl HOA.out rfl ?c1 ?c2 ?c3 ?_))
                      all_goals try (case c1 => first | exact cell_new _ _ _ | (simpa using cell_new ((w5.setCell ⟨p, 1, none⟩ (.int .i64 40))) (.int .i64 z) 2))
                      case c2 => omega
                      case c3 => first | omega | (have := HFA.out.size; omega) | exact HFA.out.size
                      intro v7 w7 o7 b7
                      have HO7 := hidden o7
                      have HS7 := hidden (HSA.out.kept b7 hlt)
                      have HF7 := hidden (HFA.out.then b7)
                      clear o7 b7
                      go_wp2_with fail
                      go_roundw
                      case rel => exact ⟨us ++ [z], z, b5, 40, by simp, HUL.out, HUS.out.snoc HZ.out, HZ.out, HLAST.out, HO7.out, HS7.out, HGB.out, HF7.out⟩
                      case measure => simp [intOf]; omega
                    · have hd0f : ((d : Int) == 0) = false := by simpa using hd0
                      have hgq : (d : Int) > Q := by
                        have : d ≠ 0 := by simpa using hd0
                        omega
                      clear hbd hd0
                      have HOA := hidden (HOS.out.kept (below_alloc' (w5.setCell ⟨p, 1, none⟩ (.int .i64 40)) (.cells #[.int .i64 z] 2)))
                      have HSA := hidden (H405.out.kept (below_alloc' (w5.setCell ⟨p, 1, none⟩ (.int .i64 40)) (.cells #[.int .i64 z] 2)) H405.out.lt)
                      have HFA := hidden (HFS.out.then ((Below.refl w.heap.size _).alloc (HFS.out.size) (.cells #[.int .i64 z] 2)))
                      go_wp2_with (first | (at_builtin; refine wpList_append_i rfl _ _ rfl w.heap.size _ _ z us rfl HOA.out rfl ?c1 ?c2 ?c3 ?_))
                      all_goals try (case c1 => first | exact cell_new _ _ _ | (simpa using cell_new ((w5.setCell ⟨p, 1, none⟩ (.int .i64 40))) (.int .i64 z) 2))
                      case c2 => omega
                      case c3 => first | omega | (have := HFA.out.size; omega) | exact HFA.out.size
                      intro v7 w7 o7 b7
                      have HO7 := hidden o7
                      have HS7 := hidden (HSA.out.kept b7 hlt)
                      have HF7 := hidden (HFA.out.then b7)
                      clear o7 b7
                      go_wp2_with fail
                      go_roundw
                      case rel => exact ⟨us ++ [z], z, b5, 40, by simp, HUL.out, HUS.out.snoc HZ.out, HZ.out, HLAST.out, HO7.out, HS7.out, HGB.out, HF7.out⟩
                      case measure => simp [intOf]; omega
                  · have hd0f : ((d : Int) == 0) = false := beq_eq_false_iff_ne.2 (by omega)
                    have hgq : ¬ (d : Int) > Q := by omega
                    have HGG := hidden (HGXQ.out.good hbd)
                    have hzz2 := HZD.out (by omega)
                    rw [← hzz2] at HGG
                    clear hbd hzz2
                    have HOA := hidden (HO5.out.kept (below_alloc' w5 (.cells #[.int .i64 z] 2)))
                    have HSA := hidden (HS5.out.kept (below_alloc' w5 (.cells #[.int .i64 z] 2)) HS5.out.lt)
                    have HFA := hidden (HFR5.out.then ((Below.refl w.heap.size _).alloc (HFR5.out.size) (.cells #[.int .i64 z] 2)))
                    go_wp2_with (first | (at_builtin; refine wpList_append_i rfl _ _ rfl w.heap.size _ _ z us rfl HOA.out rfl ?c1 ?c2 ?c3 ?_))
                    all_goals try (case c1 => first | exact cell_new _ _ _ | (simpa using cell_new (w5) (.int .i64 z) 2))
                    case c2 => omega
                    case c3 => first | omega | (have := HFA.out.size; omega) | exact HFA.out.size
                    intro v7 w7 o7 b7
                    have HO7 := hidden o7
                    have HS7 := hidden (HSA.out.kept b7 hlt)
                    have HF7 := hidden (HFA.out.then b7)
                    clear o7 b7
                    go_wp2_with fail
                    go_roundw
                    case rel => exact ⟨us ++ [z], z, b5, 0, by simp, HUL.out, HUS.out.snoc HZ.out, HZ.out, HLAST.out, HO7.out, HS7.out, HGG.out, HF7.out⟩
                    case measure => simp [intOf]; omega
                · have hf5f : ((f5 : Int) == 0) = false := by simpa using hf5'
                  have hne5 : f5 ≠ 0 := fun e => hf5' (by simp [e])
                  have HGB := hidden (HGXQ.out.any (K' := riseK (G3 n G) m (us ++ [z]) z) hne5)
                  clear hf5' hne5
                  have HOA := hidden (HO5.out.kept (below_alloc' w5 (.cells #[.int .i64 z] 2)))
                  have HSA := hidden (HS5.out.kept (below_alloc' w5 (.cells #[.int .i64 z] 2)) HS5.out.lt)
                  have HFA := hidden (HFR5.out.then ((Below.refl w.heap.size _).alloc (HFR5.out.size) (.cells #[.int .i64 z] 2)))
                  go_wp2_with (first | (at_builtin; refine wpList_append_i rfl _ _ rfl w.heap.size _ _ z us rfl HOA.out rfl ?c1 ?c2 ?c3 ?_))
                  all_goals try (case c1 => first | exact cell_new _ _ _ | (simpa using cell_new (w5) (.int .i64 z) 2))
                  case c2 => omega
                  case c3 => first | omega | (have := HFA.out.size; omega) | exact HFA.out.size
                  intro v7 w7 o7 b7
                  have HO7 := hidden o7
                  have HS7 := hidden (HSA.out.kept b7 hlt)
                  have HF7 := hidden (HFA.out.then b7)
                  clear o7 b7
                  go_wp2_with fail
                  go_roundw
                  case rel => exact ⟨us ++ [z], z, b5, f5, by simp, HUL.out, HUS.out.snoc HZ.out, HZ.out, HLAST.out, HO7.out, HS7.out, HGB.out, HF7.out⟩
                  case measure => simp [intOf]; omega
            · obtain rfl : us.length = m := by omega
              have hgo2 := HGO.out
              rw [riseK_end] at hgo2
              unfold G3 at hgo2
              rw [if_neg HN0.out] at hgo2
              have HGE := hidden hgo2
              clear hgo2 HGO
              obtain ⟨u1, hu1⟩ : ∃ u1, us.length - 1 = u1 := ⟨_, rfl⟩
              have hu2 : (us.length : Int) - 1 = (u1 : Int) := by omega
              have hu256 : us.length ≤ 256 := by omega
              have hbw := blen_small (n := us.length) hu256
              rw [hu1] at HGE hbw
              have HWD : Hid (∀ W : World, Calls Tryz.prog 78 #[.slice (some ⟨W.heap.size, 0, none⟩) 1 1] (W.alloc (.cells #[.int .u64 (u1 : Int)] 63)) fun e w' => e = .returned (.int .i64 (blen u1 : Int)) ∧ w' = W.alloc (.cells #[.int .u64 (u1 : Int)] 63)) := hidden (fun W => by
                have := refWidth_any (Sx.lit (k := .u64) W [u1] 63 (by unfold maxLen; simp)) (fun x hx => by
                  have : x = u1 := by simpa using hx
                  omega)
                rw [wd_one] at this
                exact this)
              have HSA := hidden (HST.out.kept (below_alloc' wr (.cells #[.int .u64 (u1 : Int)] 63)) hltr)
              have HOA := hidden (HO.out.kept (below_alloc' wr (.cells #[.int .u64 (u1 : Int)] 63)))
              have HFA := hidden (HFR.out.then ((Below.refl w.heap.size _).alloc hzr (.cells #[.int .u64 (u1 : Int)] 63)))
              have HPK := hidden (refPacked_any HSA.out n (blen u1) hn (fun _ => hbw) (by omega))
              have hzA := HFA.out.size
              clear hu1 HLST hbw
              generalize blen u1 = ww at *
              go_wp2_with fail
              refine (HWD.out _).mono ?_
              rintro e w3 ⟨rfl, rfl⟩
              go_wp2_with fail
              refine HPK.out.mono ?_
              rintro e w4 ⟨P, b3, f3, ⟨v4, rfl, ho4⟩, hPx, hPl, hPn, hs4, hgp, hf4⟩
              have HGP := hidden (hgp _ _ HGE.out)
              have HP4 := hidden ho4
              have HPX := hidden hPx
              have HPN := hidden hPn
              have HS4 := hidden hs4
              have HU4 := hidden (HOA.out.fr hf4 hlt)
              have HF4 := hidden (HFA.out.trans (hf4.mono hzA))
              have hz4 := HF4.out.size
              have hlt4 := hs4.lt
              obtain ⟨a4, c4, rfl⟩ := ho4.len
              clear ho4 hPx hs4 hgp hf4 hPn d1
              go_wp2_with fail
              go_loopw [7, 20] (fun v i wr => ∃ k : Nat, k ≤ P.length ∧ i = .int .i64 (k : Int) ∧ (∀ q ∈ P.take k, q < us.length) ∧ OwnI wr w4.heap.size v ((P.take k).map fun q => us.getD q 0) ∧ Below w4.heap.size w4 wr) (fun _ i _ => P.length - (intOf i).toNat)
              case atStart => exact ⟨0, by omega, rfl, fun q hq => by simp at hq, OwnI.nil _ _, Below.refl _ _⟩
              case round =>
                obtain ⟨k, hk, rfl, hall, how, hbel⟩ := hrel
                have HAL := hidden hall
                have HO9 := hidden how
                have HB := hidden hbel
                have hzr9 := hbel.size
                obtain ⟨av9, cv9, rfl⟩ := how.len
                clear hall how hbel
                by_cases hlk : k < P.length
                · have hlk3 : (k : Int) < (P.length : Int) := by omega
                  obtain ⟨bp, op, hbp, hbp2, hckp⟩ := (HP4.out.kept HB.out).sv.atU hlk
                  cases hbp
                  have hqx := HPX.out P[k] (List.getElem_mem hlk)
                  have HTK := hidden (List.take_succ_eq_append_getElem hlk)
                  have HMEM := hidden (List.getElem_mem hlk)
                  by_cases hq : P[k] < us.length
                  · have hq2 : ¬ ((P[k] : Nat) : Int) ≥ (us.length : Int) := by omega
                    have hq3 : ((P[k] : Nat) : Int) < (us.length : Int) := by omega
                    obtain ⟨bu, ou, hbu, hbu2, hcku⟩ := (HU4.out.kept HB.out).sv.at hq
                    cases hbu
                    have HGD : Hid (us.getD P[k] 0 = us[P[k]]) := hidden (by simp [List.getD_eq_getElem?_getD, hq])
                    have hyl : ((P.take k).map fun q => us.getD q 0).length ≤ 256 := by rw [List.length_map, List.length_take]; omega
                    generalize us[P[k]] = x at *
                    generalize P[k] = q at *
                    obtain ⟨ys, hys⟩ : ∃ ys, ((P.take k).map fun q => us.getD q 0) = ys := ⟨_, rfl⟩
                    rw [hys] at HO9 hyl ⊢
                    have HYS := hidden hys
                    clear hys
                    have HOB := hidden (HO9.out.kept (below_alloc' wr (.cells #[.int .i64 x] 2)))
                    have HBA := hidden (HB.out.alloc hzr9 (.cells #[.int .i64 x] 2))
                    go_wp2_with (first | (at_builtin; refine wpList_append_i rfl _ _ rfl w4.heap.size _ _ x ys rfl HOB.out rfl (cell_new _ _ _) ?c2 ?c3 ?_))
                    case c2 => omega
                    case c3 => first | omega | (rw [World.size_alloc]; omega)
                    intro v7 w7 o7 b7
                    have HO7 := hidden o7
                    have HB7 := hidden (HBA.out.trans b7)
                    clear o7 b7
                    go_wp2_with fail
                    go_roundw
                    case rel =>
                      refine ⟨k + 1, by omega, by go_num, ?_, ?_, HB7.out⟩
                      · rw [HTK.out]
                        intro q' hq'
                        rcases List.mem_append.1 hq' with h | h
                        · exact HAL.out q' h
                        · rw [List.mem_singleton.1 h]
                          exact hq
                      · rw [HTK.out, List.map_append, HYS.out, List.map_singleton, HGD.out]
                        exact HO7.out
                    case measure => simp [intOf]; omega
                  · have hq2 : ((P[k] : Nat) : Int) ≥ (us.length : Int) := by omega
                    have HBAD : Hid (¬ ∀ q ∈ P, q < us.length) := hidden (fun h => hq (h _ HMEM.out))
                    have hf3 := HPN.out (by omega)
                    subst hf3
                    have HGB := hidden (HGP.out.strays (K := G []) HBAD.out)
                    rw [orf_zero] at HGB
                    obtain ⟨a9, cap9, k0, k1, k2, k3, k4, k5⟩ := (HS4.out.kept HB.out hlt4).cells
                    have H409 := hidden (k5 40)
                    have HF9 := hidden ((HF4.out.then (HB.out.mono (by omega))).set 1 (.int .i64 40))
                    clear hq k5
                    generalize P[k] = q at *
                    go_wp2_with fail
                    go_ret
                    exact ⟨[], b3, 40, ⟨_, rfl, OwnI.nil _ _⟩, fun x hx => by simp at hx, by simp, H409.out, HGB.out, HF9.out⟩
                · obtain rfl : k = P.length := by omega
                  have hlk3 : ¬ (P.length : Int) < (P.length : Int) := by omega
                  have hall := HAL.out
                  rw [List.take_length] at hall HO9
                  have HGZ := hidden (HGP.out.picks hall)
                  have HFE := hidden (HF4.out.then (HB.out.mono (by omega)))
                  have hoe := HO9.out.low (show w.heap.size ≤ w4.heap.size by omega)
                  rw [List.length_map] at hoe
                  have HOE := hidden hoe
                  clear hoe
                  have HISE : Hid (Is (P.map fun q => us.getD q 0)) := hidden (fun y hy => by
                    obtain ⟨q, hq, rfl⟩ := List.mem_map.1 hy
                    have := hall q hq
                    rw [List.getD_eq_getElem?_getD, List.getElem?_eq_getElem this]
                    exact HUS.out _ (List.getElem_mem this))
                  have HLE : Hid ((P.map fun q => us.getD q 0).length ≤ n) := hidden (by rw [List.length_map]; exact hPl)
                  clear hall
                  go_wp2_with fail
                  go_ret
                  exact ⟨_, _, _, ⟨_, rfl, HOE.out⟩, HISE.out, HLE.out, HS4.out.kept HB.out hlt4, HGZ.out, HFE.out⟩
          · have hff : ((f' : Int) == 0) = false := by simpa using hf'
            have hne : f' ≠ 0 := fun e => hf' (by simp [e])
            have hnne : ((f' : Int) != 0) = true := by simpa using hf'
            have HGE := hidden (HGO.out.any (K' := G []) hne)
            clear hf' hne
            by_cases hlt2 : (us.length : Int) < (m : Int)
            · go_wp2_with fail
              go_ret
              exact ⟨[], b', f', ⟨_, rfl, OwnI.nil _ _⟩, fun x hx => by simp at hx, by simp, HST.out.sn, HGE.out, HFR.out⟩
            · go_wp2_with fail
              go_ret
              exact ⟨[], b', f', ⟨_, rfl, OwnI.nil _ _⟩, fun x hx => by simp at hx, by simp, HST.out.sn, HGE.out, HFR.out⟩
  · have hff : ((f2 : Int) == 0) = false := by simpa using hf0
    have hne : f2 ≠ 0 := fun e => hf0 (by simp [e])
    have hnne : ((f2 : Int) != 0) = true := by simpa using hf0
    have HGB := hidden (HGM.out.any (K' := G []) hne)
    clear hf0 hne hnn
    by_cases hm0 : (0 : Int) < (m : Int)
    · by_cases hn0 : ((n : Int) == 0) = true
      · go_wp2_with fail
        refine wp_loop_rounds 1 ?_
        rw [rounds_succ]
        go_wp2_with fail
        go_ret
        exact ⟨[], b2, f2, ⟨_, rfl, OwnI.nil _ _⟩, fun x hx => by simp at hx, by simp, HS2.out.sn, HGB.out, HF2.out⟩
      · have hn0f : ((n : Int) == 0) = false := by simpa using hn0
        clear hn0
        go_wp2_with fail
        refine wp_loop_rounds 1 ?_
        rw [rounds_succ]
        go_wp2_with fail
        go_ret
        exact ⟨[], b2, f2, ⟨_, rfl, OwnI.nil _ _⟩, fun x hx => by simp at hx, by simp, HS2.out.sn, HGB.out, HF2.out⟩
    · obtain rfl : m = 0 := by omega
      by_cases hn0 : ((n : Int) == 0) = true
      · go_wp2_with fail
        refine wp_loop_rounds 1 ?_
        rw [rounds_succ]
        go_wp2_with fail
        go_ret
        exact ⟨[], b2, f2, ⟨_, rfl, OwnI.nil _ _⟩, fun x hx => by simp at hx, by simp, HS2.out.sn, HGB.out, HF2.out⟩
      · have hn0f : ((n : Int) == 0) = false := by simpa using hn0
        clear hn0
        go_wp2_with fail
        refine wp_loop_rounds 1 ?_
        rw [rounds_succ]
        go_wp2_with fail
        go_ret
        exact ⟨[], b2, f2, ⟨_, rfl, OwnI.nil _ _⟩, fun x hx => by simp at hx, by simp, HS2.out.sn, HGB.out, HF2.out⟩
end Go.Proofs.YtcmmednihoaekaaGreat
