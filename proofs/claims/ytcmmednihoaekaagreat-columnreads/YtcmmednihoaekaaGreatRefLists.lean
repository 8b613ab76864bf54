/- Contracts: the document's list by codecs 0, 1, 2 and 4. -/
import Derived.Test.YtcmmednihoaekaaGreatRefRd
import Derived.Test.YtcmmednihoaekaaGreatRefUniq
set_option linter.unusedVariables false
set_option linter.unusedSimpArgs false
namespace Go.Proofs.YtcmmednihoaekaaGreat
open Go.RowKit Go.Lib

/-- A list was read by the document's reader. -/
def RPost (D : Except Nat (List Int × List Nat)) (G : List Int → List Nat → Except Nat (List Int × List Nat)) (p n : Nat) (w : World) (r : Ending) (w' : World) : Prop :=
  ∃ (l : List Int) (b' : List Nat) (f' : Nat), (∃ v, r = .returned v ∧ OwnI w' w.heap.size v l) ∧ Is l ∧ l.length ≤ n ∧ Sn 98 w' p b' f' ∧ Goes D (G l) b' f' ∧ Fr p w.heap.size w w'

set_option maxRecDepth 100000 in
set_option maxHeartbeats 4000000 in
theorem refList_0 {D : Except Nat (List Int × List Nat)} {G : List Int → List Nat → Except Nat (List Int × List Nat)} {w : World} {p n f : Nat} {b : List Nat} (h : St 98 w p b f) (hn : n ≤ 256) (hg : Goes D (bindR (rd0 n) G) b f) :
    Calls Tryz.prog 60 #[.pointer (some ⟨p, 0, none⟩), .int .i64 0, .int .i64 (n : Int)] w (RPost D G p n w) := by
  have HS := hidden h
  have HG := hidden hg
  have hlt := h.lt
  clear h hg
  go_enter Tryz.func60, Tryz.ntmps60
  go_wp2_with fail
  go_loopw [7, 8] (fun v i wr => ∃ (ys : List Int) (b' : List Nat) (f' : Nat), i = .int .i64 (ys.length : Int) ∧ ys.length ≤ n ∧ Is ys ∧ OwnI wr w.heap.size v ys ∧ St 98 wr p b' f' ∧ Goes D (bindR (rd0 (n - ys.length)) (fun l => G (ys ++ l))) b' f' ∧ Fr p w.heap.size w wr) (fun _ i _ => n - (intOf i).toNat)
  case atStart => exact ⟨[], b, f, rfl, by simp, fun x hx => by simp at hx, OwnI.nil _ _, HS.out, HG.out, Fr.refl _ _ _⟩
  case round =>
    obtain ⟨ys, b', f', rfl, hk, hys, how, hst, hgo, hfr⟩ := hrel
    have HYS := hidden hys
    have HO := hidden how
    have HST := hidden hst
    have HGO := hidden hgo
    have HFR := hidden hfr
    have hzr := hfr.size
    obtain ⟨g, off, cap, c0, c1, c2, c3, c4, c5, c6, c7, c8, c9⟩ := hst.cells
    clear hys how hst hgo hfr c0 c2 c3 c4 c5 c6 c7 c8 c9
    by_cases hlt2 : (ys.length : Int) < (n : Int)
    · by_cases hf0 : ((f' : Int) == 0) = true
      · obtain ⟨m, hm⟩ : ∃ m, n - ys.length = m + 1 := ⟨n - ys.length - 1, by omega⟩
        have hgo2 := HGO.out
        rw [hm, rd0_step] at hgo2
        have HGO2 := hidden hgo2
        have HM := hidden hm
        clear hgo2 hm HGO
        go_wp2_with fail
        refine (refWhole_any HST.out).mono ?_
        rintro e w5 ⟨x, b5, f5, rfl, hx, hs5, hgx, hf5⟩
        have HX := hidden hx
        have HGX := hidden (hgx _ _ HGO2.out)
        have hz5 := hf5.size
        have HO5 := hidden ((HO.out.fr hf5 hlt).kept (below_alloc' w5 (.cells #[.int .i64 x] 2)))
        have HS5 := hidden (hs5.kept (below_alloc' w5 (.cells #[.int .i64 x] 2)) hs5.lt)
        have HFR5 := hidden ((HFR.out.trans (hf5.mono hzr)).then ((Below.refl w.heap.size _).alloc (by omega) (.cells #[.int .i64 x] 2)))
        clear hx hs5 hgx hf5 c1
        go_wp2_with (first | (at_builtin; refine wpList_append_i rfl _ _ rfl w.heap.size _ _ x ys rfl HO5.out rfl (cell_new _ _ _) ?c2 ?c3 ?_))
        case c2 => omega
        case c3 => first | omega | (rw [World.size_alloc]; omega)
        intro v7 w7 o7 b7
        have HO7 := hidden o7
        have HS7 := hidden (HS5.out.kept b7 hlt)
        have HF7 := hidden (HFR5.out.then b7)
        clear o7 b7
        go_wp2_with fail
        go_roundw
        case rel =>
          refine ⟨ys ++ [x], b5, f5, by simp, by simp; omega, HYS.out.snoc HX.out, HO7.out, HS7.out, ?_, HF7.out⟩
          have e : n - (ys ++ [x]).length = m := by have := HM.out; simp; omega
          rw [e]
          exact HGX.out
        case measure => simp [intOf]; omega
      · have hff : ((f' : Int) == 0) = false := by simpa using hf0
        have hne : f' ≠ 0 := fun e => hf0 (by simp [e])
        have HGE := hidden (HGO.out.any (K' := G ys) hne)
        clear hf0 hne
        go_wp2_with fail
        go_ret
        exact ⟨ys, b', f', ⟨_, rfl, HO.out⟩, HYS.out, hk, HST.out.sn, HGE.out, HFR.out⟩
    · have hgo2 := HGO.out
      rw [show n - ys.length = 0 by omega, rd0_end] at hgo2
      have HGE := hidden hgo2
      clear hgo2
      go_wp2_with fail
      go_ret
      exact ⟨ys, b', f', ⟨_, rfl, HO.out⟩, HYS.out, hk, HST.out.sn, HGE.out, HFR.out⟩
set_option maxRecDepth 100000 in
set_option maxHeartbeats 4000000 in
theorem refList_1 {D : Except Nat (List Int × List Nat)} {G : List Int → List Nat → Except Nat (List Int × List Nat)} {w : World} {p n f : Nat} {b : List Nat} (h : St 98 w p b f) (hn : n ≤ 256) (hg : Goes D (bindR (rd1 n 0) G) b f) :
    Calls Tryz.prog 60 #[.pointer (some ⟨p, 0, none⟩), .int .i64 1, .int .i64 (n : Int)] w (RPost D G p n w) := by
  have HS := hidden h
  have HG := hidden hg
  have hlt := h.lt
  clear h hg
  go_enter Tryz.func60, Tryz.ntmps60
  go_wp2_with fail
  go_loopw [7, 9, 10] (fun v la i wr => ∃ (last : Int) (ys : List Int) (b' : List Nat) (f' : Nat), la = .int .u64 (last % 18446744073709551616) ∧ I64 last ∧ i = .int .i64 (ys.length : Int) ∧ ys.length ≤ n ∧ Is ys ∧ OwnI wr w.heap.size v ys ∧ St 98 wr p b' f' ∧ Goes D (bindR (rd1 (n - ys.length) last) (fun l => G (ys ++ l))) b' f' ∧ Fr p w.heap.size w wr) (fun _ _ i _ => n - (intOf i).toNat)
  case atStart => exact ⟨0, [], b, f, rfl, by unfold I64; omega, rfl, by simp, fun x hx => by simp at hx, OwnI.nil _ _, HS.out, HG.out, Fr.refl _ _ _⟩
  case round =>
    obtain ⟨last, ys, b', f', rfl, hlast, rfl, hk, hys, how, hst, hgo, hfr⟩ := hrel
    have HYS := hidden hys
    have HO := hidden how
    have HST := hidden hst
    have HGO := hidden hgo
    have HFR := hidden hfr
    have hzr := hfr.size
    obtain ⟨g, off, cap, c0, c1, c2, c3, c4, c5, c6, c7, c8, c9⟩ := hst.cells
    clear hys how hst hgo hfr c0 c2 c3 c4 c5 c6 c7 c8 c9
    by_cases hlt2 : (ys.length : Int) < (n : Int)
    · by_cases hf0 : ((f' : Int) == 0) = true
      · obtain ⟨m, hm⟩ : ∃ m, n - ys.length = m + 1 := ⟨n - ys.length - 1, by omega⟩
        have hgo2 := HGO.out
        rw [hm, rd1_step] at hgo2
        have HGO2 := hidden hgo2
        have HM := hidden hm
        clear hgo2 hm HGO
        go_wp2_with fail
        refine (refWhole_any HST.out).mono ?_
        rintro e w5 ⟨x0, b5, f5, rfl, hx, hs5, hgx, hf5⟩
        have HX := hidden (w64_i64 (last + x0))
        have HGX := hidden (hgx _ _ HGO2.out)
        obtain ⟨X, hX⟩ : ∃ X, IntKind.u64.wrap x0 = X := ⟨_, rfl⟩
        have hXL : IntKind.u64.wrap (last % 18446744073709551616 + X) = w64 (last + x0) % 18446744073709551616 := by
          rw [← hX, IntKind.wrap_u64, IntKind.wrap_u64]
          unfold w64
          omega
        have hXI : IntKind.i64.wrap (w64 (last + x0) % 18446744073709551616) = w64 (last + x0) := by
          rw [IntKind.wrap_i64]
          unfold w64
          omega
        generalize w64 (last + x0) = x at *
        obtain ⟨LM, hLM⟩ : ∃ LM, last % 18446744073709551616 = LM := ⟨_, rfl⟩
        rw [hLM] at hXL ⊢
        obtain ⟨XM, hXM⟩ : ∃ XM, x % 18446744073709551616 = XM := ⟨_, rfl⟩
        rw [hXM] at hXL hXI
        have HXM := hidden hXM
        clear hLM hXM
        have hz5 := hf5.size
        have HO5 := hidden ((HO.out.fr hf5 hlt).kept (below_alloc' w5 (.cells #[.int .i64 x] 2)))
        have HS5 := hidden (hs5.kept (below_alloc' w5 (.cells #[.int .i64 x] 2)) hs5.lt)
        have HFR5 := hidden ((HFR.out.trans (hf5.mono hzr)).then ((Below.refl w.heap.size _).alloc (by omega) (.cells #[.int .i64 x] 2)))
        clear hx hs5 hgx hf5 c1
        go_wp2_with (first | (at_builtin; refine wpList_append_i rfl _ _ rfl w.heap.size _ _ x ys rfl HO5.out rfl (cell_new _ _ _) ?c2 ?c3 ?_))
        case c2 => omega
        case c3 => first | omega | (rw [World.size_alloc]; omega)
        intro v7 w7 o7 b7
        have HO7 := hidden o7
        have HS7 := hidden (HS5.out.kept b7 hlt)
        have HF7 := hidden (HFR5.out.then b7)
        clear o7 b7
        go_wp2_with fail
        go_roundw
        case rel =>
          refine ⟨x, ys ++ [x], b5, f5, by rw [HXM.out], HX.out, by simp, by simp; omega, HYS.out.snoc HX.out, HO7.out, HS7.out, ?_, HF7.out⟩
          have e : n - (ys ++ [x]).length = m := by have := HM.out; simp; omega
          rw [e]
          exact HGX.out
        case measure => simp [intOf]; omega
      · have hff : ((f' : Int) == 0) = false := by simpa using hf0
        have hne : f' ≠ 0 := fun e => hf0 (by simp [e])
        have HGE := hidden (HGO.out.any (K' := G ys) hne)
        clear hf0 hne
        go_wp2_with fail
        go_ret
        exact ⟨ys, b', f', ⟨_, rfl, HO.out⟩, HYS.out, hk, HST.out.sn, HGE.out, HFR.out⟩
    · have hgo2 := HGO.out
      rw [show n - ys.length = 0 by omega, rd1_end] at hgo2
      have HGE := hidden hgo2
      clear hgo2
      go_wp2_with fail
      go_ret
      exact ⟨ys, b', f', ⟨_, rfl, HO.out⟩, HYS.out, hk, HST.out.sn, HGE.out, HFR.out⟩

/-- A bad number: the reading ends with the fault 40. -/
theorem Goes.bad {D : Except Nat (List Int × List Nat)} {C : Prop} [Decidable C] {g K : List Nat → Except Nat (List Int × List Nat)} {b : List Nat} (h : Goes D (if C then (fun _ => .error 40) else g) b 0) (hc : C) : Goes D K b 40 := by
  rw [if_pos hc] at h
  exact ⟨fun e => by omega, fun _ => h.1 rfl⟩

theorem Goes.good {D : Except Nat (List Int × List Nat)} {C : Prop} [Decidable C] {g : List Nat → Except Nat (List Int × List Nat)} {b : List Nat} {f : Nat} (h : Goes D (if C then (fun _ => .error 40) else g) b f) (hc : ¬ C) : Goes D g b f := by
  rwa [if_neg hc] at h

set_option maxRecDepth 100000 in
set_option maxHeartbeats 8000000 in
theorem refList_2 {D : Except Nat (List Int × List Nat)} {G : List Int → List Nat → Except Nat (List Int × List Nat)} {w : World} {p n f : Nat} {b : List Nat} (h : St 98 w p b f) (hn : n ≤ 256) (hg : Goes D (bindR (rd2 n n) G) b f) :
    Calls Tryz.prog 60 #[.pointer (some ⟨p, 0, none⟩), .int .i64 2, .int .i64 (n : Int)] w (RPost D G p n w) := by
  have HS := hidden h
  have HG := hidden hg
  have hlt := h.lt
  clear h hg
  go_enter Tryz.func60, Tryz.ntmps60
  go_wp2_with fail
  go_loopw [7] (fun v wr => ∃ (fu : Nat) (ys : List Int) (b' : List Nat) (f' : Nat), ys.length ≤ n ∧ Is ys ∧ OwnI wr w.heap.size v ys ∧ St 98 wr p b' f' ∧ (f' = 0 → n - ys.length ≤ fu) ∧ Goes D (bindR (rd2 fu (n - ys.length)) (fun l => G (ys ++ l))) b' f' ∧ Fr p w.heap.size w wr) (fun v wr => 2 * (n - lenOf v) + calm p wr)
  case atStart => exact ⟨n, [], b, f, by simp, fun x hx => by simp at hx, OwnI.nil _ _, HS.out, fun _ => by simp, HG.out, Fr.refl _ _ _⟩
  case round =>
    obtain ⟨fu, ys, b', f', hk, hys, how, hst, hfu, hgo, hfr⟩ := hrel
    have HYS := hidden hys
    have HO := hidden how
    have HST := hidden hst
    have HGO := hidden hgo
    have HFR := hidden hfr
    have HFU := hidden hfu
    have hzr := hfr.size
    obtain ⟨av, cv, rfl⟩ := how.len
    obtain ⟨g, off, cap, c0, c1, c2, c3, c4, c5, c6, c7, c8, c9⟩ := hst.cells
    clear hys how hst hgo hfr hfu c0 c2 c3 c4 c5 c6 c7 c8 c9
    by_cases hlt2 : (ys.length : Int) < (n : Int)
    · by_cases hf0 : ((f' : Int) == 0) = true
      · have hf0' : f' = 0 := by simpa using hf0
        have hm : n - ys.length ≠ 0 := by omega
        have hfu2 := HFU.out hf0'
        obtain ⟨fu', rfl⟩ : ∃ q, fu = q + 1 := ⟨fu - 1, by omega⟩
        have hgo2 := HGO.out
        rw [rd2_step _ _ _ _ hm] at hgo2
        have HGO2 := hidden hgo2
        have HC1 := hidden (calm_zero HST.out hf0')
        have hsub : (n : Int) - (ys.length : Int) = ((n - ys.length : Nat) : Int) := by omega
        clear hgo2 HGO hf0' HFU
        go_wp2_with fail
        refine (refWhole_any HST.out).mono ?_
        rintro e w5 ⟨x, b5, f5, rfl, hx, hs5, hgx, hf5⟩
        have HX := hidden hx
        have HGX := hidden (hgx _ _ HGO2.out)
        have HS5 := hidden hs5
        have HO5 := hidden (HO.out.fr hf5 hlt)
        have HFR5 := hidden (HFR.out.trans (hf5.mono hzr))
        have hz5 := HFR5.out.size
        clear hx hs5 hgx hf5 c1 HGO2
        go_wp2_with fail
        refine (refNum_any HS5.out).mono ?_
        rintro e w6 ⟨k, b6, f6, rfl, hk6, hs6, hgk, hf6⟩
        have HGK := hidden (hgk _ _ HGX.out)
        have HS6 := hidden hs6
        have HO6 := hidden (HO5.out.fr hf6 hlt)
        have HFR6 := hidden (HFR5.out.trans (hf6.mono hz5))
        have hz6 := HFR6.out.size
        obtain ⟨g, off, cap, c0, c1, c2, c3, c4, c5, c6, c7, c8, c9⟩ := hs6.cells
        have H40 := hidden (c8 40)
        clear hs6 hgk hf6 c0 c2 c4 c5 c6 c7 c8 c9 HGX
        by_cases hf6 : ((f6 : Int) == 0) = true
        · have hf6' : f6 = 0 := by simpa using hf6
          subst hf6'
          by_cases hbad : k = 0 ∨ n - ys.length < k
          · have HGB := hidden (HGK.out.bad (K := bindR (rd2 0 (n - ys.length)) (fun l => G (ys ++ l))) hbad)
            have H40c : Hid (calm p (w6.setCell ⟨p, 1, none⟩ (.int .i64 40)) = 0) := hidden (calm_not H40.out (by omega))
            have HFR7 := hidden (HFR6.out.set 1 (.int .i64 40))
            have HO7 : Hid (OwnI (w6.setCell ⟨p, 1, none⟩ (.int .i64 40)) w.heap.size (.slice av ys.length cv) ys) := hidden (HO6.out.fr ((Fr.refl p w6.heap.size w6).set 1 _) hlt)
            by_cases hk0 : ((k : Int) == 0) = true
            · obtain rfl : k = 0 := by simpa using hk0
              go_wp2_with fail
              refine wp_loop_rounds 1 ?_
              rw [rounds_succ]
              go_wp2_with fail
              go_roundw
              case rel => exact ⟨0, ys, b6, 40, hk, HYS.out, HO7.out, H40.out, fun e => by omega, HGB.out, HFR7.out⟩
              case measure =>
                have h1 := H40c.out
                have h2 := HC1.out
                simp only [lenOf]
                rw [h1, h2]
                omega
            · have hk0f : ((k : Int) == 0) = false := by simpa using hk0
              have hgtk : (k : Int) > ((n - ys.length : Nat) : Int) := by
                have : k ≠ 0 := by simpa using hk0
                omega
              have hkpos : (0 : Int) < (k : Int) := by omega
              clear hbad hk0
              go_wp2_with fail
              refine wp_loop_rounds 1 ?_
              rw [rounds_succ]
              go_wp2_with fail
              go_roundw
              case rel => exact ⟨0, ys, b6, 40, hk, HYS.out, HO7.out, H40.out, fun e => by omega, HGB.out, HFR7.out⟩
              case measure =>
                have h1 := H40c.out
                have h2 := HC1.out
                simp only [lenOf]
                rw [h1, h2]
                omega
          · have HGG := hidden (HGK.out.good hbad)
            have hk1 : 1 ≤ k := by omega
            have hkn : k ≤ n - ys.length := by omega
            have hk0f : ((k : Int) == 0) = false := beq_eq_false_iff_ne.2 (by omega)
            have hgtk : ¬ (k : Int) > ((n - ys.length : Nat) : Int) := by omega
            have hgtd : decide (n - ys.length < k) = false := decide_eq_false (by omega)
            clear hbad
            go_wp2_with fail
            go_loopw [7, 13] (fun v j wq => ∃ i : Nat, i ≤ k ∧ j = .int .u64 (i : Int) ∧ OwnI wq w.heap.size v (ys ++ List.replicate i x) ∧ St 98 wq p b6 0 ∧ Fr p w.heap.size w wq) (fun _ j _ => k - (intOf j).toNat)
            case atStart => exact ⟨0, by omega, rfl, by simpa using HO6.out, HS6.out, HFR6.out⟩
            case round =>
              obtain ⟨i, hik, rfl, hoq, hsq, hfq⟩ := hrel
              have HOQ := hidden hoq
              have HSQ := hidden hsq
              have HFQ := hidden hfq
              have hzq := hfq.size
              obtain ⟨aq, cq, rfl⟩ := hoq.len
              obtain ⟨g', off', cap', d0, d1, d2, d3, d4, d5, d6, d7, d8, d9⟩ := hsq.cells
              clear hoq hsq hfq c1 d0 d2 d3 d4 d5 d6 d7 d8 d9
              by_cases hij : (i : Int) < (k : Int)
              · have HOA := hidden (HOQ.out.kept ((Below.refl _ _).alloc (Nat.le_refl _) (.cells #[.int .i64 x] 2)))
                have HSA := hidden (HSQ.out.kept ((Below.refl _ _).alloc (Nat.le_refl _) (.cells #[.int .i64 x] 2)) HSQ.out.lt)
                have HFA := hidden (HFQ.out.then ((Below.refl w.heap.size _).alloc hzq (.cells #[.int .i64 x] 2)))
                have hlen : (ys ++ List.replicate i x).length ≤ 256 := by simp; omega
                go_wp2_with (first | (at_builtin; refine wpList_append_i rfl _ _ rfl w.heap.size _ _ x (ys ++ List.replicate i x) rfl HOA.out rfl (cell_new _ _ _) ?c2 ?c3 ?_))
                case c2 => omega
                case c3 => first | omega | (rw [World.size_alloc]; omega)
                intro v7 w7 o7 b7
                have o7' : OwnI w7 w.heap.size v7 (ys ++ List.replicate (i + 1) x) := by rw [List.replicate_succ', ← List.append_assoc]; simpa using o7
                have HO7 := hidden o7'
                have HS7 := hidden (HSA.out.kept b7 hlt)
                have HF7 := hidden (HFA.out.then b7)
                clear o7 o7' b7
                go_wp2_with fail
                go_roundw
                case rel => exact ⟨i + 1, by omega, by go_num, HO7.out, HS7.out, HF7.out⟩
                case measure => simp [intOf]; omega
              · obtain rfl : i = k := by omega
                have hsum : n - (ys ++ List.replicate i x).length = n - ys.length - i := by simp; omega
                have HNEW : Hid (Goes D (bindR (rd2 fu' (n - (ys ++ List.replicate i x).length)) (fun l => G ((ys ++ List.replicate i x) ++ l))) b6 0) := hidden (by rw [hsum]; exact HGG.out)
                have HFU2 : Hid (n - (ys ++ List.replicate i x).length ≤ fu') := hidden (by rw [hsum]; omega)
                have HME : Hid (2 * (n - (ys ++ List.replicate i x).length) + calm p wr < 2 * (n - ys.length) + 1) := hidden (by
                  rw [hsum]
                  have := calm_le p wr
                  omega)
                have HISN : Hid (Is (ys ++ List.replicate i x)) := fun y hy => by
                  rcases List.mem_append.1 hy with hy | hy
                  · exact HYS.out y hy
                  · rw [List.eq_of_mem_replicate hy]
                    exact HX.out
                have HLE : Hid ((ys ++ List.replicate i x).length ≤ n) := hidden (by simp; omega)
                clear hsum
                go_wp2_with fail
                go_roundw
                case rel => exact ⟨fu', _, _, _, HLE.out, HISN.out, HOQ.out, HSQ.out, fun _ => HFU2.out, HNEW.out, HFQ.out⟩
                case measure =>
                  have h1 := HME.out
                  have h2 := HC1.out
                  simp only [lenOf]
                  rw [h2]
                  exact h1
        · have hff6 : ((f6 : Int) == 0) = false := by simpa using hf6
          have hne6 : f6 ≠ 0 := fun e => hf6 (by simp [e])
          have HGB := hidden (HGK.out.any (K' := bindR (rd2 0 (n - ys.length)) (fun l => G (ys ++ l))) hne6)
          have HNE := hidden hne6
          have H6c := hidden (calm_not HS6.out hne6)
          clear hf6 hne6
          by_cases hk0 : ((k : Int) == 0) = true
          · obtain rfl : k = 0 := by simpa using hk0
            go_wp2_with fail
            refine wp_loop_rounds 1 ?_
            rw [rounds_succ]
            go_wp2_with fail
            go_roundw
            case rel => exact ⟨0, ys, b6, f6, hk, HYS.out, HO6.out, HS6.out, fun e => absurd e HNE.out, HGB.out, HFR6.out⟩
            case measure =>
              have h1 := H6c.out
              have h2 := HC1.out
              simp only [lenOf]
              rw [h1, h2]
              omega
          · have hkpos : (0 : Int) < (k : Int) := by
              have : k ≠ 0 := by simpa using hk0
              omega
            clear hk0
            go_wp2_with fail
            refine wp_loop_rounds 1 ?_
            rw [rounds_succ]
            go_wp2_with fail
            go_roundw
            case rel => exact ⟨0, ys, b6, f6, hk, HYS.out, HO6.out, HS6.out, fun e => absurd e HNE.out, HGB.out, HFR6.out⟩
            case measure =>
              have h1 := H6c.out
              have h2 := HC1.out
              simp only [lenOf]
              rw [h1, h2]
              omega
      · have hff : ((f' : Int) == 0) = false := by simpa using hf0
        have hne : f' ≠ 0 := fun e => hf0 (by simp [e])
        have HGE := hidden (HGO.out.any (K' := G ys) hne)
        clear hf0 hne
        go_wp2_with fail
        go_ret
        exact ⟨ys, b', f', ⟨_, rfl, HO.out⟩, HYS.out, hk, HST.out.sn, HGE.out, HFR.out⟩
    · have hgo2 := HGO.out
      rw [show n - ys.length = 0 by omega, rd2_end] at hgo2
      have HGE := hidden hgo2
      clear hgo2
      go_wp2_with fail
      go_ret
      exact ⟨ys, b', f', ⟨_, rfl, HO.out⟩, HYS.out, hk, HST.out.sn, HGE.out, HFR.out⟩

set_option maxRecDepth 100000 in
set_option maxHeartbeats 8000000 in
theorem refList_4 {D : Except Nat (List Int × List Nat)} {G : List Int → List Nat → Except Nat (List Int × List Nat)} {w : World} {p n f : Nat} {b : List Nat} (h : St 98 w p b f) (hn : n ≤ 256) (hg : Goes D (bindR (rd4 n) G) b f) :
    Calls Tryz.prog 60 #[.pointer (some ⟨p, 0, none⟩), .int .i64 4, .int .i64 (n : Int)] w (RPost D G p n w) := by
  have HS := hidden h
  have hlt := h.lt
  by_cases hn0 : n = 0
  · subst hn0
    rw [rd4_none] at hg
    have HG := hidden hg
    clear h hg
    go_enter Tryz.func60, Tryz.ntmps60
    go_wp2_with fail
    go_ret
    exact ⟨[], b, f, ⟨_, rfl, OwnI.nil _ _⟩, fun x hx => by simp at hx, by simp, HS.out.sn, HG.out, Fr.refl _ _ _⟩
  · have hn1 : ((n : Int) == 0) = false := beq_eq_false_iff_ne.2 (by omega)
    rw [rd4_num n hn0] at hg
    have HG := hidden hg
    clear h hg hn0
    go_enter Tryz.func60, Tryz.ntmps60
    go_wp2_with fail
    refine (refWhole_any HS.out).mono ?_
    rintro e w1 ⟨x, b1, f1, rfl, hx, hs1, hgx, hf1⟩
    have HX := hidden hx
    have HGX := hidden (hgx _ _ HG.out)
    have HS1 := hidden hs1
    have HF1 := hidden hf1
    have hz1 := hf1.size
    clear hx hs1 hgx hf1
    go_wp2_with fail
    refine (refNum_any HS1.out).mono ?_
    rintro e w2 ⟨ww, b2, f2, rfl, hw2, hs2, hgw, hf2⟩
    have HGW := hidden (hgw _ _ HGX.out)
    have HS2 := hidden hs2
    have HF2 := hidden (HF1.out.trans (hf2.mono hz1))
    have hz2 := HF2.out.size
    obtain ⟨g, off, cap, c0, c1, c2, c3, c4, c5, c6, c7, c8, c9⟩ := hs2.cells
    have H40 := hidden (c8 40)
    clear hs2 hgw hf2 c0 c2 c4 c5 c6 c7 c8 c9 HGX
    by_cases hf0 : ((f2 : Int) == 0) = true
    · have hf0' : f2 = 0 := by simpa using hf0
      subst hf0'
      by_cases hbig : (ww : Int) > 64
      · have HGB := hidden (HGW.out.bad (K := G []) (by omega))
        have HF3 := hidden (HF2.out.set 1 (.int .i64 40))
        have HPF := hidden (fun v1 v2 => refPacked_fault H40.out (by omega) v1 v2)
        go_wp2_with fail
        refine (HPF.out _ _).mono ?_
        rintro e w4 ⟨rfl, rfl⟩
        go_wp2_with fail
        refine wp_loop_rounds 1 ?_
        rw [rounds_succ]
        go_wp2_with fail
        go_ret
        exact ⟨[], b2, 40, ⟨_, rfl, OwnI.nil _ _⟩, fun x hx => by simp at hx, by simp, H40.out.sn, HGB.out, HF3.out⟩
      · have hw64 : ww ≤ 64 := by omega
        have HGG := hidden (HGW.out.good (by omega))
        go_wp2_with fail
        refine (refPacked_any HS2.out n ww hn (fun _ => hw64) (by omega)).mono ?_
        rintro e w4 ⟨P, b3, f3, ⟨v4, rfl, ho4⟩, hPx, hPl, hPn, hs4, hgp, hf4⟩
        have HGP := hidden (hgp _ _ HGG.out)
        have HP4 := hidden ho4
        have HPX := hidden hPx
        have HS4 := hidden hs4
        have HF4 := hidden (HF2.out.trans (hf4.mono hz2))
        have hz4 := HF4.out.size
        have hlt4 := hs4.lt
        obtain ⟨a4, c4, rfl⟩ := ho4.len
        clear ho4 hPx hs4 hgp hf4 hPn c1
        go_wp2_with fail
        go_loopw [7, 24] (fun v i wr => ∃ k : Nat, k ≤ P.length ∧ i = .int .i64 (k : Int) ∧ OwnI wr w4.heap.size v ((P.take k).map fun (q : Nat) => w64 (x + (q : Int))) ∧ Below w4.heap.size w4 wr) (fun _ i _ => P.length - (intOf i).toNat)
        case atStart => exact ⟨0, by omega, rfl, OwnI.nil _ _, Below.refl _ _⟩
        case round =>
          obtain ⟨k, hk, rfl, how, hbel⟩ := hrel
          have HO := hidden how
          have HB := hidden hbel
          have hzr := hbel.size
          obtain ⟨av, cv, rfl⟩ := how.len
          clear how hbel
          by_cases hlk : k < P.length
          · have hlk3 : (k : Int) < (P.length : Int) := by omega
            obtain ⟨bp, op, hbp, hbp2, hckp⟩ := (HP4.out.kept HB.out).sv.atU hlk
            cases hbp
            have hqx := HPX.out P[k] (List.getElem_mem hlk)
            have HTK := hidden (List.take_succ_eq_append_getElem hlk)
            have hyl : ((P.take k).map fun (q : Nat) => w64 (x + (q : Int))).length ≤ 256 := by rw [List.length_map, List.length_take]; omega
            generalize P[k] = q at *
            obtain ⟨X, hX⟩ : ∃ X, IntKind.u64.wrap x = X := ⟨_, rfl⟩
            obtain ⟨Y, hY⟩ : ∃ Y, IntKind.u64.wrap (X + (q : Int)) = Y := ⟨_, rfl⟩
            obtain ⟨z, hz⟩ : ∃ z, w64 (x + (q : Int)) = z := ⟨_, rfl⟩
            have hyz : IntKind.i64.wrap Y = z := by
              rw [← hY, ← hX, ← hz, ← wrap_w64, IntKind.wrap_i64, IntKind.wrap_i64, IntKind.wrap_u64, IntKind.wrap_u64]
              omega
            have HZ := hidden hz
            obtain ⟨ys, hys⟩ : ∃ ys, ((P.take k).map fun (q : Nat) => w64 (x + (q : Int))) = ys := ⟨_, rfl⟩
            rw [hys] at HO hyl ⊢
            have HYS := hidden hys
            clear hys hz
            have HOA := hidden (HO.out.kept (below_alloc' wr (.cells #[.int .i64 z] 2)))
            have HBA := hidden (HB.out.alloc hzr (.cells #[.int .i64 z] 2))
            go_wp2_with (first | (at_builtin; refine wpList_append_i rfl _ _ rfl w4.heap.size _ _ z ys rfl HOA.out rfl (cell_new _ _ _) ?c2 ?c3 ?_))
            case c2 => omega
            case c3 => first | omega | (rw [World.size_alloc]; omega)
            intro v7 w7 o7 b7
            have HO7 := hidden o7
            have HB7 := hidden (HBA.out.trans b7)
            clear o7 b7
            go_wp2_with fail
            go_roundw
            case rel =>
              refine ⟨k + 1, by omega, by go_num, ?_, HB7.out⟩
              rw [HTK.out, List.map_append, HYS.out, List.map_singleton, HZ.out]
              exact HO7.out
            case measure => simp [intOf]; omega
          · obtain rfl : k = P.length := by omega
            have hlk3 : ¬ (P.length : Int) < (P.length : Int) := by omega
            rw [List.take_length] at HO
            have HFE := hidden (HF4.out.then (HB.out.mono (by omega)))
            have hoe := HO.out.low (show w.heap.size ≤ w4.heap.size by omega)
            rw [List.length_map] at hoe
            have HOE := hidden hoe
            clear hoe
            have HISE : Hid (Is (P.map fun (q : Nat) => w64 (x + (q : Int)))) := hidden (fun y hy => by
              obtain ⟨q, hq, rfl⟩ := List.mem_map.1 hy
              exact w64_i64 _)
            have HLE : Hid ((P.map fun (q : Nat) => w64 (x + (q : Int))).length ≤ n) := hidden (by rw [List.length_map]; exact hPl)
            go_wp2_with fail
            go_ret
            exact ⟨_, _, _, ⟨_, rfl, HOE.out⟩, HISE.out, HLE.out, HS4.out.kept HB.out hlt4, HGP.out, HFE.out⟩
    · have hff : ((f2 : Int) == 0) = false := by simpa using hf0
      have hne : f2 ≠ 0 := fun e => hf0 (by simp [e])
      have HGB := hidden (HGW.out.any (K' := G []) hne)
      have HPF := hidden (fun v1 v2 => refPacked_fault HS2.out hne v1 v2)
      clear hf0 hne
      go_wp2_with fail
      refine (HPF.out _ _).mono ?_
      rintro e w4 ⟨rfl, rfl⟩
      go_wp2_with fail
      refine wp_loop_rounds 1 ?_
      rw [rounds_succ]
      go_wp2_with fail
      go_ret
      exact ⟨[], b2, f2, ⟨_, rfl, OwnI.nil _ _⟩, fun x hx => by simp at hx, by simp, HS2.out.sn, HGB.out, HF2.out⟩
end Go.Proofs.YtcmmednihoaekaaGreat
