/- Contracts: Fit. -/
import Derived.Test.YtkohejjkpofmgaaFit
set_option linter.unusedVariables false
set_option linter.unusedSimpArgs false
namespace Go.Proofs.Ytkohejjkpofmgaa
open Go.RowKit Go.Lib

set_option maxRecDepth 100000 in
set_option maxHeartbeats 4000000 in
theorem fit_any {w : World} {v rv : Value} {l : List Fd} {r : List Cl} (hs : Sf w v l) (hr : Sv w rv (vvals r)) (hf : ∀ c ∈ r, Fine c) (si : Nat) : Calls Try.prog 18 #[.agg #[.int .u32 (si : Int), v], rv] w fun e w' => e = .returned (.int .i64 (fitM l r : Int)) ∧ Below w.heap.size w w' := by
  obtain ⟨a, cap, rfl, hcap, hcm⟩ := hs.form
  obtain ⟨ra, rcap, rfl, hrcap, hrcm⟩ := hr.form1
  rw [vvals_length] at *
  have hrcm' : rcap ≤ 9223372036854775807 := by unfold maxLen at hrcm; omega
  have hb0 := below_one w (.cells #[.int .u32 (si : Int), .slice a l.length cap] 25)
  have HB0 := hidden hb0
  have HS := hidden (hs.kept hb0)
  have HR := hidden (hr.kept hb0)
  have HFI := hidden hf
  obtain ⟨c0, c1⟩ := cell_new2 w (.int .u32 (si : Int)) (.slice a l.length cap) 25
  have hz : w.heap.size < (w.alloc (.cells #[.int .u32 (si : Int), .slice a l.length cap] 25)).heap.size := by rw [World.size_alloc]; omega
  clear hs hr hf hb0 hrcm
  generalize hW : w.alloc (.cells #[.int .u32 (si : Int), .slice a l.length cap] 25) = W at *
  by_cases hne : r.length ≠ l.length
  · have HM : Hid (fitM l r = 1) := hidden (if_pos hne)
    have hne' : ((r.length : Int) != (l.length : Int)) = true := by simp only [bne_iff_ne]; omega
    clear hne
    go_enter Try.func18, Try.ntmps18
    go_wp2_with fail
    go_ret
    rw [HM.out]
    refine ⟨rfl, ?_⟩
    first | exact HB0.out | (rw [hW]; exact HB0.out)
  · have hrl : r.length = l.length := by omega
    have HM : Hid (fitM l r = fitF (l.drop 0) (r.drop 0)) := hidden (if_neg hne)
    have HRL := hidden hrl
    rw [hrl] at hrcap HR ⊢
    generalize fitM l r = R at *
    clear hne hrl
    go_enter Try.func18, Try.ntmps18
    go_wp2_with fail
    try rw [hW]
    clear hW
    go_loopw [17] (fun i wr => ∃ k : Nat, k ≤ l.length ∧ i = .int .i64 (k : Int) ∧ R = fitF (l.drop k) (r.drop k) ∧ Below W.heap.size W wr) (fun i _ => l.length - (intOf i).toNat)
    case atStart => exact ⟨0, by omega, rfl, HM.out, Below.refl _ _⟩
    case round =>
      obtain ⟨k, hk, rfl, hfe, hbel⟩ := hrel
      have HF := hidden hfe
      have HB := hidden hbel
      have hzr := hbel.size
      clear hfe hbel HM
      by_cases hlt : k < l.length
      · obtain ⟨b, off, rfl, hb, x0, x1, x2, x3⟩ := (HS.out.kept HB.out).at hlt
        have hltr : k < r.length := by have := HRL.out; omega
        obtain ⟨rb, roff, rfl, hrb, hrc⟩ := (HR.out.kept HB.out).at1 (vvals_get hltr)
        have HT := hidden (HF.out.trans (fitF_step hlt hltr))
        have hlt' : (k : Int) < (l.length : Int) := by omega
        have hknn : (0 : Int) ≤ (k : Int) := by omega
        have HMF := hidden (misfit_any l[k] (HFI.out r[k] (List.getElem_mem hltr)))
        generalize misM l[k] r[k] = Q at *
        generalize hvr : valC r[k] = vr at *
        have hvf : vr = .nilIface ∨ ∃ t u, vr = .iface t u := by
          rw [← hvr]
          by_cases h0 : r[k].1 = 0
          · exact Or.inl (valC_null _ h0)
          · exact Or.inr (valC_form _ h0)
        clear hvr
        generalize l[k] = f at *
        obtain ⟨f0, f1, f2, f3⟩ := f
        unfold aggF at HMF
        simp only at *
        have hbn := below_one wr (.cells #[.int .u32 (f0 : Int), .string f1, .int .u8 (f2 : Int), .bool f3] 67)
        have hrc' := (hbn.cell (p := ⟨rb, roff + k, none⟩) hrb).trans hrc
        obtain ⟨g0, g1, g2, g3⟩ := cell_new4 wr (.int .u32 (f0 : Int)) (.string f1) (.int .u8 (f2 : Int)) (.bool f3) 67
        have HB2 := hidden (HB.out.trans (hbn.mono hzr))
        have hsz : (wr.alloc (.cells #[.int .u32 (f0 : Int), .string f1, .int .u8 (f2 : Int), .bool f3] 67)).heap.size = wr.heap.size + 1 := World.size_alloc _ _
        clear hbn
        rcases hvf with rfl | ⟨vt, vu, rfl⟩
        all_goals
          go_wp2_with fail
          generalize hV : wr.alloc (.cells #[.int .u32 (f0 : Int), .string f1, .int .u8 (f2 : Int), .bool f3] 67) = V at *
          clear hV x0 x1 x2 x3 hrc
          have HKEEP : Hid (∀ U W', Below V.heap.size V U → Below U.heap.size U W' → Below W.heap.size W W') := hidden (fun U W' h1 h2 => below_then HB2.out (below_then h1 h2))
          go_region_with (first | (go_at_call 40; refine (HMF.out _).mono ?_; rintro e w2 ⟨rfl, hb2⟩))
          all_goals
            have HBB := hidden (HKEEP.out _ _ (by first | exact (Below.refl _ _).drew | exact below_drewN (Below.refl _ _) _ | exact Below.refl _ _) hb2)
            clear hb2 hrc' g0 g1 g2 g3 c0 c1
            by_cases hQ : Q = 0
            · rw [if_pos hQ] at HT
              subst hQ
              go_wp2_with fail
              go_roundw
              case rel => exact ⟨k + 1, by omega, by go_num, HT.out, HBB.out⟩
              case measure => simp [intOf]; omega
            · rw [if_neg hQ] at HT
              have hQ' : ((Q : Int) != 0) = true := by simp [hQ]
              clear hQ
              go_wp2_with fail
              go_ret
              rw [HT.out]
              exact ⟨rfl, below_then HB0.out HBB.out⟩
      · obtain rfl : k = l.length := by omega
        have hge : ¬ ((l.length : Nat) : Int) < (l.length : Int) := by omega
        have HT := hidden (HF.out.trans (fitF_end l _))
        clear HF
        go_wp2_with fail
        go_ret
        rw [HT.out]
        exact ⟨rfl, below_then HB0.out HB.out⟩
end Go.Proofs.Ytkohejjkpofmgaa
