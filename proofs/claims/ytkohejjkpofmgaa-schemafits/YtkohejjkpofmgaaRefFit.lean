/- Contracts: the document's Fit. -/
import Derived.Test.YtkohejjkpofmgaaFit
set_option linter.unusedVariables false
set_option linter.unusedSimpArgs false
namespace Go.Proofs.Ytkohejjkpofmgaa
open Go.RowKit Go.Lib

set_option maxRecDepth 100000 in
set_option maxHeartbeats 4000000 in
theorem refFit_any {w : World} {v rv : Value} {l : List Fd} {r : List Cl} (hs : Sf w v l) (hr : Sc w rv r) (si : Nat) : Calls Try.prog 20 #[.agg #[.int .u32 (si : Int), v], rv] w fun e w' => e = .returned (.int .i64 (fitM l r : Int)) ∧ Below w.heap.size w w' := by
  obtain ⟨a, cap, rfl, hcap, hcm⟩ := hs.form
  obtain ⟨ra, rcap, rfl, hrcap, hrcm⟩ := hr.form
  have hrcm' : rcap ≤ 9223372036854775807 := by unfold maxLen at hrcm; omega
  have hb0 := below_one w (.cells #[.int .u32 (si : Int), .slice a l.length cap] 25)
  have HB0 := hidden hb0
  have HS := hidden (hs.kept hb0)
  have HR := hidden (hr.kept hb0)
  obtain ⟨c0, c1⟩ := cell_new2 w (.int .u32 (si : Int)) (.slice a l.length cap) 25
  have hz : w.heap.size < (w.alloc (.cells #[.int .u32 (si : Int), .slice a l.length cap] 25)).heap.size := by rw [World.size_alloc]; omega
  clear hs hr hb0 hrcm
  generalize hW : w.alloc (.cells #[.int .u32 (si : Int), .slice a l.length cap] 25) = W at *
  by_cases hne : r.length ≠ l.length
  · have HM : Hid (fitM l r = 1) := hidden (if_pos hne)
    have hne' : ((r.length : Int) != (l.length : Int)) = true := by simp only [bne_iff_ne]; omega
    clear hne
    go_enter Try.func20, Try.ntmps20
    go_wp2_with fail
    go_ret
    rw [HM.out]
    refine ⟨rfl, ?_⟩
    first | exact HB0.out | (rw [hW]; exact HB0.out)
  · have hrl : r.length = l.length := by omega
    have HM : Hid (fitM l r = fitF (l.drop 0) (r.drop 0)) := hidden (if_neg hne)
    have HRL := hidden hrl
    rw [hrl] at hrcap HR ⊢
    generalize fitM l r = R at *
    clear hne hrl
    go_enter Try.func20, Try.ntmps20
    go_wp2_with fail
    try rw [hW]
    clear hW
    go_loopw [5] (fun i wr => ∃ k : Nat, k ≤ l.length ∧ i = .int .i64 (k : Int) ∧ R = fitF (l.drop k) (r.drop k) ∧ Below W.heap.size W wr) (fun i _ => l.length - (intOf i).toNat)
    case atStart => exact ⟨0, by omega, rfl, HM.out, Below.refl _ _⟩
    case round =>
      obtain ⟨k, hk, rfl, hfe, hbel⟩ := hrel
      have HF := hidden hfe
      have HB := hidden hbel
      have hzr := hbel.size
      have d1 := (hbel.cell (p := ⟨w.heap.size, 1, none⟩) hz).trans c1
      clear hfe hbel HM
      by_cases hlt : k < l.length
      · obtain ⟨b, off, rfl, hb, x0, x1, x2, x3⟩ := (HS.out.kept HB.out).at hlt
        have hltr : k < r.length := by have := HRL.out; omega
        obtain ⟨rb, roff, rfl, hrb, y0, y1, y2⟩ := (HR.out.kept HB.out).at hltr
        have HT := hidden (HF.out.trans (fitF_step hlt hltr))
        have hlt' : (k : Int) < (l.length : Int) := by omega
        have hknn : (0 : Int) ≤ (k : Int) := by omega
        have HQ : Hid (misM l[k] r[k] = if r[k].1 = 0 then (if l[k].2.2.2 = true then 82 else 0) else if r[k].1 ≠ l[k].2.2.1 then 10 else if 64 < r[k].2.2.length then 5 else 0) := hidden rfl
        generalize misM l[k] r[k] = Q at *
        rw [txt_eq] at y2
        have hS := bytesT_size r[k].2.2
        generalize bytesT r[k].2.2 = S at *
        generalize r[k].2.2.length = cl at *
        generalize r[k].2.1 = cn at *
        generalize r[k].1 = ck at *
        generalize l[k].2.2.1 = f2 at *
        generalize l[k].2.2.2 = f3 at *
        have hbn := below_one wr (.cells #[.int .u8 (ck : Int), .int .i64 cn, .string S] 78)
        have HB2 := hidden (HB.out.trans (hbn.mono hzr))
        have e1 := (hbn.cell (p := ⟨w.heap.size, 1, none⟩) (show w.heap.size < _ by omega)).trans d1
        have e2 := (hbn.cell (p := ⟨b, off + k * 4 + 2, none⟩) hb).trans x2
        have e3 := (hbn.cell (p := ⟨b, off + k * 4 + 3, none⟩) hb).trans x3
        have hww : w.heap.size < wr.heap.size := by omega
        clear hbn
        by_cases q0 : ck = 0
        · have q0' : ((ck : Int) == 0) = true := by rw [q0]; rfl
          rw [if_pos q0] at HQ
          clear q0
          cases f3
          · rw [if_neg (by simp)] at HQ
            rw [if_pos HQ.out] at HT
            go_wp2_with fail
            go_roundw
            case rel => exact ⟨k + 1, by omega, by go_num, HT.out, HB2.out⟩
            case measure => simp [intOf]; omega
          · rw [if_pos rfl] at HQ
            rw [HQ.out, if_neg (by omega)] at HT
            go_wp2_with fail
            go_ret
            rw [HT.out]
            exact ⟨rfl, below_then HB0.out HB2.out⟩
        · have q0' : ((ck : Int) == 0) = false := beq_eq_false_iff_ne.2 (by omega)
          rw [if_neg q0] at HQ
          clear q0
          by_cases q1 : ck = f2
          · rw [if_neg (by simpa using q1)] at HQ
            have q1' : ((ck : Int) != (f2 : Int)) = false := by simp [q1]
            clear q1
            by_cases q2 : 64 < cl
            · have q2' : (S.size : Int) > 64 := by omega
              rw [if_pos q2] at HQ
              rw [HQ.out, if_neg (by omega)] at HT
              clear q2
              go_wp2_with fail
              go_quiet (fail)
              go_wp2_with fail
              go_ret
              rw [HT.out]
              exact ⟨rfl, below_drewN (below_then HB0.out HB2.out) _⟩
            · have q2' : ¬ (S.size : Int) > 64 := by omega
              rw [if_neg q2] at HQ
              rw [if_pos HQ.out] at HT
              clear q2
              go_wp2_with fail
              go_quiet (fail)
              go_wp2_with fail
              go_roundw
              case rel => exact ⟨k + 1, by omega, by go_num, HT.out, below_drewN HB2.out _⟩
              case measure => simp [intOf]; omega
          · rw [if_pos q1] at HQ
            have q1' : ((ck : Int) != (f2 : Int)) = true := by simp only [bne_iff_ne]; omega
            rw [HQ.out, if_neg (by omega)] at HT
            clear q1
            go_wp2_with fail
            go_quiet (fail)
            go_wp2_with fail
            go_ret
            rw [HT.out]
            exact ⟨rfl, below_drewN (below_then HB0.out HB2.out) _⟩
      · obtain rfl : k = l.length := by omega
        have hge : ¬ ((l.length : Nat) : Int) < (l.length : Int) := by omega
        have HT := hidden (HF.out.trans (fitF_end l _))
        clear HF
        go_wp2_with fail
        go_ret
        rw [HT.out]
        exact ⟨rfl, below_then HB0.out HB.out⟩
end Go.Proofs.Ytkohejjkpofmgaa
