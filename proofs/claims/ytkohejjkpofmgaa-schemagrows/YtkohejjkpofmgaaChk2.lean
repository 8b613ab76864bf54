/- Contracts: Check. -/
import Derived.Test.YtkohejjkpofmgaaChk
set_option linter.unusedVariables false
set_option linter.unusedSimpArgs false
namespace Go.Proofs.Ytkohejjkpofmgaa
open Go.RowKit Go.Lib

set_option maxRecDepth 100000 in
set_option maxHeartbeats 4000000 in
theorem check_sch {w : World} {v : Value} {l : List Fd} (hs : Sf w v l) (id : Nat) : Calls Try.prog 13 #[.agg #[.int .u32 (id : Int), v]] w fun e w' => e = .returned (.int .i64 (chk id l : Int)) ∧ Below w.heap.size w w' := by
  obtain ⟨a, cap, rfl, hcap, hcm⟩ := hs.form
  have HB0 := hidden (below_one w (.cells #[.int .u32 (id : Int), .slice a l.length cap] 25))
  have HS := hidden (hs.kept (below_one w (.cells #[.int .u32 (id : Int), .slice a l.length cap] 25)))
  obtain ⟨c0, c1⟩ := cell_new2 w (.int .u32 (id : Int)) (.slice a l.length cap) 25
  have hz : w.heap.size < (w.alloc (.cells #[.int .u32 (id : Int), .slice a l.length cap] 25)).heap.size := by rw [World.size_alloc]; omega
  clear hs
  by_cases h1 : id = 0 ∨ l.length = 0 ∨ 8 < l.length
  · have HR : Hid (chk id l = 1) := hidden (if_pos h1)
    clear c0 c1 hz HS
    by_cases q1 : id = 0
    · subst q1
      go_enter Try.func13, Try.ntmps13
      go_wp2_with fail
      go_ret
      rw [HR.out]
      exact ⟨rfl, HB0.out⟩
    · have q1' : ((id : Int) == 0) = false := by simp [q1]
      by_cases q2 : l.length = 0
      · have q2' : ((l.length : Int) == 0) = true := by simp [q2]
        clear h1 q1 q2
        go_enter Try.func13, Try.ntmps13
        go_wp2_with fail
        go_ret
        rw [HR.out]
        exact ⟨rfl, HB0.out⟩
      · have q2' : ((l.length : Int) == 0) = false := by simp [q2]
        have q3 : (l.length : Int) > 8 := by omega
        clear h1 q1 q2
        go_enter Try.func13, Try.ntmps13
        go_wp2_with fail
        go_ret
        rw [HR.out]
        exact ⟨rfl, HB0.out⟩
  · have HR : Hid (chk id l = fe (l.take 0) (l.drop 0)) := hidden (if_neg h1)
    have q1' : ((id : Int) == 0) = false := beq_eq_false_iff_ne.2 (by omega)
    have q2' : ((l.length : Int) == 0) = false := beq_eq_false_iff_ne.2 (by omega)
    have q3 : ¬ (l.length : Int) > 8 := by omega
    have hl8 : l.length ≤ 8 := by omega
    clear h1
    generalize hW : w.alloc (.cells #[.int .u32 (id : Int), .slice a l.length cap] 25) = W at *
    go_enter Try.func13, Try.ntmps13
    go_wp2_with fail
    try rw [hW]
    clear hW
    go_loopw [24] (fun i wr => ∃ k : Nat, k ≤ l.length ∧ i = .int .i64 (k : Int) ∧ chk id l = fe (l.take k) (l.drop k) ∧ Below W.heap.size W wr) (fun i _ => l.length - (intOf i).toNat)
    case atStart => exact ⟨0, by omega, rfl, HR.out, Below.refl _ _⟩
    case round =>
      obtain ⟨k, hk, rfl, hfe, hbel⟩ := hrel
      have HF := hidden hfe
      have HB := hidden hbel
      have hzr := hbel.size
      clear hfe hbel HR
      by_cases hlt : k < l.length
      · obtain ⟨b, off, rfl, hb, x0, x1, x2, x3⟩ := (HS.out.kept HB.out).at hlt
        have HT := hidden (HF.out.trans (fe_step hlt))
        have hlt' : (k : Int) < (l.length : Int) := by omega
        have hkc : (k : Int) ≤ (cap : Int) := by omega
        have hknn : (0 : Int) ≤ (k : Int) := by omega
        have hktn : ((k : Int)).toNat = k := by omega
        have hdcap : ¬ cap = 0 := by omega
        have HST := hidden (HS.out.take (k := k) (by omega))
        generalize l[k] = f at *
        obtain ⟨f0, f1, f2, f3⟩ := f
        simp only at *
        have d1 := (HB.out.cell (p := ⟨w.heap.size, 1, none⟩) hz).trans c1
        have hbn := below_one wr (.cells #[.int .u32 (f0 : Int), .string f1, .int .u8 (f2 : Int), .bool f3] 67)
        have e1 := (hbn.cell (p := ⟨w.heap.size, 1, none⟩) (Nat.lt_of_lt_of_le hz hzr)).trans d1
        obtain ⟨g0, g1, g2, g3⟩ := cell_new4 wr (.int .u32 (f0 : Int)) (.string f1) (.int .u8 (f2 : Int)) (.bool f3) 67
        have HB2 := hidden (HB.out.trans (hbn.mono hzr))
        have HFA := hidden (fun m => fault_any (sf_drewN ((HST.out.kept HB.out).kept hbn) m) (f0, f1, f2, f3))
        unfold aggF at HFA
        simp only at HFA
        generalize faultM (l.take k) (f0, f1, f2, f3) = R at *
        have hsz : (wr.alloc (.cells #[.int .u32 (f0 : Int), .string f1, .int .u8 (f2 : Int), .bool f3] 67)).heap.size = wr.heap.size + 1 := World.size_alloc _ _
        clear hbn
        go_wp2_with fail
        generalize hV : wr.alloc (.cells #[.int .u32 (f0 : Int), .string f1, .int .u8 (f2 : Int), .bool f3] 67) = V at *
        clear hV x0 x1 x2 x3
        have HKEEP : Hid (∀ n W', Below V.heap.size (V.drewN n) W' → (W'.cell? ⟨w.heap.size, 1, none⟩ = some (.slice (some ⟨b, off, none⟩) l.length cap) ∧ W'.cell? ⟨wr.heap.size, 0, none⟩ = some (.int .u32 (f0 : Int)) ∧ W'.cell? ⟨wr.heap.size, 1, none⟩ = some (.string f1) ∧ W'.cell? ⟨wr.heap.size, 2, none⟩ = some (.int .u8 (f2 : Int)) ∧ W'.cell? ⟨wr.heap.size, 3, none⟩ = some (.bool f3)) ∧ Below W.heap.size W W') := hidden (fun n W' h => by
          have hb' : Below V.heap.size V W' := (below_drewN (Below.refl _ _) n).trans h
          exact ⟨⟨(hb'.cell (p := ⟨w.heap.size, 1, none⟩) (show w.heap.size < _ by omega)).trans e1, (hb'.cell (p := ⟨wr.heap.size, 0, none⟩) (show wr.heap.size < _ by omega)).trans g0, (hb'.cell (p := ⟨wr.heap.size, 1, none⟩) (show wr.heap.size < _ by omega)).trans g1, (hb'.cell (p := ⟨wr.heap.size, 2, none⟩) (show wr.heap.size < _ by omega)).trans g2, (hb'.cell (p := ⟨wr.heap.size, 3, none⟩) (show wr.heap.size < _ by omega)).trans g3⟩, HB2.out.trans (hb'.mono HB2.out.size)⟩)
        go_region_held3 (fun w' => w'.cell? ⟨w.heap.size, 1, none⟩ = some (.slice (some ⟨b, off, none⟩) l.length cap) ∧ w'.cell? ⟨wr.heap.size, 0, none⟩ = some (.int .u32 (f0 : Int)) ∧ w'.cell? ⟨wr.heap.size, 1, none⟩ = some (.string f1) ∧ w'.cell? ⟨wr.heap.size, 2, none⟩ = some (.int .u8 (f2 : Int)) ∧ w'.cell? ⟨wr.heap.size, 3, none⟩ = some (.bool f3)) (first | assumption | go_keep) (first | (go_at_call 39; refine (HFA.out _).mono ?_; rintro e w2 ⟨rfl, hb2⟩; obtain ⟨hkk, hbb⟩ := HKEEP.out _ _ hb2; have HBB := hidden hbb; clear hbb hb2))
        clear hkk e1 g0 g1 g2 g3 d1 c0 c1
        by_cases hR : R = 0
        · rw [if_pos hR] at HT
          subst hR
          go_wp2_with fail
          go_roundw
          case rel => exact ⟨k + 1, by omega, by go_num, HT.out, HBB.out⟩
          case measure => simp [intOf]; omega
        · rw [if_neg hR] at HT
          have hR' : ((R : Int) != 0) = true := by simp [hR]
          clear hR
          go_wp2_with fail
          go_ret
          rw [HT.out]
          exact ⟨rfl, below_then HB0.out HBB.out⟩
      · obtain rfl : k = l.length := by omega
        have hge : ¬ ((l.length : Nat) : Int) < (l.length : Int) := by omega
        have HT := hidden (HF.out.trans (fe_end l))
        clear HF
        go_wp2_with fail
        go_ret
        rw [HT.out]
        exact ⟨rfl, below_then HB0.out HB.out⟩
end Go.Proofs.Ytkohejjkpofmgaa
