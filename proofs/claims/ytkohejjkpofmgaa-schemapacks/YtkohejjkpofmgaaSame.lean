/- Contracts: Same. -/
import Derived.Test.YtkohejjkpofmgaaChk
set_option linter.unusedVariables false
set_option linter.unusedSimpArgs false
namespace Go.Proofs.Ytkohejjkpofmgaa
open Go.RowKit Go.Lib

set_option maxRecDepth 100000 in
set_option maxHeartbeats 4000000 in
theorem sameSch_any {w : World} {v1 v2 : Value} {l m : List Fd} (h1 : Sf w v1 l) (h2 : Sf w v2 m) (i1 i2 : Nat) :
    Calls Try.prog 15 #[.agg #[.int .u32 (i1 : Int), v1], .agg #[.int .u32 (i2 : Int), v2]] w fun e w' => e = .returned (.bool (decide (i1 = i2 ∧ l = m))) ∧ Below w.heap.size w w' := by
  obtain ⟨a, cap, rfl, hcap, hcm⟩ := h1.form
  obtain ⟨a2, cap2, rfl, hcap2, hcm2⟩ := h2.form
  have hbW : Below w.heap.size w ((w.alloc (.cells #[.int .u32 (i1 : Int), .slice a l.length cap] 25)).alloc (.cells #[.int .u32 (i2 : Int), .slice a2 m.length cap2] 25)) := ((Below.refl _ _).alloc (Nat.le_refl _) _).alloc (by rw [World.size_alloc]; omega) _
  have HBW := hidden hbW
  have HS1 := hidden (h1.kept hbW)
  have HS2 := hidden (h2.kept hbW)
  obtain ⟨c0, c1⟩ := cell_new2 w (.int .u32 (i1 : Int)) (.slice a l.length cap) 25
  have hz0 : (w.alloc (.cells #[.int .u32 (i1 : Int), .slice a l.length cap] 25)).heap.size = w.heap.size + 1 := World.size_alloc _ _
  have hb1 := below_one (w.alloc (.cells #[.int .u32 (i1 : Int), .slice a l.length cap] 25)) (.cells #[.int .u32 (i2 : Int), .slice a2 m.length cap2] 25)
  have p0 := (hb1.cell (p := ⟨w.heap.size, 0, none⟩) (show w.heap.size < _ by omega)).trans c0
  have p1 := (hb1.cell (p := ⟨w.heap.size, 1, none⟩) (show w.heap.size < _ by omega)).trans c1
  obtain ⟨e0, e1⟩ := cell_new2 (w.alloc (.cells #[.int .u32 (i1 : Int), .slice a l.length cap] 25)) (.int .u32 (i2 : Int)) (.slice a2 m.length cap2) 25
  rw [hz0] at e0 e1
  have hzW0 : w.heap.size + 1 < ((w.alloc (.cells #[.int .u32 (i1 : Int), .slice a l.length cap] 25)).alloc (.cells #[.int .u32 (i2 : Int), .slice a2 m.length cap2] 25)).heap.size := by rw [World.size_alloc, World.size_alloc]; omega
  have HZW := hidden hzW0
  clear h1 h2 hb1 c0 c1 hbW hzW0
  generalize hW : (w.alloc (.cells #[.int .u32 (i1 : Int), .slice a l.length cap] 25)).alloc (.cells #[.int .u32 (i2 : Int), .slice a2 m.length cap2] 25) = W at *
  by_cases hi : i1 = i2
  · have hi' : ((i1 : Int) != (i2 : Int)) = false := by simp [hi]
    by_cases hlen : l.length = m.length
    · have hne : (((l.length : Nat) : Int) != (m.length : Int)) = false := by simp [hlen]
      have HLEN := hidden hlen
      have HDD : Hid (decide (i1 = i2 ∧ l = m) = decide (l = m)) := hidden (by simp [hi])
      generalize decide (i1 = i2 ∧ l = m) = DD at *
      clear hlen hi
      go_enter Try.func15, Try.ntmps15
      go_wp2_with fail
      try rw [hW]
      clear hW
      go_loopw [5] (fun i wr => ∃ j : Nat, j ≤ l.length ∧ i = .int .i64 (j : Int) ∧ l.take j = m.take j ∧ Below W.heap.size W wr) (fun i _ => l.length - (intOf i).toNat)
      case atStart => exact ⟨0, by omega, rfl, rfl, Below.refl _ _⟩
      case round =>
        obtain ⟨j, hj, rfl, hsame, hbel⟩ := hrel
        have HSM := hidden hsame
        have HB := hidden hbel
        have hzW : w.heap.size + 1 < W.heap.size := HZW.out
        have q1 := (hbel.cell (p := ⟨w.heap.size, 1, none⟩) (show w.heap.size < _ by omega)).trans p1
        have q2 := (hbel.cell (p := ⟨w.heap.size + 1, 1, none⟩) hzW).trans e1
        clear hsame hbel
        by_cases hlt : j < l.length
        · have hltm : j < m.length := by have := HLEN.out; omega
          obtain ⟨g, off, rfl, hg, c0, c1, c2, c3⟩ := (HS1.out.kept HB.out).at hlt
          obtain ⟨g2, off2, rfl, hg2, d0, d1, d2, d3⟩ := (HS2.out.kept HB.out).at hltm
          have hlt' : (j : Int) < (l.length : Int) := by omega
          have hltm' : (j : Int) < (m.length : Int) := by omega
          have hjn : (0 : Int) ≤ (j : Int) := by omega
          have HNX := hidden (fun he => take_succ_eq hlt hltm HSM.out he)
          have HNE : Hid (l[j] ≠ m[j] → decide (l = m) = false) := hidden (fun h => decide_eq_false (fun e => h (by subst e; rfl)))
          generalize l[j] = c at *
          generalize m[j] = d at *
          obtain ⟨ck, cn, cs, cb⟩ := c
          obtain ⟨dk, dn, ds, db⟩ := d
          simp only at *
          by_cases hk : ck = dk
          · subst hk
            by_cases hn : cn = dn
            · subst hn
              by_cases hs : cs = ds
              · subst hs
                by_cases hbb : cb = db
                · subst hbb
                  have HN' := hidden (HNX.out rfl)
                  clear HNX HNE
                  go_wp2_with fail
                  go_quiet (fail)
                  go_wp2_with fail
                  go_roundw
                  case rel => exact ⟨j + 1, by omega, by go_num, HN'.out, below_drewN HB.out _⟩
                  case measure => simp [intOf]; omega
                · have HNE' := hidden (HNE.out (fun e => hbb (by have := congrArg (fun t => t.2.2.2) e; simpa using this)))
                  have hnn : (cb == db) = false := by cases cb <;> cases db <;> simp_all
                  clear HNX HNE hbb
                  go_wp2_with fail
                  go_quiet (fail)
                  go_wp2_with fail
                  go_ret
                  rw [HDD.out, HNE'.out]
                  exact ⟨rfl, below_then HBW.out (below_drewN HB.out _)⟩
              · have HNE' := hidden (HNE.out (fun e => hs (by have := congrArg (fun t => t.2.2.1) e; simpa using this)))
                have hnn : ((cs : Int) == (ds : Int)) = false := beq_eq_false_iff_ne.2 (by omega)
                clear HNX HNE hs
                go_wp2_with fail
                go_quiet (fail)
                go_wp2_with fail
                go_ret
                rw [HDD.out, HNE'.out]
                exact ⟨rfl, below_then HBW.out (below_drewN HB.out _)⟩
            · have HNE' := hidden (HNE.out (fun e => hn (by have := congrArg (fun t => t.2.1) e; simpa using this)))
              have hnn : (cn.toList == dn.toList) = false := by rw [str_eq]; exact decide_eq_false hn
              clear HNX HNE hn
              go_wp2_with fail
              go_quiet (fail)
              go_wp2_with fail
              go_ret
              rw [HDD.out, HNE'.out]
              exact ⟨rfl, below_then HBW.out (below_drewN HB.out _)⟩
          · have HNE' := hidden (HNE.out (fun e => hk (by have := congrArg (fun t => t.1) e; simpa using this)))
            have hkk : ((ck : Int) == (dk : Int)) = false := beq_eq_false_iff_ne.2 (by omega)
            clear HNX HNE hk
            go_wp2_with fail
            go_quiet (fail)
            go_wp2_with fail
            go_ret
            rw [HDD.out, HNE'.out]
            exact ⟨rfl, below_then HBW.out (below_drewN HB.out _)⟩
        · obtain rfl : j = l.length := by omega
          have HEQ : Hid (decide (l = m) = true) := hidden (decide_eq_true (by
            have := HSM.out
            rw [List.take_length] at this
            rw [this, HLEN.out, List.take_length]))
          have hge : ¬ ((l.length : Nat) : Int) < (l.length : Int) := by omega
          go_wp2_with fail
          go_ret
          rw [HDD.out, HEQ.out]
          exact ⟨rfl, below_then HBW.out HB.out⟩
    · have hne : (((l.length : Nat) : Int) != (m.length : Int)) = true := by
        have : (l.length : Int) ≠ (m.length : Int) := by omega
        simpa using this
      have HEQ : Hid (decide (i1 = i2 ∧ l = m) = false) := hidden (decide_eq_false (fun e => hlen (by rw [e.2])))
      clear hlen hi
      go_enter Try.func15, Try.ntmps15
      go_wp2_with fail
      go_ret
      rw [HEQ.out]
      refine ⟨rfl, ?_⟩
      first | exact HBW.out | (rw [hW]; exact HBW.out)
  · have hi' : ((i1 : Int) != (i2 : Int)) = true := by
      have : (i1 : Int) ≠ (i2 : Int) := by omega
      simpa using this
    have HEQ : Hid (decide (i1 = i2 ∧ l = m) = false) := hidden (decide_eq_false (fun e => hi e.1))
    clear hi
    go_enter Try.func15, Try.ntmps15
    go_wp2_with fail
    go_ret
    rw [HEQ.out]
    refine ⟨rfl, ?_⟩
    first | exact HBW.out | (rw [hW]; exact HBW.out)
end Go.Proofs.Ytkohejjkpofmgaa
