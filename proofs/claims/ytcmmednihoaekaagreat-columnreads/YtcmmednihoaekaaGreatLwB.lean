/- Contracts of the law's own functions: SameRow, only. -/
import Derived.Test.YtcmmednihoaekaaGreatLwA
set_option linter.unusedVariables false
set_option linter.unusedSimpArgs false
namespace Go.Proofs.YtcmmednihoaekaaGreat
open Go.RowKit Go.Lib

theorem take_succ_eq {α : Type} {l m : List α} {j : Nat} (h1 : j < l.length) (h2 : j < m.length) (h : l.take j = m.take j) (he : l[j] = m[j]) : l.take (j + 1) = m.take (j + 1) := by
  rw [List.take_succ_eq_append_getElem h1, List.take_succ_eq_append_getElem h2, h, he]

set_option maxRecDepth 100000 in
set_option maxHeartbeats 2000000 in
theorem sameRow_any {w : World} {v1 v2 : Value} {l m : List (Nat × Int × List Nat)} (h1 : Sc w v1 l) (h2 : Sc w v2 m) (hb1 : ∀ c ∈ l, Bs c.2.2) (hb2 : ∀ c ∈ m, Bs c.2.2) :
    Calls Tryz.prog 16 #[v1, v2] w fun e w' => e = .returned (.bool (decide (l = m))) ∧ Below w.heap.size w w' := by
  have HS1 := hidden h1
  have HS2 := hidden h2
  have HB1 := hidden hb1
  have HB2 := hidden hb2
  obtain ⟨a, cap, rfl, hcap, hcm⟩ := h1.form
  obtain ⟨a2, cap2, rfl, hcap2, hcm2⟩ := h2.form
  have hcm' : cap ≤ 9223372036854775807 := by unfold maxLen at hcm; omega
  have hcm2' : cap2 ≤ 9223372036854775807 := by unfold maxLen at hcm2; omega
  clear h1 h2 hb1 hb2 hcm hcm2
  by_cases hlen : l.length = m.length
  · have hne : (((l.length : Nat) : Int) != (m.length : Int)) = false := by simp [hlen]
    have HLEN := hidden hlen
    clear hlen
    go_enter Tryz.func16, Tryz.ntmps16
    go_wp2_with fail
    go_loopw [5] (fun i wr => ∃ j : Nat, j ≤ l.length ∧ i = .int .i64 (j : Int) ∧ l.take j = m.take j ∧ Below w.heap.size w wr) (fun i _ => l.length - (intOf i).toNat)
    case atStart => exact ⟨0, by omega, rfl, rfl, Below.refl _ _⟩
    case round =>
      obtain ⟨j, hj, rfl, hsame, hbel⟩ := hrel
      have HSM := hidden hsame
      have HB := hidden hbel
      clear hsame hbel
      by_cases hlt : j < l.length
      · have hltm : j < m.length := by have := HLEN.out; omega
        obtain ⟨g, off, rfl, hg, c0, c1, c2⟩ := (HS1.out.kept HB.out).at hlt
        obtain ⟨g2, off2, rfl, hg2, d0, d1, d2⟩ := (HS2.out.kept HB.out).at hltm
        have hlt' : (j : Int) < (l.length : Int) := by omega
        have hltm' : (j : Int) < (m.length : Int) := by omega
        have HNX := hidden (fun he => take_succ_eq hlt hltm HSM.out he)
        have HNE : Hid (l[j] ≠ m[j] → decide (l = m) = false) := hidden (fun h => decide_eq_false (fun e => h (by subst e; rfl)))
        have HBC := hidden (HB1.out l[j] (List.getElem_mem hlt))
        have HBD := hidden (HB2.out m[j] (List.getElem_mem hltm))
        rw [txt_eq] at c2 d2
        generalize l[j] = c at *
        generalize m[j] = d at *
        obtain ⟨ck, cn, cs⟩ := c
        obtain ⟨dk, dn, ds⟩ := d
        simp only at *
        by_cases hk : ck = dk
        · subst hk
          by_cases hn : cn = dn
          · subst hn
            by_cases hs : cs = ds
            · subst hs
              have HN' := hidden (HNX.out rfl)
              clear HNX HNE
              generalize bytesT cs = S at *
              go_wp2_with fail
              go_quiet (fail)
              go_wp2_with fail
              go_roundw
              case rel => exact ⟨j + 1, by omega, by go_num, HN'.out, HB.out.trans ⟨rfl, rfl, rfl, Nat.le_refl _, fun _ _ => rfl⟩⟩
              case measure => simp [intOf]; omega
            · have HNE' := hidden (HNE.out (fun e => hs (by simpa using e)))
              have hss : ((bytesT cs).toList == (bytesT ds).toList) = false := by
                rw [bytesT_toList, bytesT_toList]
                exact beq_eq_false_iff_ne.2 (fun e => hs (by rw [← map_fwd HBC.out, ← map_fwd HBD.out, e]))
              clear HNX HNE hs
              generalize bytesT cs = S at *
              generalize bytesT ds = T at *
              go_wp2_with fail
              go_quiet (fail)
              go_wp2_with fail
              go_ret
              rw [HNE'.out]
              exact ⟨rfl, HB.out.trans ⟨rfl, rfl, rfl, Nat.le_refl _, fun _ _ => rfl⟩⟩
          · have HNE' := hidden (HNE.out (fun e => hn (by have := congrArg (fun t => t.2.1) e; simpa using this)))
            have hnn : (cn == dn) = false := beq_eq_false_iff_ne.2 hn
            clear HNX HNE hn
            generalize bytesT cs = S at *
            generalize bytesT ds = T at *
            go_wp2_with fail
            go_quiet (fail)
            go_wp2_with fail
            go_ret
            rw [HNE'.out]
            exact ⟨rfl, HB.out.trans ⟨rfl, rfl, rfl, Nat.le_refl _, fun _ _ => rfl⟩⟩
        · have HNE' := hidden (HNE.out (fun e => hk (by have := congrArg (fun t => t.1) e; simpa using this)))
          have hkk : ((ck : Int) == (dk : Int)) = false := beq_eq_false_iff_ne.2 (by omega)
          clear HNX HNE hk
          generalize bytesT cs = S at *
          generalize bytesT ds = T at *
          go_wp2_with fail
          go_quiet (fail)
          go_wp2_with fail
          go_ret
          rw [HNE'.out]
          exact ⟨rfl, HB.out.trans ⟨rfl, rfl, rfl, Nat.le_refl _, fun _ _ => rfl⟩⟩
      · obtain rfl : j = l.length := by omega
        have HEQ : Hid (decide (l = m) = true) := hidden (decide_eq_true (by
          have := HSM.out
          rw [List.take_length] at this
          rw [this, HLEN.out, List.take_length]))
        have hge : ¬ ((l.length : Nat) : Int) < (l.length : Int) := by omega
        go_wp2_with fail
        go_ret
        rw [HEQ.out]
        exact ⟨rfl, HB.out⟩
  · have hne : (((l.length : Nat) : Int) != (m.length : Int)) = true := by
      have : (l.length : Int) ≠ (m.length : Int) := by omega
      simpa using this
    have HEQ : Hid (decide (l = m) = false) := hidden (decide_eq_false (fun e => hlen (by rw [e])))
    clear hlen
    go_enter Tryz.func16, Tryz.ntmps16
    go_wp2_with fail
    go_ret
    rw [HEQ.out]
    exact ⟨rfl, Below.refl _ _⟩

/-- The cell, if it is of the kind; else null. -/
def onlyC (k : Nat) (c : Nat × Int × List Nat) : Nat × Int × List Nat := if (fixC c).1 = k then fixC c else nul

theorem onlyC_cellk {k : Nat} {c : Nat × Int × List Nat} (h : Okc c) : Cellk k (onlyC k c) := by
  unfold onlyC
  split
  · next h1 => exact (fixC_fine h).cellk (Or.inr h1)
  · exact Or.inl rfl

set_option maxRecDepth 100000 in
set_option maxHeartbeats 2000000 in
theorem only_any {w : World} {v : Value} {l : List (Nat × Int × List Nat)} (hs : Sc w v l) (k : Nat) :
    Calls Tryz.prog 18 #[.int .u8 (k : Int), v] w fun e w' => (∃ v', e = .returned v' ∧ OwnC w' w.heap.size v' ((l.take 256).map (onlyC k))) ∧ Below w.heap.size w w' := by
  have HS := hidden hs
  obtain ⟨a, cap, rfl, hcap, hcm⟩ := hs.form
  have hcm' : cap ≤ 9223372036854775807 := by unfold maxLen at hcm; omega
  clear hs hcm
  obtain ⟨D, hD⟩ : ∃ D, (l.take 256).map (onlyC k) = D := ⟨_, rfl⟩
  rw [hD]
  have HD := hidden hD
  clear hD
  go_enter Tryz.func18, Tryz.ntmps18
  go_wp2_with fail
  go_loopw [5, 6] (fun o i wr => ∃ j : Nat, j ≤ l.length ∧ j ≤ 256 ∧ i = .int .i64 (j : Int) ∧ OwnC wr w.heap.size o ((l.take j).map (onlyC k)) ∧ Below w.heap.size w wr) (fun _ i _ => 256 - (intOf i).toNat)
  case atStart => exact ⟨0, by omega, by omega, rfl, OwnC.nil _ _, Below.refl _ _⟩
  case round =>
    obtain ⟨j, hj, hj2, rfl, hown, hbel⟩ := hrel
    have HO := hidden hown
    have HB := hidden hbel
    have hzr := hbel.size
    clear hown hbel
    by_cases hlt : j < l.length
    · have hlt' : (j : Int) < (l.length : Int) := by omega
      by_cases hlt2 : j < 256
      · have hlt2' : (j : Int) < 256 := by omega
        obtain ⟨g, off, rfl, hg, c0, c1, c2⟩ := (HS.out.kept HB.out).at hlt
        have HNX : Hid ((l.take (j + 1)).map (onlyC k) = (l.take j).map (onlyC k) ++ [onlyC k l[j]]) := hidden (by
          rw [List.take_succ_eq_append_getElem hlt, List.map_append]
          rfl)
        have hlen' : ((l.take j).map (onlyC k)).length ≤ 100000 := by rw [List.length_map, List.length_take]; omega
        have HVA := hidden (fixC_any l[j])
        have HON : Hid (onlyC k l[j] = if (fixC l[j]).1 = k then fixC l[j] else nul) := rfl
        rw [txt_eq] at c2
        generalize onlyC k l[j] = oc at *
        generalize fixC l[j] = fc at *
        generalize bytesT l[j].2.2 = S at *
        generalize l[j].2.1 = cn at *
        generalize l[j].1 = ck at *
        generalize (l.take j).map (onlyC k) = LL at *
        obtain ⟨fck, fcn, fcs⟩ := fc
        simp only at *
        by_cases hk : fck = k
        · have hkk : ((fck : Int) != (k : Int)) = false := by simp [hk]
          rw [if_pos hk] at HON
          clear hk
          go_wp2_with fail
          refine (HVA.out _).mono ?_
          rintro e w1 ⟨rfl, hb1⟩
          have HO1 := hidden (HO.out.kept hb1)
          have HB1 := hidden (HB.out.trans (hb1.mono hzr))
          have hz1 := hb1.size
          have hz2 := World.size_alloc w1 (.cells #[.int .u8 (fck : Int), .int .i64 fcn, .string (bytesT fcs)] 45)
          have HO2 := hidden (HO1.out.kept (below_one w1 (.cells #[.int .u8 (fck : Int), .int .i64 fcn, .string (bytesT fcs)] 45)))
          have HB2 := hidden (HB1.out.alloc (Nat.le_trans hzr hz1) (.cells #[.int .u8 (fck : Int), .int .i64 fcn, .string (bytesT fcs)] 45))
          have HCN := hidden (cell_new3 (w1.alloc (.cells #[.int .u8 (fck : Int), .int .i64 fcn, .string (bytesT fcs)] 45)) (.int .u8 (fck : Int)) (.int .i64 fcn) (.string (bytesT fcs)) 45)
          rw [hz2] at HCN
          clear hb1 c0 c1 c2
          go_wp2_with (first | (at_builtin; refine wpList_append_c rfl _ _ rfl w.heap.size _ _ (fck, fcn, fcs) LL rfl (HO2.out.kept (below_one _ _)) rfl HCN.out.1 HCN.out.2.1 HCN.out.2.2 hlen' ?c2 ?_))
          case c2 => first | omega | (rw [World.size_alloc]; omega)
          intro v' w5 o5 b5
          rw [← HON.out] at o5
          have HO5 := hidden o5
          have HB5 := hidden ((HB2.out.alloc (by omega) _).trans b5)
          clear o5 b5
          go_wp2_with fail
          go_roundw
          case rel => exact ⟨j + 1, by omega, by omega, by go_num, by rw [HNX.out]; exact HO5.out, HB5.out⟩
          case measure => simp [intOf]; omega
        · have hkk : ((fck : Int) != (k : Int)) = true := by
            have : (fck : Int) ≠ (k : Int) := by omega
            simpa using this
          rw [if_neg hk] at HON
          clear hk
          go_wp2_with fail
          refine (HVA.out _).mono ?_
          rintro e w1 ⟨rfl, hb1⟩
          have HO1 := hidden (HO.out.kept hb1)
          have HB1 := hidden (HB.out.trans (hb1.mono hzr))
          have hz1 := hb1.size
          have hz2 := World.size_alloc w1 (.cells #[.int .u8 0, .int .i64 0, .string ⟨#[]⟩] 45)
          have HO2 := hidden (HO1.out.kept (below_one w1 (.cells #[.int .u8 0, .int .i64 0, .string ⟨#[]⟩] 45)))
          have HB2 := hidden (HB1.out.alloc (Nat.le_trans hzr hz1) (.cells #[.int .u8 0, .int .i64 0, .string ⟨#[]⟩] 45))
          have HCN := hidden (cell_new3 (w1.alloc (.cells #[.int .u8 0, .int .i64 0, .string ⟨#[]⟩] 45)) (.int .u8 0) (.int .i64 0) (.string ⟨#[]⟩) 45)
          rw [hz2] at HCN
          clear hb1 c0 c1 c2
          go_wp2_with (first | (at_builtin; refine wpList_append_c rfl _ _ rfl w.heap.size _ _ nul LL rfl (HO2.out.kept (below_one _ _)) rfl HCN.out.1 HCN.out.2.1 HCN.out.2.2 hlen' ?c2 ?_))
          case c2 => first | omega | (rw [World.size_alloc]; omega)
          intro v' w5 o5 b5
          rw [← HON.out] at o5
          have HO5 := hidden o5
          have HB5 := hidden ((HB2.out.alloc (by omega) _).trans b5)
          clear o5 b5
          go_wp2_with fail
          go_roundw
          case rel => exact ⟨j + 1, by omega, by omega, by go_num, by rw [HNX.out]; exact HO5.out, HB5.out⟩
          case measure => simp [intOf]; omega
      · have h256 : j = 256 := by omega
        have hge : ¬ (j : Int) < 256 := by omega
        have HE : Hid (l.take j = l.take 256) := hidden (by rw [h256])
        rw [HE.out, HD.out] at HO
        clear h256
        go_wp2_with fail
        go_ret
        exact ⟨⟨_, rfl, HO.out⟩, HB.out⟩
    · have hge : ¬ (j : Int) < (l.length : Int) := by omega
      have HE : Hid (l.take j = l.take 256) := hidden (by rw [List.take_of_length_le (show l.length ≤ j by omega), List.take_of_length_le (show l.length ≤ 256 by omega)])
      rw [HE.out, HD.out] at HO
      go_wp2_with fail
      go_ret
      exact ⟨⟨_, rfl, HO.out⟩, HB.out⟩
end Go.Proofs.YtcmmednihoaekaaGreat
