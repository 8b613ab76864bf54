/- Contracts of layer column: fault; what is put behind what: put and gather. -/
import Derived.Test.YtcmmednihoaekaaGreatColA
set_option linter.unusedVariables false
set_option linter.unusedSimpArgs false
namespace Go.Proofs.YtcmmednihoaekaaGreat
open Go.RowKit Go.Lib

theorem writeC_no {k : Nat} {l : List (Nat × Int × List Nat)} (h : ¬ (1 ≤ k ∧ k ≤ 3 ∧ ∀ c ∈ l, c.1 = 0 ∨ c.1 = k)) : (writeC k l).2 = 10 := by
  unfold writeC
  rw [if_neg h]

theorem writeC_err {k : Nat} {l : List (Nat × Int × List Nat)} (hk : 1 ≤ k ∧ k ≤ 3) (hf : ∀ c ∈ l, Fine c) (h : ∀ c ∈ l, c.1 = 0 ∨ c.1 = k) : (writeC k l).2 = if 256 < l.length then 5 else 0 := by
  unfold writeC
  rw [if_pos ⟨hk.1, hk.2, h⟩]
  by_cases h2 : 256 < l.length
  · rw [if_neg (by omega), if_pos h2]
  · rw [if_pos ⟨by omega, fun c hc => ((hf c hc).cellk (h c hc)).short⟩, if_neg h2]

theorem Fine.size {c : Nat × Int × List Nat} (h : Fine c) : c.1 ≤ 3 ∧ c.2.2.length ≤ 64 := by
  rcases h with rfl | ⟨n, rfl, _⟩ | ⟨n, rfl, _⟩ | ⟨s, rfl, hs, _⟩
  · simp [nul]
  · simp
  · simp
  · exact ⟨by simp, hs⟩

set_option maxRecDepth 100000 in
set_option maxHeartbeats 2000000 in
theorem cfault_any {w : World} {v : Value} {l : List (Nat × Int × List Nat)} (hs : Sv w v (vvals l)) (hf : ∀ c ∈ l, Fine c) (k : Nat) :
    Calls Tryz.prog 20 #[.int .u8 (k : Int), v] w fun e w' => e = .returned (.int .i64 ((writeC k l).2 : Int)) ∧ Below w.heap.size w w' := by
  have HS := hidden hs
  have HF := hidden hf
  obtain ⟨a, cap, rfl, hcap, hcm⟩ := hs.form1
  rw [vvals_length] at *
  have hcm' : cap ≤ 9223372036854775807 := by unfold maxLen at hcm; omega
  have HK := hidden (ofColumns_any k)
  by_cases hk : 1 ≤ k ∧ k ≤ 3
  · rw [decide_eq_true hk] at HK
    have HE := hidden (writeC_err (l := l) hk hf)
    have HN := hidden (writeC_no (k := k) (l := l))
    clear hs hf hcm hk
    have HL : Hid (decide ((l.length : Int) > 256) = decide (256 < l.length)) := hidden (by
      by_cases h : 256 < l.length
      · rw [decide_eq_true h, decide_eq_true (by omega)]
      · rw [decide_eq_false h, decide_eq_false (by omega)])
    go_enter Tryz.func20, Tryz.ntmps20
    go_wp2_with fail
    refine (HK.out _).mono ?_
    rintro e w1 ⟨rfl, rfl⟩
    go_wp2_with fail
    rw [HL.out]
    generalize hlong : decide (256 < l.length) = lg
    have HLG := hidden hlong
    clear hlong
    go_loopw [5, 18] (fun o i wr => ∃ j : Nat, j ≤ l.length ∧ o = .bool lg ∧ i = .int .i64 (j : Int) ∧ (∀ c ∈ l.take j, c.1 = 0 ∨ c.1 = k) ∧ Below w1.heap.size w1 wr) (fun _ i _ => l.length - (intOf i).toNat)
    case atStart => exact ⟨0, by omega, rfl, rfl, fun c hc => by simp at hc, Below.refl _ _⟩
    case round =>
      obtain ⟨j, hj, rfl, rfl, hall, hbel⟩ := hrel
      have HA := hidden hall
      have HB := hidden hbel
      have hzr := hbel.size
      clear hall hbel
      by_cases hlt : j < l.length
      · obtain ⟨b, off, rfl, hb, hcell⟩ := HS.out.at1 (vvals_get hlt)
        have hcell' := (HB.out.cell (p := ⟨b, off + j, none⟩) hb).trans hcell
        have hfine := HF.out l[j] (List.getElem_mem hlt)
        have HM := hidden (List.getElem_mem hlt)
        have HT : Hid (∀ c, c ∈ l.take (j + 1) → c ∈ l.take j ∨ c = l[j]) := hidden (fun c hc => by
          rw [List.take_succ_eq_append_getElem hlt] at hc
          rcases List.mem_append.1 hc with h | h
          · exact Or.inl h
          · exact Or.inr (by simpa using h))
        have hlt' : (j : Int) < (l.length : Int) := by omega
        obtain ⟨hc3, hc64⟩ := hfine.size
        have hnot64 : ¬ 64 < ((bytesT l[j].2.2).size : Int) := by rw [bytesT_size]; omega
        have HV := hidden (fun W => cell_any hfine.val W)
        clear hcell hfine hc64
        generalize l[j] = c at *
        obtain ⟨ck, cn, cs⟩ := c
        simp only at *
        generalize valC (ck, cn, cs) = vc at *
        generalize bytesT cs = S at *
        by_cases h0 : ((ck : Int) != 0) = true
        · by_cases h1 : ((ck : Int) != (k : Int)) = true
          · have HN' : Hid ((writeC k l).2 = 10) := hidden (HN.out (fun h => by
              have := h.2.2 _ HM.out
              simp at h0 h1 this
              omega))
            go_wp2_with fail
            refine (HV.out _).mono ?_
            rintro e w2 ⟨rfl, hb2⟩
            have HB2 := hidden hb2
            have hz2 := hb2.size
            clear hb2
            go_wp2_with fail
            go_ret
            rw [HN'.out]
            exact ⟨rfl, (HB.out.trans (HB2.out.mono hzr)).alloc (by omega) _⟩
          · have h1' : ((ck : Int) != (k : Int)) = false := by simpa using h1
            have hck : ck = k := by
              have : (ck : Int) = (k : Int) := by simpa using h1
              omega
            have HCK := hidden hck
            clear h1 hck
            go_wp2_with fail
            refine (HV.out _).mono ?_
            rintro e w2 ⟨rfl, hb2⟩
            have HB2 := hidden hb2
            have hz2 := hb2.size
            clear hb2
            cases lg
            · go_wp2_with fail
              go_roundw
              case rel => exact ⟨j + 1, by omega, congrArg Value.bool (decide_eq_false (by omega)), by go_num, fun c hc => (HT.out c hc).elim (HA.out c) (fun e => by rw [e]; exact Or.inr HCK.out), (HB.out.trans (HB2.out.mono hzr)).alloc (by omega) _⟩
              case measure => simp [intOf]; omega
            · go_wp2_with fail
              go_roundw
              case rel => exact ⟨j + 1, by omega, rfl, by go_num, fun c hc => (HT.out c hc).elim (HA.out c) (fun e => by rw [e]; exact Or.inr HCK.out), (HB.out.trans (HB2.out.mono hzr)).alloc (by omega) _⟩
              case measure => simp [intOf]; omega
        · have h0' : ((ck : Int) != 0) = false := by simpa using h0
          have hck : ck = 0 := by
            have : (ck : Int) = 0 := by simpa using h0
            omega
          have HCK := hidden hck
          clear h0 hck
          go_wp2_with fail
          refine (HV.out _).mono ?_
          rintro e w2 ⟨rfl, hb2⟩
          have HB2 := hidden hb2
          have hz2 := hb2.size
          clear hb2
          cases lg
          · go_wp2_with fail
            go_roundw
            case rel => exact ⟨j + 1, by omega, congrArg Value.bool (decide_eq_false (by omega)), by go_num, fun c hc => (HT.out c hc).elim (HA.out c) (fun e => by rw [e]; exact Or.inl HCK.out), (HB.out.trans (HB2.out.mono hzr)).alloc (by omega) _⟩
            case measure => simp [intOf]; omega
          · go_wp2_with fail
            go_roundw
            case rel => exact ⟨j + 1, by omega, rfl, by go_num, fun c hc => (HT.out c hc).elim (HA.out c) (fun e => by rw [e]; exact Or.inl HCK.out), (HB.out.trans (HB2.out.mono hzr)).alloc (by omega) _⟩
            case measure => simp [intOf]; omega
      · have : j = l.length := by omega
        subst this
        rw [List.take_length] at HA
        have HE' := hidden (HE.out HA.out)
        have hge : ¬ ((l.length : Nat) : Int) < (l.length : Int) := by omega
        cases lg
        · have hn : ¬ 256 < l.length := of_decide_eq_false HLG.out
          rw [if_neg hn] at HE'
          go_wp2_with fail
          go_ret
          rw [HE'.out]
          exact ⟨rfl, HB.out⟩
        · have hn : 256 < l.length := of_decide_eq_true HLG.out
          rw [if_pos hn] at HE'
          go_wp2_with fail
          go_ret
          rw [HE'.out]
          exact ⟨rfl, HB.out⟩
  · rw [decide_eq_false hk] at HK
    have HN : Hid ((writeC k l).2 = 10) := hidden (writeC_no (fun h => hk ⟨h.1, h.2.1⟩))
    clear hs hf hcm hk
    go_enter Tryz.func20, Tryz.ntmps20
    go_wp2_with fail
    refine (HK.out _).mono ?_
    rintro e w1 ⟨rfl, rfl⟩
    go_wp2_with fail
    go_ret
    rw [HN.out]
    exact ⟨rfl, Below.refl _ _⟩
end Go.Proofs.YtcmmednihoaekaaGreat
