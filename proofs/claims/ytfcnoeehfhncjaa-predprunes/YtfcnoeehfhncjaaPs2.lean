/- ContainsFunc, MinFunc, MaxFunc. -/
import Derived.Test.YtfcnoeehfhncjaaPs1
set_option linter.unusedVariables false
set_option linter.unusedSimpArgs false
namespace Go.Proofs.Ytfcnoeehfhncjaa
open Go.RowKit Go.Lib

theorem IdxOf.any {P : Cl → Bool} {cs : List Cl} {z : Int} (h : IdxOf P cs z) : decide (z ≥ 0) = cs.any P := by
  rcases h with ⟨rfl, h⟩ | ⟨k, hk, rfl, h, _⟩
  · rw [show decide ((-1 : Int) ≥ 0) = false from rfl, eq_comm, List.any_eq_false]
    intro c hc
    obtain ⟨j, hj, rfl⟩ := List.mem_iff_getElem.1 hc
    simp [h j hj]
  · rw [show decide ((k : Int) ≥ 0) = true from decide_eq_true (by omega), eq_comm, List.any_eq_true]
    exact ⟨cs[k], List.getElem_mem hk, h⟩
def cleanC (c : Cl) : Bool := clean (lb (bytesT c.2.2))
set_option maxRecDepth 100000 in
theorem hasUnclean_any {w : World} {v : Value} {cs : List Cl} (hs : Sv w v (vvals cs)) (hf : ∀ c ∈ cs, Fine c) : Calls Try.prog 26 #[v, .func (.func 27) #[] #[]] w fun e w' => e = .returned (.bool (!cs.all cleanC)) ∧ Below w.heap.size w w' := by
  have HC := hidden (idxUnclean_any hs hf)
  obtain ⟨a, cap, rfl, hcap, hcm⟩ := hs.form1
  clear hs hf
  go_enter Try.func26, Try.ntmps26
  go_wp2_with fail
  refine HC.out.mono ?_
  rintro e w1 ⟨⟨z, rfl, hz⟩, hb⟩
  have HZ : Hid (decide (z ≥ 0) = !cs.all cleanC) := hidden (by
    rw [hz.any, List.not_all_eq_any_not]
    rfl)
  clear hz
  go_wp2_with fail
  go_ret
  rw [← HZ.out]
  exact ⟨rfl, hb⟩

def minC (m : Cl) : List Cl → Cl
  | [] => m
  | x :: r => minC (if cmpC x m < 0 then x else m) r
def maxC (m : Cl) : List Cl → Cl
  | [] => m
  | x :: r => maxC (if 0 < cmpC x m then x else m) r
theorem minC_step {m : Cl} {cs : List Cl} {i : Nat} (h : i < cs.length) : minC m (cs.drop i) = minC (if cmpC cs[i] m < 0 then cs[i] else m) (cs.drop (i + 1)) := by
  rw [List.drop_eq_getElem_cons h]; rfl
theorem maxC_step {m : Cl} {cs : List Cl} {i : Nat} (h : i < cs.length) : maxC m (cs.drop i) = maxC (if 0 < cmpC cs[i] m then cs[i] else m) (cs.drop (i + 1)) := by
  rw [List.drop_eq_getElem_cons h]; rfl
theorem minC_end {m : Cl} {cs : List Cl} : minC m (cs.drop cs.length) = m := by rw [List.drop_length]; rfl
theorem maxC_end {m : Cl} {cs : List Cl} : maxC m (cs.drop cs.length) = m := by rw [List.drop_length]; rfl
theorem minC_mem {P : Cl → Prop} : ∀ {cs : List Cl} {m : Cl}, P m → (∀ c ∈ cs, P c) → P (minC m cs)
  | [], m, h, _ => h
  | x :: r, m, h, hr => by
    unfold minC
    refine minC_mem ?_ fun c hc => hr c (by simp [hc])
    split
    · exact hr x (by simp)
    · exact h
theorem maxC_mem {P : Cl → Prop} : ∀ {cs : List Cl} {m : Cl}, P m → (∀ c ∈ cs, P c) → P (maxC m cs)
  | [], m, h, _ => h
  | x :: r, m, h, hr => by
    unfold maxC
    refine maxC_mem ?_ fun c hc => hr c (by simp [hc])
    split
    · exact hr x (by simp)
    · exact h

set_option maxRecDepth 100000 in
set_option maxHeartbeats 2000000 in
theorem minF_any {w : World} {v : Value} {cs : List Cl} (hs : Sv w v (vvals cs)) (hf : ∀ c ∈ cs, Fine c) (hne : 0 < cs.length) : Calls Try.prog 29 #[v, .func (.func 30) #[] #[]] w fun e w' => e = .returned (valC (minC cs[0] (cs.drop 1))) ∧ Below w.heap.size w w' := by
  have HS := hidden hs
  have HF := hidden hf
  have HR : Hid (∃ R, R = minC cs[0] (cs.drop 1)) := hidden ⟨_, rfl⟩
  obtain ⟨R, hR⟩ := HR.out
  have HR2 := hidden hR
  rw [← hR]
  clear hR HR
  obtain ⟨a, cap, rfl, hcap, hcm⟩ := hs.form1
  rw [vvals_length] at *
  obtain ⟨b0, off0, rfl, hb0, z0⟩ := hs.at1 (vvals_get hne)
  have hcm' : cap ≤ 9223372036854775807 := by unfold maxLen at hcm; omega
  have HF0 := hidden (hf cs[0] (List.getElem_mem hne))
  have hge1 : ¬ (cs.length : Int) < 1 := by omega
  have hlt0 : (0 : Int) < (cs.length : Int) := by omega
  rw [Nat.add_zero] at z0
  clear hs hf hcm
  generalize hc0 : cs[0] = c0 at *
  clear hc0
  go_enter Try.func29, Try.ntmps29
  go_wp2_with fail
  clear z0
  go_loopw [5, 6] (fun s i wr => ∃ (k : Nat) (m : Cl), 1 ≤ k ∧ k ≤ cs.length ∧ i = .int .i64 (k : Int) ∧ s = valC m ∧ Fine m ∧ R = minC m (cs.drop k) ∧ Below w.heap.size w wr) (fun _ i _ => cs.length - (intOf i).toNat)
  case atStart => exact ⟨1, c0, by omega, by omega, rfl, rfl, HF0.out, HR2.out, Below.refl _ _⟩
  case round =>
    obtain ⟨k, m, hk1, hk, rfl, rfl, hfm, hfe, hbel⟩ := hrel
    have HFM := hidden hfm
    have HE := hidden hfe
    have HB := hidden hbel
    clear hfm hfe hbel HR2
    by_cases hlt : k < cs.length
    · obtain ⟨b, off, he, hb, z⟩ := (HS.out.kept HB.out).at1 (vvals_get hlt)
      simp only [Option.some.injEq, Addr.mk.injEq, and_true] at he
      obtain ⟨rfl, rfl⟩ := he
      have hlt' : (k : Int) < (cs.length : Int) := by omega
      have HFC := hidden (HF.out cs[k] (List.getElem_mem hlt))
      have HT := hidden (HE.out.trans (minC_step hlt))
      generalize cs[k] = c at *
      have HC := hidden (fun W => compare_cv HFC.out.val HFM.out.val W)
      rw [show cv (c.1 : Int) c.2.1 (bytesT c.2.2) (m.1 : Int) m.2.1 (bytesT m.2.2) = cmpC c m from rfl] at HC
      generalize cmpC c m = q at *
      clear HE
      go_wp2_with fail
      refine (HC.out _).mono ?_
      rintro e w2 ⟨rfl, hb2⟩
      have HB2 := hidden (below_then HB.out hb2)
      have z2 := (hb2.cell (p := ⟨b0, off0 + k, none⟩) hb).trans z
      clear hb2 z
      by_cases hq : q < 0
      · rw [if_pos hq] at HT
        go_wp2_with fail
        go_roundw
        case rel => exact ⟨k + 1, c, by omega, by omega, by go_num, rfl, HFC.out, HT.out, HB2.out⟩
        case measure => simp [intOf]; omega
      · rw [if_neg hq] at HT
        go_wp2_with fail
        go_roundw
        case rel => exact ⟨k + 1, m, by omega, by omega, by go_num, rfl, HFM.out, HT.out, HB2.out⟩
        case measure => simp [intOf]; omega
    · obtain rfl : k = cs.length := by omega
      have hge : ¬ ((cs.length : Nat) : Int) < (cs.length : Int) := by omega
      have HT := hidden (HE.out.trans minC_end)
      clear HE
      go_wp2_with fail
      go_ret
      rw [HT.out]
      exact ⟨rfl, HB.out⟩

set_option maxRecDepth 100000 in
set_option maxHeartbeats 2000000 in
theorem maxF_any {w : World} {v : Value} {cs : List Cl} (hs : Sv w v (vvals cs)) (hf : ∀ c ∈ cs, Fine c) (hne : 0 < cs.length) : Calls Try.prog 32 #[v, .func (.func 30) #[] #[]] w fun e w' => e = .returned (valC (maxC cs[0] (cs.drop 1))) ∧ Below w.heap.size w w' := by
  have HS := hidden hs
  have HF := hidden hf
  have HR : Hid (∃ R, R = maxC cs[0] (cs.drop 1)) := hidden ⟨_, rfl⟩
  obtain ⟨R, hR⟩ := HR.out
  have HR2 := hidden hR
  rw [← hR]
  clear hR HR
  obtain ⟨a, cap, rfl, hcap, hcm⟩ := hs.form1
  rw [vvals_length] at *
  obtain ⟨b0, off0, rfl, hb0, z0⟩ := hs.at1 (vvals_get hne)
  have hcm' : cap ≤ 9223372036854775807 := by unfold maxLen at hcm; omega
  have HF0 := hidden (hf cs[0] (List.getElem_mem hne))
  have hge1 : ¬ (cs.length : Int) < 1 := by omega
  have hlt0 : (0 : Int) < (cs.length : Int) := by omega
  rw [Nat.add_zero] at z0
  clear hs hf hcm
  generalize hc0 : cs[0] = c0 at *
  clear hc0
  go_enter Try.func32, Try.ntmps32
  go_wp2_with fail
  clear z0
  go_loopw [5, 6] (fun s i wr => ∃ (k : Nat) (m : Cl), 1 ≤ k ∧ k ≤ cs.length ∧ i = .int .i64 (k : Int) ∧ s = valC m ∧ Fine m ∧ R = maxC m (cs.drop k) ∧ Below w.heap.size w wr) (fun _ i _ => cs.length - (intOf i).toNat)
  case atStart => exact ⟨1, c0, by omega, by omega, rfl, rfl, HF0.out, HR2.out, Below.refl _ _⟩
  case round =>
    obtain ⟨k, m, hk1, hk, rfl, rfl, hfm, hfe, hbel⟩ := hrel
    have HFM := hidden hfm
    have HE := hidden hfe
    have HB := hidden hbel
    clear hfm hfe hbel HR2
    by_cases hlt : k < cs.length
    · obtain ⟨b, off, he, hb, z⟩ := (HS.out.kept HB.out).at1 (vvals_get hlt)
      simp only [Option.some.injEq, Addr.mk.injEq, and_true] at he
      obtain ⟨rfl, rfl⟩ := he
      have hlt' : (k : Int) < (cs.length : Int) := by omega
      have HFC := hidden (HF.out cs[k] (List.getElem_mem hlt))
      have HT := hidden (HE.out.trans (maxC_step hlt))
      generalize cs[k] = c at *
      have HC := hidden (fun W => compare_cv HFC.out.val HFM.out.val W)
      rw [show cv (c.1 : Int) c.2.1 (bytesT c.2.2) (m.1 : Int) m.2.1 (bytesT m.2.2) = cmpC c m from rfl] at HC
      generalize cmpC c m = q at *
      clear HE
      go_wp2_with fail
      refine (HC.out _).mono ?_
      rintro e w2 ⟨rfl, hb2⟩
      have HB2 := hidden (below_then HB.out hb2)
      have z2 := (hb2.cell (p := ⟨b0, off0 + k, none⟩) hb).trans z
      clear hb2 z
      by_cases hq : 0 < q
      · rw [if_pos hq] at HT
        go_wp2_with fail
        go_roundw
        case rel => exact ⟨k + 1, c, by omega, by omega, by go_num, rfl, HFC.out, HT.out, HB2.out⟩
        case measure => simp [intOf]; omega
      · rw [if_neg hq] at HT
        go_wp2_with fail
        go_roundw
        case rel => exact ⟨k + 1, m, by omega, by omega, by go_num, rfl, HFM.out, HT.out, HB2.out⟩
        case measure => simp [intOf]; omega
    · obtain rfl : k = cs.length := by omega
      have hge : ¬ ((cs.length : Nat) : Int) < (cs.length : Int) := by omega
      have HT := hidden (HE.out.trans maxC_end)
      clear HE
      go_wp2_with fail
      go_ret
      rw [HT.out]
      exact ⟨rfl, HB.out⟩
end Go.Proofs.Ytfcnoeehfhncjaa
