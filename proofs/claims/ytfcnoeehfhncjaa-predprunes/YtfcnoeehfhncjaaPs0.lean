/- IndexFunc, by two functions. -/
import Derived.Test.YtfcnoeehfhncjaaPl
set_option linter.unusedVariables false
set_option linter.unusedSimpArgs false
namespace Go.Proofs.Ytfcnoeehfhncjaa
open Go.RowKit Go.Lib

/-- Where the first value is for which P holds, or -1. -/
def IdxOf (P : Cl → Bool) (cs : List Cl) (z : Int) : Prop := (z = -1 ∧ ∀ j (h : j < cs.length), P cs[j] = false) ∨ (∃ k, ∃ (h : k < cs.length), z = (k : Int) ∧ P cs[k] = true ∧ ∀ j (h : j < cs.length), j < k → P cs[j] = false)

set_option maxRecDepth 100000 in
set_option maxHeartbeats 2000000 in
theorem idxNull_any {w : World} {v : Value} {cs : List Cl} (hs : Sv w v (vvals cs)) (hf : ∀ c ∈ cs, Fine c) : Calls Try.prog 43 #[v, .func (.func 24) #[] #[]] w fun e w' => (∃ z : Int, e = .returned (.int .i64 z) ∧ IdxOf (fun c => decide (c.1 = 0)) cs z) ∧ Below w.heap.size w w' := by
  have HS := hidden hs
  have HF := hidden hf
  obtain ⟨a, cap, rfl, hcap, hcm⟩ := hs.form1
  rw [vvals_length] at *
  have hcm' : cap ≤ 9223372036854775807 := by unfold maxLen at hcm; omega
  clear hs hf hcm
  go_enter Try.func43, Try.ntmps43
  go_wp2_with fail
  go_loopw [8] (fun i wr => ∃ k : Nat, k ≤ cs.length ∧ i = .int .i64 (k : Int) ∧ (∀ j (h : j < cs.length), j < k → (fun c : Cl => decide (c.1 = 0)) cs[j] = false) ∧ Below w.heap.size w wr) (fun i _ => cs.length - (intOf i).toNat)
  case atStart => exact ⟨0, by omega, rfl, fun j h hj => by omega, Below.refl _ _⟩
  case round =>
    obtain ⟨k, hk, rfl, hall, hbel⟩ := hrel
    have HA := hidden hall
    have HB := hidden hbel
    clear hall hbel
    by_cases hlt : k < cs.length
    · obtain ⟨b, off, rfl, hb, z⟩ := (HS.out.kept HB.out).at1 (vvals_get hlt)
      have hlt' : (k : Int) < (cs.length : Int) := by omega
      have HC := hidden (isnull_any (HF.out cs[k] (List.getElem_mem hlt)))
      have HP : Hid ((fun c : Cl => decide (c.1 = 0)) cs[k] = (fun c : Cl => decide (c.1 = 0)) cs[k]) := hidden rfl
      obtain ⟨pv, hpv⟩ : ∃ pv, pv = (fun c : Cl => decide (c.1 = 0)) cs[k] := ⟨_, rfl⟩
      have HPV := hidden hpv
      rw [show (decide (cs[k].1 = 0)) = pv from hpv.symm] at HC
      clear hpv HP
      generalize hck : cs[k] = c at *
      have HCK := hidden hck
      clear hck
      go_wp2_with fail
      refine (HC.out _).mono ?_
      rintro e w2 ⟨rfl, hb2⟩
      have HB2 := hidden (below_then HB.out hb2)
      clear hb2
      cases pv
      · go_wp2_with fail
        go_roundw
        case rel => exact ⟨k + 1, by omega, by go_num, fun j h hj => by
          by_cases hjk : j = k
          · subst hjk
            rw [HCK.out]
            exact HPV.out.symm
          · exact HA.out j h (by omega), HB2.out⟩
        case measure => simp [intOf]; omega
      · go_wp2_with fail
        go_ret
        exact ⟨⟨(k : Int), rfl, Or.inr ⟨k, hlt, rfl, by rw [HCK.out]; exact HPV.out.symm, HA.out⟩⟩, HB2.out⟩
    · obtain rfl : k = cs.length := by omega
      have hge : ¬ ((cs.length : Nat) : Int) < (cs.length : Int) := by omega
      go_wp2_with fail
      go_ret
      exact ⟨⟨-1, rfl, Or.inl ⟨rfl, fun j h => HA.out j h h⟩⟩, HB.out⟩

set_option maxRecDepth 100000 in
set_option maxHeartbeats 2000000 in
theorem idxUnclean_any {w : World} {v : Value} {cs : List Cl} (hs : Sv w v (vvals cs)) (hf : ∀ c ∈ cs, Fine c) : Calls Try.prog 43 #[v, .func (.func 27) #[] #[]] w fun e w' => (∃ z : Int, e = .returned (.int .i64 z) ∧ IdxOf (fun c => !clean (lb (bytesT c.2.2))) cs z) ∧ Below w.heap.size w w' := by
  have HS := hidden hs
  have HF := hidden hf
  obtain ⟨a, cap, rfl, hcap, hcm⟩ := hs.form1
  rw [vvals_length] at *
  have hcm' : cap ≤ 9223372036854775807 := by unfold maxLen at hcm; omega
  clear hs hf hcm
  go_enter Try.func43, Try.ntmps43
  go_wp2_with fail
  go_loopw [8] (fun i wr => ∃ k : Nat, k ≤ cs.length ∧ i = .int .i64 (k : Int) ∧ (∀ j (h : j < cs.length), j < k → (fun c : Cl => !clean (lb (bytesT c.2.2))) cs[j] = false) ∧ Below w.heap.size w wr) (fun i _ => cs.length - (intOf i).toNat)
  case atStart => exact ⟨0, by omega, rfl, fun j h hj => by omega, Below.refl _ _⟩
  case round =>
    obtain ⟨k, hk, rfl, hall, hbel⟩ := hrel
    have HA := hidden hall
    have HB := hidden hbel
    clear hall hbel
    by_cases hlt : k < cs.length
    · obtain ⟨b, off, rfl, hb, z⟩ := (HS.out.kept HB.out).at1 (vvals_get hlt)
      have hlt' : (k : Int) < (cs.length : Int) := by omega
      have HC := hidden (unclean_any (HF.out cs[k] (List.getElem_mem hlt)))
      have HP : Hid ((fun c : Cl => !clean (lb (bytesT c.2.2))) cs[k] = (fun c : Cl => !clean (lb (bytesT c.2.2))) cs[k]) := hidden rfl
      obtain ⟨pv, hpv⟩ : ∃ pv, pv = (fun c : Cl => !clean (lb (bytesT c.2.2))) cs[k] := ⟨_, rfl⟩
      have HPV := hidden hpv
      rw [show (!clean (lb (bytesT cs[k].2.2))) = pv from hpv.symm] at HC
      clear hpv HP
      generalize hck : cs[k] = c at *
      have HCK := hidden hck
      clear hck
      go_wp2_with fail
      refine (HC.out _).mono ?_
      rintro e w2 ⟨rfl, hb2⟩
      have HB2 := hidden (below_then HB.out hb2)
      clear hb2
      cases pv
      · go_wp2_with fail
        go_roundw
        case rel => exact ⟨k + 1, by omega, by go_num, fun j h hj => by
          by_cases hjk : j = k
          · subst hjk
            rw [HCK.out]
            exact HPV.out.symm
          · exact HA.out j h (by omega), HB2.out⟩
        case measure => simp [intOf]; omega
      · go_wp2_with fail
        go_ret
        exact ⟨⟨(k : Int), rfl, Or.inr ⟨k, hlt, rfl, by rw [HCK.out]; exact HPV.out.symm, HA.out⟩⟩, HB2.out⟩
    · obtain rfl : k = cs.length := by omega
      have hge : ¬ ((cs.length : Nat) : Int) < (cs.length : Int) := by omega
      go_wp2_with fail
      go_ret
      exact ⟨⟨-1, rfl, Or.inl ⟨rfl, fun j h => HA.out j h h⟩⟩, HB.out⟩
end Go.Proofs.Ytfcnoeehfhncjaa
