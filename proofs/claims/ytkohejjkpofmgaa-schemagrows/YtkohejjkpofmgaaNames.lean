/- Contracts: isDigit, ofNames, nameMayBe. -/
import Derived.Test.YtkohejjkpofmgaaSgn
set_option linter.unusedVariables false
set_option linter.unusedSimpArgs false
namespace Go.Proofs.Ytkohejjkpofmgaa
open Go.RowKit Go.Lib

theorem good_cases (c : Nat) : letterB c = (decide (97 ≤ c ∧ c ≤ 122) || decide (c = 95) || decide (127 < c)) := rfl

theorem isDigit_any (c : Nat) (w : World) : Calls Try.prog 64 #[.int .i32 (c : Int)] w fun e w' => e = .returned (.bool (digitB c)) ∧ w' = w := by
  by_cases h1 : 48 ≤ (c : Int)
  · by_cases h2 : (c : Int) ≤ 57
    · have HN : Hid (digitB c = true) := hidden (decide_eq_true (by omega))
      go_enter Try.func64, Try.ntmps64
      go_wp2
      go_ret
      rw [HN.out]
      exact ⟨rfl, rfl⟩
    · have HN : Hid (digitB c = false) := hidden (decide_eq_false (by omega))
      go_enter Try.func64, Try.ntmps64
      go_wp2
      go_ret
      rw [HN.out]
      exact ⟨rfl, rfl⟩
  · have HN : Hid (digitB c = false) := hidden (decide_eq_false (by omega))
    go_enter Try.func64, Try.ntmps64
    go_wp2
    go_ret
    rw [HN.out]
    exact ⟨rfl, rfl⟩

theorem ofNames_any (c : Nat) (w : World) : Calls Try.prog 63 #[.int .i32 (c : Int)] w fun e w' => e = .returned (.bool (letterB c || digitB c)) ∧ w' = w := by
  have HD := hidden (isDigit_any c)
  have HL : Hid (letterB c = (decide (97 ≤ c ∧ c ≤ 122) || decide (c = 95) || decide (127 < c))) := hidden rfl
  by_cases h1 : 97 ≤ (c : Int) ∧ (c : Int) ≤ 122
  · obtain ⟨h1, h2⟩ := h1
    have HN : Hid ((letterB c || digitB c) = true) := hidden (by rw [HL.out, decide_eq_true (show 97 ≤ c ∧ c ≤ 122 by omega)]; rfl)
    rw [HN.out]
    go_enter Try.func63, Try.ntmps63
    go_wp2
    go_ret
    exact ⟨rfl, rfl⟩
  · have hh : ¬ (97 ≤ c ∧ c ≤ 122) := by omega
    have HB : Hid ((letterB c || digitB c) = (digitB c || decide (c = 95) || decide (127 < c))) := hidden (by
      rw [HL.out, decide_eq_false hh]
      cases digitB c <;> cases decide (c = 95) <;> cases decide (127 < c) <;> rfl)
    rw [HB.out]
    clear hh
    generalize digitB c = dg at *
    have hcase : 97 ≤ (c : Int) ∧ ¬ (c : Int) ≤ 122 ∨ ¬ 97 ≤ (c : Int) := by omega
    clear h1
    rcases hcase with ⟨h1, h2⟩ | h1
    all_goals
      go_enter Try.func63, Try.ntmps63
      go_wp2_with fail
      refine (HD.out _).mono ?_
      rintro e w1 ⟨rfl, rfl⟩
      cases dg
      · by_cases h3 : c = 95
        · have h3' : ((c : Int) == 95) = true := by simp; omega
          have HV : Hid ((false || decide (c = 95) || decide (127 < c)) = true) := hidden (by rw [decide_eq_true h3]; rfl)
          clear h3
          go_wp2_with fail
          go_ret
          rw [HV.out]
          exact ⟨rfl, rfl⟩
        · have h3' : ((c : Int) == 95) = false := by simp; omega
          have HV : Hid ((false || decide (c = 95) || decide (127 < c)) = decide (127 < (c : Int))) := hidden (by
            rw [decide_eq_false h3]
            by_cases h4 : 127 < c
            · rw [decide_eq_true h4, decide_eq_true (by omega)]; rfl
            · rw [decide_eq_false h4, decide_eq_false (by omega)]; rfl)
          clear h3
          go_wp2_with fail
          go_ret
          rw [HV.out]
          exact ⟨rfl, rfl⟩
      · go_wp2_with fail
        go_ret
        exact ⟨rfl, rfl⟩

theorem offs_pos {u : List (Nat × Nat)} (h : ∀ x ∈ u, 1 ≤ x.2) {k : Nat} (hk : k ≤ u.length) : offs u k = 0 ↔ k = 0 := by
  cases k with
  | zero => simp
  | succ k =>
    cases u with
    | nil => simp at hk
    | cons x t =>
      have := h x (by simp)
      unfold offs
      simp
      omega

theorem at_zero {l : List UInt8} {p k : Nat} (h : At l p k) : p = 0 ↔ k = 0 := by
  rw [h.2.2.1]
  exact offs_pos (fun x hx => (V_vr _ l (Nat.le_refl _) x hx).2) h.2.2.2

theorem good_step {l : List UInt8} {p k : Nat} (h : At l p k) (hp : p < l.length) : goodFrom k ((V l).drop k) = (goodB k (unit (l.drop p)).1 && goodFrom (k + 1) ((V l).drop (k + 1))) := by
  have h1 := h.lt hp
  rw [h1, goodFrom_step, drop_succ h1]

theorem good_split (k c : Nat) : goodB k c = ((letterB c || digitB c) && !(decide (k = 0) && digitB c)) := by
  unfold goodB
  by_cases hk : k = 0
  · subst hk
    have h1 : digitB c = true → letterB c = false := by
      unfold digitB letterB
      simp
      omega
    cases hd : digitB c
    · simp
    · rw [h1 hd]; simp
  · have : 0 < k := by omega
    simp [hk, this]

set_option maxRecDepth 100000 in
set_option maxHeartbeats 2000000 in
theorem nameMayBe_any (s : ByteArray) (w : World) : Calls Try.prog 52 #[.string s] w fun e w' => e = .returned (.bool (named s)) ∧ Below w.heap.size w w' := by
  have hL := lb_size s
  by_cases h1 : s.size = 0
  · have HN : Hid (named s = false) := hidden (by unfold named; rw [decide_eq_false (by omega)]; rfl)
    rw [HN.out]
    have hs : s = ⟨#[]⟩ := by
      apply lb_inj
      exact List.eq_nil_of_length_eq_zero (hL.trans h1)
    subst hs
    clear hL h1
    go_enter Try.func52, Try.ntmps52
    go_wp2_with fail
    go_ret
    exact ⟨rfl, Below.refl _ _⟩
  · have hne : (s.toList == ([] : List UInt8)) = false := by
      cases h : (s.toList == ([] : List UInt8)) with
      | false => rfl
      | true =>
        exfalso
        rw [beq_iff_eq, ByteArray.toList_eq] at h
        have := congrArg List.length h
        have h3 : s.size = 0 := this
        omega
    have hne2 : s.toList.isEmpty = false := by
      cases h : s.toList with
      | nil => rw [h] at hne; simp at hne
      | cons => rfl
    by_cases h2 : (s.size : Int) > 16
    · have HN : Hid (named s = false) := hidden (by unfold named; rw [decide_eq_false (by omega)]; rfl)
      rw [HN.out]
      clear h1
      go_enter Try.func52, Try.ntmps52
      go_wp2_with fail
      go_ret
      exact ⟨rfl, Below.refl _ _⟩
    · have HN : Hid (named s = (clean (lb s) && goodFrom 0 (V (lb s)))) := hidden (by unfold named; rw [decide_eq_true (by omega)]; rfl)
      rw [HN.out]
      have HC := hidden (clean_any s (by omega))
      clear HN h1
      generalize clean (lb s) = cl at *
      go_enter Try.func52, Try.ntmps52
      go_wp2_with fail
      refine (HC.out _).mono ?_
      rintro e w1 ⟨rfl, hb1⟩
      have HB1 := hidden hb1
      clear hb1
      cases cl
      · go_wp2_with fail
        go_ret
        exact ⟨rfl, HB1.out⟩
      · go_wp2_with fail
        go_loopw [3, 4] (fun i r w' => ∃ p k : Nat, w' = w1.iter s p ∧ At (lb s) p k ∧ goodFrom 0 (V (lb s)) = goodFrom k ((V (lb s)).drop k)) (fun _ _ w' => s.size - w'.iterPos w1.heap.size)
        case atStart => exact ⟨0, 0, rfl, At.zero _, rfl⟩
        case round =>
          obtain ⟨p, k, rfl, hat, hgd⟩ := hrel
          by_cases hp : p < s.size
          · have hnx : ∀ ty, (Instr.next (.pointer (some ⟨w1.heap.size, 0, none⟩)) true ty).run Try.prog (w1.iter s p) = _ := fun ty => run_next_any w1 s p ty hp
            rw [decode_lb] at hnx
            have hw := unit_width _ (drop_ne (l := lb s) (p := p) (by omega))
            have HN := hidden (hat.next (by omega))
            have HG := hidden (hgd.trans (good_step hat (by omega)))
            have hz := at_zero hat
            clear hat hgd
            generalize (unit ((lb s).drop p)) = u at *
            obtain ⟨c, wd⟩ := u
            simp only at *
            have HS := hidden (good_split k c)
            have HO := hidden (ofNames_any c)
            have HD := hidden (isDigit_any c)
            have HW := hidden hw
            clear hw
            cases hlet : (letterB c || digitB c) with
            | false =>
              rw [hlet] at HO HS
              clear hz
              go_wp2_with fail
              refine (HO.out _).mono ?_
              rintro e w2 ⟨rfl, rfl⟩
              go_wp2_with fail
              go_ret
              refine ⟨?_, HB1.out.trans ((below_iter _ _ _).mono HB1.out.size)⟩
              rw [Bool.true_and, HG.out, HS.out]
              rfl
            | true =>
              rw [hlet] at HO HS
              by_cases hp0 : p = 0
              · obtain rfl : k = 0 := hz.1 hp0
                subst hp0
                clear hz
                cases hdg : digitB c with
                | false =>
                  rw [hdg] at HD HS
                  go_wp2_with fail
                  refine (HO.out _).mono ?_
                  rintro e w2 ⟨rfl, rfl⟩
                  go_wp2_with fail
                  refine (HD.out _).mono ?_
                  rintro e w2 ⟨rfl, rfl⟩
                  go_wp2_with fail
                  go_roundw
                  case rel => exact ⟨_, 1, rfl, by simpa using HN.out, by rw [HG.out, HS.out]; rfl⟩
                  case measure => have := HW.out; simp at this ⊢; omega
                | true =>
                  rw [hdg] at HD HS
                  go_wp2_with fail
                  refine (HO.out _).mono ?_
                  rintro e w2 ⟨rfl, rfl⟩
                  go_wp2_with fail
                  refine (HD.out _).mono ?_
                  rintro e w2 ⟨rfl, rfl⟩
                  go_wp2_with fail
                  go_ret
                  refine ⟨?_, HB1.out.trans ((below_iter _ _ _).mono HB1.out.size)⟩
                  rw [Bool.true_and, HG.out, HS.out]
                  rfl
              · have hk0 : ¬ k = 0 := fun h => hp0 (hz.2 h)
                have hpb : ((p : Int) == 0) = false := by simp [hp0]
                rw [decide_eq_false hk0] at HS
                clear hz hk0 hp0
                go_wp2_with fail
                refine (HO.out _).mono ?_
                rintro e w2 ⟨rfl, rfl⟩
                go_wp2_with fail
                go_roundw
                case rel => exact ⟨_, k + 1, rfl, HN.out, by rw [HG.out, HS.out]; rfl⟩
                case measure => have := HW.out; simp at this ⊢; omega
          · have hnx : ∀ ty, (Instr.next (.pointer (some ⟨w1.heap.size, 0, none⟩)) true ty).run Try.prog (w1.iter s p) = _ := fun ty => run_next_end w1 s p ty hp
            have HE : Hid (k = (V (lb s)).length ∧ p = (lb s).length) := hat.end (by omega)
            clear hat
            have HG := hidden hgd
            clear hgd
            go_wp2_with fail
            go_ret
            refine ⟨?_, HB1.out.trans ((below_iter _ _ _).mono HB1.out.size)⟩
            rw [Bool.true_and, HG.out, HE.out.1, List.drop_length]
            rfl
end Go.Proofs.Ytkohejjkpofmgaa
