/- Contracts: whether two lists are the same; the document's examples. -/
import Derived.Test.YtnlanilejhjkkaaRead
set_option linter.unusedVariables false
set_option linter.unusedSimpArgs false
namespace Go.Proofs.Ytnlanilejhjkkaa
open Go.RowKit Go.Lib

/-- A slice whose whole numbers are l. -/
def Si (W : World) (v : Value) (l : List Int) : Prop :=
  ∃ a cap, v = .slice a l.length cap ∧ l.length ≤ maxLen ∧
    (0 < l.length → ∃ b off, a = some ⟨b, off, none⟩ ∧ b < W.heap.size ∧ ∀ j (h : j < l.length), W.cell? ⟨b, off + j, none⟩ = some (.int .i64 l[j]))

theorem Sv.si {W : World} {v : Value} {l : List Int} (h : Sv W v (ivals l)) : Si W v l := by
  have hm := h.len
  obtain ⟨a, cap, rfl, h1, h2, h3, h4⟩ := h
  rw [ivals_length] at *
  refine ⟨a, cap, rfl, hm, fun h0 => ?_⟩
  obtain ⟨b, off, rfl, h5, h6⟩ := h4 h0
  exact ⟨b, off, rfl, h5, fun j hj => h6 j _ (ivals_get hj)⟩

set_option maxRecDepth 100000 in
set_option maxHeartbeats 2000000 in
theorem same_any {w : World} {v1 v2 : Value} {l m : List Int} (h1 : Si w v1 l) (h2 : Si w v2 m) :
    Calls Try.prog 16 #[v1, v2] w fun e w' => e = .returned (.bool (decide (l = m))) ∧ Below w.heap.size w w' := by
  obtain ⟨a, cap, rfl, hm, hc⟩ := h1
  obtain ⟨a2, cap2, rfl, hm2, hc2⟩ := h2
  have hma : l.length ≤ 9223372036854775807 := by unfold maxLen at hm; omega
  have hmb : m.length ≤ 9223372036854775807 := by unfold maxLen at hm2; omega
  have HC := hidden hc
  have HC2 := hidden hc2
  clear hc hm hc2 hm2
  by_cases hlen : ((l.length : Int) == (m.length : Int)) = true
  · have hl : l.length = m.length := by have : (l.length : Int) = m.length := by simpa using hlen
                                        omega
    have HL := hidden hl
    clear hl
    go_enter Try.func16, Try.ntmps16
    go_wp2_with fail
    go_loopw [5] (fun i w' => Below w.heap.size w w' ∧ ∃ k : Nat, k ≤ l.length ∧ i = .int .i64 (k : Int) ∧ l.take k = m.take k) (fun i _ => l.length - (intOf i).toNat)
    case atStart => exact ⟨Below.refl _ _, 0, by omega, rfl, by rw [List.take_zero, List.take_zero]⟩
    case round =>
      obtain ⟨hbw, k, hk, rfl, htk⟩ := hrel
      have HBW := hidden hbw
      have HTK := hidden htk
      clear hbw htk
      by_cases hlt : k < l.length
      · have hltm : k < m.length := by have := HL.out; omega
        obtain ⟨b, off, rfl, hb, hcell⟩ := HC.out (by omega)
        obtain ⟨b2, off2, rfl, hb2, hcell2⟩ := HC2.out (by omega)
        have hck := (HBW.out.cell (p := ⟨b, off + k, none⟩) hb).trans (hcell k hlt)
        have hck2 := (HBW.out.cell (p := ⟨b2, off2 + k, none⟩) hb2).trans (hcell2 k hltm)
        have HT1 := hidden (List.take_succ_eq_append_getElem hlt)
        have HT2 := hidden (List.take_succ_eq_append_getElem hltm)
        have HNE : Hid (l[k] ≠ m[k] → l ≠ m) := by
          show _ → _
          intro h e
          subst e
          exact h rfl
        clear hcell hcell2
        generalize l[k] = x at *
        generalize m[k] = y at *
        by_cases hxy : (x == y) = true
        · go_wp2_with fail
          go_quiet (fail)
          go_wp2_with fail
          go_roundw
          case rel =>
            have e : x = y := by simpa using hxy
            exact ⟨below_drewN HBW.out _, k + 1, by omega, by go_num, by rw [HT1.out, HT2.out, HTK.out, e]⟩
          case measure => simp [intOf]; omega
        · have hxyf : (x == y) = false := by simpa using hxy
          have HN : Hid (decide (l = m) = false) := by
            show decide (l = m) = false
            refine decide_eq_false (HNE.out (fun e => hxy ?_))
            subst e; simp
          clear hxy
          go_wp2_with fail
          go_quiet (fail)
          go_wp2_with fail
          go_ret
          rw [HN.out]
          exact ⟨rfl, below_drewN HBW.out _⟩
      · have HE : Hid (decide (l = m) = true) := by
          show decide (l = m) = true
          refine decide_eq_true ?_
          have h1 := HTK.out
          have h2 := HL.out
          rw [List.take_of_length_le (by omega), List.take_of_length_le (by omega)] at h1
          exact h1
        go_wp2_with fail
        go_ret
        rw [HE.out]
        exact ⟨rfl, HBW.out⟩
  · have hlenf : ((l.length : Int) == (m.length : Int)) = false := by simpa using hlen
    have HN : Hid (decide (l = m) = false) := by
      show decide (l = m) = false
      refine decide_eq_false (fun e => hlen ?_)
      rw [e]; simp
    clear hlen
    go_enter Try.func16, Try.ntmps16
    go_wp2_with fail
    go_ret
    rw [HN.out]
    exact ⟨rfl, Below.refl _ _⟩

theorem wv_small {x : Int} (h0 : 0 ≤ x) (h : x < 64) : wv x = [(2 * x).toNat] := by
  unfold wv
  have e : zigzag x = (2 * x).toNat := by
    unfold zigzag
    split <;> omega
  rw [e, uv_small (by omega)]

theorem wv_neg2 : wv (-2) = [3] := by
  unfold wv
  have e : zigzag (-2) = 3 := by unfold zigzag; decide
  rw [e, uv_small (by omega)]

theorem ex1 : encC 1 [5, 6, 4] = [10, 2, 3] := by
  show wv (w64 (5 - 0)) ++ (wv (w64 (6 - 5)) ++ (wv (w64 (4 - 6)) ++ [])) = _
  rw [show w64 (5 - 0) = 5 by decide, show w64 (6 - 5) = 1 by decide, show w64 (4 - 6) = -2 by decide, wv_small (by decide) (by decide), wv_small (by decide) (by decide), wv_neg2]
  rfl

theorem wd_101 : wd [1, 0, 1] = 1 := by
  have h1 : wd [1, 0, 1] ≤ 1 := wd_le.2 (by decide)
  have h2 : ¬ wd [1, 0, 1] ≤ 0 := fun h => by
    have := wd_le.1 h 1 (by decide)
    omega
  omega

theorem wd_010 : wd [0, 1, 0] = 1 := by
  have h1 : wd [0, 1, 0] ≤ 1 := wd_le.2 (by decide)
  have h2 : ¬ wd [0, 1, 0] ≤ 0 := fun h => by
    have := wd_le.1 h 1 (by decide)
    omega
  omega

theorem wd_000 : wd [0, 0, 0] = 0 := by
  have h1 : wd [0, 0, 0] ≤ 0 := wd_le.2 (by decide)
  omega

theorem packR_small {l : List Nat} {w : Nat} (hl : l.length ≤ 256) (hw : w ≤ 64) (h : wd l ≤ w) : packR l (w : Int) = dig 8 (by8 (l.length * w)) (pk w l) := by
  unfold packR
  rw [if_pos (can_of hl hw h), Int.toNat_natCast]

theorem ex3 : encC 3 [9, 2, 9] = [2, 4, 7, 5] := by
  show uv (uniq [9, 2, 9]).length ++ (encU (uniq [9, 2, 9]) ++ packR (places [9, 2, 9]) (wd (places [9, 2, 9]) : Int)) = _
  have hu : uniq [9, 2, 9] = [2, 9] := by decide
  have hp : places [9, 2, 9] = [1, 0, 1] := by decide
  rw [hu, hp, wd_101, packR_small (by decide) (by decide) (by rw [wd_101]; decide)]
  show uv 2 ++ ((wv 2 ++ (uv 7 ++ [])) ++ _) = _
  rw [uv_small (by decide), uv_small (by decide), wv_small (by decide) (by decide)]
  decide

theorem ex4 : encC 4 [8, 9, 8] = [16, 1, 2] := by
  show enc4 [8, 9, 8] = _
  rw [mores_cases (by decide)]
  have hm : mores [8, 9, 8] = [0, 1, 0] := by decide
  have hl : least [8, 9, 8] = 8 := by decide
  rw [hm, hl, wd_010, packR_small (by decide) (by decide) (by rw [wd_010]; decide), uv_small (by decide), wv_small (by decide) (by decide)]
  decide

theorem ex7_0 : encC 0 [7, 7, 7] = [14, 14, 14] := by
  show wv 7 ++ (wv 7 ++ (wv 7 ++ [])) = _
  rw [wv_small (by decide) (by decide)]
  rfl
theorem ex7_1 : encC 1 [7, 7, 7] = [14, 0, 0] := by
  show wv (w64 (7 - 0)) ++ (wv (w64 (7 - 7)) ++ (wv (w64 (7 - 7)) ++ [])) = _
  rw [show w64 (7 - 0) = 7 by decide, show w64 (7 - 7) = 0 by decide, wv_small (by decide) (by decide), wv_small (by decide) (by decide)]
  rfl
theorem ex7_2 : encC 2 [7, 7, 7] = [14, 3] := by
  show enc2 [7, 7, 7] = _
  rw [enc2_run (by decide)]
  show wv 7 ++ uv 3 ++ [] = _
  rw [wv_small (by decide) (by decide), uv_small (by decide)]
  rfl
theorem ex7_3 : encC 3 [7, 7, 7] = [1, 14] := by
  show uv (uniq [7, 7, 7]).length ++ (encU (uniq [7, 7, 7]) ++ packR (places [7, 7, 7]) (wd (places [7, 7, 7]) : Int)) = _
  have hu : uniq [7, 7, 7] = [7] := by decide
  have hp : places [7, 7, 7] = [0, 0, 0] := by decide
  rw [hu, hp, wd_000, packR_small (by decide) (by decide) (by rw [wd_000]; decide)]
  show uv 1 ++ ((wv 7 ++ []) ++ _) = _
  rw [uv_small (by decide), wv_small (by decide) (by decide)]
  decide
theorem ex7_4 : encC 4 [7, 7, 7] = [14, 0] := by
  show enc4 [7, 7, 7] = _
  rw [mores_cases (by decide)]
  have hm : mores [7, 7, 7] = [0, 0, 0] := by decide
  have hl : least [7, 7, 7] = 7 := by decide
  rw [hm, hl, wd_000, packR_small (by decide) (by decide) (by rw [wd_000]; decide), uv_small (by decide), wv_small (by decide) (by decide)]
  decide

theorem ex7 : bestM [7, 7, 7] = [2, 14, 3] := by
  unfold bestM
  rw [if_pos (by decide)]
  simp [bestUp, ex7_0, ex7_1, ex7_2, ex7_3, ex7_4]

theorem is_small {l : List Int} (h : ∀ x ∈ l, 0 ≤ x ∧ x ≤ 100) : Is l := fun x hx => by
  have := h x hx
  unfold I64
  omega

theorem exRead : readM [2, 14, 3] 3 = ([7, 7, 7], 0) := by
  have := readM_back (c := 2) (by decide) (l := [7, 7, 7]) (is_small (by decide)) (by decide)
  rw [ex7_2] at this
  exact this
end Go.Proofs.Ytnlanilejhjkkaa
