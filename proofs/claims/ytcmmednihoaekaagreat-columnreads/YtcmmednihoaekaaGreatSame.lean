/- Contracts: whether two lists are the same; the document's examples. -/
import Derived.Test.YtcmmednihoaekaaGreatRead
set_option linter.unusedVariables false
set_option linter.unusedSimpArgs false
namespace Go.Proofs.YtcmmednihoaekaaGreat
open Go.RowKit Go.Lib

theorem wv_small {x : Int} (h0 : 0 ≤ x) (h : x < 64) : wv x = [(2 * x).toNat] := by
  unfold wv
  have e : zigzag x = (2 * x).toNat := by
    unfold zigzag
    split <;> omega
  rw [e, uv_small (by omega)]

theorem wv_neg2 : wv (-2) = [3] := by
  unfold wv
  have e : zigzag (-2) = 3 := by unfold zigzag; decide
  rw [e, uv_small (by omega)]

theorem ex1 : encC 1 [5, 6, 4] = [10, 2, 3] := by
  show wv (w64 (5 - 0)) ++ (wv (w64 (6 - 5)) ++ (wv (w64 (4 - 6)) ++ [])) = _
  rw [show w64 (5 - 0) = 5 by decide, show w64 (6 - 5) = 1 by decide, show w64 (4 - 6) = -2 by decide, wv_small (by decide) (by decide), wv_small (by decide) (by decide), wv_neg2]
  rfl

theorem wd_101 : wd [1, 0, 1] = 1 := by
  have h1 : wd [1, 0, 1] ≤ 1 := wd_le.2 (by decide)
  have h2 : ¬ wd [1, 0, 1] ≤ 0 := fun h => by
    have := wd_le.1 h 1 (by decide)
    omega
  omega

theorem wd_010 : wd [0, 1, 0] = 1 := by
  have h1 : wd [0, 1, 0] ≤ 1 := wd_le.2 (by decide)
  have h2 : ¬ wd [0, 1, 0] ≤ 0 := fun h => by
    have := wd_le.1 h 1 (by decide)
    omega
  omega

theorem wd_000 : wd [0, 0, 0] = 0 := by
  have h1 : wd [0, 0, 0] ≤ 0 := wd_le.2 (by decide)
  omega

theorem packR_small {l : List Nat} {w : Nat} (hl : l.length ≤ 256) (hw : w ≤ 64) (h : wd l ≤ w) : packR l (w : Int) = dig 8 (by8 (l.length * w)) (pk w l) := by
  unfold packR
  rw [if_pos (can_of hl hw h), Int.toNat_natCast]

theorem ex3 : encC 3 [9, 2, 9] = [2, 4, 7, 5] := by
  show uv (uniq [9, 2, 9]).length ++ (encU (uniq [9, 2, 9]) ++ packR (places [9, 2, 9]) (wd (places [9, 2, 9]) : Int)) = _
  have hu : uniq [9, 2, 9] = [2, 9] := by decide
  have hp : places [9, 2, 9] = [1, 0, 1] := by decide
  rw [hu, hp, wd_101, packR_small (by decide) (by decide) (by rw [wd_101]; decide)]
  show uv 2 ++ ((wv 2 ++ (uv 7 ++ [])) ++ _) = _
  rw [uv_small (by decide), uv_small (by decide), wv_small (by decide) (by decide)]
  decide

theorem ex4 : encC 4 [8, 9, 8] = [16, 1, 2] := by
  show enc4 [8, 9, 8] = _
  rw [mores_cases (by decide)]
  have hm : mores [8, 9, 8] = [0, 1, 0] := by decide
  have hl : least [8, 9, 8] = 8 := by decide
  rw [hm, hl, wd_010, packR_small (by decide) (by decide) (by rw [wd_010]; decide), uv_small (by decide), wv_small (by decide) (by decide)]
  decide

theorem ex7_0 : encC 0 [7, 7, 7] = [14, 14, 14] := by
  show wv 7 ++ (wv 7 ++ (wv 7 ++ [])) = _
  rw [wv_small (by decide) (by decide)]
  rfl
theorem ex7_1 : encC 1 [7, 7, 7] = [14, 0, 0] := by
  show wv (w64 (7 - 0)) ++ (wv (w64 (7 - 7)) ++ (wv (w64 (7 - 7)) ++ [])) = _
  rw [show w64 (7 - 0) = 7 by decide, show w64 (7 - 7) = 0 by decide, wv_small (by decide) (by decide), wv_small (by decide) (by decide)]
  rfl
theorem ex7_2 : encC 2 [7, 7, 7] = [14, 3] := by
  show enc2 [7, 7, 7] = _
  rw [enc2_run (by decide)]
  show wv 7 ++ uv 3 ++ [] = _
  rw [wv_small (by decide) (by decide), uv_small (by decide)]
  rfl
theorem ex7_3 : encC 3 [7, 7, 7] = [1, 14] := by
  show uv (uniq [7, 7, 7]).length ++ (encU (uniq [7, 7, 7]) ++ packR (places [7, 7, 7]) (wd (places [7, 7, 7]) : Int)) = _
  have hu : uniq [7, 7, 7] = [7] := by decide
  have hp : places [7, 7, 7] = [0, 0, 0] := by decide
  rw [hu, hp, wd_000, packR_small (by decide) (by decide) (by rw [wd_000]; decide)]
  show uv 1 ++ ((wv 7 ++ []) ++ _) = _
  rw [uv_small (by decide), wv_small (by decide) (by decide)]
  decide
theorem ex7_4 : encC 4 [7, 7, 7] = [14, 0] := by
  show enc4 [7, 7, 7] = _
  rw [mores_cases (by decide)]
  have hm : mores [7, 7, 7] = [0, 0, 0] := by decide
  have hl : least [7, 7, 7] = 7 := by decide
  rw [hm, hl, wd_000, packR_small (by decide) (by decide) (by rw [wd_000]; decide), uv_small (by decide), wv_small (by decide) (by decide)]
  decide

theorem ex7 : bestM [7, 7, 7] = [2, 14, 3] := by
  unfold bestM
  rw [if_pos (by decide)]
  simp [bestUp, ex7_0, ex7_1, ex7_2, ex7_3, ex7_4]

theorem is_small {l : List Int} (h : ∀ x ∈ l, 0 ≤ x ∧ x ≤ 100) : Is l := fun x hx => by
  have := h x hx
  unfold I64
  omega

theorem exRead : readM [2, 14, 3] 3 = ([7, 7, 7], 0) := by
  have := readM_back (c := 2) (by decide) (l := [7, 7, 7]) (is_small (by decide)) (by decide)
  rw [ex7_2] at this
  exact this
end Go.Proofs.YtcmmednihoaekaaGreat
