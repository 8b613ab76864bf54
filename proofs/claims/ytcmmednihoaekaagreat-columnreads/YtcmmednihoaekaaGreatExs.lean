/- The document's examples of layer 6, as mathematics. -/
import Derived.Test.YtcmmednihoaekaaGreatLwB
import Derived.Test.YtcmmednihoaekaaGreatSame
set_option linter.unusedVariables false
set_option linter.unusedSimpArgs false
namespace Go.Proofs.YtcmmednihoaekaaGreat
open Go.Lib

theorem wd_00 : wd [0, 0] = 0 := by
  have h1 : wd [0, 0] ≤ 0 := wd_le.2 (by decide)
  omega
theorem wd_0 : wd [0] = 0 := by
  have h1 : wd [0] ≤ 0 := wd_le.2 (by decide)
  omega
theorem wd_10 : wd [1, 0] ≤ 1 := wd_le.2 (by decide)

theorem exp7_0 : encC 0 [7, 7] = [14, 14] := by
  show wv 7 ++ (wv 7 ++ []) = _
  rw [wv_small (by decide) (by decide)]
  rfl
theorem exp7_1 : encC 1 [7, 7] = [14, 0] := by
  show wv (w64 (7 - 0)) ++ (wv (w64 (7 - 7)) ++ []) = _
  rw [show w64 (7 - 0) = 7 by decide, show w64 (7 - 7) = 0 by decide, wv_small (by decide) (by decide), wv_small (by decide) (by decide)]
  rfl
theorem exp7_2 : encC 2 [7, 7] = [14, 2] := by
  show enc2 [7, 7] = _
  rw [enc2_run (by decide)]
  show wv 7 ++ uv 2 ++ [] = _
  rw [wv_small (by decide) (by decide), uv_small (by decide)]
  rfl
theorem exp7_3 : encC 3 [7, 7] = [1, 14] := by
  show uv (uniq [7, 7]).length ++ (encU (uniq [7, 7]) ++ packR (places [7, 7]) (wd (places [7, 7]) : Int)) = _
  have hu : uniq [7, 7] = [7] := by decide
  have hp : places [7, 7] = [0, 0] := by decide
  rw [hu, hp, wd_00, packR_small (by decide) (by decide) (by rw [wd_00]; decide)]
  show uv 1 ++ ((wv 7 ++ []) ++ _) = _
  rw [uv_small (by decide), wv_small (by decide) (by decide)]
  decide
theorem exp7_4 : encC 4 [7, 7] = [14, 0] := by
  show enc4 [7, 7] = _
  rw [mores_cases (by decide)]
  have hm : mores [7, 7] = [0, 0] := by decide
  have hl : least [7, 7] = 7 := by decide
  rw [hm, hl, wd_00, packR_small (by decide) (by decide) (by rw [wd_00]; decide), uv_small (by decide), wv_small (by decide) (by decide)]
  decide
theorem exp7 : bstC [7, 7] = [0, 14, 14] := by
  unfold bstC
  simp [bestUp, exp7_0, exp7_1, exp7_2, exp7_3, exp7_4]

theorem exp1_0 : encC 0 [1, 1] = [2, 2] := by
  show wv 1 ++ (wv 1 ++ []) = _
  rw [wv_small (by decide) (by decide)]
  rfl
theorem exp1_1 : encC 1 [1, 1] = [2, 0] := by
  show wv (w64 (1 - 0)) ++ (wv (w64 (1 - 1)) ++ []) = _
  rw [show w64 (1 - 0) = 1 by decide, show w64 (1 - 1) = 0 by decide, wv_small (by decide) (by decide), wv_small (by decide) (by decide)]
  rfl
theorem exp1_2 : encC 2 [1, 1] = [2, 2] := by
  show enc2 [1, 1] = _
  rw [enc2_run (by decide)]
  show wv 1 ++ uv 2 ++ [] = _
  rw [wv_small (by decide) (by decide), uv_small (by decide)]
  rfl
theorem exp1_3 : encC 3 [1, 1] = [1, 2] := by
  show uv (uniq [1, 1]).length ++ (encU (uniq [1, 1]) ++ packR (places [1, 1]) (wd (places [1, 1]) : Int)) = _
  have hu : uniq [1, 1] = [1] := by decide
  have hp : places [1, 1] = [0, 0] := by decide
  rw [hu, hp, wd_00, packR_small (by decide) (by decide) (by rw [wd_00]; decide)]
  show uv 1 ++ ((wv 1 ++ []) ++ _) = _
  rw [uv_small (by decide), wv_small (by decide) (by decide)]
  decide
theorem exp1_4 : encC 4 [1, 1] = [2, 0] := by
  show enc4 [1, 1] = _
  rw [mores_cases (by decide)]
  have hm : mores [1, 1] = [0, 0] := by decide
  have hl : least [1, 1] = 1 := by decide
  rw [hm, hl, wd_00, packR_small (by decide) (by decide) (by rw [wd_00]; decide), uv_small (by decide), wv_small (by decide) (by decide)]
  decide
theorem exp1 : bstC [1, 1] = [0, 2, 2] := by
  unfold bstC
  simp [bestUp, exp1_0, exp1_1, exp1_2, exp1_3, exp1_4]

theorem exp0_0 : encC 0 [0, 0] = [0, 0] := by
  show wv 0 ++ (wv 0 ++ []) = _
  rw [wv_small (by decide) (by decide)]
  rfl
theorem exp0_1 : encC 1 [0, 0] = [0, 0] := by
  show wv (w64 (0 - 0)) ++ (wv (w64 (0 - 0)) ++ []) = _
  rw [show w64 (0 - 0) = 0 by decide, wv_small (by decide) (by decide)]
  rfl
theorem exp0_2 : encC 2 [0, 0] = [0, 2] := by
  show enc2 [0, 0] = _
  rw [enc2_run (by decide)]
  show wv 0 ++ uv 2 ++ [] = _
  rw [wv_small (by decide) (by decide), uv_small (by decide)]
  rfl
theorem exp0_3 : encC 3 [0, 0] = [1, 0] := by
  show uv (uniq [0, 0]).length ++ (encU (uniq [0, 0]) ++ packR (places [0, 0]) (wd (places [0, 0]) : Int)) = _
  have hu : uniq [0, 0] = [0] := by decide
  have hp : places [0, 0] = [0, 0] := by decide
  rw [hu, hp, wd_00, packR_small (by decide) (by decide) (by rw [wd_00]; decide)]
  show uv 1 ++ ((wv 0 ++ []) ++ _) = _
  rw [uv_small (by decide), wv_small (by decide) (by decide)]
  decide
theorem exp0_4 : encC 4 [0, 0] = [0, 0] := by
  show enc4 [0, 0] = _
  rw [mores_cases (by decide)]
  have hm : mores [0, 0] = [0, 0] := by decide
  have hl : least [0, 0] = 0 := by decide
  rw [hm, hl, wd_00, packR_small (by decide) (by decide) (by rw [wd_00]; decide), uv_small (by decide), wv_small (by decide) (by decide)]
  decide
theorem exp0 : bstC [0, 0] = [0, 0, 0] := by
  unfold bstC
  simp [bestUp, exp0_0, exp0_1, exp0_2, exp0_3, exp0_4]

theorem exo_0 : encC 0 [1] = [2] := by
  show wv 1 ++ [] = _
  rw [wv_small (by decide) (by decide)]
  rfl
theorem exo_1 : encC 1 [1] = [2] := by
  show wv (w64 (1 - 0)) ++ [] = _
  rw [show w64 (1 - 0) = 1 by decide, wv_small (by decide) (by decide)]
  rfl
theorem exo_2 : encC 2 [1] = [2, 1] := by
  show enc2 [1] = _
  rw [enc2_run (by decide)]
  show wv 1 ++ uv 1 ++ [] = _
  rw [wv_small (by decide) (by decide), uv_small (by decide)]
  rfl
theorem exo_3 : encC 3 [1] = [1, 2] := by
  show uv (uniq [1]).length ++ (encU (uniq [1]) ++ packR (places [1]) (wd (places [1]) : Int)) = _
  have hu : uniq [1] = [1] := by decide
  have hp : places [1] = [0] := by decide
  rw [hu, hp, wd_0, packR_small (by decide) (by decide) (by rw [wd_0]; decide)]
  show uv 1 ++ ((wv 1 ++ []) ++ _) = _
  rw [uv_small (by decide), wv_small (by decide) (by decide)]
  decide
theorem exo_4 : encC 4 [1] = [2, 0] := by
  show enc4 [1] = _
  rw [mores_cases (by decide)]
  have hm : mores [1] = [0] := by decide
  have hl : least [1] = 1 := by decide
  rw [hm, hl, wd_0, packR_small (by decide) (by decide) (by rw [wd_0]; decide), uv_small (by decide), wv_small (by decide) (by decide)]
  decide
theorem exo : bstC [1] = [0, 2] := by
  unfold bstC
  simp [bestUp, exo_0, exo_1, exo_2, exo_3, exo_4]

def cA : List (Nat × Int × List Nat) := [(1, 7, []), (0, 0, []), (1, 7, [])]
def cB : List (Nat × Int × List Nat) := [(2, 1, []), (2, 0, [])]
def cC : List (Nat × Int × List Nat) := [(3, 0, [97]), (3, 0, [97])]

theorem colA : Col 1 cA := ⟨by omega, by decide, fun c hc => by
  unfold cA at hc
  simp only [List.mem_cons, List.not_mem_nil, or_false] at hc
  rcases hc with rfl | rfl | rfl
  · exact Or.inr (Or.inl ⟨rfl, 7, rfl, by unfold I64; omega⟩)
  · exact Or.inl rfl
  · exact Or.inr (Or.inl ⟨rfl, 7, rfl, by unfold I64; omega⟩)⟩
theorem colB : Col 2 cB := ⟨by omega, by decide, fun c hc => by
  unfold cB at hc
  simp only [List.mem_cons, List.not_mem_nil, or_false] at hc
  rcases hc with rfl | rfl
  · exact Or.inr (Or.inr (Or.inl ⟨rfl, 1, rfl, by omega⟩))
  · exact Or.inr (Or.inr (Or.inl ⟨rfl, 0, rfl, by omega⟩))⟩
theorem colC : Col 3 cC := ⟨by omega, by decide, fun c hc => by
  unfold cC at hc
  simp only [List.mem_cons, List.not_mem_nil, or_false] at hc
  rcases hc with rfl | rfl
  · exact Or.inr (Or.inr (Or.inr ⟨rfl, [97], rfl, by decide, by unfold Bs; decide⟩))
  · exact Or.inr (Or.inr (Or.inr ⟨rfl, [97], rfl, by decide, by unfold Bs; decide⟩))⟩

theorem pack101 : packR [1, 0, 1] 1 = [5] := by
  have := packR_small (l := [1, 0, 1]) (w := 1) (by decide) (by decide) (by rw [wd_101]; decide)
  rw [show ((1 : Nat) : Int) = 1 from rfl] at this
  rw [this]
  decide
theorem pack10 : packR [1, 0] 1 = [1] := by
  have := packR_small (l := [1, 0]) (w := 1) (by decide) (by decide) wd_10
  rw [show ((1 : Nat) : Int) = 1 from rfl] at this
  rw [this]
  decide

theorem wrA : colM 1 cA = [1, 5, 0, 14, 14] := by
  have h1 : headB cA = [1, 5] := by
    unfold headB
    rw [if_pos (by decide), show there cA = [1, 0, 1] from by decide, pack101]
  have h2 : tailB 1 cA = [0, 14, 14] := by
    rw [tail_1, show (ownC cA).map (fun c => c.2.1) = [7, 7] from by decide]
    exact exp7
  unfold colM
  rw [h1, h2]
  rfl
theorem wrB : colM 2 cB = [0, 1] := by
  have h1 : headB cB = [0] := by
    unfold headB
    rw [if_neg (by decide)]
  have h2 : tailB 2 cB = [1] := by
    rw [tail_2, show (ownC cB).map (fun c => c.2.1.toNat) = [1, 0] from by decide]
    exact pack10
  unfold colM
  rw [h1, h2]
  rfl
theorem cnt11 : cnt [1, 1] = [3, 0, 2, 2] := by
  unfold cnt
  rw [exp1]
  show uv 3 ++ _ = _
  rw [uv_small (by decide)]
  rfl
theorem cnt1 : cnt [1] = [2, 0, 2] := by
  unfold cnt
  rw [exo]
  show uv 2 ++ _ = _
  rw [uv_small (by decide)]
  rfl
theorem wrC : colM 3 cC = [0, 0, 3, 0, 2, 2, 97, 97] := by
  have h1 : headB cC = [0] := by
    unfold headB
    rw [if_neg (by decide)]
  have hp : plain [[97], [97]] = [0, 3, 0, 2, 2, 97, 97] := by
    unfold plain txts
    rw [show sizes [[97], [97]] = [1, 1] from by decide, cnt11]
    rfl
  have hq : listed [[97], [97]] = [1, 1, 2, 0, 2, 97, 0, 0, 0] := by
    unfold listed txts
    rw [show tuq [[97], [97]] = [[97]] from by decide, show placesT [[97], [97]] = [0, 0] from by decide, show sizes [[97]] = [1] from by decide, cnt1, exp0]
    show 1 :: (uv 1 ++ _) = _
    rw [uv_small (by decide)]
    rfl
  have h2 : tailB 3 cC = [0, 3, 0, 2, 2, 97, 97] := by
    rw [tail_3, show (ownC cC).map (fun c => c.2.2) = [[97], [97]] from by decide]
    unfold wordsB
    rw [hp, hq]
    rfl
  unfold colM
  rw [h1, h2]
  rfl

theorem rdC2 : readC 3 [0, 0, 3, 0, 2, 2, 97, 97] 2 = some cC := by
  have := readC_back colC
  rw [wrC] at this
  exact this
end Go.Proofs.YtcmmednihoaekaaGreat
