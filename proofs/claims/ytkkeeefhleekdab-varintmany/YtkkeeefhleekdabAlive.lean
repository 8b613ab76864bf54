/- Contracts: the document's GetInt, and the document's examples. -/
import Derived.Test.YtkkeeefhleekdabGets
set_option linter.unusedVariables false
set_option linter.unusedSimpArgs false
namespace Go.Proofs.Ytkkeeefhleekdab
open Go.RowKit Go.Lib

theorem uv300 : uvarint 300 = [172, 2] := by
  rw [uvarint_big (by omega), uvarint_small (by omega)]
  rfl

theorem uv1 : uvarint 1 = [1] := by
  rw [uvarint_small (by omega)]
  rfl

theorem own3 (w : World) : Sl (w.alloc (.cells #[.int .u8 172, .int .u8 2, .int .u8 9] 5)) (.slice (some ⟨w.heap.size, 0, none⟩) 3 3) [172, 2, 9] :=
  Sl.of_own (B := 0) (n := 3) (World.ownsRow_lit w #[.int .u8 172, .int .u8 2, .int .u8 9] 3 (Nat.zero_le _) (by unfold maxLen; omega) rfl)

set_option maxRecDepth 100000 in
theorem alive_any (w : World) : Calls Try.prog 4 #[] w fun e w' => e = .returned (.bool true) ∧ Below w.heap.size w w' := by
  have HG := hidden (get_any (own3 w))
  have hg : getL [172, 2, 9] = (300, 2, 0) := by decide
  rw [hg] at HG
  have HP := hidden (put_any 300 (by omega))
  have HI := hidden (putInt_any (-1) (by omega) (by omega))
  have hz : zigzag (-1) = 1 := by decide
  rw [hz, uv1] at HI
  rw [uv300] at HP
  clear hg hz
  unfold tell at HG
  go_enter Try.func4, Try.ntmps4
  go_wp2_with fail
  refine HG.out.mono ?_
  rintro e w1 ⟨rfl, rfl⟩
  go_wp2_with fail
  refine (HP.out _).mono ?_
  rintro e w2 ⟨⟨v, rfl, hown⟩, hb⟩
  have hcv := (Sl.of_own hown).conv (by decide)
  have HB := hidden (((Below.refl w.heap.size w).alloc (Nat.le_refl _) _).trans (hb.mono (by simp)))
  have hz := HB.out.size
  clear hown hb
  go_wp2_with fail
  refine (HI.out _).mono ?_
  rintro e w3 ⟨⟨v2, rfl, hown⟩, hb⟩
  have hcv2 := (Sl.of_own hown).conv (by decide)
  have HB2 := hidden (HB.out.trans (hb.mono hz))
  clear hown hb hcv
  go_wp2_with fail
  go_ret
  exact ⟨rfl, HB2.out⟩
end Go.Proofs.Ytkkeeefhleekdab
