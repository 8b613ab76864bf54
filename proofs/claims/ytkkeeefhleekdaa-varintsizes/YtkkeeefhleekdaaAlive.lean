/- Contracts: the document's GetInt, and the document's examples. -/
import Derived.Test.YtkkeeefhleekdaaRefGet
set_option linter.unusedVariables false
set_option linter.unusedSimpArgs false
namespace Go.Proofs.Ytkkeeefhleekdaa
open Go.RowKit Go.Lib

theorem refGet_any {w : World} {v : Value} {l : List UInt8} (h : Sl w v l) : Calls Try.prog 15 #[v] w fun e w' => e = tell .u64 ((getL l).1 : Int) (getL l).2.1 (getL l).2.2 ∧ Below w.heap.size w w' := by
  obtain ⟨a, cap, rfl, h1, h2, h3⟩ := h
  cases l with
  | nil => exact refGet_empty a cap w
  | cons x r =>
    obtain ⟨b, off, rfl, h4, h5⟩ := h3 (by simp)
    exact refGet_full b off cap (x :: r) w (by simp) h2 h1 h4 h5

set_option maxRecDepth 100000 in
theorem refGetInt_any {w : World} {v : Value} {l : List UInt8} (h : Sl w v l) : Calls Try.prog 17 #[v] w fun e w' => e = tell .i64 (unzig (getL l).1) (getL l).2.1 (getL l).2.2 ∧ Below w.heap.size w w' := by
  have HG := hidden (refGet_any h)
  obtain ⟨f1, f2, f3, f4⟩ := getL_form l
  clear h
  generalize getL l = x at *
  obtain ⟨n, u, c⟩ := x
  simp only at *
  unfold tell at *
  clear f2 f4
  go_enter Try.func17, Try.ntmps17
  go_wp2_with fail
  refine HG.out.mono ?_
  rintro e w1 ⟨rfl, hb⟩
  have HB := hidden hb
  clear hb
  by_cases hp : n % 2 = 0
  · have hb : ((n : Int) % 2 == 0) = true := by simp; omega
    have HU : Hid (unzig n = (n : Int) / 2) := by
      show unzig n = _
      unfold unzig
      rw [if_pos hp]
      omega
    clear hp
    go_wp2_with fail
    go_ret3
    rw [HU.out]
    exact ⟨rfl, HB.out⟩
  · have hb : ((n : Int) % 2 == 0) = false := by simp; omega
    have HU : Hid (unzig n = -((n : Int) / 2) - 1) := by
      show unzig n = _
      unfold unzig
      rw [if_neg hp]
      omega
    clear hp
    go_wp2_with fail
    go_ret3
    rw [HU.out]
    exact ⟨rfl, HB.out⟩

theorem uv300 : uvarint 300 = [172, 2] := by
  rw [uvarint_big (by omega), uvarint_small (by omega)]
  rfl

theorem uv1 : uvarint 1 = [1] := by
  rw [uvarint_small (by omega)]
  rfl

theorem own3 (w : World) : Sl (w.alloc (.cells #[.int .u8 172, .int .u8 2, .int .u8 9] 5)) (.slice (some ⟨w.heap.size, 0, none⟩) 3 3) [172, 2, 9] :=
  Sl.of_own (B := 0) (n := 3) (World.ownsRow_lit w #[.int .u8 172, .int .u8 2, .int .u8 9] 3 (Nat.zero_le _) (by unfold maxLen; omega) rfl)

set_option maxRecDepth 100000 in
theorem alive_any (w : World) : Calls Try.prog 9 #[] w fun e w' => e = .returned (.bool true) ∧ Below w.heap.size w w' := by
  have HG := hidden (get_any (own3 w))
  have hg : getL [172, 2, 9] = (300, 2, 0) := by decide
  rw [hg] at HG
  have HP := hidden (put_any 300 (by omega))
  have HI := hidden (putInt_any (-1) (by omega) (by omega))
  have hz : zigzag (-1) = 1 := by decide
  rw [hz, uv1] at HI
  rw [uv300] at HP
  clear hg hz
  unfold tell at HG
  go_enter Try.func9, Try.ntmps9
  go_wp2_with fail
  refine HG.out.mono ?_
  rintro e w1 ⟨rfl, rfl⟩
  go_wp2_with fail
  refine (HP.out _).mono ?_
  rintro e w2 ⟨⟨v, rfl, hown⟩, hb⟩
  have hcv := (Sl.of_own hown).conv (by decide)
  have HB := hidden (((Below.refl w.heap.size w).alloc (Nat.le_refl _) _).trans (hb.mono (by simp)))
  have hz := HB.out.size
  clear hown hb
  go_wp2_with fail
  refine (HI.out _).mono ?_
  rintro e w3 ⟨⟨v2, rfl, hown⟩, hb⟩
  have hcv2 := (Sl.of_own hown).conv (by decide)
  have HB2 := hidden (HB.out.trans (hb.mono hz))
  clear hown hb hcv
  go_wp2_with fail
  go_ret
  exact ⟨rfl, HB2.out⟩
end Go.Proofs.Ytkkeeefhleekdaa
