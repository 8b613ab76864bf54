/- The law's alive: the document's examples. -/
import Derived.Test.YtcmmednihoaekaaGreatExs
set_option linter.unusedVariables false
set_option linter.unusedSimpArgs false
namespace Go.Proofs.YtcmmednihoaekaaGreat
open Go.RowKit Go.Lib

theorem litV (w : World) (l : List (Nat × Int × List Nat)) (hl : l.length ≤ 256) : OwnV (w.alloc (.cells (vvals l).toArray 47)) w.heap.size (.slice (some ⟨w.heap.size, 0, none⟩) l.length l.length) l :=
  World.ownsRow_lit w (vvals l).toArray l.length (Nat.le_refl _) (by unfold maxLen; omega) (by simp [vvals_length])

theorem litA (w : World) : OwnV (w.alloc (.cells #[.iface 2 (.int .i64 7), .nilIface, .iface 2 (.int .i64 7)] 47)) w.heap.size (.slice (some ⟨w.heap.size, 0, none⟩) 3 3) cA := litV w cA (by decide)
theorem litB (w : World) : OwnV (w.alloc (.cells #[.iface 4 (.bool true), .iface 4 (.bool false)] 47)) w.heap.size (.slice (some ⟨w.heap.size, 0, none⟩) 2 2) cB := litV w cB (by decide)
theorem litC (w : World) : OwnV (w.alloc (.cells #[.iface 9 (.string ⟨#[97]⟩), .iface 9 (.string ⟨#[97]⟩)] 47)) w.heap.size (.slice (some ⟨w.heap.size, 0, none⟩) 2 2) cC := litV w cC (by decide)

theorem writeA (W : World) : Calls Tryz.prog 10 #[.int .u8 1, .slice (some ⟨W.heap.size, 0, none⟩) 3 3] (W.alloc (.cells #[.iface 2 (.int .i64 7), .nilIface, .iface 2 (.int .i64 7)] 47)) (WritePost ([1, 5, 0, 14, 14], 0) (W.alloc (.cells #[.iface 2 (.int .i64 7), .nilIface, .iface 2 (.int .i64 7)] 47))) := by
  have := write_any (OwnV.sv (litA W)) (own_low_block (litA W)) (fun c hc => (colA.2.2 c hc).fine) 1
  rw [writeC_col colA, wrA] at this
  exact this
theorem writeB (W : World) : Calls Tryz.prog 10 #[.int .u8 2, .slice (some ⟨W.heap.size, 0, none⟩) 2 2] (W.alloc (.cells #[.iface 4 (.bool true), .iface 4 (.bool false)] 47)) (WritePost ([0, 1], 0) (W.alloc (.cells #[.iface 4 (.bool true), .iface 4 (.bool false)] 47))) := by
  have := write_any (OwnV.sv (litB W)) (own_low_block (litB W)) (fun c hc => (colB.2.2 c hc).fine) 2
  rw [writeC_col colB, wrB] at this
  exact this
theorem writeCC (W : World) : Calls Tryz.prog 10 #[.int .u8 3, .slice (some ⟨W.heap.size, 0, none⟩) 2 2] (W.alloc (.cells #[.iface 9 (.string ⟨#[97]⟩), .iface 9 (.string ⟨#[97]⟩)] 47)) (WritePost ([0, 0, 3, 0, 2, 2, 97, 97], 0) (W.alloc (.cells #[.iface 9 (.string ⟨#[97]⟩), .iface 9 (.string ⟨#[97]⟩)] 47))) := by
  have := write_any (OwnV.sv (litC W)) (own_low_block (litC W)) (fun c hc => (colC.2.2 c hc).fine) 3
  rw [writeC_col colC, wrC] at this
  exact this

theorem bs_small {l : List Nat} (h : ∀ x ∈ l, x < 256) : Bs l := h

theorem readCC {W : World} {v : Value} (h : Sv W v (vals .u8 [0, 0, 3, 0, 2, 2, 97, 97])) : Calls Tryz.prog 14 #[.int .u8 3, v, .int .i64 2] W fun e w' => (∃ v', e = .returned (.tuple #[v', .int .i64 0]) ∧ OwnV w' W.heap.size v' cC) ∧ Below W.heap.size W w' := by
  refine (cread_any h (by unfold Bs; decide) 3 2).mono ?_
  rintro e w' ⟨v', l, er, rfl, ho, ht, hb⟩
  unfold Told6 at ht
  rw [if_pos (by omega), if_pos (by omega), show (2 : Int).toNat = 2 from rfl, rdC2] at ht
  rcases ht with ⟨rfl, h2⟩ | ⟨_, _, _, h2⟩
  · cases h2
    exact ⟨⟨v', rfl, ho⟩, hb⟩
  · cases h2

theorem cell97 (W : World) : Calls Tryz.prog 19 #[.iface 9 (.string ⟨#[97]⟩)] W fun e w' => e = .returned (.agg #[.int .u8 3, .int .i64 0, .string ⟨#[97]⟩]) ∧ Below W.heap.size W w' :=
  cellC_any (c := (3, 0, [97])) (Or.inr (Or.inr (Or.inr ⟨[97], rfl, by decide, by unfold Bs; decide⟩))) W

theorem below_then {a w w2 : World} (h : Below a.heap.size a w) (h2 : Below w.heap.size w w2) : Below a.heap.size a w2 := h.trans (h2.mono h.size)

set_option maxRecDepth 100000 in
set_option maxHeartbeats 4000000 in
theorem alive_any (w : World) : Calls Tryz.prog 9 #[] w fun e w' => e = .returned (.bool true) ∧ Below w.heap.size w w' := by
  have HA := hidden writeA
  have HB := hidden writeB
  have HC := hidden writeCC
  have HD := hidden (fun (W : World) (v : Value) (h : Sv W v (vals .u8 [0, 0, 3, 0, 2, 2, 97, 97])) => readCC h)
  have HE := hidden cell97
  unfold WritePost at HA HB HC
  go_enter Tryz.func9, Tryz.ntmps9
  go_wp2_with fail
  refine (HA.out _).mono ?_
  rintro e w1 ⟨⟨v1, rfl, o1⟩, hb1⟩
  have HS1 := hidden o1.sv
  have HB1 := hidden (below_then (below_one w _) hb1)
  clear o1 hb1
  go_wp2_with fail
  refine (HB.out _).mono ?_
  rintro e w2 ⟨⟨v2, rfl, o2⟩, hb2⟩
  have hab2 := below_then (below_one w1 _) hb2
  have HS1b := hidden (HS1.out.kept hab2)
  have HS2 := hidden o2.sv
  have HB2 := hidden (below_then HB1.out hab2)
  clear o2 hb2 hab2 HS1 HB1
  go_wp2_with fail
  refine (HC.out _).mono ?_
  rintro e w3 ⟨⟨v3, rfl, o3⟩, hb3⟩
  have hab3 := below_then (below_one w2 _) hb3
  have HS1c := hidden (HS1b.out.kept hab3)
  have HS2c := hidden (HS2.out.kept hab3)
  have HS3 := hidden o3.sv
  have HB3 := hidden (below_then HB2.out hab3)
  clear o3 hb3 hab3 HS1b HS2 HB2
  go_wp2_with fail
  refine (HD.out _ _ HS3.out).mono ?_
  rintro e w4 ⟨⟨v4, rfl, o4⟩, hb4⟩
  have hcv1 := (HS1c.out.kept hb4).conv (by unfold Bs; decide)
  have hcv2 := (HS2c.out.kept hb4).conv (by unfold Bs; decide)
  have hcv3 := (HS3.out.kept hb4).conv (by unfold Bs; decide)
  have HB4 := hidden (below_then HB3.out hb4)
  obtain ⟨a4, c4, rfl, hc4, hm4⟩ := own_slice o4
  have hm4' : c4 ≤ 9223372036854775807 := by unfold maxLen at hm4; omega
  obtain ⟨g4, off4, rfl, hg4, hcell⟩ := (OwnV.sv o4).at1 (k := 1) (x := .iface 9 (.string ⟨#[97]⟩)) rfl
  have e1 : txt [1, 5, 0, 14, 14] = .string ⟨#[1, 5, 0, 14, 14]⟩ := rfl
  have e2 : txt [0, 1] = .string ⟨#[0, 1]⟩ := rfl
  have e3 : txt [0, 0, 3, 0, 2, 2, 97, 97] = .string ⟨#[0, 0, 3, 0, 2, 2, 97, 97]⟩ := rfl
  rw [e1] at hcv1
  rw [e2] at hcv2
  rw [e3] at hcv3
  rw [show cC.length = 2 from rfl] at *
  clear o4 hb4 hm4 e1 e2 e3
  go_wp2_with fail
  refine (HE.out _).mono ?_
  rintro e w5 ⟨rfl, hb5⟩
  have HB5 := hidden (below_then HB4.out hb5)
  clear hb5
  go_wp2_with fail
  go_ret
  exact ⟨rfl, HB5.out⟩
end Go.Proofs.YtcmmednihoaekaaGreat
