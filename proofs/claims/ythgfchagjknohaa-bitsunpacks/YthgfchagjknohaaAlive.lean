/- Contracts: the document's Unpack in all cases; the document's examples. -/
import Derived.Test.YthgfchagjknohaaRefUnpack
set_option linter.unusedVariables false
set_option linter.unusedSimpArgs false
namespace Go.Proofs.Ythgfchagjknohaa
open Go.RowKit Go.Lib

set_option maxRecDepth 100000 in
set_option maxHeartbeats 4000000 in
theorem refUnpack_any {w : World} {v : Value} {b : List Nat} (hs : Sx .u8 w v b) (h8 : ∀ x ∈ b, x < 256) (n x : Int) :
    Calls Try.prog 14 #[v, .int .i64 n, .int .i64 x] w fun e w' => ∃ v', e = .returned (.tuple #[v', .int .i64 (unE b n x : Int)]) ∧ w'.ownsRow w.heap.size 39 1 v' (unR b n x).length (vals .u64 (unR b n x)) ∧ Below w.heap.size w w' := by
  by_cases hal : 0 ≤ n ∧ n ≤ 256 ∧ 0 ≤ x ∧ x ≤ 64
  · obtain ⟨hn0, hn256, hx0, hx64⟩ := hal
    obtain ⟨ww, rfl⟩ := Int.eq_ofNat_of_zero_le hx0
    obtain ⟨N, rfl⟩ := Int.eq_ofNat_of_zero_le hn0
    by_cases hlen : b.length = by8 (N * ww)
    · exact refUnpack_yes hs h8 N ww (by omega) (by omega) hlen
    · have hww : ww ≤ 64 := by omega
      have hN : N ≤ 256 := by omega
      have hc : N * ww ≤ 16384 := Nat.le_trans (Nat.mul_le_mul hN hww) (by omega)
      have hmul : (N : Int) * (ww : Int) = ((N * ww : Nat) : Int) := by simp
      have hE := unE_form (b := b) hN hww (fun h => hlen h.1)
      rw [hE, unR_no (by rw [hE]; omega)]
      have hne : ((b.length : Int) != (((N * ww : Nat) : Int) + 7) / 8) = true := by
        rw [bne_iff_ne]
        intro h
        exact hlen (by unfold by8; omega)
      obtain ⟨a, cap, rfl, hm, hcl⟩ := hs
      have hm2 : b.length ≤ 9223372036854775807 := by unfold maxLen at hm; omega
      clear hcl h8 hlen hx0 hx64 hn0 hn256 hm hE
      generalize N * ww = c at *
      go_enter Try.func14, Try.ntmps14
      go_wp2_with fail
      go_ret2
      exact ⟨_, rfl, own_none _ _ _, Below.refl _ _⟩
  · have hE := unE_arg (b := b) hal
    rw [hE, unR_no (by rw [hE]; omega)]
    obtain ⟨a, cap, rfl, hm, hcl⟩ := hs
    have hm2 : b.length ≤ 9223372036854775807 := by unfold maxLen at hm; omega
    clear hcl h8 hm hE
    by_cases h1 : n < 0
    · clear hal
      go_enter Try.func14, Try.ntmps14
      go_wp2_with fail
      go_ret2
      exact ⟨_, rfl, own_none _ _ _, Below.refl _ _⟩
    · by_cases h2 : n > 256
      · clear hal
        go_enter Try.func14, Try.ntmps14
        go_wp2_with fail
        go_ret2
        exact ⟨_, rfl, own_none _ _ _, Below.refl _ _⟩
      · by_cases h3 : x < 0
        · clear hal
          go_enter Try.func14, Try.ntmps14
          go_wp2_with fail
          go_ret2
          exact ⟨_, rfl, own_none _ _ _, Below.refl _ _⟩
        · have h4 : x > 64 := by omega
          clear hal
          go_enter Try.func14, Try.ntmps14
          go_wp2_with fail
          go_ret2
          exact ⟨_, rfl, own_none _ _ _, Below.refl _ _⟩

theorem wd5 : wd [5] = 3 := by
  have h1 : wd [5] ≤ 3 := wd_le.2 (by decide)
  have h2 : ¬ wd [5] ≤ 2 := fun h => by
    have := wd_le.1 h 5 (by decide)
    omega
  omega

theorem can3 : can [5, 1, 7] 3 = true := by
  have h : wd [5, 1, 7] ≤ 3 := wd_le.2 (by decide)
  unfold can
  exact decide_eq_true ⟨by omega, by omega, by decide, h⟩

theorem pack3 : packR [5, 1, 7] 3 = [205, 1] := by
  unfold packR
  rw [if_pos can3]
  decide

theorem un11E : unE [11] 4 1 = 0 := by decide
theorem un11 : unR [11] 4 1 = [1, 1, 0, 1] := by unfold unR; rw [if_pos un11E]; decide
theorem un27E : unE [27] 4 1 = 40 := by decide
theorem un27 : unR [27] 4 1 = [] := unR_no (by rw [un27E]; omega)

theorem lit517 (w : World) : Sx .u64 (w.alloc (.cells #[.int .u64 5, .int .u64 1, .int .u64 7] 39)) (.slice (some ⟨w.heap.size, 0, none⟩) 3 3) [5, 1, 7] := Sx.lit w [5, 1, 7] 39 (by decide)
theorem lit1101 (w : World) : Sx .u64 (w.alloc (.cells #[.int .u64 1, .int .u64 1, .int .u64 0, .int .u64 1] 39)) (.slice (some ⟨w.heap.size, 0, none⟩) 4 4) [1, 1, 0, 1] := Sx.lit w [1, 1, 0, 1] 39 (by decide)
theorem lit5 (w : World) : Sx .u64 (w.alloc (.cells #[.int .u64 5] 39)) (.slice (some ⟨w.heap.size, 0, none⟩) 1 1) [5] := Sx.lit w [5] 39 (by decide)
theorem lit11 (w : World) : Sx .u8 (w.alloc (.cells #[.int .u8 11] 5)) (.slice (some ⟨w.heap.size, 0, none⟩) 1 1) [11] := Sx.lit w [11] 5 (by decide)
theorem lit27 (w : World) : Sx .u8 (w.alloc (.cells #[.int .u8 27] 5)) (.slice (some ⟨w.heap.size, 0, none⟩) 1 1) [27] := Sx.lit w [27] 5 (by decide)

theorem below_alloc (w : World) (o : Obj) : Below w.heap.size w (w.alloc o) := (Below.refl _ _).alloc (Nat.le_refl _) _
theorem below_then {a w w2 : World} (h : Below a.heap.size a w) (h2 : Below w.heap.size w w2) : Below a.heap.size a w2 := h.trans (h2.mono h.size)

set_option maxRecDepth 100000 in
set_option maxHeartbeats 4000000 in
theorem alive_any (w : World) : Calls Try.prog 8 #[] w fun e w' => e = .returned (.bool true) ∧ Below w.heap.size w w' := by
  have HP := hidden (fun W => pack_any (lit517 W) (by decide) 3)
  rw [can3, pack3] at HP
  have HU := hidden (fun W => unpack_any (lit11 W) (by decide) 4 1)
  rw [un11E, un11] at HU
  have HV := hidden (fun W => unpack_any (lit27 W) (by decide) 4 1)
  rw [un27E, un27] at HV
  have HW := hidden (fun W => width_any (lit5 W) (by decide))
  rw [wd5] at HW
  go_enter Try.func8, Try.ntmps8
  go_wp2_with fail
  refine (HP.out _).mono ?_
  rintro e w1 ⟨v1, rfl, o1, hb1⟩
  have HS1 := hidden (Sx.of_own o1)
  have HB1 := hidden (below_then (below_alloc w _) hb1)
  clear o1 hb1
  go_wp2_with fail
  refine (HU.out _).mono ?_
  rintro e w2 ⟨v2, rfl, o2, hb2⟩
  have hab2 := below_then (below_alloc w1 _) hb2
  have HS1b := hidden (HS1.out.kept hab2)
  have HS2 := hidden (Sx.of_own o2)
  have HB2 := hidden (below_then HB1.out hab2)
  clear o2 hb2 hab2 HS1 HB1
  go_wp2_with fail
  refine (HV.out _).mono ?_
  rintro e w3 ⟨v3, rfl, o3, hb3⟩
  have hab3 := below_then (below_alloc w2 _) hb3
  have hcv : (convert 24 9 v1).run Try.prog w3 = .ok (.string ⟨#[205, 1]⟩) w3 := (HS1b.out.kept hab3).conv (by decide)
  have HS3 := hidden (HS2.out.kept hab3)
  have HB3 := hidden (below_then HB2.out hab3)
  clear o3 hb3 hab3 HS1b HS2 HB2
  go_wp2_with fail
  refine (same_any (HS3.out.kept (below_alloc w3 _)) (lit1101 w3)).mono ?_
  rintro e w4 ⟨rfl, hb4⟩
  have HB4 := hidden (below_then HB3.out (below_then (below_alloc w3 _) hb4))
  clear hb4
  go_wp2_with fail
  refine (HW.out _).mono ?_
  rintro e w5 ⟨rfl, rfl⟩
  go_wp2_with fail
  go_ret
  exact ⟨rfl, below_then HB4.out (below_alloc w4 _)⟩
end Go.Proofs.Ythgfchagjknohaa
