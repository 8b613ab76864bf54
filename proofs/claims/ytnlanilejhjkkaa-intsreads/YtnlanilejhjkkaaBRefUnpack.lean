/- Contract: the document's Unpack, bit by bit. -/
import Derived.Test.YtnlanilejhjkkaaBRefPacks
set_option linter.unusedVariables false
set_option linter.unusedSimpArgs false
namespace Go.Proofs.Ytnlanilejhjkkaa
open Go.RowKit Go.Lib

/-- A byte's bit, as the walk reckons it. -/
theorem bit_facts {bs : List Nat} (h8 : ∀ x ∈ bs, x < 256) {t j r : Nat} (hj : t / 8 = j) (hr : t % 8 = r) (hl : j < bs.length) :
    ∃ y q : Nat, bs[j]? = some y ∧ y < 256 ∧ (y : Int) / 2 ^ r = (q : Int) ∧ q ≤ y ∧ q % 2 = pk 8 bs / 2 ^ t % 2 := by
  subst hj hr
  refine ⟨bs[t / 8], bs[t / 8] / 2 ^ (t % 8), List.getElem?_eq_getElem hl, h8 _ (List.getElem_mem hl), by simp, Nat.div_le_self _ _, byte_bit h8 hl⟩

theorem pow64 {k : Nat} (h : k ≤ 64) : 2 ^ k ≤ 18446744073709551616 := Nat.pow_le_pow_right (show 0 < 2 by omega) h
theorem pow63 {k : Nat} (h : k ≤ 63) : 2 ^ k ≤ 9223372036854775808 := Nat.pow_le_pow_right (show 0 < 2 by omega) h

theorem bits_next {P t m x q z : Nat} (hx : P / 2 ^ (t + 1) % 2 ^ m = x) (hq : q % 2 = P / 2 ^ t % 2) (hz : 2 * x + q % 2 = z) : P / 2 ^ t % 2 ^ (m + 1) = z := by
  rw [← bit_sum, hx, ← hq, hz]

set_option maxRecDepth 100000 in
set_option maxHeartbeats 8000000 in
theorem refUnpack_yes {w : World} {v : Value} {b : List Nat} (hs : Sx .u8 w v b) (h8 : ∀ x ∈ b, x < 256) (N ww : Nat) (hN : N ≤ 256) (hww : ww ≤ 64) (hlen : b.length = by8 (N * ww)) :
    Calls Try.prog 62 #[v, .int .i64 (N : Int), .int .i64 (ww : Int)] w fun e w' => ∃ v', e = .returned (.tuple #[v', .int .i64 (unE b N ww : Int)]) ∧ w'.ownsRow w.heap.size 44 1 v' (unR b N ww).length (vals .u64 (unR b N ww)) ∧ Below w.heap.size w w' := by
  have hc : N * ww ≤ 16384 := Nat.le_trans (Nat.mul_le_mul hN hww) (by omega)
  have hmul : (N : Int) * (ww : Int) = ((N * ww : Nat) : Int) := by simp
  have hge := by8_ge (N * ww)
  have HOK : Hid (pk 8 b < 2 ^ (N * ww) → unE b N ww = 0 ∧ unR b N ww = dig ww N (pk 8 b)) := hidden (fun h => by
    have h1 := unE_ok hN hww hlen h
    exact ⟨h1, unR_ok h1⟩)
  have HNO : Hid (¬ pk 8 b < 2 ^ (N * ww) → unE b N ww = 40 ∧ unR b N ww = []) := hidden (fun h => by
    have h1 := unE_form (b := b) hN hww (fun h2 => h h2.2)
    exact ⟨h1, unR_no (by rw [h1]; omega)⟩)
  have HST : Hid (∀ i k, i < N → k < ww → i * ww + k < 8 * b.length ∧ i * ww + k ≤ 16384) := hidden (fun k m hk hm => by
    have h1 : (k + 1) * ww ≤ N * ww := Nat.mul_le_mul_right _ hk
    rw [Nat.add_mul, Nat.one_mul] at h1
    rw [hlen]
    omega)
  have hL : b.length ≤ 2048 := by rw [hlen]; unfold by8; omega
  have hLi : (((N * ww : Nat) : Int) + 7) / 8 = (b.length : Int) := by rw [hlen]; unfold by8; omega
  obtain ⟨D, hD⟩ : ∃ D, dig ww N (pk 8 b) = D := ⟨_, rfl⟩
  have hDl : D.length = N := by rw [← hD, dig_length]
  have HDL := hidden hDl
  have HG : Hid (∀ i, i < N → ∃ z, z < 2 ^ ww ∧ D.take (i + 1) = D.take i ++ [z] ∧ pk 8 b / 2 ^ (i * ww) % 2 ^ ww = z) := hidden (fun i h => by
    have h1 : i < D.length := by omega
    refine ⟨D[i], ?_, List.take_succ_eq_append_getElem h1, ?_⟩
    · have : D[i] ∈ dig ww N (pk 8 b) := by rw [hD]; exact List.getElem_mem h1
      exact dig_lt this
    · have h2 := dig_get ww N (pk 8 b) i h
      rw [hD, List.getElem?_eq_getElem h1, Nat.mul_comm] at h2
      exact (Option.some.inj h2).symm)
  rw [hD] at HOK
  have HGE : Hid (N * ww ≤ 8 * b.length) := hidden (by rw [hlen]; exact hge)
  have HTE := hidden (fun t => tail_end (t := t) (c := N * ww) h8)
  have HBF := hidden (fun t j r => bit_facts h8 (t := t) (j := j) (r := r))
  obtain ⟨a, cap, rfl, hm, hcl⟩ := hs
  have HC := hidden hcl
  obtain ⟨i0, hi, hz0, hz1', hz2⟩ := info_parts info44
  have hw0 : decide ((ww : Int) < 0) = false := decide_eq_false (by omega)
  have hw1 : decide (64 < (ww : Int)) = false := decide_eq_false (by omega)
  have hw2 : decide ((N : Int) < 0) = false := decide_eq_false (by omega)
  have hw3 : decide (256 < (N : Int)) = false := decide_eq_false (by omega)
  have h8l : (8 : Int) * (b.length : Int) = ((8 * b.length : Nat) : Int) := by simp
  clear hcl h8 hlen hge hD hDl hm
  generalize hcc : N * ww = c at *
  have HCC := hidden hcc
  clear hcc
  generalize pk 8 b = P at *
  generalize hMM : 8 * b.length = M at *
  have HMM := hidden hMM
  clear hMM
  go_enter Try.func62, Try.ntmps62
  go_wp2_with fail
  clear hLi
  go_loopw [8, 9] (fun lv ii wr => ∃ i : Nat, ii = .int .i64 (i : Int) ∧ i ≤ N ∧ wr.ownsRow w.heap.size 44 1 lv i (vals .u64 (D.take i)) ∧ Below w.heap.size w wr) (fun _ ii _ => N - (intOf ii).toNat)
  case atStart => exact ⟨0, rfl, by omega, own_none _ _ _, Below.refl _ _⟩
  case round =>
    obtain ⟨i, rfl, hiN, how, hbel⟩ := hrel
    have HB := hidden hbel
    have HO := hidden how
    have hzr := hbel.size
    clear how hbel
    by_cases hlt : i < N
    · have hti : (i : Int) * (ww : Int) = ((i * ww : Nat) : Int) := by simp
      have HS2 := hidden (fun k => HST.out i k hlt)
      obtain ⟨z, hzl, hzt, hzv⟩ := HG.out i hlt
      have HZT := hidden hzt
      have HZV := hidden hzv
      have hz64 : z < 18446744073709551616 := Nat.lt_of_lt_of_le hzl (pow64 hww)
      clear hzl hzt hzv
      generalize i * ww = t0 at *
      go_wp2_with fail
      go_loopw [10, 11] (fun xx kk w' => w' = wr ∧ ∃ k x : Nat, kk = .int .i64 ((k : Int) - 1) ∧ k ≤ ww ∧ xx = .int .u64 (x : Int) ∧ P / 2 ^ (t0 + k) % 2 ^ (ww - k) = x) (fun _ kk _ => (intOf kk + 1).toNat)
      case atStart => exact ⟨rfl, ww, 0, by first | rfl | (congr 1; omega), by omega, rfl, by rw [Nat.sub_self]; simp [Nat.mod_one]⟩
      case round =>
        obtain ⟨rfl, k, x, rfl, hk, rfl, hx⟩ := hrel
        have HX := hidden hx
        cases k with
        | zero =>
          have hxz : x = z := by rw [← hx, ← HZV.out]; simp
          subst hxz
          have hk0 : ((0 : Nat) : Int) - 1 = -1 := rfl
          rw [hk0]
          clear hx HX
          go_wp2_with (first | (at_builtin; refine wpList_append_own_at _ rfl _ _ 47 rfl w.heap.size 44 i0 (.int .u64 0) 1 8 Try.underlying47 hi hz0 hz1' hz2 rfl (by decide) _ _ _ rfl (HO.out.alloc _) ⟨wr.heap.size, 0, none⟩ 1 1 [.int .u64 (x : Int)] rfl rfl ?c1 ?c2 ?c3 ?c4 ?c5 ?_))
          case c1 => exact cell_one_new _ _ _
          case c2 => first | rfl | (intro u hu; simp at hu; subst hu; rfl)
          case c3 => unfold maxLen; omega
          case c4 => omega
          case c5 => first | omega | (simp; omega)
          intro v1 w3 o1 g1 _ e1
          have HB1 := hidden ((HB.out.alloc (by omega) _).grown g1 (by simp; omega) (fun k hk => (HO.out.lt k hk).1))
          have HO1 := hidden o1
          clear o1 g1 e1
          go_wp2_with fail
          go_roundw
          case rel =>
            refine ⟨i + 1, by go_num, by omega, ?_, HB1.out⟩
            rw [HZT.out, vals_append]
            exact HO1.out
          case measure => simp [intOf]; omega
        | succ k =>
          have hk1 : ((k + 1 : Nat) : Int) - 1 = (k : Int) := by omega
          rw [hk1]
          have hxl : x < 2 ^ (ww - (k + 1)) := by rw [← hx]; exact Nat.mod_lt _ (Nat.two_pow_pos _)
          have hx63 : x < 9223372036854775808 := Nat.lt_of_lt_of_le hxl (pow63 (by omega))
          obtain ⟨ht1, ht2⟩ := HS2.out k (by omega)
          obtain ⟨t, ht⟩ : ∃ t, t0 + k = t := ⟨_, rfl⟩
          have hti2 : (t0 : Int) + (k : Int) = (t : Int) := by omega
          rw [ht] at ht1 ht2
          rw [← Nat.add_assoc, ht] at hx
          obtain ⟨r, hr⟩ : ∃ r, t % 8 = r := ⟨_, rfl⟩
          obtain ⟨j, hj⟩ : ∃ j, t / 8 = j := ⟨_, rfl⟩
          have hjb : j < b.length := by have := HMM.out; omega
          obtain ⟨y, q, hy, hy8, hq, hqy, hqb⟩ := HBF.out t j r hj hr hjb
          obtain ⟨bk, off, rfl, hbk, hcell⟩ := HC.out (by omega)
          have hck := (HB.out.cell (p := ⟨bk, off + j, none⟩) hbk).trans (hcell j hjb)
          have hyb : b[j] = y := by
            rw [List.getElem?_eq_getElem hjb] at hy
            exact Option.some.inj hy
          rw [hyb] at hck
          obtain ⟨u, hu⟩ : ∃ u, 2 * x + q % 2 = u := ⟨_, rfl⟩
          have HU : Hid (P / 2 ^ (t0 + k) % 2 ^ (ww - k) = u) := hidden (by
            have h1 := bits_next hx hqb hu
            rwa [ht, show ww - k = ww - (k + 1) + 1 by omega])
          have hui : 2 * (x : Int) + (q : Int) % 2 = (u : Int) := by omega
          have hu64 : u < 18446744073709551616 := by omega
          have hri : (t : Int) % 8 = (r : Int) := by omega
          have hji : (t : Int) / 8 = (j : Int) := by omega
          have hr8 : r < 8 := by omega
          clear hcell hyb hy hx hxl hqb hu ht hr hj HX
          go_wp2_with fail
          go_roundw
          case rel => exact ⟨trivial, k, u, by go_num, by omega, by go_num, HU.out⟩
          case measure => simp [intOf] <;> omega
    · obtain rfl : i = N := by omega
      have HOD : Hid (wr.ownsRow w.heap.size 44 1 u8 i (vals .u64 D)) := by
        have := HO.out
        rw [List.take_of_length_le (by rw [HDL.out]; omega)] at this
        exact hidden this
      clear HO
      go_wp2_with fail
      go_loopw [13] (fun aa w' => w' = wr ∧ ∃ t : Nat, aa = .int .i64 (t : Int) ∧ c ≤ t ∧ t ≤ M ∧ P % 2 ^ t = P % 2 ^ c) (fun aa _ => M - (intOf aa).toNat)
      case atStart => exact ⟨rfl, c, rfl, by omega, HGE.out, rfl⟩
      case round =>
        obtain ⟨rfl, t, rfl, hct, htM, htail⟩ := hrel
        have HTL := hidden htail
        clear htail
        by_cases htl : t < M
        · obtain ⟨r, hr⟩ : ∃ r, t % 8 = r := ⟨_, rfl⟩
          obtain ⟨j, hj⟩ : ∃ j, t / 8 = j := ⟨_, rfl⟩
          have hjb : j < b.length := by have := HMM.out; omega
          obtain ⟨y, q, hy, hy8, hq, hqy, hqb⟩ := HBF.out t j r hj hr hjb
          obtain ⟨bk, off, rfl, hbk, hcell⟩ := HC.out (by omega)
          have hck := (HB.out.cell (p := ⟨bk, off + j, none⟩) hbk).trans (hcell j hjb)
          have hyb : b[j] = y := by
            rw [List.getElem?_eq_getElem hjb] at hy
            exact Option.some.inj hy
          rw [hyb] at hck
          have hri : (t : Int) % 8 = (r : Int) := by omega
          have hji : (t : Int) / 8 = (j : Int) := by omega
          have hr8 : r < 8 := by omega
          have hM2 : M ≤ 16384 := by have := HMM.out; omega
          clear hcell hyb hy hr hj
          by_cases hbit : q % 2 = 1
          · have hbi1 : (q : Int) % 2 = 1 := by omega
            have HE := hidden (HNO.out (tail_bad hct (by omega)))
            clear hbit hqb
            go_wp2_with fail
            go_ret2
            rw [HE.out.1, HE.out.2]
            exact ⟨_, rfl, own_none _ _ _, HB.out⟩
          · have hbi0 : (q : Int) % 2 = 0 := by omega
            have HTL2 := hidden (tail_step HTL.out (by omega))
            clear hbit hqb
            go_wp2_with fail
            go_roundw
            case rel => exact ⟨trivial, t + 1, by go_num, by omega, by omega, HTL2.out⟩
            case measure => simp [intOf]; omega
        · have HE := hidden (HOK.out (HTE.out t HTL.out (by have := HMM.out; omega)))
          have hM2 : M ≤ 16384 := by have := HMM.out; omega
          go_wp2_with fail
          go_ret2
          rw [HE.out.1, HE.out.2, HDL.out]
          exact ⟨_, rfl, HOD.out, HB.out⟩
end Go.Proofs.Ytnlanilejhjkkaa
