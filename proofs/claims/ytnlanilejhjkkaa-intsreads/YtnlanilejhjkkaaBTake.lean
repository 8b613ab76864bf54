/- Contracts: whether nothing is behind the last bit; the number that stands from a bit on. -/
import Derived.Test.YtnlanilejhjkkaaBRefWidth
set_option linter.unusedVariables false
set_option linter.unusedSimpArgs false
namespace Go.Proofs.Ytnlanilejhjkkaa
open Go.RowKit Go.Lib

theorem natdiv_zero {x u : Nat} : (((x : Int) / 2 ^ u) == 0) = decide (x / 2 ^ u = 0) := by
  have h2 : ((x / 2 ^ u : Nat) : Int) = (x : Int) / 2 ^ u := by simp
  rw [← h2]
  rw [Bool.eq_iff_iff]
  simp only [beq_iff_eq, decide_eq_true_eq]
  exact Int.natCast_eq_zero

set_option maxRecDepth 100000 in
set_option maxHeartbeats 2000000 in
theorem clear_any {w : World} {v : Value} {bs : List Nat} (hs : Sx .u8 w v bs) (h8 : ∀ x ∈ bs, x < 256) (c : Nat) (hc : c ≤ 16384) (hl : bs.length = by8 c) :
    Calls Try.prog 86 #[v, .int .i64 (c : Int)] w fun e w' => e = .returned (.bool (decide (pk 8 bs < 2 ^ c))) ∧ w' = w := by
  obtain ⟨a, cap, rfl, hm, hcl⟩ := hs
  by_cases h0 : c % 8 = 0
  · have h0b : ((c : Int) % 8 == 0) = true := by simp; omega
    have HE := hidden (decide_eq_true (clear_zero h8 hl h0))
    clear hcl h8 hl hm h0
    go_enter Try.func86, Try.ntmps86
    go_wp2_with fail
    go_ret
    rw [HE.out]
    exact ⟨rfl, rfl⟩
  · have h0b : ((c : Int) % 8 == 0) = false := by simp; omega
    have hpos : 0 < bs.length := by rw [hl]; unfold by8; omega
    have hle : bs.length ≤ 2048 := by rw [hl]; unfold by8; omega
    obtain ⟨b, off, rfl, hb, hcell⟩ := hcl hpos
    have hck := hcell (bs.length - 1) (by omega)
    have HX := hidden (clear_last h8 hl h0 (by omega))
    have hx := h8 _ (List.getElem_mem (h := (by omega : bs.length - 1 < bs.length)))
    have hsub : (bs.length : Int) - 1 = ((bs.length - 1 : Nat) : Int) := by omega
    have hlt : bs.length - 1 < bs.length := by omega
    obtain ⟨u, hu⟩ : ∃ u, c % 8 = u := ⟨_, rfl⟩
    have hui : (c : Int) % 8 = (u : Int) := by omega
    have hu8 : u < 8 := by omega
    rw [hui] at h0b
    rw [hu] at HX
    generalize bs[bs.length - 1] = x at *
    clear hcell hcl h8 hl hm h0 hu
    have HF := hidden (natdiv_zero (x := x) (u := u))
    generalize bs.length - 1 = n at *
    generalize bs.length = L at *
    go_enter Try.func86, Try.ntmps86
    go_wp2_with fail
    go_ret
    refine ⟨?_, rfl⟩
    rw [← decide_eq_decide.2 HX.out, ← HF.out]
    rfl

/-- The numbers of a byte laid over those that are had. -/
theorem take_or {D t0 t k s y n : Nat} (hn : D / 2 ^ t0 % 2 ^ k % 18446744073709551616 = n) (hy : y = D / 2 ^ t % 2 ^ s) (ht : t = t0 + k) (hk : k < 64) (hs : s ≤ 8) :
    bits .or .u64 (n : Int) (IntKind.u64.wrap ((y : Int) * 2 ^ k)) = ((D / 2 ^ t0 % 2 ^ (k + s) % 18446744073709551616 : Nat) : Int) := by
  have h64 : (18446744073709551616 : Nat) = 2 ^ k * 2 ^ (64 - k) := by rw [← Nat.pow_add, show k + (64 - k) = 64 by omega]
  have hk2 : 2 ^ k ≤ 18446744073709551616 := by rw [h64]; exact Nat.le_mul_of_pos_right _ (Nat.two_pow_pos _)
  have hm := Nat.mod_lt (D / 2 ^ t0) (Nat.two_pow_pos k)
  rw [Nat.mod_eq_of_lt (Nat.lt_of_lt_of_le hm hk2)] at hn
  rw [hn] at hm
  have hsum := take_sum D t0 k s
  rw [← ht, hn, ← hy] at hsum
  rw [← hsum]
  have e : (y : Int) * 2 ^ k = ((y * 2 ^ k : Nat) : Int) := by simp
  have hdvd : y * 2 ^ k % 18446744073709551616 % 2 ^ k = 0 := by
    rw [h64, Nat.mod_mul_right_mod, Nat.mul_mod_left]
  have hlt : y * 2 ^ k % 18446744073709551616 < 2 ^ k * 2 ^ (64 - k) := by rw [← h64]; omega
  have hw : IntKind.u64.wrap (((y * 2 ^ k : Nat)) : Int) = ((y * 2 ^ k % 18446744073709551616 : Nat) : Int) := by rw [IntKind.wrap_u64]; omega
  have hmod : (n + y * 2 ^ k) % 18446744073709551616 = (n + y * 2 ^ k % 18446744073709551616) % 18446744073709551616 := by omega
  rw [e, hw, hmod]
  generalize y * 2 ^ k % 18446744073709551616 = z at *
  have hz := Nat.div_add_mod z (2 ^ k)
  rw [hdvd, Nat.add_zero] at hz
  rw [← hz] at hlt
  have hq := Nat.lt_of_mul_lt_mul_left hlt
  have hq2 : 2 ^ k * (z / 2 ^ k + 1) ≤ 2 ^ k * 2 ^ (64 - k) := Nat.mul_le_mul_left _ hq
  rw [← h64, Nat.mul_add, Nat.mul_one, hz] at hq2
  rw [Nat.mod_eq_of_lt (by omega)]
  have hj := bits_join_low .u64 64 (by decide) wraps_u64 k (n : Int) (z : Int) (by omega) (by exact_mod_cast hm) (by omega) (by omega) (by exact_mod_cast hdvd) (by omega)
  rw [hj]
  omega

theorem mask_eq {ww : Nat} (h : ww ≤ 64) : IntKind.u64.wrap (IntKind.u64.wrap (2 ^ ww) - 1) = ((2 ^ ww - 1 : Nat) : Int) := by
  have e : (2 : Int) ^ ww = ((2 ^ ww : Nat) : Int) := by simp
  have hp := Nat.two_pow_pos ww
  rcases Nat.lt_or_ge ww 64 with h1 | h1
  · have : 2 ^ ww < 2 ^ 64 := Nat.pow_lt_pow_right (by omega) h1
    rw [e, IntKind.wrap_u64, IntKind.wrap_u64]
    omega
  · obtain rfl : ww = 64 := by omega
    decide

theorem take_mask {D t0 k n ww : Nat} (hn : D / 2 ^ t0 % 2 ^ k % 18446744073709551616 = n) (h64 : ww ≤ 64) (hk : ww ≤ k) :
    bits .and .u64 (n : Int) (IntKind.u64.wrap (IntKind.u64.wrap (2 ^ ww) - 1)) = ((D / 2 ^ t0 % 2 ^ ww : Nat) : Int) := by
  rw [mask_eq h64]
  have hp := Nat.two_pow_pos ww
  have hle : 2 ^ ww ≤ 2 ^ 64 := Nat.pow_le_pow_right (by omega) h64
  rw [(bits_nat .u64 64 (by decide) wraps_u64 n (2 ^ ww - 1) (by omega) (by omega)).1, Nat.and_two_pow_sub_one_eq_mod, ← hn]
  rw [Nat.mod_mod_of_dvd _ (show 2 ^ ww ∣ 18446744073709551616 from Nat.pow_dvd_pow (n := 64) 2 h64), Nat.mod_mod_of_dvd _ (Nat.pow_dvd_pow 2 hk)]

set_option maxRecDepth 100000 in
set_option maxHeartbeats 2000000 in
theorem take_any {w : World} {v : Value} {bs : List Nat} (hs : Sx .u8 w v bs) (h8 : ∀ x ∈ bs, x < 256) (t0 ww : Nat) (hw : ww ≤ 64) (ht : t0 + ww ≤ 8 * bs.length) (ht0 : t0 ≤ 16384) :
    Calls Try.prog 87 #[v, .int .i64 (t0 : Int), .int .i64 (ww : Int)] w fun e w' => e = .returned (.int .u64 ((pk 8 bs / 2 ^ t0 % 2 ^ ww : Nat) : Int)) ∧ w' = w := by
  obtain ⟨a, cap, rfl, hm, hcl⟩ := hs
  have hm2 : bs.length ≤ 9223372036854775807 := by unfold maxLen at hm; omega
  have HC := hidden hcl
  have H8 := hidden h8
  clear hcl h8 hm
  go_enter Try.func87, Try.ntmps87
  go_wp2_with fail
  go_loopw [1, 7, 8] (fun at_ n have_ w' => w' = w ∧ ∃ k t : Nat, k ≤ ww + 7 ∧ t = t0 + k ∧ at_ = .int .i64 (t : Int) ∧ have_ = .int .i64 (k : Int) ∧ n = .int .u64 ((pk 8 bs / 2 ^ t0 % 2 ^ k % 18446744073709551616 : Nat) : Int)) (fun _ _ i _ => ww - (intOf i).toNat)
  case atStart => exact ⟨rfl, 0, t0, by omega, rfl, rfl, rfl, by simp [Nat.mod_one]⟩
  case round =>
    obtain ⟨rfl, k, t, hk, htk, rfl, rfl, rfl⟩ := hrel
    by_cases hlt : k < ww
    · obtain ⟨b, off, rfl, hb, hcell⟩ := HC.out (by omega)
      have hj8 : t / 8 < bs.length := by omega
      have hck := hcell (t / 8) hj8
      have HF := hidden (byte_from H8.out hj8)
      have hx := H8.out _ (List.getElem_mem hj8)
      have HTK := hidden htk
      have ht1 : t ≤ 20000 := by omega
      generalize bs[t / 8] = x at *
      obtain ⟨j, hj⟩ : ∃ j, t / 8 = j := ⟨_, rfl⟩
      obtain ⟨r, hr⟩ : ∃ r, t % 8 = r := ⟨_, rfl⟩
      obtain ⟨s, hsr⟩ : ∃ s, 8 - r = s := ⟨_, rfl⟩
      obtain ⟨y, hy⟩ : ∃ y, x / 2 ^ r = y := ⟨_, rfl⟩
      obtain ⟨n, hn⟩ : ∃ n, pk 8 bs / 2 ^ t0 % 2 ^ k % 18446744073709551616 = n := ⟨_, rfl⟩
      rw [hr, hy, hsr] at HF
      rw [hj] at hck hj8
      have hji : (t : Int) / 8 = (j : Int) := by omega
      have hri : (t : Int) % 8 = (r : Int) := by omega
      have hsi : (8 : Int) - (r : Int) = (s : Int) := by omega
      have hr8 : r < 8 := by omega
      have hs8 : s ≤ 8 := by omega
      have hs1 : 1 ≤ s := by omega
      have hyi : (x : Int) / 2 ^ r = (y : Int) := by rw [← hy]; simp
      have hyl : y < 256 := by rw [← hy]; exact Nat.lt_of_le_of_lt (Nat.div_le_self _ _) hx
      rw [hn]
      have HN := hidden hn
      have hor := take_or HN.out HF.out HTK.out (by omega) (by omega)
      have HK : Hid (k + s ≤ ww + 7) := hidden (by omega)
      have hkk : k ≤ 64 := by omega
      clear hcell hn hy hr hj hsr htk
      go_wp2_with fail
      go_roundw
      case rel => exact ⟨trivial, k + s, t + s, HK.out, by have := HTK.out; omega, by go_num, by go_num, rfl⟩
      case measure => simp [intOf]; omega
    · have HTK := hidden htk
      clear htk HC
      generalize hn : pk 8 bs / 2 ^ t0 % 2 ^ k % 18446744073709551616 = n
      have HN := hidden hn
      have hnl : n < 18446744073709551616 := by rw [← hn]; exact Nat.mod_lt _ (by omega)
      clear hn
      go_wp2_with fail
      go_ret
      rw [← take_mask HN.out hw (by omega)]
      exact ⟨rfl, rfl⟩
end Go.Proofs.Ytnlanilejhjkkaa
