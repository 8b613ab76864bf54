/- Contracts: how wide numbers are, the program's and the document's; the small functions. -/
import Derived.Test.YtnlanilejhjkkaaBLay
set_option linter.unusedVariables false
set_option linter.unusedSimpArgs false
namespace Go.Proofs.Ytnlanilejhjkkaa
open Go.RowKit Go.Lib

theorem or_nat {a b : Nat} (ha : a < 18446744073709551616) (hb : b < 18446744073709551616) : bits .or .u64 (a : Int) (b : Int) = ((a ||| b : Nat) : Int) := by
  show IntKind.u64.wrap ((BitVec.ofInt 64 (a : Int) ||| BitVec.ofInt 64 (b : Int)).toNat : Int) = _
  have e1 : (BitVec.ofInt 64 (a : Int)).toNat = a := by rw [BitVec.toNat_ofInt]; omega
  have e2 : (BitVec.ofInt 64 (b : Int)).toNat = b := by rw [BitVec.toNat_ofInt]; omega
  have h := Nat.or_lt_two_pow (x := a) (y := b) (n := 64) ha hb
  rw [BitVec.toNat_or, e1, e2, IntKind.wrap_u64]
  omega

set_option maxRecDepth 100000 in
set_option maxHeartbeats 2000000 in
theorem width_any {w : World} {v : Value} {l : List Nat} (hs : Sx .u64 w v l) (h64 : ∀ x ∈ l, x < 18446744073709551616) :
    Calls Try.prog 55 #[v] w fun e w' => e = .returned (.int .i64 (wd l : Int)) ∧ w' = w := by
  obtain ⟨a, cap, rfl, hm, hc⟩ := hs
  have hm2 : l.length ≤ 9223372036854775807 := by unfold maxLen at hm; omega
  have HC := hidden hc
  have H64 := hidden h64
  clear hc hm h64
  go_enter Try.func55, Try.ntmps55
  go_wp2_with fail
  go_loopw [3, 9] (fun al i w' => w' = w ∧ ∃ k : Nat, k ≤ l.length ∧ i = .int .i64 (k : Int) ∧ al = .int .u64 (orAll (l.take k) : Int)) (fun _ i _ => l.length - (intOf i).toNat)
  case atStart => exact ⟨rfl, 0, by omega, rfl, rfl⟩
  case round =>
    obtain ⟨rfl, k, hk, rfl, rfl⟩ := hrel
    by_cases hlt : k < l.length
    · obtain ⟨b, off, rfl, hb, hcell⟩ := HC.out (by omega)
      have hck := hcell k hlt
      have hx := or64 H64.out k
      have hor := or_nat hx (H64.out l[k] (List.getElem_mem hlt))
      have HT := hidden (orAll_take_succ hlt)
      clear hcell hx
      generalize l[k] = x at *
      generalize orAll (l.take k) = y at *
      go_wp2_with fail
      go_roundw
      case rel => exact ⟨trivial, k + 1, by omega, by go_num, by rw [HT.out]⟩
      case measure => simp [intOf]; omega
    · obtain rfl : k = l.length := by omega
      rw [List.take_length]
      have hx := or64 H64.out l.length
      rw [List.take_length] at hx
      have hw := wd64 H64.out
      have HW : Hid (wd l = blen (orAll l)) := rfl
      clear HC H64
      generalize orAll l = y at *
      go_wp2_with fail
      go_loopw [3, 6] (fun al i w' => w' = wr ∧ ∃ n k : Nat, al = .int .u64 (n : Int) ∧ i = .int .i64 (k : Int) ∧ n ≤ y ∧ k + blen n = wd l) (fun al _ _ => (intOf al).toNat)
      case atStart => exact ⟨rfl, y, 0, rfl, rfl, Nat.le_refl _, by rw [HW.out, Nat.zero_add]⟩
      case round =>
        obtain ⟨rfl, n, k, rfl, rfl, hn, hbl⟩ := hrel
        by_cases h0 : ((n : Int) == 0) = true
        · have h0' : n = 0 := by simpa using h0
          subst h0'
          have HK : Hid (k = wd l) := by show k = wd l; simpa [blen] using hbl
          clear hbl HW
          go_wp2_with fail
          go_ret
          rw [← HK.out]
          exact ⟨rfl, rfl⟩
        · have h0f : ((n : Int) == 0) = false := by simpa using h0
          have hn0 : n ≠ 0 := by simpa using h0
          have hbh := blen_half hn0
          have HB := hidden hbl
          have HBH := hidden hbh
          have hkl : k ≤ 64 := by omega
          clear h0 hbl hbh
          go_wp2_with fail
          go_roundw
          case rel => exact ⟨trivial, n / 2, k + 1, by go_num, by go_num, by omega, by have := HB.out; have := HBH.out; omega⟩
          case measure => simp [intOf]; omega

set_option maxRecDepth 100000 in
theorem allowed_any (n w : Int) (W : World) : Calls Try.prog 81 #[.int .i64 n, .int .i64 w] W fun e w' => e = .returned (.bool (decide (0 ≤ n ∧ n ≤ 256 ∧ 0 ≤ w ∧ w ≤ 64))) ∧ w' = W := by
  by_cases h1 : n ≥ 0
  · by_cases h2 : n ≤ 256
    · by_cases h3 : w ≥ 0
      · by_cases h4 : w ≤ 64
        · rw [decide_eq_true (by omega)]
          go_enter Try.func81, Try.ntmps81
          go_wp2_with fail
          go_ret
          exact ⟨rfl, rfl⟩
        · rw [decide_eq_false (by omega)]
          go_enter Try.func81, Try.ntmps81
          go_wp2_with fail
          go_ret
          exact ⟨rfl, rfl⟩
      · rw [decide_eq_false (by omega)]
        go_enter Try.func81, Try.ntmps81
        go_wp2_with fail
        go_ret
        exact ⟨rfl, rfl⟩
    · rw [decide_eq_false (by omega)]
      go_enter Try.func81, Try.ntmps81
      go_wp2_with fail
      go_ret
      exact ⟨rfl, rfl⟩
  · rw [decide_eq_false (by omega)]
    go_enter Try.func81, Try.ntmps81
    go_wp2_with fail
    go_ret
    exact ⟨rfl, rfl⟩

set_option maxRecDepth 100000 in
theorem bytesFor_any (c : Nat) (hc : c ≤ 16384) (W : World) : Calls Try.prog 82 #[.int .i64 (c : Int)] W fun e w' => e = .returned (.int .i64 (by8 c : Int)) ∧ w' = W := by
  have HE : Hid (((by8 c : Nat) : Int) = ((c : Int) + 8 - 1) / 8) := by show _ = _; unfold by8; omega
  go_enter Try.func82, Try.ntmps82
  go_wp2_with fail
  go_ret
  rw [HE.out]
  exact ⟨rfl, rfl⟩
end Go.Proofs.Ytnlanilejhjkkaa
