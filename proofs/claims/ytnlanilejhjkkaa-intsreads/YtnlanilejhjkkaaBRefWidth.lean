/- Contracts: the document's width; whether two lists are the same. -/
import Derived.Test.YtnlanilejhjkkaaBWidth
set_option linter.unusedVariables false
set_option linter.unusedSimpArgs false
namespace Go.Proofs.Ytnlanilejhjkkaa
open Go.RowKit Go.Lib

theorem shr_pos {x j : Nat} : (x : Int) / 2 ^ j > 0 ↔ j < blen x := by
  have h := blen_le (n := x) (w := j)
  have h2 : ((x / 2 ^ j : Nat) : Int) = (x : Int) / 2 ^ j := by simp
  rw [← h2]
  have h3 : x / 2 ^ j = 0 ↔ x < 2 ^ j := by
    rw [Nat.div_eq_zero_iff]
    have := Nat.two_pow_pos j
    omega
  have h4 : x / 2 ^ j = 0 ↔ blen x ≤ j := h3.trans h.symm
  clear h h2 h3
  generalize x / 2 ^ j = q at *
  omega

theorem below_drewN {B : Nat} {w w' : World} (h : Below B w w') : ∀ n, Below B w (w'.drewN n)
  | 0 => h
  | n + 1 => (below_drewN h n).drew

set_option maxRecDepth 100000 in
set_option maxHeartbeats 2000000 in
theorem refWidth_any {w : World} {v : Value} {l : List Nat} (hs : Sx .u64 w v l) (h64 : ∀ x ∈ l, x < 18446744073709551616) :
    Calls Try.prog 23 #[v] w fun e w' => e = .returned (.int .i64 (wd l : Int)) ∧ w' = w := by
  obtain ⟨a, cap, rfl, hm, hc⟩ := hs
  have hm2 : l.length ≤ 9223372036854775807 := by unfold maxLen at hm; omega
  have HC := hidden hc
  have H64 := hidden h64
  clear hc hm h64
  go_enter Try.func23, Try.ntmps23
  go_wp2_with fail
  go_loopw [3, 4] (fun ww i w' => w' = w ∧ ∃ k : Nat, k ≤ l.length ∧ i = .int .i64 (k : Int) ∧ ww = .int .i64 (wd (l.take k) : Int)) (fun _ i _ => l.length - (intOf i).toNat)
  case atStart => exact ⟨rfl, 0, by omega, rfl, by rw [List.take_zero, wd_nil]; rfl⟩
  case round =>
    obtain ⟨rfl, k, hk, rfl, rfl⟩ := hrel
    by_cases hlt : k < l.length
    · obtain ⟨b, off, rfl, hb, hcell⟩ := HC.out (by omega)
      have hck := hcell k hlt
      have hx := H64.out l[k] (List.getElem_mem hlt)
      have HT := hidden (wd_take_succ hlt)
      have hw64 : wd (l.take k) ≤ 64 := wd64 (fun x hx => H64.out x (List.mem_of_mem_take hx))
      have hb64 : blen l[k] ≤ 64 := blen_le.2 hx
      clear hcell
      generalize l[k] = x at *
      generalize wd (l.take k) = y at *
      go_wp2_with fail
      go_loopw [3] (fun ww w' => w' = wr ∧ ∃ j : Nat, ww = .int .i64 (j : Int) ∧ y ≤ j ∧ j ≤ 64 ∧ j ≤ max y (blen x)) (fun ww _ => 64 - (intOf ww).toNat)
      case atStart => exact ⟨rfl, y, rfl, by omega, by omega, by omega⟩
      case round =>
        obtain ⟨rfl, j, rfl, h1, h2, h3⟩ := hrel
        by_cases hj : j < 64
        · by_cases hjb : j < blen x
          · have hpos : (x : Int) / 2 ^ j > 0 := shr_pos.2 hjb
            have hj2 : (j : Int) < 64 := by omega
            go_wp2_with fail
            go_roundw
            case rel => exact ⟨trivial, j + 1, by go_num, by omega, by omega, by omega⟩
            case measure => simp [intOf]; omega
          · have hpos : ¬ (x : Int) / 2 ^ j > 0 := fun h => hjb (shr_pos.1 h)
            have HJ : Hid (j = max y (blen x)) := by show _ = _; omega
            have hj2 : (j : Int) < 64 := by omega
            clear hjb h3
            go_wp2_with fail
            go_roundw
            case rel => exact ⟨trivial, k + 1, by omega, by go_num, by rw [HT.out, ← HJ.out]⟩
            case measure => simp [intOf]; omega
        · have HJ : Hid (j = max y (blen x)) := by show _ = _; omega
          have hj2 : ¬ (j : Int) < 64 := by omega
          clear h3
          go_wp2_with fail
          go_roundw
          case rel => exact ⟨trivial, k + 1, by omega, by go_num, by rw [HT.out, ← HJ.out]⟩
          case measure => simp [intOf]; omega
    · obtain rfl : k = l.length := by omega
      rw [List.take_length]
      go_wp2_with fail
      go_ret
      exact ⟨rfl, rfl⟩

end Go.Proofs.Ytnlanilejhjkkaa
