/- Contracts: the document's width; whether two lists are the same. -/
import Derived.Test.YthgfchagjknohaaWidth
set_option linter.unusedVariables false
set_option linter.unusedSimpArgs false
namespace Go.Proofs.Ythgfchagjknohaa
open Go.RowKit Go.Lib

theorem shr_pos {x j : Nat} : (x : Int) / 2 ^ j > 0 ↔ j < blen x := by
  have h := blen_le (n := x) (w := j)
  have h2 : ((x / 2 ^ j : Nat) : Int) = (x : Int) / 2 ^ j := by simp
  rw [← h2]
  have h3 : x / 2 ^ j = 0 ↔ x < 2 ^ j := by
    rw [Nat.div_eq_zero_iff]
    have := Nat.two_pow_pos j
    omega
  have h4 : x / 2 ^ j = 0 ↔ blen x ≤ j := h3.trans h.symm
  clear h h2 h3
  generalize x / 2 ^ j = q at *
  omega

theorem below_drewN {B : Nat} {w w' : World} (h : Below B w w') : ∀ n, Below B w (w'.drewN n)
  | 0 => h
  | n + 1 => (below_drewN h n).drew

set_option maxRecDepth 100000 in
set_option maxHeartbeats 2000000 in
theorem refWidth_any {w : World} {v : Value} {l : List Nat} (hs : Sx .u64 w v l) (h64 : ∀ x ∈ l, x < 18446744073709551616) :
    Calls Try.prog 12 #[v] w fun e w' => e = .returned (.int .i64 (wd l : Int)) ∧ w' = w := by
  obtain ⟨a, cap, rfl, hm, hc⟩ := hs
  have hm2 : l.length ≤ 9223372036854775807 := by unfold maxLen at hm; omega
  have HC := hidden hc
  have H64 := hidden h64
  clear hc hm h64
  go_enter Try.func12, Try.ntmps12
  go_wp2_with fail
  go_loopw [3, 4] (fun ww i w' => w' = w ∧ ∃ k : Nat, k ≤ l.length ∧ i = .int .i64 (k : Int) ∧ ww = .int .i64 (wd (l.take k) : Int)) (fun _ i _ => l.length - (intOf i).toNat)
  case atStart => exact ⟨rfl, 0, by omega, rfl, by rw [List.take_zero, wd_nil]; rfl⟩
  case round =>
    obtain ⟨rfl, k, hk, rfl, rfl⟩ := hrel
    by_cases hlt : k < l.length
    · obtain ⟨b, off, rfl, hb, hcell⟩ := HC.out (by omega)
      have hck := hcell k hlt
      have hx := H64.out l[k] (List.getElem_mem hlt)
      have HT := hidden (wd_take_succ hlt)
      have hw64 : wd (l.take k) ≤ 64 := wd64 (fun x hx => H64.out x (List.mem_of_mem_take hx))
      have hb64 : blen l[k] ≤ 64 := blen_le.2 hx
      clear hcell
      generalize l[k] = x at *
      generalize wd (l.take k) = y at *
      go_wp2_with fail
      go_loopw [3] (fun ww w' => w' = wr ∧ ∃ j : Nat, ww = .int .i64 (j : Int) ∧ y ≤ j ∧ j ≤ 64 ∧ j ≤ max y (blen x)) (fun ww _ => 64 - (intOf ww).toNat)
      case atStart => exact ⟨rfl, y, rfl, by omega, by omega, by omega⟩
      case round =>
        obtain ⟨rfl, j, rfl, h1, h2, h3⟩ := hrel
        by_cases hj : j < 64
        · by_cases hjb : j < blen x
          · have hpos : (x : Int) / 2 ^ j > 0 := shr_pos.2 hjb
            have hj2 : (j : Int) < 64 := by omega
            go_wp2_with fail
            go_roundw
            case rel => exact ⟨trivial, j + 1, by go_num, by omega, by omega, by omega⟩
            case measure => simp [intOf]; omega
          · have hpos : ¬ (x : Int) / 2 ^ j > 0 := fun h => hjb (shr_pos.1 h)
            have HJ : Hid (j = max y (blen x)) := by show _ = _; omega
            have hj2 : (j : Int) < 64 := by omega
            clear hjb h3
            go_wp2_with fail
            go_roundw
            case rel => exact ⟨trivial, k + 1, by omega, by go_num, by rw [HT.out, ← HJ.out]⟩
            case measure => simp [intOf]; omega
        · have HJ : Hid (j = max y (blen x)) := by show _ = _; omega
          have hj2 : ¬ (j : Int) < 64 := by omega
          clear h3
          go_wp2_with fail
          go_roundw
          case rel => exact ⟨trivial, k + 1, by omega, by go_num, by rw [HT.out, ← HJ.out]⟩
          case measure => simp [intOf]; omega
    · obtain rfl : k = l.length := by omega
      rw [List.take_length]
      go_wp2_with fail
      go_ret
      exact ⟨rfl, rfl⟩

set_option maxRecDepth 100000 in
set_option maxHeartbeats 2000000 in
theorem same_any {w : World} {v1 v2 : Value} {l m : List Nat} (h1 : Sx .u64 w v1 l) (h2 : Sx .u64 w v2 m) :
    Calls Try.prog 15 #[v1, v2] w fun e w' => e = .returned (.bool (decide (l = m))) ∧ Below w.heap.size w w' := by
  obtain ⟨a, cap, rfl, hm, hc⟩ := h1
  obtain ⟨a2, cap2, rfl, hm2, hc2⟩ := h2
  have hma : l.length ≤ 9223372036854775807 := by unfold maxLen at hm; omega
  have hmb : m.length ≤ 9223372036854775807 := by unfold maxLen at hm2; omega
  have HC := hidden hc
  have HC2 := hidden hc2
  clear hc hm hc2 hm2
  by_cases hlen : ((l.length : Int) == (m.length : Int)) = true
  · have hl : l.length = m.length := by have : (l.length : Int) = m.length := by simpa using hlen
                                        omega
    have HL := hidden hl
    clear hl
    go_enter Try.func15, Try.ntmps15
    go_wp2_with fail
    go_loopw [5] (fun i w' => Below w.heap.size w w' ∧ ∃ k : Nat, k ≤ l.length ∧ i = .int .i64 (k : Int) ∧ l.take k = m.take k) (fun i _ => l.length - (intOf i).toNat)
    case atStart => exact ⟨Below.refl _ _, 0, by omega, rfl, by rw [List.take_zero, List.take_zero]⟩
    case round =>
      obtain ⟨hbw, k, hk, rfl, htk⟩ := hrel
      have HBW := hidden hbw
      have HTK := hidden htk
      clear hbw htk
      by_cases hlt : k < l.length
      · have hltm : k < m.length := by have := HL.out; omega
        obtain ⟨b, off, rfl, hb, hcell⟩ := HC.out (by omega)
        obtain ⟨b2, off2, rfl, hb2, hcell2⟩ := HC2.out (by omega)
        have hck := (HBW.out.cell (p := ⟨b, off + k, none⟩) hb).trans (hcell k hlt)
        have hck2 := (HBW.out.cell (p := ⟨b2, off2 + k, none⟩) hb2).trans (hcell2 k hltm)
        have HT1 := hidden (List.take_succ_eq_append_getElem hlt)
        have HT2 := hidden (List.take_succ_eq_append_getElem hltm)
        have HNE : Hid (l[k] ≠ m[k] → l ≠ m) := by
          show _ → _
          intro h e
          subst e
          exact h rfl
        clear hcell hcell2
        generalize l[k] = x at *
        generalize m[k] = y at *
        by_cases hxy : ((x : Int) == (y : Int)) = true
        · go_wp2_with fail
          go_quiet (fail)
          go_wp2_with fail
          go_roundw
          case rel =>
            have e : x = y := by have : (x : Int) = y := by simpa using hxy
                                 omega
            exact ⟨below_drewN HBW.out _, k + 1, by omega, by go_num, by rw [HT1.out, HT2.out, HTK.out, e]⟩
          case measure => simp [intOf]; omega
        · have hxyf : ((x : Int) == (y : Int)) = false := by simpa using hxy
          have HN : Hid (decide (l = m) = false) := by
            show decide (l = m) = false
            refine decide_eq_false (HNE.out (fun e => hxy ?_))
            subst e; simp
          clear hxy
          go_wp2_with fail
          go_quiet (fail)
          go_wp2_with fail
          go_ret
          rw [HN.out]
          exact ⟨rfl, below_drewN HBW.out _⟩
      · have HE : Hid (decide (l = m) = true) := by
          show decide (l = m) = true
          refine decide_eq_true ?_
          have h1 := HTK.out
          have h2 := HL.out
          rw [List.take_of_length_le (by omega), List.take_of_length_le (by omega)] at h1
          exact h1
        go_wp2_with fail
        go_ret
        rw [HE.out]
        exact ⟨rfl, HBW.out⟩
  · have hlenf : ((l.length : Int) == (m.length : Int)) = false := by simpa using hlen
    have HN : Hid (decide (l = m) = false) := by
      show decide (l = m) = false
      refine decide_eq_false (fun e => hlen ?_)
      rw [e]; simp
    clear hlen
    go_enter Try.func15, Try.ntmps15
    go_wp2_with fail
    go_ret
    rw [HN.out]
    exact ⟨rfl, Below.refl _ _⟩
end Go.Proofs.Ythgfchagjknohaa
