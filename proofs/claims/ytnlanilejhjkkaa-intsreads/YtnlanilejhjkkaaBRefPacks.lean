/- Contract: the document's Pack, in all cases. -/
import Derived.Test.YtnlanilejhjkkaaBRefPack
set_option linter.unusedVariables false
set_option linter.unusedSimpArgs false
namespace Go.Proofs.Ytnlanilejhjkkaa
open Go.RowKit Go.Lib

set_option maxRecDepth 100000 in
set_option maxHeartbeats 4000000 in
theorem refPack_any {w : World} {v : Value} {l : List Nat} (hs : Sx .u64 w v l) (h64 : ∀ x ∈ l, x < 18446744073709551616) (x : Int) :
    Calls Try.prog 22 #[v, .int .i64 x] w fun e w' => ∃ v', e = .returned (.tuple #[v', .bool (can l x)]) ∧ w'.ownsRow w.heap.size 5 1 v' (packR l x).length (vals .u8 (packR l x)) ∧ Below w.heap.size w w' := by
  cases hcan : can l x with
  | true =>
    have hc := hcan
    unfold can at hc
    simp only [decide_eq_true_eq] at hc
    obtain ⟨h1, h2, h3, h4⟩ := hc
    obtain ⟨ww, rfl⟩ := Int.eq_ofNat_of_zero_le h1
    refine (refPack_yes hs h64 ww (by omega) h3 h4).mono ?_
    rintro e w' ⟨v', rfl, ⟨bs, o1, o2, o3, o4⟩, hb⟩
    refine ⟨v', rfl, ?_, hb⟩
    rw [← packed_is hcan o3 o2 o4, o2]
    exact o1
  | false =>
    rw [packR_no hcan]
    have hno : ¬ (0 ≤ x ∧ x ≤ 64 ∧ l.length ≤ 256 ∧ wd l ≤ x.toNat) := by
      unfold can at hcan
      simpa only [decide_eq_false_iff_not] using hcan
    have HW := hidden (refWidth_any hs h64)
    obtain ⟨a, cap, rfl, hm, hcl⟩ := hs
    have hm2 : l.length ≤ 9223372036854775807 := by unfold maxLen at hm; omega
    clear hcl h64 hcan hm
    by_cases h0 : x < 0
    · clear hno HW
      go_enter Try.func22, Try.ntmps22
      go_wp2_with fail
      go_ret2
      exact ⟨_, rfl, own_none _ _ _, Below.refl _ _⟩
    · by_cases h1 : x > 64
      · clear hno HW
        go_enter Try.func22, Try.ntmps22
        go_wp2_with fail
        go_ret2
        exact ⟨_, rfl, own_none _ _ _, Below.refl _ _⟩
      · by_cases h2 : (l.length : Int) > 256
        · clear hno HW
          go_enter Try.func22, Try.ntmps22
          go_wp2_with fail
          go_ret2
          exact ⟨_, rfl, own_none _ _ _, Below.refl _ _⟩
        · have hgt : ((wd l : Nat) : Int) > x := by
            have : ¬ wd l ≤ x.toNat := fun h => hno ⟨by omega, by omega, by omega, h⟩
            omega
          clear hno
          go_enter Try.func22, Try.ntmps22
          go_wp2_with fail
          refine HW.out.mono ?_
          rintro e w2 ⟨rfl, rfl⟩
          go_wp2_with fail
          go_ret2
          exact ⟨_, rfl, own_none _ _ _, Below.refl _ _⟩
end Go.Proofs.Ytnlanilejhjkkaa
