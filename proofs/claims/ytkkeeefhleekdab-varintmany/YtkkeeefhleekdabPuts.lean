/- Contracts: the document's Put, and both PutInt. -/
import Derived.Test.YtkkeeefhleekdabPut
set_option linter.unusedVariables false
set_option linter.unusedSimpArgs false
namespace Go.Proofs.Ytkkeeefhleekdab
open Go.RowKit Go.Lib

theorem byteVals_oneCell (l : List UInt8) : ∀ u ∈ byteVals l, u.oneCell' = true := by
  intro u hu
  obtain ⟨b, _, rfl⟩ := List.mem_map.1 hu
  rfl

theorem i64_xor (x : Int) (h0 : -9223372036854775808 ≤ x) (h1 : x ≤ 9223372036854775807) : bits .xor .i64 (-1) x = -x - 1 := by
  by_cases h : x < 0
  · show IntKind.i64.wrap ((BitVec.ofInt 64 (-1) ^^^ BitVec.ofInt 64 x).toNat : Int) = _
    have e1 : (BitVec.ofInt 64 (-1)).toNat = 2 ^ 64 - 1 := by decide
    have e2 : (BitVec.ofInt 64 x).toNat = (x + 18446744073709551616).toNat := by
      rw [BitVec.toNat_ofInt]; omega
    rw [BitVec.toNat_xor, e1, e2, xor_ones64 _ (by omega), IntKind.wrap_i64]
    omega
  · obtain ⟨n, rfl⟩ := Int.eq_ofNat_of_zero_le (a := x) (by omega)
    exact i64_not n (by omega)

theorem zig_or {z : Int} (h0 : -9223372036854775808 ≤ z) (h : z < 0) : bits .or .u64 (IntKind.u64.wrap (IntKind.u64.wrap (-z - 1) * 2)) 1 = ((zigzag z : Nat) : Int) := by
  have e : IntKind.u64.wrap (IntKind.u64.wrap (-z - 1) * 2) = (-z - 1) * 2 := by rw [IntKind.wrap_u64, IntKind.wrap_u64]; omega
  rw [e, bits_join .u64 64 (by decide) wraps_u64 1 _ _ (by omega) (by omega) (by omega) (by omega) (by omega) (by omega)]
  unfold zigzag
  rw [if_neg (by omega)]
  omega

set_option maxRecDepth 100000 in
theorem putInt_any (z : Int) (h0 : -9223372036854775808 ≤ z) (h1 : z ≤ 9223372036854775807) (w : World) :
    Calls Try.prog 7 #[.int .i64 z] w fun e w' => (∃ v, e = .returned v ∧ w'.ownsRow w.heap.size 5 1 v (uvarint (zigzag z)).length (byteVals (uvarint (zigzag z)))) ∧ Below w.heap.size w w' := by
  have HP := hidden (put_any (zigzag z) (zigzag_lt h0 h1))
  by_cases h : z < 0
  · have hx := i64_xor z h0 h1
    have HE := hidden (zig_or h0 h)
    go_enter Try.func7, Try.ntmps7
    go_wp2_with fail
    rw [HE.out]
    refine (HP.out _).mono ?_
    rintro e w2 ⟨⟨v, rfl, hown⟩, hb⟩
    have HO := hidden hown
    clear hown
    go_wp2_with fail
    go_ret
    exact ⟨⟨_, rfl, HO.out⟩, hb⟩
  · have HE := hidden (zigzag_nonneg (x := z) (by omega))
    go_enter Try.func7, Try.ntmps7
    go_wp2_with fail
    rw [← HE.out]
    refine (HP.out _).mono ?_
    rintro e w2 ⟨⟨v, rfl, hown⟩, hb⟩
    have HO := hidden hown
    clear hown
    go_wp2_with fail
    go_ret
    exact ⟨⟨_, rfl, HO.out⟩, hb⟩
end Go.Proofs.Ytkkeeefhleekdab
