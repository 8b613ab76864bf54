/- Contracts: the document's Put, and both PutInt. -/
import Derived.Test.YtnlanilejhjkkaaVPut
set_option linter.unusedVariables false
set_option linter.unusedSimpArgs false
namespace Go.Proofs.Ytnlanilejhjkkaa
open Go.RowKit Go.Lib

theorem byteVals_oneCell (l : List UInt8) : ∀ u ∈ byteVals l, u.oneCell' = true := by
  intro u hu
  obtain ⟨b, _, rfl⟩ := List.mem_map.1 hu
  rfl

set_option maxRecDepth 100000 in
set_option maxHeartbeats 2000000 in
theorem refPut_all : ∀ (N n : Nat), n ≤ N → n < 18446744073709551616 → ∀ w : World,
    Calls Try.prog 19 #[.int .u64 (n : Int)] w fun e w' => (∃ v, e = .returned v ∧ w'.ownsRow w.heap.size 5 1 v (uvarint n).length (byteVals (uvarint n))) ∧ Below w.heap.size w w' := by
  intro N
  induction N with
  | zero =>
    intro n h0 hn w
    obtain rfl : n = 0 := by omega
    have HS := hidden (uvarint_small (x := 0) (by omega))
    go_enter Try.func19, Try.ntmps19
    go_wp2_with fail
    go_ret
    refine ⟨⟨_, rfl, ?_⟩, (Below.refl _ _).alloc (Nat.le_refl _) _⟩
    rw [HS.out]
    exact World.ownsRow_lit w #[.int .u8 0] 1 (Nat.le_refl _) (by unfold maxLen; omega) rfl
  | succ N ih =>
    intro n h0 hn w
    obtain ⟨i0, hi, hz0, hz1', hz2⟩ := info_parts info5
    by_cases h : (n : Int) < 128
    · have HS := hidden (uvarint_small (x := n) (by omega))
      have HV := hidden (byteVals_one (x := n) (by omega))
      clear ih
      go_enter Try.func19, Try.ntmps19
      go_wp2_with fail
      go_ret
      refine ⟨⟨_, rfl, ?_⟩, (Below.refl _ _).alloc (Nat.le_refl _) _⟩
      rw [HS.out, HV.out]
      exact World.ownsRow_lit w #[.int .u8 (n : Int)] 1 (Nat.le_refl _) (by unfold maxLen; omega) rfl
    · have HS := hidden (uvarint_big (x := n) (by omega))
      have HL := hidden (uvarint_length64 (x := n / 128) (by omega))
      have HP := hidden (uvarint_pos (n / 128))
      have HV := hidden (byteVals_one (x := n % 128 + 128) (by omega))
      have HI := hidden (ih (n / 128) (by omega) (by omega))
      have hlit : ∀ B, B ≤ w.heap.size → (w.alloc (.cells #[.int .u8 ((n : Int) % 128 + 128)] 5)).ownsRow B 5 1 (.slice (some ⟨w.heap.size, 0, none⟩) 1 1) 1 [.int .u8 ((n : Int) % 128 + 128)] := fun B hB => World.ownsRow_lit w #[.int .u8 ((n : Int) % 128 + 128)] 1 hB (by unfold maxLen; omega) rfl
      have HLit := hidden hlit
      clear ih hlit
      go_enter Try.func19, Try.ntmps19
      go_wp2_with fail
      refine (HI.out _).mono ?_
      rintro e w2 ⟨⟨v, rfl, hown⟩, hb⟩
      obtain ⟨g, cap, rfl, hg, hgB, hc⟩ := (vown_form hown).2 HP.out
      have HC := hidden hc
      have HO := hidden (own_kept (HLit.out w.heap.size (Nat.le_refl _)) hb)
      have HB := hidden (((Below.refl w.heap.size w).alloc (Nat.le_refl _) (.cells #[.int .u8 ((n : Int) % 128 + 128)] 5)).trans (hb.mono (by simp)))
      have hz := hb.size
      simp at hz
      clear hc hown hb
      have hlen := HL.out
      go_wp2_with (first | (at_builtin; refine wpList_append_own_at _ rfl _ _ 24 rfl w.heap.size 5 i0 (.int .u8 0) 1 1 Try.underlying24 hi hz0 hz1' hz2 rfl (by decide) _ _ _ rfl HO.out ⟨g, 0, none⟩ (uvarint (n / 128)).length cap (byteVals (uvarint (n / 128))) rfl (by rw [byteVals_length]; omega) ?c1 ?c2 ?c3 ?c4 ?c5 ?_))
      case c1 => intro j u hu; rw [add0]; exact HC.out j u hu
      case c2 => exact byteVals_oneCell _
      case c3 => unfold maxLen; omega
      case c4 => omega
      case c5 => omega
      intro v1 w3 o1 g1 _ e1
      have HO1 := hidden o1
      have HB1 := hidden (HB.out.grown g1 (by omega) (fun k hk => (HO.out.lt k hk).1))
      clear o1 g1 e1
      go_wp2_with fail
      go_ret
      refine ⟨⟨_, rfl, ?_⟩, HB1.out⟩
      have h1 := HO1.out
      rw [HS.out]
      have e2 : byteVals ((n % 128 + 128).toUInt8 :: uvarint (n / 128)) = [.int .u8 ((n : Int) % 128 + 128)] ++ byteVals (uvarint (n / 128)) := by
        rw [← List.singleton_append, byteVals_append, HV.out]
        rfl
      rw [e2, List.length_cons, Nat.add_comm]
      exact h1

theorem refPut_any (n : Nat) (hn : n < 18446744073709551616) (w : World) :
    Calls Try.prog 19 #[.int .u64 (n : Int)] w fun e w' => (∃ v, e = .returned v ∧ w'.ownsRow w.heap.size 5 1 v (uvarint n).length (byteVals (uvarint n))) ∧ Below w.heap.size w w' :=
  refPut_all n n (Nat.le_refl _) hn w

theorem i64_xor (x : Int) (h0 : -9223372036854775808 ≤ x) (h1 : x ≤ 9223372036854775807) : bits .xor .i64 (-1) x = -x - 1 := by
  by_cases h : x < 0
  · show IntKind.i64.wrap ((BitVec.ofInt 64 (-1) ^^^ BitVec.ofInt 64 x).toNat : Int) = _
    have e1 : (BitVec.ofInt 64 (-1)).toNat = 2 ^ 64 - 1 := by decide
    have e2 : (BitVec.ofInt 64 x).toNat = (x + 18446744073709551616).toNat := by
      rw [BitVec.toNat_ofInt]; omega
    rw [BitVec.toNat_xor, e1, e2, xor_ones64 _ (by omega), IntKind.wrap_i64]
    omega
  · obtain ⟨n, rfl⟩ := Int.eq_ofNat_of_zero_le (a := x) (by omega)
    exact i64_not n (by omega)

theorem zig_or {z : Int} (h0 : -9223372036854775808 ≤ z) (h : z < 0) : bits .or .u64 (IntKind.u64.wrap (IntKind.u64.wrap (-z - 1) * 2)) 1 = ((zigzag z : Nat) : Int) := by
  have e : IntKind.u64.wrap (IntKind.u64.wrap (-z - 1) * 2) = (-z - 1) * 2 := by rw [IntKind.wrap_u64, IntKind.wrap_u64]; omega
  rw [e, bits_join .u64 64 (by decide) wraps_u64 1 _ _ (by omega) (by omega) (by omega) (by omega) (by omega) (by omega)]
  unfold zigzag
  rw [if_neg (by omega)]
  omega

set_option maxRecDepth 100000 in
theorem putInt_any (z : Int) (h0 : -9223372036854775808 ≤ z) (h1 : z ≤ 9223372036854775807) (w : World) :
    Calls Try.prog 43 #[.int .i64 z] w fun e w' => (∃ v, e = .returned v ∧ w'.ownsRow w.heap.size 5 1 v (uvarint (zigzag z)).length (byteVals (uvarint (zigzag z)))) ∧ Below w.heap.size w w' := by
  have HP := hidden (vput_any (zigzag z) (zigzag_lt h0 h1))
  by_cases h : z < 0
  · have hx := i64_xor z h0 h1
    have HE := hidden (zig_or h0 h)
    go_enter Try.func43, Try.ntmps43
    go_wp2_with fail
    rw [HE.out]
    refine (HP.out _).mono ?_
    rintro e w2 ⟨⟨v, rfl, hown⟩, hb⟩
    have HO := hidden hown
    clear hown
    go_wp2_with fail
    go_ret
    exact ⟨⟨_, rfl, HO.out⟩, hb⟩
  · have HE := hidden (zigzag_nonneg (x := z) (by omega))
    go_enter Try.func43, Try.ntmps43
    go_wp2_with fail
    rw [← HE.out]
    refine (HP.out _).mono ?_
    rintro e w2 ⟨⟨v, rfl, hown⟩, hb⟩
    have HO := hidden hown
    clear hown
    go_wp2_with fail
    go_ret
    exact ⟨⟨_, rfl, HO.out⟩, hb⟩

set_option maxRecDepth 100000 in
theorem refPutInt_any (z : Int) (h0 : -9223372036854775808 ≤ z) (h1 : z ≤ 9223372036854775807) (w : World) :
    Calls Try.prog 18 #[.int .i64 z] w fun e w' => (∃ v, e = .returned v ∧ w'.ownsRow w.heap.size 5 1 v (uvarint (zigzag z)).length (byteVals (uvarint (zigzag z)))) ∧ Below w.heap.size w w' := by
  have HP := hidden (refPut_any (zigzag z) (zigzag_lt h0 h1))
  by_cases h : z ≥ 0
  · have HE := hidden (zigzag_nonneg (x := z) (by omega))
    go_enter Try.func18, Try.ntmps18
    go_wp2_with fail
    rw [Int.mul_comm, ← HE.out]
    refine (HP.out _).mono ?_
    rintro e w2 ⟨⟨v, rfl, hown⟩, hb⟩
    have HO := hidden hown
    clear hown
    go_wp2_with fail
    go_ret
    exact ⟨⟨_, rfl, HO.out⟩, hb⟩
  · have he : 2 * -(z + 1) + 1 = ((zigzag z : Nat) : Int) := by unfold zigzag; rw [if_neg (by omega)]; omega
    have HE := hidden he
    clear he
    go_enter Try.func18, Try.ntmps18
    go_wp2_with fail
    rw [HE.out]
    refine (HP.out _).mono ?_
    rintro e w2 ⟨⟨v, rfl, hown⟩, hb⟩
    have HO := hidden hown
    clear hown
    go_wp2_with fail
    go_ret
    exact ⟨⟨_, rfl, HO.out⟩, hb⟩
end Go.Proofs.Ytnlanilejhjkkaa
