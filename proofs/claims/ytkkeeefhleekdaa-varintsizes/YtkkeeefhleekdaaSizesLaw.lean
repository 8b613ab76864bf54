/- VarintSizes: for every number the law returns true: it has one byte for each seven bits that it needs, and just the last one lacks its topmost bit; nothing that was there is written. No condition. -/
import Derived.Test.YtkkeeefhleekdaaLift
set_option linter.unusedVariables false
namespace Go.Proofs.Ytkkeeefhleekdaa
namespace SizesLaw
open Go.ChangeShapes Go.WideShapes Go.ChangeAt Go.RowKit Go.Lib

theorem byte_on {n j : Nat} (h : j < (uvarint n).length) : (j < (uvarint n).length - 1 → (uvarint n)[j].toNat > 127) ∧ (¬ j < (uvarint n).length - 1 → ¬ (uvarint n)[j].toNat > 127) := by
  have h1 := lead_uv n
  constructor
  · intro h2
    have := lead_big (uvarint n) j h (by omega)
    omega
  · intro h2
    have h3 := lead_small (uvarint n) (by omega)
    have e : lead (uvarint n) = j := by omega
    simp only [e] at h3
    omega

set_option maxRecDepth 100000 in
set_option maxHeartbeats 2000000 in
theorem walk (n : Nat) (hn : n < 18446744073709551616) (w : World) :
    Calls Try.prog 7 #[.int .u64 (n : Int)] w fun e w' => e = .returned (.bool true) ∧ Below w.heap.size w w' := by
  have HP := hidden (put_any n hn)
  have hl := uvarint_length64 hn
  have hp := uvarint_pos n
  go_enter Try.func7, Try.ntmps7
  go_wp2_with fail
  refine (alive_any _).mono ?_
  rintro e w1 ⟨rfl, hb1⟩
  have HB1 := hidden hb1
  have hz1 := hb1.size
  clear hb1
  go_wp2_with fail
  go_loopw [3, 4] (fun s m w' => w' = w1 ∧ ∃ (k : Nat) (z : Nat), m = .int .u64 (k : Int) ∧ k < 18446744073709551616 ∧ s = .int .i64 (z : Int) ∧ z + (uvarint k).length = (uvarint n).length + 1) (fun _ m _ => (intOf m).toNat)
  case atStart => exact ⟨rfl, n, 1, rfl, hn, rfl, by omega⟩
  case round =>
    obtain ⟨rfl, k, z, rfl, hk, rfl, hz⟩ := hrel
    obtain ⟨s1, s2⟩ := uv_step k
    have hkp := uvarint_pos k
    by_cases h : (k : Int) > 127
    · have h2 := s2 (by omega)
      have HZ : Hid (z + 1 + (uvarint (k / 128)).length = (uvarint n).length + 1) := by show _ = _; omega
      have hzb : z ≤ 10 := by omega
      clear s1 s2 h2 hz
      go_wp2_with fail
      go_roundw
      case rel => exact ⟨trivial, k / 128, z + 1, by go_num, by omega, by go_num, HZ.out⟩
      case measure => simp [intOf]; omega
    · have h1 := s1 (by omega)
      have hze : z = (uvarint n).length := by omega
      subst hze
      clear s1 s2 h1 hz
      go_wp2_with fail
      refine (HP.out _).mono ?_
      rintro e w2 ⟨⟨v, rfl, hown⟩, hb2⟩
      have HB2 := hidden (HB1.out.trans (hb2.mono hz1))
      obtain ⟨g, cap, rfl, hg, _, hc⟩ := (own_form hown).2 hp
      have HC := hidden hc
      have HY := hidden (fun j h => byte_on (n := n) (j := j) h)
      clear hown hc hb2
      go_wp2_with fail
      go_loopw [6] (fun i w' => w' = w2 ∧ ∃ j : Nat, i = .int .i64 (j : Int) ∧ j ≤ (uvarint n).length) (fun i _ => (uvarint n).length - (intOf i).toNat)
      case atStart => exact ⟨rfl, 0, rfl, by omega⟩
      case round =>
        obtain ⟨rfl, j, rfl, hj⟩ := hrel
        by_cases hjl : j < (uvarint n).length
        · have hcj := HC.out j _ (byteVals_get hjl)
          obtain ⟨y1, y2⟩ := HY.out j hjl
          have hb := (uvarint n)[j].toNat_lt
          generalize (uvarint n)[j] = c at *
          by_cases hlast : j < (uvarint n).length - 1
          · have t1 : (c.toNat : Int) > 127 := by have := y1 hlast; omega
            have t2 : (j : Int) < ((uvarint n).length : Int) - 1 := by omega
            clear y1 y2
            go_wp2_with fail
            go_roundw
            case rel => exact ⟨trivial, j + 1, by go_num, by omega⟩
            case measure => simp [intOf]; omega
          · have t1 : ¬ (c.toNat : Int) > 127 := by have := y2 hlast; omega
            have t2 : ¬ (j : Int) < ((uvarint n).length : Int) - 1 := by omega
            clear y1 y2
            go_wp2_with fail
            go_roundw
            case rel => exact ⟨trivial, j + 1, by go_num, by omega⟩
            case measure => simp [intOf]; omega
        · go_wp2_with fail
          go_ret
          exact ⟨rfl, HB2.out⟩

set_option maxRecDepth 100000 in
theorem lifted (os : Os) (started : os.Started) (H : Type) (enc : TypeId × Value → H) :
    ReturnsInHanded {} Try.checked os 7 .any (Rows.varintSizesSpec.pre6 enc Try.prog Try.f7 Rows.varintSizesRow.domain false) (Rows.varintSizesSpec.post enc Try.prog Try.f7 false true false false) := by
  refine returnsInHanded_of_change (C := Try.checked) own started (by kernel_rfl) Try.func7
    (ChangeSpec.witness6 (enc := enc) (C := Try.checked) false ⟨#[], #[.int .u64 0], []⟩ 8 (by kernel_rfl) (by kernel_rfl) (by kernel_rfl) (by kernel_rfl)) ?_
  intro W base args ds gs before hval0 hW hcnd _
  have hval : ∀ (j : Nat) t v, Try.f7.params[j]? = some t → args[j]? = some v → Value.okWide Try.prog W .any base t v := hval0
  have hW' := hW
  obtain ⟨p, q, hA0, hV, rfl, hfz, hnd⟩ := hW
  have hA : DataW.TrodAll enc Try.prog W 0 (fun _ => true) true Try.f7.params.toList args.toList ds p := hA0
  rw [Try.params7] at hA hval
  obtain ⟨v0, vs0, d0, ds0, p0, q0, hargs, rfl, rfl, h0, r0⟩ := trodAll_cons hA
  obtain ⟨rfl, rfl, rfl⟩ := trodAll_nil r0
  obtain rfl : args = #[v0] := by cases args; simp_all
  obtain ⟨rfl, rfl⟩ := trodVars_none hV
  obtain ⟨a0, rfl, rfl, rfl, w0⟩ := open_int Try.underlying22 (hval 0 22 v0 rfl rfl) h0
  have g0 := bounds_u64 w0
  obtain ⟨n0, rfl⟩ := Int.eq_ofNat_of_zero_le g0.1
  clear hA0 hval0
  refine (walk n0 (by omega) W).mono fun e W' ⟨he, bel⟩ => ?_
  subst he
  exact ⟨_, rfl, _, _, _, [], _, [], hW', trodAll_mk1 (shut_bool Try.underlying4 _), (trodAll_cons_mk (shut_int Try.underlying22 w0) trodAll_mk0), rfl, bel.frame _, fun h => by cases h⟩

theorem proved : Rows.VarintSizesSaid :=
  OpenClaim.holds_of_wide 7 Try.f7 rfl rfl rfl rfl rfl rfl rfl ⟨rfl, rfl, rfl, rfl, rfl⟩ rfl rfl rfl rfl rfl (by kernel_rfl) Try.func7 (by kernel_rfl)
    (of_decide_eq_true (by kernel_rfl)) (by unfold Func.isWrapper; first | (rw [if_pos (by decide +kernel)]; kernel_rfl) | (rw [if_neg (by decide +kernel)]; exact ⟨rfl, rfl⟩))
    (fun os started H enc _ => lifted os started H enc)
end SizesLaw
theorem varintSizes_holds : Rows.VarintSizesSaid := SizesLaw.proved
#print axioms varintSizes_holds
end Go.Proofs.Ytkkeeefhleekdaa
