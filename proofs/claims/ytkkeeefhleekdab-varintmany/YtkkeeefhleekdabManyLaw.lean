/- VarintMany: for every list of numbers the law returns true: those that are written one behind the other are read in order, and nothing is left; nothing that was there is written. No condition. -/
import Derived.Test.YtkkeeefhleekdabGrow
set_option linter.unusedVariables false
namespace Go.Proofs.Ytkkeeefhleekdab
namespace ManyLaw
open Go.ChangeShapes Go.WideShapes Go.ChangeAt Go.RowKit Go.Lib

/-- The bytes of the numbers from the j-th on, K in all. -/
def rs (f : Nat → Nat) (K j : Nat) : List UInt8 := ((List.range K).drop j).flatMap fun i => uvarint (f i)

theorem rs_step {f : Nat → Nat} {K j : Nat} (h : j < K) : rs f K j = uvarint (f j) ++ rs f K (j + 1) := by
  unfold rs
  rw [List.drop_eq_getElem_cons (by simpa using h)]
  simp

theorem rs_end (f : Nat → Nat) (K : Nat) : rs f K K = [] := by
  unfold rs
  rw [List.drop_of_length_le (by simp)]
  rfl

theorem rs_grow (f : Nat → Nat) (K : Nat) : rs f (K + 1) 0 = rs f K 0 ++ uvarint (f K) := by
  unfold rs
  rw [List.drop_zero, List.drop_zero, List.range_succ, List.flatMap_append]
  simp

theorem rs_len {f : Nat → Nat} {len : Nat} (h : ∀ i, i < len → f i < 18446744073709551616) : ∀ K, K ≤ len → (rs f K 0).length ≤ 10 * K
  | 0, _ => by rw [rs_end]; simp
  | K + 1, hK => by
    rw [rs_grow, List.length_append]
    have h1 := rs_len h K (by omega)
    have h2 := uvarint_length64 (h K (by omega))
    omega

theorem rs_tail {f : Nat → Nat} {len : Nat} (h : ∀ i, i < len → f i < 18446744073709551616) (K j : Nat) (hK : K ≤ len) (hj : j < K) : (rs f K (j + 1)).length ≤ 10 * K := by
  have h1 := rs_len h K hK
  have h2 : (rs f K (j + 1)).length ≤ (rs f K 0).length := by
    unfold rs
    rw [List.drop_zero]
    have h3 : ((List.range K).drop (j + 1)).flatMap (fun i => uvarint (f i)) <:+ (List.range K).flatMap (fun i => uvarint (f i)) := by
      conv => rhs; rw [← List.take_append_drop (j + 1) (List.range K)]
      rw [List.flatMap_append]
      exact List.suffix_append _ _
    exact h3.length_le
  omega

theorem below_then {a w w2 : World} (h : Below a.heap.size a w) (h2 : Below w.heap.size w w2) : Below a.heap.size a w2 := h.trans (h2.mono h.size)

/-- What is left of a slice behind its first bytes. -/
theorem Sl_drop {W : World} {b off cap : Nat} {x r : List UInt8} (h : Sl W (.slice (some ⟨b, off, none⟩) (x ++ r).length cap) (x ++ r)) :
    ∃ A, (if cap = x.length then (some ⟨b, off, none⟩ : Option Addr) else some ⟨b, off + x.length, none⟩) = A ∧ Sl W (.slice A r.length (cap - x.length)) r := by
  refine ⟨_, rfl, ?_⟩
  obtain ⟨a, c, h1, h2, h3, h4⟩ := h
  simp only [Value.slice.injEq] at h1
  obtain ⟨rfl, _, rfl⟩ := h1
  rw [List.length_append] at h2
  refine ⟨_, _, rfl, by omega, by omega, fun h0 => ?_⟩
  rw [if_neg (by omega)]
  obtain ⟨b', off', h5, h6, h7⟩ := h4 (by simp; omega)
  cases h5
  refine ⟨b, off + x.length, rfl, h6, fun j hj => ?_⟩
  have h8 := h7 (x.length + j) (by simp; omega)
  rw [Nat.add_assoc, h8]
  simp

theorem walk_empty (a : Option Addr) (cap : Nat) (w : World) : Calls Try.prog 3 #[.slice a 0 cap] w fun e w' => e = .returned (.bool true) ∧ Below w.heap.size w w' := by
  go_enter Try.func3, Try.ntmps3
  go_wp2_with fail
  refine (alive_any _).mono ?_
  rintro e w1 ⟨rfl, hb1⟩
  have HB1 := hidden hb1
  clear hb1
  go_wp2_with fail
  refine wp_loop_rounds 1 ?_
  rw [rounds_succ]
  go_wp2_with fail
  refine wp_loop_rounds 1 ?_
  rw [rounds_succ]
  go_wp2_with fail
  go_ret
  exact ⟨rfl, HB1.out⟩

set_option maxRecDepth 100000 in
set_option maxHeartbeats 4000000 in
theorem walk_full (b off len cap : Nat) (f : Nat → Nat) (w : World) (hmax : len ≤ maxLen) (hbw : b < w.heap.size) (hf : NumsAt w b off len f) :
    Calls Try.prog 3 #[.slice (some ⟨b, off, none⟩) len cap] w fun e w' => e = .returned (.bool true) ∧ Below w.heap.size w w' := by
  have hm : len ≤ 9223372036854775807 := by unfold maxLen at hmax; omega
  have HF := hidden hf
  have HL := hidden (rs_len (f := f) (len := len) (fun i hi => (hf i hi).1))
  clear hmax hf
  go_enter Try.func3, Try.ntmps3
  go_wp2_with fail
  refine (alive_any _).mono ?_
  rintro e w1 ⟨rfl, hb1⟩
  have HB1 := hidden hb1
  have hz1 := hb1.size
  clear hb1
  go_wp2_with fail
  go_loopw [3, 4] (fun v i wr => ∃ k : Nat, k ≤ len ∧ k ≤ 100 ∧ i = .int .i64 (k : Int) ∧ wr.ownsRow w1.heap.size 5 1 v (rs f k 0).length (byteVals (rs f k 0)) ∧ Below w1.heap.size w1 wr) (fun _ i _ => 100 - (intOf i).toNat)
  case atStart => exact ⟨0, by omega, by omega, rfl, World.ownsRow_nil _ _ _ _, Below.refl _ _⟩
  case round =>
    obtain ⟨k, hk, hk1, rfl, hown, hbel⟩ := hrel
    have hlen := HL.out k hk
    have HO := hidden hown
    have HB := hidden hbel
    have HBW := hidden (below_then HB1.out hbel)
    have hzr := hbel.size
    clear hown hbel
    by_cases hgo : k < len ∧ k < 100
    · obtain ⟨hkl, hk100⟩ := hgo
      obtain ⟨hfk, hck0⟩ := HF.out k hkl
      have hck := (HBW.out.cell (p := ⟨b, off + k, none⟩) hbw).trans hck0
      have HP := hidden (put_any (f k) hfk)
      have hl10 := uvarint_length64 hfk
      have HG := hidden (rs_grow f k)
      clear hck0
      generalize f k = x at *
      go_wp2_with fail
      refine (HP.out _).mono ?_
      rintro e w2 ⟨⟨v2, rfl, o2⟩, hb2⟩
      have HO2 := hidden (own_kept HO.out hb2)
      have HS2 := hidden (Sn.of_own o2)
      have hz2 := hb2.size
      have HB2 := hidden (HB.out.trans (hb2.mono hzr))
      clear o2 hb2
      go_wp2_with (first | (at_builtin; refine wpList_append_sn rfl _ _ rfl w1.heap.size _ _ _ (rs f k 0) (uvarint x) rfl HO2.out rfl HS2.out ?_ ?_ ?_))
      · omega
      · omega
      intro v3 w3 o3 hb3
      have HO3 := hidden o3
      have HB3 := hidden (HB2.out.trans hb3)
      clear o3 hb3
      go_wp2_with fail
      go_roundw
      case rel =>
        refine ⟨k + 1, by omega, by omega, by go_num, ?_, HB3.out⟩
        rw [HG.out, List.length_append]
        exact HO3.out
      case measure => simp [intOf]; omega
    · by_cases hkl : k < len
      · have hk100 : ¬ k < 100 := fun h => hgo ⟨hkl, h⟩
        clear hgo
        have HS := hidden (Sl.of_own HO.out)
        clear HO HB
        go_wp2_with fail
        go_loopw [3, 5] (fun v i w' => w' = wr ∧ ∃ j : Nat, j ≤ k ∧ i = .int .i64 (j : Int) ∧ Sl wr v (rs f k j)) (fun _ i _ => 100 - (intOf i).toNat)
        case atStart => exact ⟨rfl, 0, by omega, rfl, HS.out⟩
        case round =>
          obtain ⟨rfl, j, hj, rfl, hsl⟩ := hrel
          by_cases hjk : j < k
          · obtain ⟨hfj, hcj0⟩ := HF.out j (by omega)
            have hcj := (HBW.out.cell (p := ⟨b, off + j, none⟩) hbw).trans hcj0
            rw [rs_step hjk] at hsl
            have HG := hidden (get_put (f j) hfj (rs f k (j + 1)))
            have hp := uvarint_pos (f j)
            have hl10 := uvarint_length64 hfj
            have hll := rs_tail (f := f) (len := len) (fun i hi => (HF.out i hi).1) k j hk hjk
            clear hcj0
            generalize hr : rs f k (j + 1) = r at *
            have HR := hidden hr
            clear hr
            generalize f j = x at *
            obtain ⟨a2, c2, rfl, s2, s3, s4⟩ := id hsl
            obtain ⟨bb, oo, rfl, s5, s6⟩ := s4 (by simp; omega)
            have HX := hidden hsl
            have HGA := hidden (get_any hsl)
            obtain ⟨A, hA, hSA⟩ := Sl_drop hsl
            have HSA := hidden hSA
            have HT : Hid (tell .u64 ((getL (uvarint x ++ r)).1 : Int) (getL (uvarint x ++ r)).2.1 (getL (uvarint x ++ r)).2.2 = .returned (.tuple #[.int .u64 (x : Int), .int .i64 ((uvarint x).length : Int), .int .i64 0])) := by
              show _ = _
              rw [HG.out]; rfl
            clear hsl hSA s4 s6 s5 s3
            rw [List.length_append] at *
            have hle1 : ¬ ((uvarint x).length : Int) > (((uvarint x).length + r.length : Nat) : Int) := by omega
            go_wp2_with fail
            refine HGA.out.mono ?_
            rintro e w3 ⟨rfl, rfl⟩
            rw [HT.out]
            go_wp2_with fail
            go_roundw
            case rel => exact ⟨trivial, j + 1, by omega, by go_num, by rw [HR.out]; exact HSA.out⟩
            case measure => simp [intOf]; omega
          · obtain rfl : j = k := by omega
            rw [rs_end] at hsl
            obtain ⟨a2, c2, rfl, _⟩ := hsl
            go_wp2_with fail
            go_ret
            exact ⟨rfl, HBW.out⟩
      · clear hgo
        have HS := hidden (Sl.of_own HO.out)
        clear HO HB
        go_wp2_with fail
        go_loopw [3, 5] (fun v i w' => w' = wr ∧ ∃ j : Nat, j ≤ k ∧ i = .int .i64 (j : Int) ∧ Sl wr v (rs f k j)) (fun _ i _ => 100 - (intOf i).toNat)
        case atStart => exact ⟨rfl, 0, by omega, rfl, HS.out⟩
        case round =>
          obtain ⟨rfl, j, hj, rfl, hsl⟩ := hrel
          by_cases hjk : j < k
          · obtain ⟨hfj, hcj0⟩ := HF.out j (by omega)
            have hcj := (HBW.out.cell (p := ⟨b, off + j, none⟩) hbw).trans hcj0
            rw [rs_step hjk] at hsl
            have HG := hidden (get_put (f j) hfj (rs f k (j + 1)))
            have hp := uvarint_pos (f j)
            have hl10 := uvarint_length64 hfj
            have hll := rs_tail (f := f) (len := len) (fun i hi => (HF.out i hi).1) k j hk hjk
            clear hcj0
            generalize hr : rs f k (j + 1) = r at *
            have HR := hidden hr
            clear hr
            generalize f j = x at *
            obtain ⟨a2, c2, rfl, s2, s3, s4⟩ := id hsl
            obtain ⟨bb, oo, rfl, s5, s6⟩ := s4 (by simp; omega)
            have HX := hidden hsl
            have HGA := hidden (get_any hsl)
            obtain ⟨A, hA, hSA⟩ := Sl_drop hsl
            have HSA := hidden hSA
            have HT : Hid (tell .u64 ((getL (uvarint x ++ r)).1 : Int) (getL (uvarint x ++ r)).2.1 (getL (uvarint x ++ r)).2.2 = .returned (.tuple #[.int .u64 (x : Int), .int .i64 ((uvarint x).length : Int), .int .i64 0])) := by
              show _ = _
              rw [HG.out]; rfl
            clear hsl hSA s4 s6 s5 s3
            rw [List.length_append] at *
            have hle1 : ¬ ((uvarint x).length : Int) > (((uvarint x).length + r.length : Nat) : Int) := by omega
            go_wp2_with fail
            refine HGA.out.mono ?_
            rintro e w3 ⟨rfl, rfl⟩
            rw [HT.out]
            go_wp2_with fail
            go_roundw
            case rel => exact ⟨trivial, j + 1, by omega, by go_num, by rw [HR.out]; exact HSA.out⟩
            case measure => simp [intOf]; omega
          · obtain rfl : j = k := by omega
            rw [rs_end] at hsl
            obtain ⟨a2, c2, rfl, _⟩ := hsl
            go_wp2_with fail
            go_ret
            exact ⟨rfl, HBW.out⟩

theorem walk {a : Option Addr} {len cap : Nat} {W0 : World} (h : len ≤ maxLen ∧ (0 < len → ∃ b off f, a = some ⟨b, off, none⟩ ∧ b < W0.heap.size ∧ NumsAt W0 b off len f)) (w : World) (hw : w = W0) :
    Calls Try.prog 3 #[.slice a len cap] w fun e w' => e = .returned (.bool true) ∧ Below w.heap.size w w' := by
  subst hw
  rcases Nat.eq_zero_or_pos len with rfl | h0
  · exact walk_empty a cap w
  · obtain ⟨b, off, f, rfl, hb, hf⟩ := h.2 h0
    exact walk_full b off len cap f w h.1 hb hf

set_option maxRecDepth 100000 in
theorem lifted (os : Os) (started : os.Started) (H : Type) (enc : TypeId × Value → H) :
    ReturnsInHanded {} Try.checked os 3 .any (Rows.varintManySpec.pre6 enc Try.prog Try.f3 Rows.varintManyRow.domain false) (Rows.varintManySpec.post enc Try.prog Try.f3 false true false false) := by
  refine returnsInHanded_of_change (C := Try.checked) own started (by kernel_rfl) Try.func3
    (ChangeSpec.witness6 (enc := enc) (C := Try.checked) false ⟨#[], #[.slice none 0 0], []⟩ 8 (by kernel_rfl) (by kernel_rfl) (by kernel_rfl) (by kernel_rfl)) ?_
  intro W base args ds gs before hval0 hW hcnd _
  have hval : ∀ (j : Nat) t v, Try.f3.params[j]? = some t → args[j]? = some v → Value.okWide Try.prog W .any base t v := hval0
  have hW' := hW
  obtain ⟨p, q, hA0, hV, rfl, hfz, hnd⟩ := hW
  have hA : DataW.TrodAll enc Try.prog W 0 (fun _ => true) true Try.f3.params.toList args.toList ds p := hA0
  rw [Try.params3] at hA hval
  obtain ⟨v0, vs0, d0, ds0, p0, q0, hargs, rfl, rfl, h0, r0⟩ := trodAll_cons hA
  obtain ⟨rfl, rfl, rfl⟩ := trodAll_nil r0
  obtain rfl : args = #[v0] := by cases args; simp_all
  obtain ⟨rfl, rfl⟩ := trodVars_none hV
  obtain ⟨a0, len0, cap0, rfl⟩ := okWide_slice Try.underlying22 (hval 0 22 v0 rfl rfl)
  have lt0 : ∀ x ∈ p0, x.block < W.heap.size := by obtain ⟨m, hm⟩ := h0; exact DataW.trod_lt m _ _ _ hm
  have hl0 := open_nums h0
  clear hA0 hval0
  refine (walk hl0 W rfl).mono fun e W' ⟨he, bel⟩ => ?_
  subst he
  exact ⟨_, rfl, _, _, _, [], _, [], hW', trodAll_mk1 (shut_bool Try.underlying4 _), (trodAll_cons_mk (Below.trod laidOut (by kernel_rfl) (of_decide_eq_true (by kernel_rfl)) h0 bel lt0) trodAll_mk0), rfl, bel.frame _, fun h => by cases h⟩

theorem proved : Rows.VarintManySaid :=
  OpenClaim.holds_of_wide 3 Try.f3 rfl rfl rfl rfl rfl rfl rfl ⟨rfl, rfl, rfl, rfl, rfl⟩ rfl rfl rfl rfl rfl (by kernel_rfl) Try.func3 (by kernel_rfl)
    (of_decide_eq_true (by kernel_rfl)) (by unfold Func.isWrapper; first | (rw [if_pos (by decide +kernel)]; kernel_rfl) | (rw [if_neg (by decide +kernel)]; exact ⟨rfl, rfl⟩))
    (fun os started H enc _ => lifted os started H enc)
end ManyLaw
theorem varintMany_holds : Rows.VarintManySaid := ManyLaw.proved
#print axioms varintMany_holds
end Go.Proofs.Ytkkeeefhleekdab
