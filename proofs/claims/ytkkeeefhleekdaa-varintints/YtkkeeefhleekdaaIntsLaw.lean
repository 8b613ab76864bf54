/- VarintInts: for every whole number the law returns true: it and its mirror have as many bytes, which differ in one bit; nothing that was there is written. No condition. -/
import Derived.Test.YtkkeeefhleekdaaLift
import Derived.BigQuiet
set_option linter.unusedVariables false
namespace Go.Proofs.Ytkkeeefhleekdaa
namespace IntsLaw
open Go.ChangeShapes Go.WideShapes Go.ChangeAt Go.RowKit Go.Lib

theorem xor_even : ∀ a : Fin 256, a.val % 2 = 0 → bits .xor .u8 (a.val : Int) ((a.val + 1 : Nat) : Int) = 1 := by decide +kernel

theorem pair (m : Nat) : ∃ x y t, uvarint (2 * m) = x :: t ∧ uvarint (2 * m + 1) = y :: t ∧ bits .xor .u8 (x.toNat : Int) (y.toNat : Int) = 1 := by
  by_cases h : 2 * m < 128
  · refine ⟨(2 * m).toUInt8, (2 * m + 1).toUInt8, [], uvarint_small h, uvarint_small (by omega), ?_⟩
    rw [u8_nat (by omega), u8_nat (by omega)]
    exact xor_even ⟨2 * m, by omega⟩ (by simp)
  · refine ⟨(2 * m % 128 + 128).toUInt8, ((2 * m + 1) % 128 + 128).toUInt8, uvarint (2 * m / 128), uvarint_big (by omega), ?_, ?_⟩
    · rw [uvarint_big (by omega), show (2 * m + 1) / 128 = 2 * m / 128 by omega]
    · rw [u8_nat (by omega), u8_nat (by omega)]
      have := xor_even ⟨2 * m % 128 + 128, by omega⟩ (by simp only; omega)
      rw [show (2 * m + 1) % 128 + 128 = 2 * m % 128 + 128 + 1 by omega]
      exact this

theorem below_drewN {B : Nat} {a w : World} (h : Below B a w) (n : Nat) : Below B a (w.drewN n) := ⟨h.os, h.tape, h.output, h.size, h.block⟩

/-- Bytes of the call's own, the first one and those behind it. -/
theorem tail_form {w : World} {B : Nat} {v : Value} {x : UInt8} {t : List UInt8} (h : w.ownsRow B 5 1 v (x :: t).length (byteVals (x :: t))) :
    ∃ g cap A, v = .slice (some ⟨g, 0, none⟩) (t.length + 1) (cap + 1) ∧ w.cell? ⟨g, 0, none⟩ = some (.int .u8 (x.toNat : Int)) ∧ (if cap = 0 then some (⟨g, 0, none⟩ : Addr) else some ⟨g, 1, none⟩) = some A ∧
      (∀ n, (convert 24 9 (.slice (some A) t.length cap)).run Try.prog (w.drewN n) = .ok (.string ⟨t.toArray⟩) (w.drewN n)) := by
  obtain ⟨_, h1⟩ := id h
  rcases h1 with ⟨_, h0⟩ | ⟨g, cap, cur, rfl, hb, hg, h4, _⟩
  · simp at h0
  · have hc : ∀ j y, (byteVals (x :: t))[j]? = some y → w.cell? ⟨g, j, none⟩ = some y := by
      intro j y hj
      have := h.cells (g := g) rfl j y hj
      rwa [add0] at this
    have hcap : ∃ c, cap = c + 1 := ⟨cap - 1, by simp at h4; omega⟩
    obtain ⟨c, rfl⟩ := hcap
    by_cases h0 : c = 0
    · subst h0
      have ht : t = [] := by
        cases t with
        | nil => rfl
        | cons _ _ => simp at h4
      subst ht
      refine ⟨g, 0, ⟨g, 0, none⟩, rfl, hc 0 _ (byteVals_get (by simp)), rfl, fun n => ?_⟩
      exact run_convert_bytes_back _ 24 9 5 ⟨g, 0, none⟩ 0 [] Try.underlying24 Try.underlying5 Try.underlying9 (fun j hj => by simp at hj)
    · refine ⟨g, c, ⟨g, 1, none⟩, rfl, hc 0 _ (byteVals_get (by simp)), if_neg h0, fun n => ?_⟩
      refine run_convert_bytes_back _ 24 9 5 ⟨g, 1, none⟩ c t Try.underlying24 Try.underlying5 Try.underlying9 (fun j hj => ?_)
      have hadd : (⟨g, 1, none⟩ : Addr).add j = ⟨g, 1 + j, none⟩ := by unfold Addr.add; split <;> simp_all
      rw [hadd]
      have := hc (1 + j) _ (byteVals_get (l := x :: t) (j := 1 + j) (by simp; omega))
      rw [World.cell?_drewN, this]
      simp [Nat.add_comm 1 j]

set_option maxRecDepth 100000 in
set_option maxHeartbeats 2000000 in
theorem walk (n : Int) (h0 : -9223372036854775808 ≤ n) (h1 : n ≤ 9223372036854775807) (w : World) :
    Calls Try.prog 8 #[.int .i64 n] w fun e w' => e = .returned (.bool true) ∧ Below w.heap.size w w' := by
  obtain ⟨m, hm⟩ : ∃ m : Nat, m < 9223372036854775808 ∧ (n < 0 → -(n + 1) = (m : Int)) ∧ (¬ n < 0 → n = (m : Int)) := by
    by_cases h : n < 0
    · exact ⟨(-(n + 1)).toNat, by omega, fun _ => by omega, fun h2 => by omega⟩
    · exact ⟨n.toNat, by omega, fun h2 => by omega, fun _ => by omega⟩
  obtain ⟨hm, hneg, hpos⟩ := hm
  have HA := hidden (putInt_any (m : Int) (by omega) (by omega))
  have HB := hidden (putInt_any (-(m : Int) - 1) (by omega) (by omega))
  have e1 : zigzag (m : Int) = 2 * m := by unfold zigzag; rw [if_pos (by omega)]; omega
  have e2 : zigzag (-(m : Int) - 1) = 2 * m + 1 := by unfold zigzag; rw [if_neg (by omega)]; omega
  obtain ⟨x, y, t, p1, p2, hxy⟩ := pair m
  have HL := hidden (uvarint_length64 (x := 2 * m) (by omega))
  rw [e1, p1] at HA
  rw [e2, p2] at HB
  rw [p1] at HL
  have hlen : t.length ≤ 9 := by have := HL.out; simp at this; omega
  clear e1 e2 p1 p2 HL
  by_cases h : n < 0
  · have HN := hidden (hneg h)
    clear hneg hpos
    go_enter Try.func8, Try.ntmps8
    go_wp2_with fail
    refine (alive_any _).mono ?_
    rintro e w1 ⟨rfl, hb1⟩
    have HB1 := hidden hb1
    have hz1 := hb1.size
    clear hb1
    go_wp2_with fail
    rw [HN.out]
    clear HN h h0 h1
    refine (HA.out _).mono ?_
    rintro e w2 ⟨⟨vx, rfl, ox⟩, hb2⟩
    have HB2 := hidden (HB1.out.trans (hb2.mono hz1))
    have hz2 := HB2.out.size
    have HX := hidden ox
    clear ox hb2
    go_wp2_with fail
    refine (HB.out _).mono ?_
    rintro e w3 ⟨⟨vy, rfl, oy⟩, hb3⟩
    have HB3 := hidden (HB2.out.trans (hb3.mono hz2))
    have ox := own_kept HX.out hb3
    clear HX hb3
    obtain ⟨g1, c1, A1, rfl, hx0, hA1, hcA⟩ := tail_form ox
    obtain ⟨g2, c2, A2, rfl, hy0, hA2, hcB⟩ := tail_form oy
    clear ox oy
    go_wp2_with fail
    go_quiet (fail)
    go_wp2_with fail
    go_ret
    exact ⟨rfl, below_drewN HB3.out _⟩
  · obtain rfl := hpos h
    clear hneg hpos
    go_enter Try.func8, Try.ntmps8
    go_wp2_with fail
    refine (alive_any _).mono ?_
    rintro e w1 ⟨rfl, hb1⟩
    have HB1 := hidden hb1
    have hz1 := hb1.size
    clear hb1
    go_wp2_with fail
    refine (HA.out _).mono ?_
    rintro e w2 ⟨⟨vx, rfl, ox⟩, hb2⟩
    have HB2 := hidden (HB1.out.trans (hb2.mono hz1))
    have hz2 := HB2.out.size
    have HX := hidden ox
    clear ox hb2
    go_wp2_with fail
    refine (HB.out _).mono ?_
    rintro e w3 ⟨⟨vy, rfl, oy⟩, hb3⟩
    have HB3 := hidden (HB2.out.trans (hb3.mono hz2))
    have ox := own_kept HX.out hb3
    clear HX hb3
    obtain ⟨g1, c1, A1, rfl, hx0, hA1, hcA⟩ := tail_form ox
    obtain ⟨g2, c2, A2, rfl, hy0, hA2, hcB⟩ := tail_form oy
    clear ox oy
    go_wp2_with fail
    go_quiet (fail)
    go_wp2_with fail
    go_ret
    exact ⟨rfl, below_drewN HB3.out _⟩

set_option maxRecDepth 100000 in
theorem lifted (os : Os) (started : os.Started) (H : Type) (enc : TypeId × Value → H) :
    ReturnsInHanded {} Try.checked os 8 .any (Rows.varintIntsSpec.pre6 enc Try.prog Try.f8 Rows.varintIntsRow.domain false) (Rows.varintIntsSpec.post enc Try.prog Try.f8 false true false false) := by
  refine returnsInHanded_of_change (C := Try.checked) own started (by kernel_rfl) Try.func8
    (ChangeSpec.witness6 (enc := enc) (C := Try.checked) false ⟨#[], #[.int .i64 0], []⟩ 8 (by kernel_rfl) (by kernel_rfl) (by kernel_rfl) (by kernel_rfl)) ?_
  intro W base args ds gs before hval0 hW hcnd _
  have hval : ∀ (j : Nat) t v, Try.f8.params[j]? = some t → args[j]? = some v → Value.okWide Try.prog W .any base t v := hval0
  have hW' := hW
  obtain ⟨p, q, hA0, hV, rfl, hfz, hnd⟩ := hW
  have hA : DataW.TrodAll enc Try.prog W 0 (fun _ => true) true Try.f8.params.toList args.toList ds p := hA0
  rw [Try.params8] at hA hval
  obtain ⟨v0, vs0, d0, ds0, p0, q0, hargs, rfl, rfl, h0, r0⟩ := trodAll_cons hA
  obtain ⟨rfl, rfl, rfl⟩ := trodAll_nil r0
  obtain rfl : args = #[v0] := by cases args; simp_all
  obtain ⟨rfl, rfl⟩ := trodVars_none hV
  obtain ⟨a0, rfl, rfl, rfl, w0⟩ := open_int Try.underlying2 (hval 0 2 v0 rfl rfl) h0
  have g0 := bounds_i64 w0
  clear hA0 hval0
  refine (walk a0 g0.1 g0.2 W).mono fun e W' ⟨he, bel⟩ => ?_
  subst he
  exact ⟨_, rfl, _, _, _, [], _, [], hW', trodAll_mk1 (shut_bool Try.underlying4 _), (trodAll_cons_mk (shut_int Try.underlying2 w0) trodAll_mk0), rfl, bel.frame _, fun h => by cases h⟩

theorem proved : Rows.VarintIntsSaid :=
  OpenClaim.holds_of_wide 8 Try.f8 rfl rfl rfl rfl rfl rfl rfl ⟨rfl, rfl, rfl, rfl, rfl⟩ rfl rfl rfl rfl rfl (by kernel_rfl) Try.func8 (by kernel_rfl)
    (of_decide_eq_true (by kernel_rfl)) (by unfold Func.isWrapper; first | (rw [if_pos (by decide +kernel)]; kernel_rfl) | (rw [if_neg (by decide +kernel)]; exact ⟨rfl, rfl⟩))
    (fun os started H enc _ => lifted os started H enc)

end IntsLaw
theorem varintInts_holds : Rows.VarintIntsSaid := IntsLaw.proved
#print axioms varintInts_holds
end Go.Proofs.Ytkkeeefhleekdaa
