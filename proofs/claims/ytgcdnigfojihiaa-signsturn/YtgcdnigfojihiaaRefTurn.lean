/- Contract: the document's Turn. -/
import Derived.Test.YtgcdnigfojihiaaTurn
import Derived.Test.YtgcdnigfojihiaaRefAbove
set_option linter.unusedVariables false
set_option linter.unusedSimpArgs false
namespace Go.Proofs.Ytgcdnigfojihiaa
open Go.RowKit

theorem info5 : (Try.prog.info? 5).map (fun i => (i.zero, i.size, i.bytes)) = some (some (.int .u8 0), 1, 1) := by kernel_rfl

theorem byteVals_append (a b : List UInt8) : byteVals (a ++ b) = byteVals a ++ byteVals b := by simp [byteVals]
theorem byteVals_length (a : List UInt8) : (byteVals a).length = a.length := by simp [byteVals]

theorem conv_any {w : World} {B n : Nat} {v : Value} {l : List UInt8} (h : w.ownsRow B 5 1 v n (byteVals l)) : (convert 38 9 v).run Try.prog w = .ok (.string ⟨l.toArray⟩) w := by
  by_cases hl : 0 < l.length
  · exact conv_own h hl
  · obtain rfl : l = [] := List.eq_nil_of_length_eq_zero (by omega)
    have hn : n = 0 := by have := h.1; simp [byteVals] at this; omega
    subst hn
    rcases h.2 with ⟨rfl, _⟩ | ⟨g, cap, cur, rfl, _⟩
    · have := run_convert_bytes_string (P := Try.prog) w 38 9 5 none 0 0 Try.underlying38 Try.underlying5 Try.underlying9
      rw [this]
      rfl
    · exact run_convert_bytes_back w 38 9 5 ⟨g, 0, none⟩ cap [] Try.underlying38 Try.underlying5 Try.underlying9 (fun j hj => by simp at hj)

theorem flat_length (rs : List Nat) : (flat rs).length ≤ 4 * rs.length := by
  induction rs with
  | nil => simp
  | cons c rs ih =>
    have := encL_pos c
    rw [flat_cons, List.length_append, List.length_cons]
    omega

theorem oneByte {l : List UInt8} : ∀ u ∈ byteVals l, u.oneCell' = true := by
  intro u hu
  simp [byteVals] at hu
  obtain ⟨b, _, rfl⟩ := hu
  rfl

theorem drop_rev (rs : List Nat) {i : Nat} (h : i < rs.length) : (rs.drop i).reverse = (rs.drop (i + 1)).reverse ++ [rs[i]] := by
  rw [List.drop_eq_getElem_cons h, List.reverse_cons]

set_option maxRecDepth 100000 in
set_option maxHeartbeats 1000000 in
theorem refTurn_any (s : ByteArray) (hs : s.size ≤ 100000) (w : World) :
    Calls Try.prog 20 #[.string s] w fun e w' => (∃ t, e = .returned (.string t) ∧ lb t = flat (runes (lb s)).reverse) ∧ Below w.heap.size w w' := by
  obtain ⟨i0, hi, hz0, hz1', hz2⟩ := info_parts info5
  have hL := lb_size s
  have hV := V_le (lb s)
  have HRL := hidden (runes_len (lb s))
  have HVR := hidden (runes_vr (lb s))
  go_enter Try.func20, Try.ntmps20
  go_wp2_with fail
  refine (signs_any s hs _).mono ?_
  rintro e w1 ⟨⟨a, b, rfl, ha, hb⟩, hbel⟩
  have HB := hidden hbel
  have hz := hbel.size
  clear hbel hb
  obtain ⟨⟨ad, cap, rfl, _⟩, hca⟩ := own_form ha
  clear ha
  have HCA := hidden hca
  clear hca
  go_wp2_with fail
  go_loopw [6, 7] (fun v i wr => ∃ k : Nat, k ≤ (V (lb s)).length ∧ i = .int .i64 ((k : Int) - 1) ∧ wr.ownsRow w1.heap.size 5 1 v (flat ((runes (lb s)).drop k).reverse).length (byteVals (flat ((runes (lb s)).drop k).reverse)) ∧ Below w1.heap.size w1 wr) (fun _ i _ => (intOf i + 1).toNat)
  case atStart =>
    refine ⟨(V (lb s)).length, Nat.le_refl _, rfl, ?_, Below.refl _ _⟩
    rw [← HRL.out, List.drop_length]
    exact World.ownsRow_nil _ _ _ _
  case round =>
    obtain ⟨k, hk, rfl, hown, hbel⟩ := hrel
    have hzr := hbel.size
    cases k with
    | zero =>
      rw [List.drop_zero] at hown
      have hcv := conv_any hown
      have HBB := hidden (HB.out.trans (hbel.mono hz))
      clear hown hbel
      go_wp2_with fail
      go_ret
      exact ⟨⟨_, rfl, by simp [lb]⟩, HBB.out⟩
    | succ i =>
      have hil : i < (V (lb s)).length := by omega
      have hir : i < (runes (lb s)).length := by rw [HRL.out]; exact hil
      obtain ⟨g, c, hsl, hg, _, hcells⟩ := HCA.out (by omega)
      simp only [Value.slice.injEq] at hsl
      obtain ⟨rfl, _, rfl⟩ := hsl
      have hcell := hcells i _ (sgn_get hil)
      have hcr := (hbel.cell (p := ⟨g, i, none⟩) hg).trans hcell
      have hri : (runes (lb s))[i] = (V (lb s))[i].1 := by simp [runes]
      have hvr := HVR.out _ (List.getElem_mem hir)
      have HD := hidden (drop_rev (runes (lb s)) hir)
      rw [hri] at hvr HD
      clear hcells hcell hri
      generalize (V (lb s))[i].1 = r at *
      have e1 : (((i + 1 : Nat) : Int) - 1) = (i : Int) := by omega
      rw [e1]
      clear e1
      have hr : r ≤ 1114111 := by unfold vr at hvr; omega
      have hfl := flat_length ((runes (lb s)).drop (i + 1)).reverse
      simp only [List.length_reverse, List.length_drop, HRL.out] at hfl
      have HO := hidden hown
      have HBE := hidden hbel
      have hep := encL_pos r
      clear hown hbel hvr
      generalize hF : flat ((runes (lb s)).drop (i + 1)).reverse = F at *
      have HF : Hid (flat ((runes (lb s)).drop (i + 1)).reverse = F) := hF
      clear hF
      go_wp2_with fail
      refine (bytes_any r hr _).mono ?_
      rintro e w2 ⟨⟨v2, rfl, hv2⟩, hb2⟩
      have hz2' := hb2.size
      obtain ⟨g2, cap2, rfl, hg2, _, hc2⟩ := (own_form hv2).2 (by omega)
      have HO2 := hidden (own_kept HO.out hb2)
      have HB2 := hidden (HBE.out.trans (hb2.mono hzr))
      have HC2 : Hid (∀ (j : Nat) u, (byteVals (encL r))[j]? = some u → w2.cell? ((⟨g2, 0, none⟩ : Addr).add j) = some u) := fun j u hj => by
        have hadd : (⟨g2, 0, none⟩ : Addr).add j = ⟨g2, j, none⟩ := by unfold Addr.add; split <;> simp_all
        rw [hadd]
        exact hc2 j u hj
      clear hv2 hb2 hc2
      go_wp2_with (first | (at_builtin; refine wpList_append_own_at _ rfl _ _ 38 rfl w1.heap.size 5 i0 (.int .u8 0) 1 1 Try.underlying38 hi hz0 hz1' hz2 rfl (by decide) _ _ _ rfl HO2.out ⟨g2, 0, none⟩ (encL r).length cap2 (byteVals (encL r)) rfl ?c0 ?c1 ?c2 ?c3 ?c4 ?c5 ?_))
      case c0 => simp [byteVals]
      case c1 => exact HC2.out
      case c2 => exact oneByte
      case c3 => unfold maxLen; omega
      case c4 => omega
      case c5 => omega
      intro v3 w3 o3 g3 _ _
      have HO3 := hidden o3
      have HB3 := hidden (HB2.out.grown g3 (by omega) (fun k hk => (HO2.out.lt k hk).1))
      clear o3 g3
      go_wp2_with fail
      go_roundw
      case rel =>
        refine ⟨i, by omega, by go_num, ?_, HB3.out⟩
        rw [HD.out, flat_append]
        have : flat [r] = encL r := by simp
        rw [this, HF.out, List.length_append, byteVals_append]
        exact HO3.out
      case measure => simp [intOf]
end Go.Proofs.Ytgcdnigfojihiaa
