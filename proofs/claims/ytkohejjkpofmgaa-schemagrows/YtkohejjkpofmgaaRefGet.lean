/- Contract: the document's Get. -/
import Derived.Test.YtkohejjkpofmgaaPut
set_option linter.unusedVariables false
set_option linter.unusedSimpArgs false
namespace Go.Proofs.Ytkohejjkpofmgaa
open Go.RowKit Go.Lib

theorem refGet_empty (a : Option Addr) (cap : Nat) (w : World) : Calls Try.prog 61 #[.slice a 0 cap] w fun e w' => e = tell .u64 0 0 30 ∧ Below w.heap.size w w' := by
  go_enter Try.func61, Try.ntmps61
  go_wp2_with fail
  refine wp_loop_rounds 1 ?_
  rw [rounds_succ]
  go_wp2_with fail
  go_ret3
  exact ⟨rfl, Below.refl _ _⟩

theorem getL_ten {l : List UInt8} (h : 10 ≤ lead l) : getL l = (0, 0, 31) := by
  have hle := lead_le l
  have := lead_big l 9 (by omega) (by omega)
  exact getL_tenth (by omega) (by omega) (by omega)

theorem conv_part {W : World} {b off cap k : Nat} {l : List UInt8} (hk : 0 < k) (hkl : k ≤ l.length) (hcap : l.length ≤ cap) (hm : cap ≤ maxLen) (hb : b < W.heap.size)
    (hc : ∀ j (h : j < l.length), W.cell? ⟨b, off + j, none⟩ = some (.int .u8 (l[j].toNat : Int))) :
    (convert 54 9 (.slice (some ⟨b, off, none⟩) k cap)).run Try.prog W = .ok (.string ⟨(l.take k).toArray⟩) W := by
  have hl : (l.take k).length = k := by simp; omega
  refine Sl.conv (l := l.take k) ⟨_, cap, by rw [hl], by omega, hm, fun _ => ⟨b, off, rfl, hb, fun j hj => ?_⟩⟩ (by omega)
  rw [hc j (by omega)]
  simp

theorem spare_eq {l : List UInt8} {k : Nat} {c : UInt8} (h : k < l.length) (hc : l[k] = c) (hl : lead l = k) :
    (¬ (c.toNat = 0 ∧ 0 < k) → (uvarint (val (l.take (k + 1))) == l.take (k + 1)) = true) ∧ ((c.toNat = 0 ∧ 0 < k) → (uvarint (val (l.take (k + 1))) == l.take (k + 1)) = false) := by
  have hlen : (l.take (k + 1)).length = k + 1 := by rw [List.length_take]; omega
  have hsm := lead_small l (by omega)
  have e1 : lead (l.take (k + 1)) = k := by
    have h1 : k ≤ lead (l.take (k + 1)) := by
      have h2 := lead_take l k (by omega)
      rcases Nat.lt_or_ge (lead (l.take (k + 1))) k with h3 | h3
      · exfalso
        have h4 := lead_small (l.take (k + 1)) (by omega)
        have h5 := lead_big l (lead (l.take (k + 1))) (by omega) (by omega)
        simp at h4
        omega
      · exact h3
    refine lead_eq h1 (by omega) ?_
    simp only [hl] at hsm
    simpa using hsm
  have h6 := uv_spare (l := l.take (k + 1)) (by omega)
  have e2 : (l.take (k + 1))[lead (l.take (k + 1))] = c := by
    simp only [e1]
    simpa using hc
  rw [e2, e1] at h6
  refine ⟨fun h7 => ?_, fun h7 => ?_⟩
  · simpa using h6.2 h7
  · rw [beq_eq_false_iff_ne]
    exact fun h8 => h6.1 h8 h7

theorem step_eq {l : List UInt8} {k j : Nat} (hj : j ≤ k) (hk : k < l.length) : val ((l.take (k + 1)).drop (j + 1)) * 128 + l[j].toNat % 128 = val ((l.take (k + 1)).drop j) := by
  have h : j < (l.take (k + 1)).length := by simp; omega
  rw [val_drop h]
  simp
  omega

set_option maxRecDepth 100000 in
set_option maxHeartbeats 2000000 in
theorem refGet_full (b off cap : Nat) (l : List UInt8) (w : World) (hp : 0 < l.length) (hmax : cap ≤ maxLen) (hcap : l.length ≤ cap) (hbw : b < w.heap.size)
    (hc : ∀ j (h : j < l.length), w.cell? ⟨b, off + j, none⟩ = some (.int .u8 (l[j].toNat : Int))) :
    Calls Try.prog 61 #[.slice (some ⟨b, off, none⟩) l.length cap] w fun e w' => e = tell .u64 ((getL l).1 : Int) (getL l).2.1 (getL l).2.2 ∧ Below w.heap.size w w' := by
  have hm : cap ≤ 9223372036854775807 := by unfold maxLen at hmax; omega
  have HC := hidden hc
  have HM := hidden hmax
  clear hc hmax
  go_enter Try.func61, Try.ntmps61
  go_wp2_with fail
  go_loopw [5] (fun i w' => w' = w ∧ ∃ k : Nat, k ≤ 10 ∧ k ≤ l.length ∧ k ≤ lead l ∧ i = .int .i64 (k : Int)) (fun i _ => l.length - (intOf i).toNat)
  case atStart => exact ⟨rfl, 0, by omega, by omega, by omega, rfl⟩
  case round =>
    obtain ⟨rfl, k, h10, hk, hlead, rfl⟩ := hrel
    by_cases hk10 : k = 10
    · subst hk10
      have HE := hidden (getL_ten hlead)
      clear hlead
      by_cases hlt : 10 < l.length
      · have hck := HC.out 10 hlt
        go_wp2_with fail
        go_ret3
        rw [HE.out]
        exact ⟨rfl, Below.refl _ _⟩
      · go_wp2_with fail
        go_ret3
        rw [HE.out]
        exact ⟨rfl, Below.refl _ _⟩
    · by_cases hlt : k < l.length
      · have hck := HC.out k hlt
        have hcl := l[k].toNat_lt
        have HT := hidden (fun (e : k = 9) (h : 1 < l[k].toNat) => getL_tenth (l := l) (by omega) (by omega) (by subst e; exact h))
        have HL := hidden (fun h1 h2 => getL_last (l := l) hlead (by omega) hlt h1 h2)
        have HEQ := hidden (fun h1 => lead_eq (l := l) hlead hlt h1)
        have HN := hidden (lead_succ hlead hlt)
        have H64 := hidden (fun h => val64 (l := l) (k := k) (by omega) hlt h)
        have HGK : Hid (l[k] = l[k]) := rfl
        generalize hgc : l[k] = c at *
        have HGC := hidden hgc
        clear hgc HGK
        have HLE := hidden hlead
        clear hlead
        by_cases hc1 : (c.toNat : Int) ≥ 128
        · have HN1 := hidden (HN.out (by omega))
          go_wp2_with fail
          go_roundw
          case rel => exact ⟨trivial, k + 1, by omega, by omega, HN1.out, by go_num⟩
          case measure => simp [intOf]; omega
        · by_cases hk9 : k = 9
          · have hk9b : ((k : Int) == 9) = true := by simp; omega
            have hk10b : ((k : Int) == 10) = false := by simp; omega
            have hkl : ((k : Int) == (l.length : Int)) = false := by simp; omega
            have hl9 : (l.length : Int) > 9 := by omega
            have hck9 : wr.cell? ⟨b, off + 9, none⟩ = some (.int .u8 (c.toNat : Int)) := by rw [← hck, hk9]
            by_cases hc2 : (c.toNat : Int) > 1
            · have HE := hidden (HT.out hk9 (by omega))
              clear hk9
              go_wp2_with fail
              go_ret3
              rw [HE.out]
              exact ⟨rfl, Below.refl _ _⟩
            · have HF := hidden (HL.out (by omega) (fun h => by omega))
              have H641 := hidden (H64.out (fun h => by omega))
              have HP := hidden (refPut_any (val (l.take (k + 1))) H641.out)
              have HCV := hidden (fun (w2 : World) (B : Nat) (v : Value) (h : w2.ownsRow B 5 1 v (uvarint (val (l.take (k + 1)))).length (byteVals (uvarint (val (l.take (k + 1)))))) => (Sl.of_own h).conv (uvarint_pos _))
              have HCS := hidden (fun (w2 : World) (h : Below wr.heap.size wr w2) => conv_part (W := w2) (b := b) (off := off) (cap := cap) (l := l) (k := k + 1) (by omega) (by omega) hcap HM.out (Nat.lt_of_lt_of_le hbw h.size) (fun j hj => (h.cell (p := ⟨b, off + j, none⟩) hbw).trans (HC.out j hj)))
              have hcs := HCS.out wr.drew (Below.refl _ _).drew
              have hkc1 : (0 : Int) ≤ (k : Int) + 1 := by omega
              have hkc2 : (k : Int) + 1 ≤ (cap : Int) := by omega
              have hkc3 : IntKind.i64.wrap ((k : Int) + 1) = (k : Int) + 1 := by rw [IntKind.wrap_i64]; omega
              have hkc4 : ((k : Int) + 1).toNat = k + 1 := by omega
              have HQ := hidden (spare_eq (l := l) (k := k) (c := c) hlt HGC.out (HEQ.out (by omega)))
              clear HT HL HN H64 HEQ
              clear hk9
              go_wp2_with fail
              go_loopw [6, 7] (fun n i w' => w' = wr ∧ ∃ m : Nat, m ≤ k + 1 ∧ i = .int .i64 ((m : Int) - 1) ∧ n = .int .u64 (val ((l.take (k + 1)).drop m) : Int)) (fun _ i _ => (intOf i + 1).toNat)
              case atStart => exact ⟨rfl, k + 1, Nat.le_refl _, by go_num, by rw [List.drop_of_length_le (by rw [List.length_take]; omega)]; rfl⟩
              case round =>
                obtain ⟨rfl, m, hmk, rfl, rfl⟩ := hrel
                cases m with
                | succ j =>
                  have e1 : (((j + 1 : Nat) : Int) - 1) = (j : Int) := by omega
                  rw [e1]
                  have hcj := HC.out j (by omega)
                  have hbj : l[j].toNat < 256 := l[j].toNat_lt
                  have HST := hidden (step_eq (l := l) (k := k) (j := j) (by omega) (by omega))
                  have hst : val ((l.take (k + 1)).drop (j + 1)) * 128 + l[j].toNat % 128 < 18446744073709551616 := by
                    rw [HST.out]; exact Nat.lt_of_le_of_lt (val_drop_le _ _) H641.out
                  generalize l[j] = d at *
                  generalize val ((l.take (k + 1)).drop (j + 1)) = X at *
                  clear e1
                  go_wp2_with fail
                  go_roundw
                  case rel => exact ⟨trivial, j, by omega, by go_num, by rw [← HST.out]; go_num⟩
                  case measure => simp [intOf]
                | zero =>
                  rw [List.drop_zero]
                  go_wp2_with fail
                  go_region_with (first | (go_at_call 46; refine (HP.out _).mono ?_; rintro e w2 ⟨⟨v, rfl, hown⟩, hb2⟩; have hcv := HCV.out _ _ _ hown; have hk2 := HCS.out _ ((Below.refl _ _).drew.trans hb2); clear hown))
                  all_goals
                    have HB := hidden ((Below.refl wr.heap.size wr).drew.trans hb2)
                    clear hb2 hcv hk2 hcs
                    have hq := HQ.out
                    generalize (uvarint (val (l.take (k + 1))) == l.take (k + 1)) = q at hq ⊢
                    have HQ2 := hidden hq
                    clear hq HQ
                    cases q with
                    | false =>
                      have hz : c.toNat = 0 ∧ 0 < k := Decidable.byContradiction (fun h => by have := HQ2.out.1 h; cases this)
                      rw [if_pos hz] at HF
                      clear hz HQ2
                      go_wp2_with fail
                      go_ret3
                      rw [HF.out]
                      exact ⟨rfl, HB.out⟩
                    | true =>
                      have hz : ¬ (c.toNat = 0 ∧ 0 < k) := fun h => by have := HQ2.out.2 h; cases this
                      rw [if_neg hz] at HF
                      clear hz HQ2
                      go_wp2_with fail
                      go_ret3
                      rw [HF.out]
                      exact ⟨rfl, HB.out⟩
          · have hk9b : ((k : Int) == 9) = false := by simp; omega
            have hk10b : ((k : Int) == 10) = false := by simp; omega
            have hkl : ((k : Int) == (l.length : Int)) = false := by simp; omega
            have HF := hidden (HL.out (by omega) (fun h => by omega))
            have H641 := hidden (H64.out (fun h => by omega))
            have HP := hidden (refPut_any (val (l.take (k + 1))) H641.out)
            have HCV := hidden (fun (w2 : World) (B : Nat) (v : Value) (h : w2.ownsRow B 5 1 v (uvarint (val (l.take (k + 1)))).length (byteVals (uvarint (val (l.take (k + 1)))))) => (Sl.of_own h).conv (uvarint_pos _))
            have HCS := hidden (fun (w2 : World) (h : Below wr.heap.size wr w2) => conv_part (W := w2) (b := b) (off := off) (cap := cap) (l := l) (k := k + 1) (by omega) (by omega) hcap HM.out (Nat.lt_of_lt_of_le hbw h.size) (fun j hj => (h.cell (p := ⟨b, off + j, none⟩) hbw).trans (HC.out j hj)))
            have hcs := HCS.out wr.drew (Below.refl _ _).drew
            have hkc1 : (0 : Int) ≤ (k : Int) + 1 := by omega
            have hkc2 : (k : Int) + 1 ≤ (cap : Int) := by omega
            have hkc3 : IntKind.i64.wrap ((k : Int) + 1) = (k : Int) + 1 := by rw [IntKind.wrap_i64]; omega
            have hkc4 : ((k : Int) + 1).toNat = k + 1 := by omega
            have HQ := hidden (spare_eq (l := l) (k := k) (c := c) hlt HGC.out (HEQ.out (by omega)))
            clear HT HL HN H64 HEQ
            go_wp2_with fail
            go_loopw [6, 7] (fun n i w' => w' = wr ∧ ∃ m : Nat, m ≤ k + 1 ∧ i = .int .i64 ((m : Int) - 1) ∧ n = .int .u64 (val ((l.take (k + 1)).drop m) : Int)) (fun _ i _ => (intOf i + 1).toNat)
            case atStart => exact ⟨rfl, k + 1, Nat.le_refl _, by go_num, by rw [List.drop_of_length_le (by rw [List.length_take]; omega)]; rfl⟩
            case round =>
              obtain ⟨rfl, m, hmk, rfl, rfl⟩ := hrel
              cases m with
              | succ j =>
                have e1 : (((j + 1 : Nat) : Int) - 1) = (j : Int) := by omega
                rw [e1]
                have hcj := HC.out j (by omega)
                have hbj : l[j].toNat < 256 := l[j].toNat_lt
                have HST := hidden (step_eq (l := l) (k := k) (j := j) (by omega) (by omega))
                have hst : val ((l.take (k + 1)).drop (j + 1)) * 128 + l[j].toNat % 128 < 18446744073709551616 := by
                  rw [HST.out]; exact Nat.lt_of_le_of_lt (val_drop_le _ _) H641.out
                generalize l[j] = d at *
                generalize val ((l.take (k + 1)).drop (j + 1)) = X at *
                clear e1
                go_wp2_with fail
                go_roundw
                case rel => exact ⟨trivial, j, by omega, by go_num, by rw [← HST.out]; go_num⟩
                case measure => simp [intOf]
              | zero =>
                rw [List.drop_zero]
                go_wp2_with fail
                go_region_with (first | (go_at_call 46; refine (HP.out _).mono ?_; rintro e w2 ⟨⟨v, rfl, hown⟩, hb2⟩; have hcv := HCV.out _ _ _ hown; have hk2 := HCS.out _ ((Below.refl _ _).drew.trans hb2); clear hown))
                all_goals
                  have HB := hidden ((Below.refl wr.heap.size wr).drew.trans hb2)
                  clear hb2 hcv hk2 hcs
                  have hq := HQ.out
                  generalize (uvarint (val (l.take (k + 1))) == l.take (k + 1)) = q at hq ⊢
                  have HQ2 := hidden hq
                  clear hq HQ
                  cases q with
                  | false =>
                    have hz : c.toNat = 0 ∧ 0 < k := Decidable.byContradiction (fun h => by have := HQ2.out.1 h; cases this)
                    rw [if_pos hz] at HF
                    clear hz HQ2
                    go_wp2_with fail
                    go_ret3
                    rw [HF.out]
                    exact ⟨rfl, HB.out⟩
                  | true =>
                    have hz : ¬ (c.toNat = 0 ∧ 0 < k) := fun h => by have := HQ2.out.2 h; cases this
                    rw [if_neg hz] at HF
                    clear hz HQ2
                    go_wp2_with fail
                    go_ret3
                    rw [HF.out]
                    exact ⟨rfl, HB.out⟩
      · have HE := hidden (getL_end hlead (by omega) hlt)
        have hkl : k = l.length := by omega
        subst hkl
        have hk10b : ((l.length : Int) == 10) = false := by simp; omega
        clear hlead
        by_cases hk9 : ((l.length : Int) == 9) = true
        · go_wp2_with fail
          go_ret3
          rw [HE.out]
          exact ⟨rfl, Below.refl _ _⟩
        · have hk9b : ((l.length : Int) == 9) = false := by simpa using hk9
          clear hk9
          go_wp2_with fail
          go_ret3
          rw [HE.out]
          exact ⟨rfl, Below.refl _ _⟩
end Go.Proofs.Ytkohejjkpofmgaa
