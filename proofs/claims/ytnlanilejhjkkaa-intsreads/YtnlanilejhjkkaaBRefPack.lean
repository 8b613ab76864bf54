/- Contract: the document's Pack, bit by bit. -/
import Derived.Test.YtnlanilejhjkkaaBUnpack
set_option linter.unusedVariables false
set_option linter.unusedSimpArgs false
namespace Go.Proofs.Ytnlanilejhjkkaa
open Go.RowKit Go.Lib

/-- The row as far as t bits are laid. -/
def Laid (W : World) (B : Nat) (v : Value) (t V : Nat) : Prop :=
  ∃ bs : List Nat, W.ownsRow B 5 1 v (by8 t) (vals .u8 bs) ∧ bs.length = by8 t ∧ (∀ x ∈ bs, x < 256) ∧ pk 8 bs = V

/-- Room for the next bit. -/
def Room (W : World) (B : Nat) (v : Value) (t V : Nat) : Prop :=
  ∃ bs : List Nat, W.ownsRow B 5 1 v (by8 (t + 1)) (vals .u8 bs) ∧ bs.length = by8 (t + 1) ∧ (∀ x ∈ bs, x < 256) ∧ pk 8 bs = V

theorem Laid.room {W : World} {B : Nat} {v : Value} {t V : Nat} (h : Laid W B v t V) (h0 : t % 8 ≠ 0) : Room W B v t V := by
  obtain ⟨bs, h1, h2, h3, h4⟩ := h
  have e := (by8_step1 h0).1
  exact ⟨bs, by rw [e]; exact h1, by rw [e]; exact h2, h3, h4⟩

theorem Room.skip {W : World} {B : Nat} {v : Value} {t V : Nat} (h : Room W B v t V) : Laid W B v (t + 1) V := h

theorem by8_room (t : Nat) : t / 8 < by8 (t + 1) ∧ 0 < by8 (t + 1) := by unfold by8; omega

/-- What is known of the byte in which the next bit is laid, and of the row behind it. -/
theorem Room.lay {W : World} {B : Nat} {v : Value} {t V r j p L : Nat} (h : Room W B v t V) (hV : V < 2 ^ t) (hr : t % 8 = r) (hj : t / 8 = j) (hp : 2 ^ r = p) (hL : by8 (t + 1) = L) :
    ∃ g cap x c : Nat, v = .slice (some ⟨g, 0, none⟩) L cap ∧ B ≤ g ∧ g < W.heap.size ∧ W.cell? ⟨g, j, none⟩ = some (.int .u8 (x : Int)) ∧ W.frozen? ⟨g, j, none⟩ = false ∧
      c < 256 ∧ (x : Int) + (p : Int) = (c : Int) ∧ Laid (W.setCell ⟨g, j, none⟩ (.int .u8 (c : Int))) B v (t + 1) (V + 2 ^ t) := by
  subst hr hj hp hL
  obtain ⟨bs, h1, h2, h3, h4⟩ := h
  obtain ⟨g, cap, rfl, hB, hg⟩ := own_form h1 (by8_room t).2
  have hj : t / 8 < bs.length := by rw [h2]; exact (by8_room t).1
  have hx := byte_low h3 (by rw [h4]; exact hV) hj
  have hp : 2 ^ (t % 8) ≤ 2 ^ 7 := Nat.pow_le_pow_right (by omega) (by omega)
  have hs := set_pk hj 1
  rw [Nat.one_mul, Nat.one_mul, h4] at hs
  have hst := (h1.stored (t / 8) (.int .u8 ((bs[t / 8] + 2 ^ (t % 8) : Nat) : Int))).1
  rw [vals_set] at hst
  exact ⟨g, cap, bs[t / 8], bs[t / 8] + 2 ^ (t % 8), rfl, hB, hg, (h1.cellAt (t / 8) (by rw [Nat.mul_one]; exact (by8_room t).1)).trans (vals_get hj), h1.frozenAt _, by omega, by omega,
    _, hst, by rw [List.length_set]; exact h2, set_lt h3 (by omega), hs⟩

theorem pow8 {r : Nat} (h : r < 8) : IntKind.u8.wrap (2 ^ r) = ((2 ^ r : Nat) : Int) := by
  have hp : 2 ^ r ≤ 2 ^ 7 := Nat.pow_le_pow_right (by omega) (by omega)
  have e : (2 : Int) ^ r = ((2 ^ r : Nat) : Int) := by simp
  rw [e]
  generalize 2 ^ r = p at *
  rw [wraps_u8 _ (by omega) (by omega)]

/-- The number's bits as far as they are laid. -/
theorem bit_on {V n k t0 : Nat} (h : n / 2 ^ k % 2 = 1) : V + n % 2 ^ k * 2 ^ t0 + 2 ^ (t0 + k) = V + n % 2 ^ (k + 1) * 2 ^ t0 := by
  rw [mod_succ_bit n k, h, Nat.mul_one, Nat.add_mul, Nat.pow_add, Nat.mul_comm (2 ^ t0) (2 ^ k)]
  omega

theorem bit_off {V n k t0 : Nat} (h : n / 2 ^ k % 2 = 0) : V + n % 2 ^ k * 2 ^ t0 = V + n % 2 ^ (k + 1) * 2 ^ t0 := by
  rw [mod_succ_bit n k, h, Nat.mul_zero, Nat.add_zero]

theorem laid_low {V n k t0 : Nat} (h : V < 2 ^ t0) : V + n % 2 ^ k * 2 ^ t0 < 2 ^ (t0 + k) := put_below h

theorem bit_int (n k : Nat) : (n : Int) / 2 ^ k % 2 = ((n / 2 ^ k % 2 : Nat) : Int) := by simp

set_option maxRecDepth 100000 in
set_option maxHeartbeats 8000000 in
theorem refPack_yes {w : World} {v : Value} {l : List Nat} (hs : Sx .u64 w v l) (h64 : ∀ x ∈ l, x < 18446744073709551616) (ww : Nat) (hww : ww ≤ 64) (hl : l.length ≤ 256) (hwd : wd l ≤ ww) :
    Calls Try.prog 22 #[v, .int .i64 (ww : Int)] w fun e w' => ∃ v', e = .returned (.tuple #[v', .bool true]) ∧ Laid w' w.heap.size v' (l.length * ww) (pk ww l) ∧ Below w.heap.size w w' := by
  have HW := hidden (refWidth_any hs h64)
  obtain ⟨a, cap, rfl, hm, hcl⟩ := hs
  have hgt : ¬ ((wd l : Nat) : Int) > (ww : Int) := by omega
  have hw0 : decide ((ww : Int) < 0) = false := decide_eq_false (by omega)
  have hw1 : decide (64 < (ww : Int)) = false := decide_eq_false (by omega)
  have hw3 : decide (ww < wd l) = false := decide_eq_false (by omega)
  have hw2 : decide (256 < (l.length : Int)) = false := decide_eq_false (by omega)
  have HF := hidden (wd_le.1 hwd)
  have HC := hidden hcl
  have H64 := hidden h64
  obtain ⟨i0, hi, hz0, hz1', hz2⟩ := info_parts info5
  clear hcl h64 hwd hm
  go_enter Try.func22, Try.ntmps22
  go_wp2_with fail
  refine HW.out.mono ?_
  rintro e w2 ⟨rfl, rfl⟩
  go_wp2_with fail
  go_loopw [6, 7, 8] (fun out at_ ii wr => ∃ i t : Nat, ii = .int .i64 (i : Int) ∧ at_ = .int .i64 (t : Int) ∧ i ≤ l.length ∧ t = i * ww ∧ Laid wr w2.heap.size out t (pk ww (l.take i)) ∧ Below w2.heap.size w2 wr) (fun _ _ ii _ => l.length - (intOf ii).toNat)
  case atStart => exact ⟨0, 0, rfl, rfl, by omega, by simp, ⟨[], own_none _ _ _, rfl, by simp, by simp [pk]⟩, Below.refl _ _⟩
  case round =>
    obtain ⟨i, t0, rfl, rfl, hil, ht0, hlaid, hbel⟩ := hrel
    have HLD := hidden hlaid
    have HB := hidden hbel
    have HT0 := hidden ht0
    by_cases hlt : i < l.length
    · obtain ⟨b, off, rfl, hb, hcell⟩ := HC.out (by omega)
      have HCK := hidden (hcell i hlt)
      have hn64 := H64.out _ (List.getElem_mem hlt)
      have hfit := HF.out _ (List.getElem_mem hlt)
      have HTS := hidden (pk_take_succ ww hlt)
      have HV0 := hidden (take_fit HF.out hil)
      have htb : t0 ≤ 16384 := by
        rw [ht0]
        exact Nat.le_trans (Nat.mul_le_mul (show i ≤ 256 by omega) hww) (by omega)
      rw [← ht0] at HV0
      clear hcell hlaid hbel ht0
      have HFIT := hidden hfit
      clear hfit
      generalize l[i] = n at *
      generalize pk ww (l.take i) = V at *
      go_wp2_with fail
      go_loopw [6, 7, 9] (fun out at_ kk wr => ∃ k t : Nat, kk = .int .i64 (k : Int) ∧ at_ = .int .i64 (t : Int) ∧ k ≤ ww ∧ t = t0 + k ∧ Laid wr w2.heap.size out t (V + n % 2 ^ k * 2 ^ t0) ∧ Below w2.heap.size w2 wr) (fun _ _ kk _ => ww - (intOf kk).toNat)
      case atStart => exact ⟨0, t0, rfl, rfl, by omega, by omega, by simpa [Nat.mod_one] using HLD.out, HB.out⟩
      case round =>
        obtain ⟨k, t, rfl, rfl, hkw, ht, hlaid, hbel⟩ := hrel
        clear HLD HB
        have HLD := hidden hlaid
        have HB := hidden hbel
        have hck := (hbel.cell (p := ⟨b, off + i, none⟩) hb).trans HCK.out
        have hzr := hbel.size
        have htt : t ≤ 20000 := by omega
        clear hlaid hbel
        by_cases hkk : k < ww
        · have HVL : Hid (V + n % 2 ^ k * 2 ^ t0 < 2 ^ t) := hidden (by rw [ht]; exact laid_low HV0.out)
          have HT := hidden ht
          have HON := hidden (fun h => bit_on (V := V) (n := n) (k := k) (t0 := t0) h)
          rw [← ht] at HON
          have HOFF := hidden (fun h => bit_off (V := V) (n := n) (k := k) (t0 := t0) h)
          obtain ⟨q, hq⟩ : ∃ q, n / 2 ^ k = q := ⟨_, rfl⟩
          have hqi : (n : Int) / 2 ^ k = (q : Int) := by rw [← hq]; simp
          have hqn : q ≤ n := by rw [← hq]; exact Nat.div_le_self _ _
          rw [hq] at HON HOFF
          clear hq
          clear ht
          obtain ⟨r, hr⟩ : ∃ r, t % 8 = r := ⟨_, rfl⟩
          obtain ⟨j, hj⟩ : ∃ j, t / 8 = j := ⟨_, rfl⟩
          obtain ⟨p, hp⟩ : ∃ p, 2 ^ r = p := ⟨_, rfl⟩
          obtain ⟨L1, hL1⟩ : ∃ L, by8 (t + 1) = L := ⟨_, rfl⟩
          have hri : (t : Int) % 8 = (r : Int) := by omega
          have hji : (t : Int) / 8 = (j : Int) := by omega
          have hr8 : r < 8 := by omega
          have hp8 := pow8 hr8
          rw [hp] at hp8
          have hjr : j < L1 := by rw [← hL1, ← hj]; exact (by8_room t).1
          have hb8 : L1 ≤ 2501 := by rw [← hL1]; unfold by8; omega
          have HR := hidden hr
          have HJ := hidden hj
          have HP := hidden hp
          have HL1 := hidden hL1
          clear hr hj hp hL1
          by_cases h0 : r = 0
          · have h0b : ((r : Int) == 0) = true := by rw [h0]; rfl
            have HE8 := hidden (by8_step0 (HR.out.trans h0))
            obtain ⟨L0, hL0⟩ : ∃ L, by8 t = L := ⟨_, rfl⟩
            have hb9 : L0 ≤ 2501 := by rw [← hL0]; unfold by8; omega
            obtain ⟨bs, o0, l0, s0, p0⟩ := HLD.out
            rw [hL0] at o0 l0 HE8
            have HO0 := hidden o0
            have HL0 := hidden l0
            have HS0 := hidden s0
            have HP0 := hidden p0
            clear o0 l0 s0 p0 h0 hL0
            go_wp2_with (first | (at_builtin; refine wpList_append_own_at _ rfl _ _ 24 rfl w2.heap.size 5 i0 (.int .u8 0) 1 1 Try.underlying24 hi hz0 hz1' hz2 rfl (by decide) _ _ _ rfl (HO0.out.alloc _) ⟨wr.heap.size, 0, none⟩ 1 1 [.int .u8 0] rfl rfl ?c1 ?c2 ?c3 ?c4 ?c5 ?_))
            case c1 => exact cell_one_new _ _ _
            case c2 => first | rfl | (intro u hu; simp at hu; subst hu; rfl)
            case c3 => unfold maxLen; omega
            case c4 => omega
            case c5 => first | omega | (simp; omega)
            intro v1 w3 o1 g1 _ e1
            have HB1 := hidden ((HB.out.alloc (by omega) _).grown g1 (by simp; omega) (fun k hk => (HO0.out.lt k hk).1))
            have HRM : Hid (Room w3 w2.heap.size v1 t (V + n % 2 ^ k * 2 ^ t0)) := by
              refine hidden ⟨bs ++ [0], ?_, ?_, ?_, ?_⟩
              · rw [HE8.out.1, vals_append]; exact o1
              · rw [List.length_append, HL0.out, HE8.out.1]; rfl
              · intro x hx
                rcases List.mem_append.1 hx with hx | hx
                · exact HS0.out x hx
                · simp at hx; omega
              · rw [pk_snoc0]; exact HP0.out
            have hck3 := (HB1.out.cell (p := ⟨b, off + i, none⟩) hb).trans HCK.out
            clear o1 g1 e1 hck
            by_cases hbit : q % 2 = 1
            · have hbi1 : (q : Int) % 2 = 1 := by omega
              obtain ⟨g, cap2, x, c, rfl, hBg, hgz, hcx, hfr, hc8, hxc, hld⟩ := HRM.out.lay HVL.out HR.out HJ.out HP.out HL1.out
              rw [HON.out hbit] at hld
              have HLD2 := hidden hld
              clear hld HLD HVL HON HOFF hbit HRM
              go_wp2_with fail
              go_roundw
              case rel => exact ⟨k + 1, t + 1, by go_num, by go_num, by omega, by have := HT.out; omega, HLD2.out, below_set HB1.out hBg _⟩
              case measure => simp [intOf]; omega
            · have hbz : q % 2 = 0 := by omega
              have hbi0 : (q : Int) % 2 = 0 := by omega
              have hld := HRM.out.skip
              rw [HOFF.out hbz] at hld
              have HLD2 := hidden hld
              clear hld HLD HVL HON HOFF hbit HRM hbz
              go_wp2_with fail
              go_roundw
              case rel => exact ⟨k + 1, t + 1, by go_num, by go_num, by omega, by have := HT.out; omega, HLD2.out, HB1.out⟩
              case measure => simp [intOf]; omega
          · have h0b : ((r : Int) == 0) = false := by rw [beq_eq_false_iff_ne]; omega
            have HRM := hidden (HLD.out.room (by rw [HR.out]; exact h0))
            clear h0
            by_cases hbit : q % 2 = 1
            · have hbi1 : (q : Int) % 2 = 1 := by omega
              obtain ⟨g, cap2, x, c, rfl, hBg, hgz, hcx, hfr, hc8, hxc, hld⟩ := HRM.out.lay HVL.out HR.out HJ.out HP.out HL1.out
              rw [HON.out hbit] at hld
              have HLD2 := hidden hld
              clear hld HLD HVL HON HOFF hbit HRM
              go_wp2_with fail
              go_roundw
              case rel => exact ⟨k + 1, t + 1, by go_num, by go_num, by omega, by have := HT.out; omega, HLD2.out, below_set HB.out hBg _⟩
              case measure => simp [intOf]; omega
            · have hbz : q % 2 = 0 := by omega
              have hbi0 : (q : Int) % 2 = 0 := by omega
              have hld := HRM.out.skip
              rw [HOFF.out hbz] at hld
              have HLD2 := hidden hld
              clear hld HLD HVL HON HOFF hbit HRM hbz
              go_wp2_with fail
              go_roundw
              case rel => exact ⟨k + 1, t + 1, by go_num, by go_num, by omega, by have := HT.out; omega, HLD2.out, HB.out⟩
              case measure => simp [intOf]; omega
        · obtain rfl : k = ww := by omega
          have hld := HLD.out
          rw [Nat.mod_eq_of_lt HFIT.out, HT0.out, Nat.mul_comm i k, ← HTS.out] at hld
          have HLD2 := hidden hld
          have HT : Hid (t = (i + 1) * k) := hidden (by rw [ht, HT0.out, Nat.add_mul, Nat.one_mul])
          clear hld HLD ht
          go_wp2_with fail
          go_roundw
          case rel => exact ⟨i + 1, t, by go_num, rfl, by omega, HT.out, HLD2.out, HB.out⟩
          case measure => simp [intOf]; omega
    · obtain rfl : i = l.length := by omega
      rw [List.take_length, ht0] at hlaid
      have HLD2 := hidden hlaid
      clear hlaid hbel ht0 HLD
      go_wp2_with fail
      go_ret2
      exact ⟨_, rfl, HLD2.out, HB.out⟩
end Go.Proofs.Ytnlanilejhjkkaa
