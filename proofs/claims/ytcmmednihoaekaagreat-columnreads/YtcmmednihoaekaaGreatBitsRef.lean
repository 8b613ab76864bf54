/- Contract: the document's Pack, bit by bit. Contract: the document's Pack, in all cases. Contract: the document's Unpack, bit by bit. -/
import Derived.Test.YtcmmednihoaekaaGreatBits
set_option linter.unusedVariables false
set_option linter.unusedSimpArgs false
namespace Go.Proofs.YtcmmednihoaekaaGreat
open Go.RowKit Go.Lib

/-- The row as far as t bits are laid. -/
def Laid (W : World) (B : Nat) (v : Value) (t V : Nat) : Prop :=
  ∃ bs : List Nat, W.ownsRow B 5 1 v (by8 t) (vals .u8 bs) ∧ bs.length = by8 t ∧ (∀ x ∈ bs, x < 256) ∧ pk 8 bs = V

/-- Room for the next bit. -/
def Room (W : World) (B : Nat) (v : Value) (t V : Nat) : Prop :=
  ∃ bs : List Nat, W.ownsRow B 5 1 v (by8 (t + 1)) (vals .u8 bs) ∧ bs.length = by8 (t + 1) ∧ (∀ x ∈ bs, x < 256) ∧ pk 8 bs = V

theorem Laid.room {W : World} {B : Nat} {v : Value} {t V : Nat} (h : Laid W B v t V) (h0 : t % 8 ≠ 0) : Room W B v t V := by
  obtain ⟨bs, h1, h2, h3, h4⟩ := h
  have e := (by8_step1 h0).1
  exact ⟨bs, by rw [e]; exact h1, by rw [e]; exact h2, h3, h4⟩

theorem Room.skip {W : World} {B : Nat} {v : Value} {t V : Nat} (h : Room W B v t V) : Laid W B v (t + 1) V := h

theorem by8_room (t : Nat) : t / 8 < by8 (t + 1) ∧ 0 < by8 (t + 1) := by unfold by8; omega

/-- What is known of the byte in which the next bit is laid, and of the row behind it. -/
theorem Room.lay {W : World} {B : Nat} {v : Value} {t V r j p L : Nat} (h : Room W B v t V) (hV : V < 2 ^ t) (hr : t % 8 = r) (hj : t / 8 = j) (hp : 2 ^ r = p) (hL : by8 (t + 1) = L) :
    ∃ g cap x c : Nat, v = .slice (some ⟨g, 0, none⟩) L cap ∧ B ≤ g ∧ g < W.heap.size ∧ W.cell? ⟨g, j, none⟩ = some (.int .u8 (x : Int)) ∧ W.frozen? ⟨g, j, none⟩ = false ∧
      c < 256 ∧ (x : Int) + (p : Int) = (c : Int) ∧ Laid (W.setCell ⟨g, j, none⟩ (.int .u8 (c : Int))) B v (t + 1) (V + 2 ^ t) := by
  subst hr hj hp hL
  obtain ⟨bs, h1, h2, h3, h4⟩ := h
  obtain ⟨g, cap, rfl, hB, hg⟩ := own_form h1 (by8_room t).2
  have hj : t / 8 < bs.length := by rw [h2]; exact (by8_room t).1
  have hx := byte_low h3 (by rw [h4]; exact hV) hj
  have hp : 2 ^ (t % 8) ≤ 2 ^ 7 := Nat.pow_le_pow_right (by omega) (by omega)
  have hs := set_pk hj 1
  rw [Nat.one_mul, Nat.one_mul, h4] at hs
  have hst := (h1.stored (t / 8) (.int .u8 ((bs[t / 8] + 2 ^ (t % 8) : Nat) : Int))).1
  rw [vals_set] at hst
  exact ⟨g, cap, bs[t / 8], bs[t / 8] + 2 ^ (t % 8), rfl, hB, hg, (h1.cellAt (t / 8) (by rw [Nat.mul_one]; exact (by8_room t).1)).trans (vals_get hj), h1.frozenAt _, by omega, by omega,
    _, hst, by rw [List.length_set]; exact h2, set_lt h3 (by omega), hs⟩

theorem pow8 {r : Nat} (h : r < 8) : IntKind.u8.wrap (2 ^ r) = ((2 ^ r : Nat) : Int) := by
  have hp : 2 ^ r ≤ 2 ^ 7 := Nat.pow_le_pow_right (by omega) (by omega)
  have e : (2 : Int) ^ r = ((2 ^ r : Nat) : Int) := by simp
  rw [e]
  generalize 2 ^ r = p at *
  rw [wraps_u8 _ (by omega) (by omega)]

/-- The number's bits as far as they are laid. -/
theorem bit_on {V n k t0 : Nat} (h : n / 2 ^ k % 2 = 1) : V + n % 2 ^ k * 2 ^ t0 + 2 ^ (t0 + k) = V + n % 2 ^ (k + 1) * 2 ^ t0 := by
  rw [mod_succ_bit n k, h, Nat.mul_one, Nat.add_mul, Nat.pow_add, Nat.mul_comm (2 ^ t0) (2 ^ k)]
  omega

theorem bit_off {V n k t0 : Nat} (h : n / 2 ^ k % 2 = 0) : V + n % 2 ^ k * 2 ^ t0 = V + n % 2 ^ (k + 1) * 2 ^ t0 := by
  rw [mod_succ_bit n k, h, Nat.mul_zero, Nat.add_zero]

theorem laid_low {V n k t0 : Nat} (h : V < 2 ^ t0) : V + n % 2 ^ k * 2 ^ t0 < 2 ^ (t0 + k) := put_below h

theorem bit_int (n k : Nat) : (n : Int) / 2 ^ k % 2 = ((n / 2 ^ k % 2 : Nat) : Int) := by simp

set_option maxRecDepth 100000 in
set_option maxHeartbeats 8000000 in
theorem refPack_yes {w : World} {v : Value} {l : List Nat} (hs : Sx .u64 w v l) (h64 : ∀ x ∈ l, x < 18446744073709551616) (ww : Nat) (hww : ww ≤ 64) (hl : l.length ≤ 256) (hwd : wd l ≤ ww) :
    Calls Tryz.prog 51 #[v, .int .i64 (ww : Int)] w fun e w' => ∃ v', e = .returned (.tuple #[v', .bool true]) ∧ Laid w' w.heap.size v' (l.length * ww) (pk ww l) ∧ Below w.heap.size w w' := by
  have HW := hidden (refWidth_any hs h64)
  obtain ⟨a, cap, rfl, hm, hcl⟩ := hs
  have hgt : ¬ ((wd l : Nat) : Int) > (ww : Int) := by omega
  have hw0 : decide ((ww : Int) < 0) = false := decide_eq_false (by omega)
  have hw1 : decide (64 < (ww : Int)) = false := decide_eq_false (by omega)
  have hw3 : decide (ww < wd l) = false := decide_eq_false (by omega)
  have hw2 : decide (256 < (l.length : Int)) = false := decide_eq_false (by omega)
  have HF := hidden (wd_le.1 hwd)
  have HC := hidden hcl
  have H64 := hidden h64
  obtain ⟨i0, hi, hz0, hz1', hz2⟩ := info_parts info5
  clear hcl h64 hwd hm
  go_enter Tryz.func51, Tryz.ntmps51
  go_wp2_with fail
  refine HW.out.mono ?_
  rintro e w2 ⟨rfl, rfl⟩
  go_wp2_with fail
  go_loopw [6, 7, 8] (fun out at_ ii wr => ∃ i t : Nat, ii = .int .i64 (i : Int) ∧ at_ = .int .i64 (t : Int) ∧ i ≤ l.length ∧ t = i * ww ∧ Laid wr w2.heap.size out t (pk ww (l.take i)) ∧ Below w2.heap.size w2 wr) (fun _ _ ii _ => l.length - (intOf ii).toNat)
  case atStart => exact ⟨0, 0, rfl, rfl, by omega, by simp, ⟨[], own_none _ _ _, rfl, by simp, by simp [pk]⟩, Below.refl _ _⟩
  case round =>
    obtain ⟨i, t0, rfl, rfl, hil, ht0, hlaid, hbel⟩ := hrel
    have HLD := hidden hlaid
    have HB := hidden hbel
    have HT0 := hidden ht0
    by_cases hlt : i < l.length
    · obtain ⟨b, off, rfl, hb, hcell⟩ := HC.out (by omega)
      have HCK := hidden (hcell i hlt)
      have hn64 := H64.out _ (List.getElem_mem hlt)
      have hfit := HF.out _ (List.getElem_mem hlt)
      have HTS := hidden (pk_take_succ ww hlt)
      have HV0 := hidden (take_fit HF.out hil)
      have htb : t0 ≤ 16384 := by
        rw [ht0]
        exact Nat.le_trans (Nat.mul_le_mul (show i ≤ 256 by omega) hww) (by omega)
      rw [← ht0] at HV0
      clear hcell hlaid hbel ht0
      have HFIT := hidden hfit
      clear hfit
      generalize l[i] = n at *
      generalize pk ww (l.take i) = V at *
      go_wp2_with fail
      go_loopw [6, 7, 9] (fun out at_ kk wr => ∃ k t : Nat, kk = .int .i64 (k : Int) ∧ at_ = .int .i64 (t : Int) ∧ k ≤ ww ∧ t = t0 + k ∧ Laid wr w2.heap.size out t (V + n % 2 ^ k * 2 ^ t0) ∧ Below w2.heap.size w2 wr) (fun _ _ kk _ => ww - (intOf kk).toNat)
      case atStart => exact ⟨0, t0, rfl, rfl, by omega, by omega, by simpa [Nat.mod_one] using HLD.out, HB.out⟩
      case round =>
        obtain ⟨k, t, rfl, rfl, hkw, ht, hlaid, hbel⟩ := hrel
        clear HLD HB
        have HLD := hidden hlaid
        have HB := hidden hbel
        have hck := (hbel.cell (p := ⟨b, off + i, none⟩) hb).trans HCK.out
        have hzr := hbel.size
        have htt : t ≤ 20000 := by omega
        clear hlaid hbel
        by_cases hkk : k < ww
        · have HVL : Hid (V + n % 2 ^ k * 2 ^ t0 < 2 ^ t) := hidden (by rw [ht]; exact laid_low HV0.out)
          have HT := hidden ht
          have HON := hidden (fun h => bit_on (V := V) (n := n) (k := k) (t0 := t0) h)
          rw [← ht] at HON
          have HOFF := hidden (fun h => bit_off (V := V) (n := n) (k := k) (t0 := t0) h)
          obtain ⟨q, hq⟩ : ∃ q, n / 2 ^ k = q := ⟨_, rfl⟩
          have hqi : (n : Int) / 2 ^ k = (q : Int) := by rw [← hq]; simp
          have hqn : q ≤ n := by rw [← hq]; exact Nat.div_le_self _ _
          rw [hq] at HON HOFF
          clear hq
          clear ht
          obtain ⟨r, hr⟩ : ∃ r, t % 8 = r := ⟨_, rfl⟩
          obtain ⟨j, hj⟩ : ∃ j, t / 8 = j := ⟨_, rfl⟩
          obtain ⟨p, hp⟩ : ∃ p, 2 ^ r = p := ⟨_, rfl⟩
          obtain ⟨L1, hL1⟩ : ∃ L, by8 (t + 1) = L := ⟨_, rfl⟩
          have hri : (t : Int) % 8 = (r : Int) := by omega
          have hji : (t : Int) / 8 = (j : Int) := by omega
          have hr8 : r < 8 := by omega
          have hp8 := pow8 hr8
          rw [hp] at hp8
          have hjr : j < L1 := by rw [← hL1, ← hj]; exact (by8_room t).1
          have hb8 : L1 ≤ 2501 := by rw [← hL1]; unfold by8; omega
          have HR := hidden hr
          have HJ := hidden hj
          have HP := hidden hp
          have HL1 := hidden hL1
          clear hr hj hp hL1
          by_cases h0 : r = 0
          · have h0b : ((r : Int) == 0) = true := by rw [h0]; rfl
            have HE8 := hidden (by8_step0 (HR.out.trans h0))
            obtain ⟨L0, hL0⟩ : ∃ L, by8 t = L := ⟨_, rfl⟩
            have hb9 : L0 ≤ 2501 := by rw [← hL0]; unfold by8; omega
            obtain ⟨bs, o0, l0, s0, p0⟩ := HLD.out
            rw [hL0] at o0 l0 HE8
            have HO0 := hidden o0
            have HL0 := hidden l0
            have HS0 := hidden s0
            have HP0 := hidden p0
            clear o0 l0 s0 p0 h0 hL0
            go_wp2_with (first | (at_builtin; refine wpList_append_own_at _ rfl _ _ 24 rfl w2.heap.size 5 i0 (.int .u8 0) 1 1 Tryz.underlying24 hi hz0 hz1' hz2 rfl (by decide) _ _ _ rfl (HO0.out.alloc _) ⟨wr.heap.size, 0, none⟩ 1 1 [.int .u8 0] rfl rfl ?c1 ?c2 ?c3 ?c4 ?c5 ?_))
            case c1 => exact cell_one_new _ _ _
            case c2 => first | rfl | (intro u hu; simp at hu; subst hu; rfl)
            case c3 => unfold maxLen; omega
            case c4 => omega
            case c5 => first | omega | (simp; omega)
            intro v1 w3 o1 g1 _ e1
            have HB1 := hidden ((HB.out.alloc (by omega) _).grown g1 (by simp; omega) (fun k hk => (HO0.out.lt k hk).1))
            have HRM : Hid (Room w3 w2.heap.size v1 t (V + n % 2 ^ k * 2 ^ t0)) := by
              refine hidden ⟨bs ++ [0], ?_, ?_, ?_, ?_⟩
              · rw [HE8.out.1, vals_append]; exact o1
              · rw [List.length_append, HL0.out, HE8.out.1]; rfl
              · intro x hx
                rcases List.mem_append.1 hx with hx | hx
                · exact HS0.out x hx
                · simp at hx; omega
              · rw [pk_snoc0]; exact HP0.out
            have hck3 := (HB1.out.cell (p := ⟨b, off + i, none⟩) hb).trans HCK.out
            clear o1 g1 e1 hck
            by_cases hbit : q % 2 = 1
            · have hbi1 : (q : Int) % 2 = 1 := by omega
              obtain ⟨g, cap2, x, c, rfl, hBg, hgz, hcx, hfr, hc8, hxc, hld⟩ := HRM.out.lay HVL.out HR.out HJ.out HP.out HL1.out
              rw [HON.out hbit] at hld
              have HLD2 := hidden hld
              clear hld HLD HVL HON HOFF hbit HRM
              go_wp2_with fail
              go_roundw
              case rel => exact ⟨k + 1, t + 1, by go_num, by go_num, by omega, by have := HT.out; omega, HLD2.out, below_set HB1.out hBg _⟩
              case measure => simp [intOf]; omega
            · have hbz : q % 2 = 0 := by omega
              have hbi0 : (q : Int) % 2 = 0 := by omega
              have hld := HRM.out.skip
              rw [HOFF.out hbz] at hld
              have HLD2 := hidden hld
              clear hld HLD HVL HON HOFF hbit HRM hbz
              go_wp2_with fail
              go_roundw
              case rel => exact ⟨k + 1, t + 1, by go_num, by go_num, by omega, by have := HT.out; omega, HLD2.out, HB1.out⟩
              case measure => simp [intOf]; omega
          · have h0b : ((r : Int) == 0) = false := by rw [beq_eq_false_iff_ne]; omega
            have HRM := hidden (HLD.out.room (by rw [HR.out]; exact h0))
            clear h0
            by_cases hbit : q % 2 = 1
            · have hbi1 : (q : Int) % 2 = 1 := by omega
              obtain ⟨g, cap2, x, c, rfl, hBg, hgz, hcx, hfr, hc8, hxc, hld⟩ := HRM.out.lay HVL.out HR.out HJ.out HP.out HL1.out
              rw [HON.out hbit] at hld
              have HLD2 := hidden hld
              clear hld HLD HVL HON HOFF hbit HRM
              go_wp2_with fail
              go_roundw
              case rel => exact ⟨k + 1, t + 1, by go_num, by go_num, by omega, by have := HT.out; omega, HLD2.out, below_set HB.out hBg _⟩
              case measure => simp [intOf]; omega
            · have hbz : q % 2 = 0 := by omega
              have hbi0 : (q : Int) % 2 = 0 := by omega
              have hld := HRM.out.skip
              rw [HOFF.out hbz] at hld
              have HLD2 := hidden hld
              clear hld HLD HVL HON HOFF hbit HRM hbz
              go_wp2_with fail
              go_roundw
              case rel => exact ⟨k + 1, t + 1, by go_num, by go_num, by omega, by have := HT.out; omega, HLD2.out, HB.out⟩
              case measure => simp [intOf]; omega
        · obtain rfl : k = ww := by omega
          have hld := HLD.out
          rw [Nat.mod_eq_of_lt HFIT.out, HT0.out, Nat.mul_comm i k, ← HTS.out] at hld
          have HLD2 := hidden hld
          have HT : Hid (t = (i + 1) * k) := hidden (by rw [ht, HT0.out, Nat.add_mul, Nat.one_mul])
          clear hld HLD ht
          go_wp2_with fail
          go_roundw
          case rel => exact ⟨i + 1, t, by go_num, rfl, by omega, HT.out, HLD2.out, HB.out⟩
          case measure => simp [intOf]; omega
    · obtain rfl : i = l.length := by omega
      rw [List.take_length, ht0] at hlaid
      have HLD2 := hidden hlaid
      clear hlaid hbel ht0 HLD
      go_wp2_with fail
      go_ret2
      exact ⟨_, rfl, HLD2.out, HB.out⟩
end Go.Proofs.YtcmmednihoaekaaGreat
set_option linter.unusedVariables false
set_option linter.unusedSimpArgs false
namespace Go.Proofs.YtcmmednihoaekaaGreat
open Go.RowKit Go.Lib

set_option maxRecDepth 100000 in
set_option maxHeartbeats 4000000 in
theorem refPack_any {w : World} {v : Value} {l : List Nat} (hs : Sx .u64 w v l) (h64 : ∀ x ∈ l, x < 18446744073709551616) (x : Int) :
    Calls Tryz.prog 51 #[v, .int .i64 x] w fun e w' => ∃ v', e = .returned (.tuple #[v', .bool (can l x)]) ∧ w'.ownsRow w.heap.size 5 1 v' (packR l x).length (vals .u8 (packR l x)) ∧ Below w.heap.size w w' := by
  cases hcan : can l x with
  | true =>
    have hc := hcan
    unfold can at hc
    simp only [decide_eq_true_eq] at hc
    obtain ⟨h1, h2, h3, h4⟩ := hc
    obtain ⟨ww, rfl⟩ := Int.eq_ofNat_of_zero_le h1
    refine (refPack_yes hs h64 ww (by omega) h3 h4).mono ?_
    rintro e w' ⟨v', rfl, ⟨bs, o1, o2, o3, o4⟩, hb⟩
    refine ⟨v', rfl, ?_, hb⟩
    rw [← packed_is hcan o3 o2 o4, o2]
    exact o1
  | false =>
    rw [packR_no hcan]
    have hno : ¬ (0 ≤ x ∧ x ≤ 64 ∧ l.length ≤ 256 ∧ wd l ≤ x.toNat) := by
      unfold can at hcan
      simpa only [decide_eq_false_iff_not] using hcan
    have HW := hidden (refWidth_any hs h64)
    obtain ⟨a, cap, rfl, hm, hcl⟩ := hs
    have hm2 : l.length ≤ 9223372036854775807 := by unfold maxLen at hm; omega
    clear hcl h64 hcan hm
    by_cases h0 : x < 0
    · clear hno HW
      go_enter Tryz.func51, Tryz.ntmps51
      go_wp2_with fail
      go_ret2
      exact ⟨_, rfl, own_none _ _ _, Below.refl _ _⟩
    · by_cases h1 : x > 64
      · clear hno HW
        go_enter Tryz.func51, Tryz.ntmps51
        go_wp2_with fail
        go_ret2
        exact ⟨_, rfl, own_none _ _ _, Below.refl _ _⟩
      · by_cases h2 : (l.length : Int) > 256
        · clear hno HW
          go_enter Tryz.func51, Tryz.ntmps51
          go_wp2_with fail
          go_ret2
          exact ⟨_, rfl, own_none _ _ _, Below.refl _ _⟩
        · have hgt : ((wd l : Nat) : Int) > x := by
            have : ¬ wd l ≤ x.toNat := fun h => hno ⟨by omega, by omega, by omega, h⟩
            omega
          clear hno
          go_enter Tryz.func51, Tryz.ntmps51
          go_wp2_with fail
          refine HW.out.mono ?_
          rintro e w2 ⟨rfl, rfl⟩
          go_wp2_with fail
          go_ret2
          exact ⟨_, rfl, own_none _ _ _, Below.refl _ _⟩
end Go.Proofs.YtcmmednihoaekaaGreat
set_option linter.unusedVariables false
set_option linter.unusedSimpArgs false
namespace Go.Proofs.YtcmmednihoaekaaGreat
open Go.RowKit Go.Lib

/-- A byte's bit, as the walk reckons it. -/
theorem bit_facts {bs : List Nat} (h8 : ∀ x ∈ bs, x < 256) {t j r : Nat} (hj : t / 8 = j) (hr : t % 8 = r) (hl : j < bs.length) :
    ∃ y q : Nat, bs[j]? = some y ∧ y < 256 ∧ (y : Int) / 2 ^ r = (q : Int) ∧ q ≤ y ∧ q % 2 = pk 8 bs / 2 ^ t % 2 := by
  subst hj hr
  refine ⟨bs[t / 8], bs[t / 8] / 2 ^ (t % 8), List.getElem?_eq_getElem hl, h8 _ (List.getElem_mem hl), by simp, Nat.div_le_self _ _, byte_bit h8 hl⟩

theorem pow64 {k : Nat} (h : k ≤ 64) : 2 ^ k ≤ 18446744073709551616 := Nat.pow_le_pow_right (show 0 < 2 by omega) h
theorem pow63 {k : Nat} (h : k ≤ 63) : 2 ^ k ≤ 9223372036854775808 := Nat.pow_le_pow_right (show 0 < 2 by omega) h

theorem bits_next {P t m x q z : Nat} (hx : P / 2 ^ (t + 1) % 2 ^ m = x) (hq : q % 2 = P / 2 ^ t % 2) (hz : 2 * x + q % 2 = z) : P / 2 ^ t % 2 ^ (m + 1) = z := by
  rw [← bit_sum, hx, ← hq, hz]

set_option maxRecDepth 100000 in
set_option maxHeartbeats 8000000 in
theorem refUnpack_yes {w : World} {v : Value} {b : List Nat} (hs : Sx .u8 w v b) (h8 : ∀ x ∈ b, x < 256) (N ww : Nat) (hN : N ≤ 256) (hww : ww ≤ 64) (hlen : b.length = by8 (N * ww)) :
    Calls Tryz.prog 41 #[v, .int .i64 (N : Int), .int .i64 (ww : Int)] w fun e w' => ∃ v', e = .returned (.tuple #[v', .int .i64 (unE b N ww : Int)]) ∧ w'.ownsRow w.heap.size 63 1 v' (unR b N ww).length (vals .u64 (unR b N ww)) ∧ Below w.heap.size w w' := by
  have hc : N * ww ≤ 16384 := Nat.le_trans (Nat.mul_le_mul hN hww) (by omega)
  have hmul : (N : Int) * (ww : Int) = ((N * ww : Nat) : Int) := by simp
  have hge := by8_ge (N * ww)
  have HOK : Hid (pk 8 b < 2 ^ (N * ww) → unE b N ww = 0 ∧ unR b N ww = dig ww N (pk 8 b)) := hidden (fun h => by
    have h1 := unE_ok hN hww hlen h
    exact ⟨h1, unR_ok h1⟩)
  have HNO : Hid (¬ pk 8 b < 2 ^ (N * ww) → unE b N ww = 40 ∧ unR b N ww = []) := hidden (fun h => by
    have h1 := unE_form (b := b) hN hww (fun h2 => h h2.2)
    exact ⟨h1, unR_no (by rw [h1]; omega)⟩)
  have HST : Hid (∀ i k, i < N → k < ww → i * ww + k < 8 * b.length ∧ i * ww + k ≤ 16384) := hidden (fun k m hk hm => by
    have h1 : (k + 1) * ww ≤ N * ww := Nat.mul_le_mul_right _ hk
    rw [Nat.add_mul, Nat.one_mul] at h1
    rw [hlen]
    omega)
  have hL : b.length ≤ 2048 := by rw [hlen]; unfold by8; omega
  have hLi : (((N * ww : Nat) : Int) + 7) / 8 = (b.length : Int) := by rw [hlen]; unfold by8; omega
  obtain ⟨D, hD⟩ : ∃ D, dig ww N (pk 8 b) = D := ⟨_, rfl⟩
  have hDl : D.length = N := by rw [← hD, dig_length]
  have HDL := hidden hDl
  have HG : Hid (∀ i, i < N → ∃ z, z < 2 ^ ww ∧ D.take (i + 1) = D.take i ++ [z] ∧ pk 8 b / 2 ^ (i * ww) % 2 ^ ww = z) := hidden (fun i h => by
    have h1 : i < D.length := by omega
    refine ⟨D[i], ?_, List.take_succ_eq_append_getElem h1, ?_⟩
    · have : D[i] ∈ dig ww N (pk 8 b) := by rw [hD]; exact List.getElem_mem h1
      exact dig_lt this
    · have h2 := dig_get ww N (pk 8 b) i h
      rw [hD, List.getElem?_eq_getElem h1, Nat.mul_comm] at h2
      exact (Option.some.inj h2).symm)
  rw [hD] at HOK
  have HGE : Hid (N * ww ≤ 8 * b.length) := hidden (by rw [hlen]; exact hge)
  have HTE := hidden (fun t => tail_end (t := t) (c := N * ww) h8)
  have HBF := hidden (fun t j r => bit_facts h8 (t := t) (j := j) (r := r))
  obtain ⟨a, cap, rfl, hm, hcl⟩ := hs
  have HC := hidden hcl
  obtain ⟨i0, hi, hz0, hz1', hz2⟩ := info_parts info63
  have hw0 : decide ((ww : Int) < 0) = false := decide_eq_false (by omega)
  have hw1 : decide (64 < (ww : Int)) = false := decide_eq_false (by omega)
  have hw2 : decide ((N : Int) < 0) = false := decide_eq_false (by omega)
  have hw3 : decide (256 < (N : Int)) = false := decide_eq_false (by omega)
  have h8l : (8 : Int) * (b.length : Int) = ((8 * b.length : Nat) : Int) := by simp
  clear hcl h8 hlen hge hD hDl hm
  generalize hcc : N * ww = c at *
  have HCC := hidden hcc
  clear hcc
  generalize pk 8 b = P at *
  generalize hMM : 8 * b.length = M at *
  have HMM := hidden hMM
  clear hMM
  go_enter Tryz.func41, Tryz.ntmps41
  go_wp2_with fail
  clear hLi
  go_loopw [8, 9] (fun lv ii wr => ∃ i : Nat, ii = .int .i64 (i : Int) ∧ i ≤ N ∧ wr.ownsRow w.heap.size 63 1 lv i (vals .u64 (D.take i)) ∧ Below w.heap.size w wr) (fun _ ii _ => N - (intOf ii).toNat)
  case atStart => exact ⟨0, rfl, by omega, own_none _ _ _, Below.refl _ _⟩
  case round =>
    obtain ⟨i, rfl, hiN, how, hbel⟩ := hrel
    have HB := hidden hbel
    have HO := hidden how
    have hzr := hbel.size
    clear how hbel
    by_cases hlt : i < N
    · have hti : (i : Int) * (ww : Int) = ((i * ww : Nat) : Int) := by simp
      have HS2 := hidden (fun k => HST.out i k hlt)
      obtain ⟨z, hzl, hzt, hzv⟩ := HG.out i hlt
      have HZT := hidden hzt
      have HZV := hidden hzv
      have hz64 : z < 18446744073709551616 := Nat.lt_of_lt_of_le hzl (pow64 hww)
      clear hzl hzt hzv
      generalize i * ww = t0 at *
      go_wp2_with fail
      go_loopw [10, 11] (fun xx kk w' => w' = wr ∧ ∃ k x : Nat, kk = .int .i64 ((k : Int) - 1) ∧ k ≤ ww ∧ xx = .int .u64 (x : Int) ∧ P / 2 ^ (t0 + k) % 2 ^ (ww - k) = x) (fun _ kk _ => (intOf kk + 1).toNat)
      case atStart => exact ⟨rfl, ww, 0, by first | rfl | (congr 1; omega), by omega, rfl, by rw [Nat.sub_self]; simp [Nat.mod_one]⟩
      case round =>
        obtain ⟨rfl, k, x, rfl, hk, rfl, hx⟩ := hrel
        have HX := hidden hx
        cases k with
        | zero =>
          have hxz : x = z := by rw [← hx, ← HZV.out]; simp
          subst hxz
          have hk0 : ((0 : Nat) : Int) - 1 = -1 := rfl
          rw [hk0]
          clear hx HX
          go_wp2_with (first | (at_builtin; refine wpList_append_own_at _ rfl _ _ 56 rfl w.heap.size 63 i0 (.int .u64 0) 1 8 Tryz.underlying56 hi hz0 hz1' hz2 rfl (by decide) _ _ _ rfl (HO.out.alloc _) ⟨wr.heap.size, 0, none⟩ 1 1 [.int .u64 (x : Int)] rfl rfl ?c1 ?c2 ?c3 ?c4 ?c5 ?_))
          case c1 => exact cell_one_new _ _ _
          case c2 => first | rfl | (intro u hu; simp at hu; subst hu; rfl)
          case c3 => unfold maxLen; omega
          case c4 => omega
          case c5 => first | omega | (simp; omega)
          intro v1 w3 o1 g1 _ e1
          have HB1 := hidden ((HB.out.alloc (by omega) _).grown g1 (by simp; omega) (fun k hk => (HO.out.lt k hk).1))
          have HO1 := hidden o1
          clear o1 g1 e1
          go_wp2_with fail
          go_roundw
          case rel =>
            refine ⟨i + 1, by go_num, by omega, ?_, HB1.out⟩
            rw [HZT.out, vals_append]
            exact HO1.out
          case measure => simp [intOf]; omega
        | succ k =>
          have hk1 : ((k + 1 : Nat) : Int) - 1 = (k : Int) := by omega
          rw [hk1]
          have hxl : x < 2 ^ (ww - (k + 1)) := by rw [← hx]; exact Nat.mod_lt _ (Nat.two_pow_pos _)
          have hx63 : x < 9223372036854775808 := Nat.lt_of_lt_of_le hxl (pow63 (by omega))
          obtain ⟨ht1, ht2⟩ := HS2.out k (by omega)
          obtain ⟨t, ht⟩ : ∃ t, t0 + k = t := ⟨_, rfl⟩
          have hti2 : (t0 : Int) + (k : Int) = (t : Int) := by omega
          rw [ht] at ht1 ht2
          rw [← Nat.add_assoc, ht] at hx
          obtain ⟨r, hr⟩ : ∃ r, t % 8 = r := ⟨_, rfl⟩
          obtain ⟨j, hj⟩ : ∃ j, t / 8 = j := ⟨_, rfl⟩
          have hjb : j < b.length := by have := HMM.out; omega
          obtain ⟨y, q, hy, hy8, hq, hqy, hqb⟩ := HBF.out t j r hj hr hjb
          obtain ⟨bk, off, rfl, hbk, hcell⟩ := HC.out (by omega)
          have hck := (HB.out.cell (p := ⟨bk, off + j, none⟩) hbk).trans (hcell j hjb)
          have hyb : b[j] = y := by
            rw [List.getElem?_eq_getElem hjb] at hy
            exact Option.some.inj hy
          rw [hyb] at hck
          obtain ⟨u, hu⟩ : ∃ u, 2 * x + q % 2 = u := ⟨_, rfl⟩
          have HU : Hid (P / 2 ^ (t0 + k) % 2 ^ (ww - k) = u) := hidden (by
            have h1 := bits_next hx hqb hu
            rwa [ht, show ww - k = ww - (k + 1) + 1 by omega])
          have hui : 2 * (x : Int) + (q : Int) % 2 = (u : Int) := by omega
          have hu64 : u < 18446744073709551616 := by omega
          have hri : (t : Int) % 8 = (r : Int) := by omega
          have hji : (t : Int) / 8 = (j : Int) := by omega
          have hr8 : r < 8 := by omega
          clear hcell hyb hy hx hxl hqb hu ht hr hj HX
          go_wp2_with fail
          go_roundw
          case rel => exact ⟨trivial, k, u, by go_num, by omega, by go_num, HU.out⟩
          case measure => simp [intOf] <;> omega
    · obtain rfl : i = N := by omega
      have HOD : Hid (wr.ownsRow w.heap.size 63 1 u8 i (vals .u64 D)) := by
        have := HO.out
        rw [List.take_of_length_le (by rw [HDL.out]; omega)] at this
        exact hidden this
      clear HO
      go_wp2_with fail
      go_loopw [13] (fun aa w' => w' = wr ∧ ∃ t : Nat, aa = .int .i64 (t : Int) ∧ c ≤ t ∧ t ≤ M ∧ P % 2 ^ t = P % 2 ^ c) (fun aa _ => M - (intOf aa).toNat)
      case atStart => exact ⟨rfl, c, rfl, by omega, HGE.out, rfl⟩
      case round =>
        obtain ⟨rfl, t, rfl, hct, htM, htail⟩ := hrel
        have HTL := hidden htail
        clear htail
        by_cases htl : t < M
        · obtain ⟨r, hr⟩ : ∃ r, t % 8 = r := ⟨_, rfl⟩
          obtain ⟨j, hj⟩ : ∃ j, t / 8 = j := ⟨_, rfl⟩
          have hjb : j < b.length := by have := HMM.out; omega
          obtain ⟨y, q, hy, hy8, hq, hqy, hqb⟩ := HBF.out t j r hj hr hjb
          obtain ⟨bk, off, rfl, hbk, hcell⟩ := HC.out (by omega)
          have hck := (HB.out.cell (p := ⟨bk, off + j, none⟩) hbk).trans (hcell j hjb)
          have hyb : b[j] = y := by
            rw [List.getElem?_eq_getElem hjb] at hy
            exact Option.some.inj hy
          rw [hyb] at hck
          have hri : (t : Int) % 8 = (r : Int) := by omega
          have hji : (t : Int) / 8 = (j : Int) := by omega
          have hr8 : r < 8 := by omega
          have hM2 : M ≤ 16384 := by have := HMM.out; omega
          clear hcell hyb hy hr hj
          by_cases hbit : q % 2 = 1
          · have hbi1 : (q : Int) % 2 = 1 := by omega
            have HE := hidden (HNO.out (tail_bad hct (by omega)))
            clear hbit hqb
            go_wp2_with fail
            go_ret2
            rw [HE.out.1, HE.out.2]
            exact ⟨_, rfl, own_none _ _ _, HB.out⟩
          · have hbi0 : (q : Int) % 2 = 0 := by omega
            have HTL2 := hidden (tail_step HTL.out (by omega))
            clear hbit hqb
            go_wp2_with fail
            go_roundw
            case rel => exact ⟨trivial, t + 1, by go_num, by omega, by omega, HTL2.out⟩
            case measure => simp [intOf]; omega
        · have HE := hidden (HOK.out (HTE.out t HTL.out (by have := HMM.out; omega)))
          have hM2 : M ≤ 16384 := by have := HMM.out; omega
          go_wp2_with fail
          go_ret2
          rw [HE.out.1, HE.out.2, HDL.out]
          exact ⟨_, rfl, HOD.out, HB.out⟩
end Go.Proofs.YtcmmednihoaekaaGreat
