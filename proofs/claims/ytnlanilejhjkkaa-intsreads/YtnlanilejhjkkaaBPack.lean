/- Contract: the program's Pack. -/
import Derived.Test.YtnlanilejhjkkaaBPut
set_option linter.unusedVariables false
set_option linter.unusedSimpArgs false
namespace Go.Proofs.Ytnlanilejhjkkaa
open Go.RowKit Go.Lib

theorem made_vals (k : IntKind) (n : Nat) : (madeCells #[Value.int k 0] n).toList = vals k (List.replicate n 0) := by
  rw [toList_madeCells_one]
  simp [vals]

theorem packR_no {l : List Nat} {x : Int} (h : can l x = false) : packR l x = [] := by unfold packR; rw [h]; rfl

theorem own_none (w : World) (B e : Nat) : w.ownsRow B e 1 (.slice none 0 0) 0 [] := World.ownsRow_nil _ _ _ _

theorem take_fit {l : List Nat} {ww k : Nat} (hw : ∀ x ∈ l, x < 2 ^ ww) (hk : k ≤ l.length) : pk ww (l.take k) < 2 ^ (k * ww) := by
  have := pk_lt (w := ww) (l := l.take k) (fun x hx => hw x (List.mem_of_mem_take hx))
  rwa [List.length_take, Nat.min_eq_left hk, Nat.mul_comm] at this

set_option maxRecDepth 100000 in
set_option maxHeartbeats 4000000 in
theorem pack_any {w : World} {v : Value} {l : List Nat} (hs : Sx .u64 w v l) (h64 : ∀ x ∈ l, x < 18446744073709551616) (x : Int) :
    Calls Try.prog 65 #[v, .int .i64 x] w fun e w' => ∃ v', e = .returned (.tuple #[v', .bool (can l x)]) ∧ w'.ownsRow w.heap.size 5 1 v' (packR l x).length (vals .u8 (packR l x)) ∧ Below w.heap.size w w' := by
  have HW := hidden (width_any hs h64)
  have HA := hidden (allowed_any (l.length : Int) x)
  obtain ⟨a, cap, rfl, hm, hcl⟩ := hs
  have hm2 : l.length ≤ 9223372036854775807 := by unfold maxLen at hm; omega
  by_cases hal : 0 ≤ (l.length : Int) ∧ (l.length : Int) ≤ 256 ∧ 0 ≤ x ∧ x ≤ 64
  · rw [decide_eq_true hal] at HA
    obtain ⟨_, hl256, hx0, hx64⟩ := hal
    obtain ⟨ww, rfl⟩ := Int.eq_ofNat_of_zero_le hx0
    by_cases hwd : wd l ≤ ww
    · have hcan : can l (ww : Int) = true := by
        unfold can
        simp only [decide_eq_true_eq, Int.toNat_natCast]
        exact ⟨by omega, by omega, by omega, hwd⟩
      have hfit := wd_le.1 hwd
      have hgt : ¬ ((wd l : Nat) : Int) > (ww : Int) := by omega
      have hc : l.length * ww ≤ 16384 := Nat.le_trans (Nat.mul_le_mul (show l.length ≤ 256 by omega) (show ww ≤ 64 by omega)) (by omega)
      have hmul : (l.length : Int) * (ww : Int) = ((l.length * ww : Nat) : Int) := by simp
      have HP := hidden (fun (bs : List Nat) => packed_is (bs := bs) hcan)
      have HBF := hidden (bytesFor_any (l.length * ww) hc)
      have HL8 := hidden (by8_ge (l.length * ww))
      have hL : by8 (l.length * ww) ≤ 2048 := by unfold by8; omega
      have HF := hidden hfit
      have HC := hidden hcl
      have H64 := hidden h64
      have hww : ww ≤ 64 := by omega
      rw [hcan]
      clear hcl h64 hfit hcan hwd hx0 hx64 hm
      obtain ⟨i0, hi, hz0, hz1', hz2⟩ := info_parts info5
      generalize by8 (l.length * ww) = L at *
      generalize hcc : l.length * ww = c at *
      have HCC := hidden hcc
      clear hcc
      go_enter Try.func65, Try.ntmps65
      go_wp2_with fail
      refine (HA.out _).mono ?_
      rintro e w1 ⟨rfl, rfl⟩
      go_wp2_with fail
      refine HW.out.mono ?_
      rintro e w2 ⟨rfl, rfl⟩
      go_wp2_with fail
      refine (HBF.out _).mono ?_
      rintro e w3 ⟨rfl, rfl⟩
      go_wp2_with (first | (refine wpList_make_full _ rfl _ _ 24 rfl w3.heap.size 5 i0 (.int .u8 0) 1 Try.underlying24 hi hz0 hz1' .i64 .i64 _ _ L rfl rfl ?m1 ?m2 ?m3 ?m4 ?m5 ?_))
      case m1 => rfl
      case m2 => rfl
      case m3 => rw [hz2]; omega
      case m4 => unfold maxLen; omega
      case m5 => omega
      intro w4 ho4 hg4
      have hb4 : Below w3.heap.size w3 w4 := (Below.refl _ _).grown hg4 (Nat.le_refl _) (fun k hk => by cases hk)
      have ho4' : w4.ownsRow w3.heap.size 5 1 (.slice (some ⟨w3.heap.size, 0, none⟩) L L) L (vals .u8 (List.replicate L 0)) := by
        rw [← made_vals]
        simpa using ho4
      have HO4 := hidden ho4'
      have HB4 := hidden hb4
      clear ho4 hg4 hb4 ho4'
      go_wp2_with fail
      go_loopw [28] (fun i wr => ∃ k : Nat, i = .int .i64 (k : Int) ∧ k ≤ l.length ∧ (∃ bs : List Nat, wr.ownsRow w3.heap.size 5 1 (.slice (some ⟨w3.heap.size, 0, none⟩) L L) L (vals .u8 bs) ∧ bs.length = L ∧ (∀ x ∈ bs, x < 256) ∧ pk 8 bs = pk ww (l.take k)) ∧ Below w3.heap.size w3 wr) (fun i _ => l.length - (intOf i).toNat)
      case atStart => exact ⟨0, rfl, by omega, ⟨List.replicate L 0, HO4.out, by simp, by simp, by rw [pk_zeros]; rfl⟩, HB4.out⟩
      case round =>
        obtain ⟨k, rfl, hk, ⟨bs, how, hbl, hb8, hpk⟩, hbel⟩ := hrel
        have HB := hidden hbel
        by_cases hlt : k < l.length
        · obtain ⟨b, off, rfl, hb, hcell⟩ := HC.out (by omega)
          have hck := (hbel.cell (p := ⟨b, off + k, none⟩) hb).trans (hcell k hlt)
          have hkw : (k : Int) * (ww : Int) = ((k * ww : Nat) : Int) := by simp
          have hstep : k * ww + ww ≤ 8 * L := by
            have h1 : (k + 1) * ww ≤ l.length * ww := Nat.mul_le_mul_right _ hlt
            rw [Nat.add_mul, Nat.one_mul] at h1
            rw [HCC.out] at h1
            have := HL8.out
            omega
          have hPut := put_any (w := wr) (by rw [hbl]; exact how) hb8 (k * ww) ww l[k] hww (HF.out _ (List.getElem_mem hlt)) (H64.out _ (List.getElem_mem hlt)) (by rw [hbl]; exact hstep) (by rw [hpk]; exact take_fit HF.out hk) (by omega) (by omega)
          have htb : k * ww ≤ 16384 := by omega
          rw [hbl, hpk, Nat.mul_comm k ww, ← pk_take_succ ww hlt, Nat.mul_comm ww k] at hPut
          have HPut := hidden hPut
          clear hcell how hb8 hpk hbel hPut hstep
          generalize l[k] = n at *
          generalize k * ww = t0 at *
          go_wp2_with fail
          refine HPut.out.mono ?_
          rintro e w5 ⟨rfl, ⟨bs', ho5, hl5, h85, hp5⟩, hb5⟩
          have HO5 := hidden ho5
          have HB5 := hidden (HB.out.trans hb5)
          have HL5 := hidden hl5
          have HP5 := hidden hp5
          clear ho5 hb5 hl5 hp5
          go_wp2_with fail
          go_roundw
          case rel => exact ⟨k + 1, by go_num, by omega, ⟨bs', HO5.out, HL5.out, h85, HP5.out⟩, HB5.out⟩
          case measure => simp [intOf]; omega
        · obtain rfl : k = l.length := by omega
          rw [List.take_length] at hpk
          have HE := hidden (HP.out bs hb8 hbl hpk)
          have HO : Hid (wr.ownsRow w3.heap.size 5 1 (.slice (some ⟨w3.heap.size, 0, none⟩) L L) (packR l ww).length (vals .u8 (packR l ww))) := by
            show World.ownsRow _ _ _ _ _ _ _
            rw [← HE.out, hbl]
            exact how
          clear how hbl hb8 hpk hbel HP HE
          go_wp2_with fail
          go_ret2
          exact ⟨_, rfl, HO.out, HB.out⟩
    · have hcan : can l (ww : Int) = false := by
        unfold can
        simp only [decide_eq_false_iff_not, Int.toNat_natCast]
        rintro ⟨_, _, _, h⟩
        exact hwd h
      have hgt : ((wd l : Nat) : Int) > (ww : Int) := by omega
      rw [hcan, packR_no hcan]
      clear hcl h64 hcan hwd hx0 hx64 hm
      go_enter Try.func65, Try.ntmps65
      go_wp2_with fail
      refine (HA.out _).mono ?_
      rintro e w1 ⟨rfl, rfl⟩
      go_wp2_with fail
      refine HW.out.mono ?_
      rintro e w2 ⟨rfl, rfl⟩
      go_wp2_with fail
      go_ret2
      exact ⟨_, rfl, own_none _ _ _, Below.refl _ _⟩
  · rw [decide_eq_false hal] at HA
    have hcan : can l x = false := by
      unfold can
      simp only [decide_eq_false_iff_not]
      rintro ⟨h1, h2, h3, _⟩
      exact hal ⟨by omega, by omega, h1, h2⟩
    rw [hcan, packR_no hcan]
    clear hcl h64 hcan hal hm HW
    go_enter Try.func65, Try.ntmps65
    go_wp2_with fail
    refine (HA.out _).mono ?_
    rintro e w1 ⟨rfl, rfl⟩
    go_wp2_with fail
    go_ret2
    exact ⟨_, rfl, own_none _ _ _, Below.refl _ _⟩
end Go.Proofs.Ytnlanilejhjkkaa
