/- Contract: the program's Unpack. -/
import Derived.Test.YtnlanilejhjkkaaBPack
set_option linter.unusedVariables false
set_option linter.unusedSimpArgs false
namespace Go.Proofs.Ytnlanilejhjkkaa
open Go.RowKit Go.Lib

theorem unR_no {b : List Nat} {n x : Int} (h : unE b n x ≠ 0) : unR b n x = [] := by unfold unR; rw [if_neg h]

theorem unE_arg {b : List Nat} {n x : Int} (h : ¬ (0 ≤ n ∧ n ≤ 256 ∧ 0 ≤ x ∧ x ≤ 64)) : unE b n x = 1 := by unfold unE; rw [if_neg h]

theorem unE_form {b : List Nat} {N ww : Nat} (hN : N ≤ 256) (hw : ww ≤ 64) (h : ¬ (b.length = by8 (N * ww) ∧ pk 8 b < 2 ^ (N * ww))) : unE b N ww = 40 := by
  unfold unE
  rw [if_pos ⟨by omega, by omega, by omega, by omega⟩]
  simp only [Int.toNat_natCast]
  rw [if_neg h]

theorem unE_ok {b : List Nat} {N ww : Nat} (hN : N ≤ 256) (hw : ww ≤ 64) (h : b.length = by8 (N * ww)) (h2 : pk 8 b < 2 ^ (N * ww)) : unE b N ww = 0 := by
  unfold unE
  rw [if_pos ⟨by omega, by omega, by omega, by omega⟩]
  simp only [Int.toNat_natCast]
  rw [if_pos ⟨h, h2⟩]

theorem unR_ok {b : List Nat} {N ww : Nat} (h : unE b N ww = 0) : unR b N ww = dig ww N (pk 8 b) := by
  unfold unR
  rw [if_pos h]
  rfl

set_option maxRecDepth 100000 in
set_option maxHeartbeats 4000000 in
theorem unpack_any {w : World} {v : Value} {b : List Nat} (hs : Sx .u8 w v b) (h8 : ∀ x ∈ b, x < 256) (n x : Int) :
    Calls Try.prog 69 #[v, .int .i64 n, .int .i64 x] w fun e w' => ∃ v', e = .returned (.tuple #[v', .int .i64 (unE b n x : Int)]) ∧ w'.ownsRow w.heap.size 44 1 v' (unR b n x).length (vals .u64 (unR b n x)) ∧ Below w.heap.size w w' := by
  have HA := hidden (allowed_any n x)
  by_cases hal : 0 ≤ n ∧ n ≤ 256 ∧ 0 ≤ x ∧ x ≤ 64
  · rw [decide_eq_true hal] at HA
    obtain ⟨hn0, hn256, hx0, hx64⟩ := hal
    obtain ⟨ww, rfl⟩ := Int.eq_ofNat_of_zero_le hx0
    obtain ⟨N, rfl⟩ := Int.eq_ofNat_of_zero_le hn0
    have hww : ww ≤ 64 := by omega
    have hN : N ≤ 256 := by omega
    have hc : N * ww ≤ 16384 := Nat.le_trans (Nat.mul_le_mul hN hww) (by omega)
    have hmul : (N : Int) * (ww : Int) = ((N * ww : Nat) : Int) := by simp
    have HBF := hidden (bytesFor_any (N * ww) hc)
    by_cases hlen : b.length = by8 (N * ww)
    · have HCL := hidden (clear_any hs h8 (N * ww) hc hlen)
      have hleq : ((b.length : Int) != ((by8 (N * ww) : Nat) : Int)) = false := by rw [hlen]; simp
      by_cases hlow : pk 8 b < 2 ^ (N * ww)
      · rw [decide_eq_true hlow] at HCL
        have HE := hidden (unE_ok hN hww hlen hlow)
        rw [HE.out, unR_ok HE.out, dig_length]
        have hge := by8_ge (N * ww)
        have HTK := hidden (fun (W : World) (hW : Sx .u8 W v b) (t0 : Nat) (h1 : t0 + ww ≤ 8 * b.length) (h2 : t0 ≤ 16384) => take_any hW h8 t0 ww hww h1 h2)
        have HST : Hid (∀ k, k < N → k * ww + ww ≤ 8 * b.length ∧ k * ww ≤ 16384) := hidden (fun k hk => by
          have h1 : (k + 1) * ww ≤ N * ww := Nat.mul_le_mul_right _ hk
          rw [Nat.add_mul, Nat.one_mul] at h1
          rw [hlen]
          omega)
        have HS := hidden hs
        obtain ⟨i0, hi, hz0, hz1', hz2⟩ := info_parts info44
        obtain ⟨a, cap, rfl, hm, hcl⟩ := hs
        have hm2 : b.length ≤ 2048 := by rw [hlen]; unfold by8; omega
        clear hcl h8 hlow hlen hx0 hx64 hn0 hn256 hm hge
        generalize by8 (N * ww) = L at *
        generalize N * ww = c at *
        obtain ⟨D, hD⟩ : ∃ D, dig ww N (pk 8 b) = D := ⟨_, rfl⟩
        have hDl : D.length = N := by rw [← hD, dig_length]
        have HG : Hid (∀ k (h : k < N), D[k]? = some (pk 8 b / 2 ^ (k * ww) % 2 ^ ww)) := hidden (fun k h => by rw [← hD, dig_get ww N _ k h, Nat.mul_comm])
        rw [hD]
        have HDL := hidden hDl
        clear hD hDl
        go_enter Try.func69, Try.ntmps69
        go_wp2_with fail
        refine (HA.out _).mono ?_
        rintro e w1 ⟨rfl, rfl⟩
        go_wp2_with fail
        refine (HBF.out _).mono ?_
        rintro e w2 ⟨rfl, rfl⟩
        go_wp2_with fail
        refine HCL.out.mono ?_
        rintro e w3 ⟨rfl, rfl⟩
        go_wp2_with (first | (refine wpList_make_full _ rfl _ _ 47 rfl w3.heap.size 44 i0 (.int .u64 0) 1 Try.underlying47 hi hz0 hz1' .i64 .i64 _ _ N rfl rfl ?m1 ?m2 ?m3 ?m4 ?m5 ?_))
        case m1 => rfl
        case m2 => rfl
        case m3 => rw [hz2]; omega
        case m4 => unfold maxLen; omega
        case m5 => omega
        intro w4 ho4 hg4
        have hb4 : Below w3.heap.size w3 w4 := (Below.refl _ _).grown hg4 (Nat.le_refl _) (fun k hk => by cases hk)
        have ho4' : w4.ownsRow w3.heap.size 44 1 (.slice (some ⟨w3.heap.size, 0, none⟩) N N) N (vals .u64 (fill D 0)) := by
          rw [fill_zero, HDL.out, ← made_vals]
          simpa using ho4
        have HO4 := hidden ho4'
        have HB4 := hidden hb4
        clear ho4 hg4 hb4 ho4'
        go_wp2_with fail
        go_loopw [33] (fun i wr => ∃ k : Nat, i = .int .i64 (k : Int) ∧ k ≤ N ∧ wr.ownsRow w3.heap.size 44 1 (.slice (some ⟨w3.heap.size, 0, none⟩) N N) N (vals .u64 (fill D k)) ∧ Below w3.heap.size w3 wr) (fun i _ => N - (intOf i).toNat)
        case atStart => exact ⟨0, rfl, by omega, HO4.out, HB4.out⟩
        case round =>
          obtain ⟨k, rfl, hk, how, hbel⟩ := hrel
          have HB := hidden hbel
          by_cases hlt : k < N
          · have hkD : k < D.length := by rw [HDL.out]; exact hlt
            have hval : D[k] = pk 8 b / 2 ^ (k * ww) % 2 ^ ww := by
              have := HG.out k hlt
              rw [List.getElem?_eq_getElem hkD] at this
              exact Option.some.inj this
            have hfl : k < (fill D k).length := by rw [fill_length (by omega)]; exact hkD
            have hck := (how.cellAt k (by omega)).trans (vals_get hfl)
            have hfr := how.frozenAt k
            have hST := how.stored k (.int .u64 ((D[k] : Nat) : Int))
            rw [vals_set, fill_set hkD] at hST
            have HSTO := hidden hST
            have hkw : (k : Int) * (ww : Int) = ((k * ww : Nat) : Int) := by simp
            have htb := (HST.out k hlt).2
            have hTake := HTK.out wr (HS.out.kept hbel) (k * ww) (HST.out k hlt).1 htb
            rw [← hval] at hTake
            have HTake := hidden hTake
            have hgz := (how.lt w3.heap.size rfl).2
            clear how hbel hST hTake hval
            generalize (fill D k)[k] = y at *
            generalize D[k] = z at *
            generalize k * ww = t0 at *
            go_wp2_with fail
            refine HTake.out.mono ?_
            rintro e w5 ⟨rfl, rfl⟩
            go_wp2_with fail
            go_roundw
            case rel => exact ⟨k + 1, by go_num, by omega, HSTO.out.1, below_set HB.out (Nat.le_refl _) _⟩
            case measure => simp [intOf]; omega
          · obtain rfl : k = N := by omega
            have HO : Hid (wr.ownsRow w3.heap.size 44 1 (.slice (some ⟨w3.heap.size, 0, none⟩) k k) k (vals .u64 D)) := by
              show World.ownsRow _ _ _ _ _ _ _
              have e : fill D k = D := by
                have := fill_all D
                rwa [HDL.out] at this
              rw [e] at how
              exact how
            clear how hbel
            go_wp2_with fail
            go_ret2
            exact ⟨_, rfl, HO.out, HB.out⟩
      · rw [decide_eq_false hlow] at HCL
        have hE := unE_form (b := b) hN hww (fun h => hlow h.2)
        rw [hE, unR_no (by rw [hE]; omega)]
        obtain ⟨a, cap, rfl, hm, hcl⟩ := hs
        have hm2 : b.length ≤ 2048 := by rw [hlen]; unfold by8; omega
        clear hcl h8 hlow hlen hx0 hx64 hn0 hn256 hm hE
        generalize by8 (N * ww) = L at *
        generalize N * ww = c at *
        go_enter Try.func69, Try.ntmps69
        go_wp2_with fail
        refine (HA.out _).mono ?_
        rintro e w1 ⟨rfl, rfl⟩
        go_wp2_with fail
        refine (HBF.out _).mono ?_
        rintro e w2 ⟨rfl, rfl⟩
        go_wp2_with fail
        refine HCL.out.mono ?_
        rintro e w3 ⟨rfl, rfl⟩
        go_wp2_with fail
        go_ret2
        exact ⟨_, rfl, own_none _ _ _, Below.refl _ _⟩
    · have hleq : ((b.length : Int) != ((by8 (N * ww) : Nat) : Int)) = true := by
        rw [bne_iff_ne]
        intro h
        exact hlen (by omega)
      have hE := unE_form (b := b) hN hww (fun h => hlen h.1)
      rw [hE, unR_no (by rw [hE]; omega)]
      obtain ⟨a, cap, rfl, hm, hcl⟩ := hs
      have hm2 : b.length ≤ 9223372036854775807 := by unfold maxLen at hm; omega
      clear hcl h8 hlen hx0 hx64 hn0 hn256 hm hE
      generalize by8 (N * ww) = L at *
      generalize N * ww = c at *
      go_enter Try.func69, Try.ntmps69
      go_wp2_with fail
      refine (HA.out _).mono ?_
      rintro e w1 ⟨rfl, rfl⟩
      go_wp2_with fail
      refine (HBF.out _).mono ?_
      rintro e w2 ⟨rfl, rfl⟩
      go_wp2_with fail
      go_ret2
      exact ⟨_, rfl, own_none _ _ _, Below.refl _ _⟩
  · rw [decide_eq_false hal] at HA
    have hE := unE_arg (b := b) hal
    rw [hE, unR_no (by rw [hE]; omega)]
    obtain ⟨a, cap, rfl, hm, hcl⟩ := hs
    clear hcl h8 hal hm hE
    go_enter Try.func69, Try.ntmps69
    go_wp2_with fail
    refine (HA.out _).mono ?_
    rintro e w1 ⟨rfl, rfl⟩
    go_wp2_with fail
    go_ret2
    exact ⟨_, rfl, own_none _ _ _, Below.refl _ _⟩
end Go.Proofs.Ytnlanilejhjkkaa
