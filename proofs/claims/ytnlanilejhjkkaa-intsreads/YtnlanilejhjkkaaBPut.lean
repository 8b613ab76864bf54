/- Contracts: a number's bits laid into a row of bytes from a bit on. -/
import Derived.Test.YtnlanilejhjkkaaBTake
set_option linter.unusedVariables false
set_option linter.unusedSimpArgs false
namespace Go.Proofs.Ytnlanilejhjkkaa
open Go.RowKit Go.Lib

/-- A row of the call's own that isn't empty: a slice with its block. -/
theorem own_form {w : World} {B e n : Nat} {v : Value} {xs : List Value} (h : w.ownsRow B e 1 v n xs) (hp : 0 < n) : ∃ g cap, v = .slice (some ⟨g, 0, none⟩) n cap ∧ B ≤ g ∧ g < w.heap.size := by
  obtain ⟨hl, h1⟩ := id h
  rcases h1 with ⟨rfl, rfl⟩ | ⟨g, cap, cur, rfl, hb, hg, h4⟩
  · omega
  · exact ⟨g, cap, rfl, hb, (Array.getElem?_eq_some_iff.1 hg).1⟩

theorem own_len {w : World} {B e n : Nat} {v : Value} {xs : List Value} (h : w.ownsRow B e 1 v n xs) : ∃ a cap, v = .slice a n cap := by
  obtain ⟨hl, h1⟩ := id h
  rcases h1 with ⟨rfl, rfl⟩ | ⟨g, cap, cur, rfl, hb, hg, h4⟩
  · exact ⟨none, 0, rfl⟩
  · exact ⟨_, cap, rfl⟩

theorem below_set {B : Nat} {a w : World} (h : Below B a w) {g j : Nat} (hg : B ≤ g) (u : Value) : Below B a (w.setCell ⟨g, j, none⟩ u) := h.setCell hg u

theorem put_or {x m r z : Nat} (hr : r < 8) (hx : x < 2 ^ r) (hz : IntKind.u64.wrap ((m : Int) * 2 ^ r) = (z : Int)) :
    bits .or .u8 (x : Int) ((z : Int) % 256) = ((x + m % 2 ^ (8 - r) * 2 ^ r : Nat) : Int) := by
  have e : (m : Int) * 2 ^ r = ((m * 2 ^ r : Nat) : Int) := by simp
  rw [e, IntKind.wrap_u64] at hz
  have hz2 : (z : Int) % 256 = ((m * 2 ^ r % 256 : Nat) : Int) := by omega
  have h256 : (256 : Nat) = 2 ^ (8 - r) * 2 ^ r := by rw [Nat.mul_comm, pow_split hr]
  have hm : m * 2 ^ r % 256 = m % 2 ^ (8 - r) * 2 ^ r := by rw [h256, Nat.mul_mod_mul_right]
  have hl : m * 2 ^ r % 256 < 256 := Nat.mod_lt _ (by omega)
  have hr2 : 2 ^ r ≤ 256 := by rw [h256]; exact Nat.le_mul_of_pos_left _ (Nat.two_pow_pos _)
  have hd : m % 2 ^ (8 - r) * 2 ^ r % 2 ^ r = 0 := Nat.mul_mod_left _ _
  rw [hm] at hl hz2
  rw [hz2]
  generalize m % 2 ^ (8 - r) * 2 ^ r = q at *
  have hj := bits_join_low .u8 8 (by decide) wraps_u8 r (x : Int) (q : Int) (by omega) (by exact_mod_cast hx) (by omega) (by omega) (by exact_mod_cast hd) (by omega)
  rw [hj]
  omega

set_option maxRecDepth 100000 in
set_option maxHeartbeats 4000000 in
theorem put_any {B : Nat} {w : World} {v : Value} {bs : List Nat} (hown : w.ownsRow B 5 1 v bs.length (vals .u8 bs)) (h8 : ∀ x ∈ bs, x < 256) (t0 ww n : Nat) (hw : ww ≤ 64) (hn : n < 2 ^ ww)
    (hn64 : n < 18446744073709551616) (ht : t0 + ww ≤ 8 * bs.length) (hV : pk 8 bs < 2 ^ t0) (ht0 : t0 ≤ 16384) (hmax : bs.length ≤ 2048) :
    Calls Try.prog 83 #[v, .int .i64 (t0 : Int), .int .i64 (ww : Int), .int .u64 (n : Int)] w fun e w' => e = .returned (.tuple #[]) ∧
      (∃ bs', w'.ownsRow B 5 1 v bs.length (vals .u8 bs') ∧ bs'.length = bs.length ∧ (∀ x ∈ bs', x < 256) ∧ pk 8 bs' = pk 8 bs + n * 2 ^ t0) ∧ Below B w w' := by
  obtain ⟨T, hT⟩ : ∃ T, pk 8 bs + n * 2 ^ t0 = T := ⟨_, rfl⟩
  rw [hT]
  obtain ⟨E, hE⟩ : ∃ E, t0 + ww = E := ⟨_, rfl⟩
  have hEi : (t0 : Int) + (ww : Int) = (E : Int) := by omega
  have HS : Hid (∃ bs' : List Nat, w.ownsRow B 5 1 v bs.length (vals .u8 bs') ∧ bs'.length = bs.length ∧ (∀ x ∈ bs', x < 256) ∧ pk 8 bs' < 2 ^ t0 ∧ pk 8 bs' + n * 2 ^ t0 = T) :=
    hidden ⟨bs, hown, rfl, h8, hV, hT⟩
  have HN : Hid (n < 2 ^ (E - t0)) := hidden (by rw [← hE, Nat.add_sub_cancel_left]; exact hn)
  rw [hE] at ht
  have hE0 : E ≤ t0 + 64 := by omega
  have hE1 : t0 ≤ E := by omega
  clear hown h8 hV hT hn hE
  generalize bs.length = L at *
  go_enter Try.func83, Try.ntmps83
  go_wp2_with fail
  go_loopw [1, 3] (fun at_ mm wr => ∃ t m : Nat, at_ = .int .i64 (t : Int) ∧ mm = .int .u64 (m : Int) ∧ t ≤ E + 7 ∧ m < 18446744073709551616 ∧ m < 2 ^ (E - t) ∧
      (∃ bs' : List Nat, wr.ownsRow B 5 1 v L (vals .u8 bs') ∧ bs'.length = L ∧ (∀ x ∈ bs', x < 256) ∧ pk 8 bs' < 2 ^ t ∧ pk 8 bs' + m * 2 ^ t = T) ∧ Below B w wr) (fun a _ _ => E - (intOf a).toNat)
  case atStart => exact ⟨t0, n, rfl, rfl, by omega, hn64, HN.out, HS.out, Below.refl _ _⟩
  case round =>
    obtain ⟨t, m, rfl, rfl, htE, hm64, hmE, ⟨cs, how, hcl, h8, hV, hsum⟩, hbel⟩ := hrel
    have HB := hidden hbel
    by_cases hlt : t < E
    · have hj8 : t / 8 < cs.length := by omega
      obtain ⟨g, cap, rfl, hBg, hgz⟩ := own_form how (by omega)
      have hck := (how.cellAt (t / 8) (by omega)).trans (vals_get hj8)
      have hfr := how.frozenAt (t / 8)
      have hxl := byte_low h8 hV hj8
      have hx8 := h8 _ (List.getElem_mem hj8)
      have HLT := hidden (low_lt (n := m) (by omega : t % 8 < 8) hxl)
      have HPK := hidden (set_pk hj8 (m % 2 ^ (8 - t % 8)))
      have HST := hidden (how.stored (t / 8) (.int .u8 ((cs[t / 8] + m % 2 ^ (8 - t % 8) * 2 ^ (t % 8) : Nat) : Int)))
      rw [vals_set] at HST
      have H8 := hidden (set_lt (j := t / 8) h8 HLT.out)
      have HBL := hidden (put_below (n := m) (s := 8 - t % 8) hV)
      have HSM := hidden (put_sum (pk 8 cs) m t (8 - t % 8))
      have HRE := hidden (put_rest (s := 8 - t % 8) hmE)
      have HSU := hidden hsum
      have HLN : Hid ((cs.set (t / 8) (cs[t / 8] + m % 2 ^ (8 - t % 8) * 2 ^ (t % 8))).length = L) := hidden (by rw [List.length_set]; exact hcl)
      obtain ⟨z, hz⟩ : ∃ z : Nat, IntKind.u64.wrap ((m : Int) * 2 ^ (t % 8)) = (z : Int) := by
        refine ⟨(IntKind.u64.wrap ((m : Int) * 2 ^ (t % 8))).toNat, ?_⟩
        rw [IntKind.wrap_u64]
        omega
      have hor := put_or (by omega) hxl hz
      have hz64 : z < 18446744073709551616 := by
        rw [IntKind.wrap_u64] at hz
        omega
      generalize hcs : cs.set (t / 8) (cs[t / 8] + m % 2 ^ (8 - t % 8) * 2 ^ (t % 8)) = cs2 at *
      generalize cs[t / 8] + m % 2 ^ (8 - t % 8) * 2 ^ (t % 8) = c at *
      generalize cs[t / 8] = x at *
      clear how hbel h8 hV hsum hcs hxl
      have hji : (t : Int) / 8 = ((t / 8 : Nat) : Int) := by omega
      have hri : (t : Int) % 8 = ((t % 8 : Nat) : Int) := by omega
      have hsi : (8 : Int) - ((t % 8 : Nat) : Int) = ((8 - t % 8 : Nat) : Int) := by omega
      have hr8 : t % 8 < 8 := by omega
      have hs8 : 8 - t % 8 ≤ 8 := by omega
      have hs1 : 1 ≤ 8 - t % 8 := by omega
      have hjL : t / 8 < L := by omega
      have HTT : Hid (t + (8 - t % 8) ≤ E + 7) := hidden (by omega)
      have HEE : Hid (E - (t + (8 - t % 8)) = E - t - (8 - t % 8)) := hidden (by omega)
      have hmd : (m : Int) / 2 ^ (8 - t % 8) = ((m / 2 ^ (8 - t % 8) : Nat) : Int) := by simp
      have hml : m / 2 ^ (8 - t % 8) ≤ m := Nat.div_le_self _ _
      have hc8 := HLT.out
      generalize 8 - t % 8 = s at *
      generalize t % 8 = r at *
      generalize t / 8 = j at *
      clear hmE
      generalize m / 2 ^ s = q at *
      go_wp2_with fail
      go_region
      all_goals
        go_wp2_with fail
        go_roundw
        case rel =>
          refine ⟨t + s, q, by go_num, by go_num, HTT.out, by omega, ?_, ⟨cs2, HST.out.1.drew, HLN.out, H8.out, ?_, ?_⟩, (below_set HB.out hBg _).drew⟩
          · rw [HEE.out]; exact HRE.out
          · rw [HPK.out]; exact HBL.out
          · rw [HPK.out, HSM.out]; exact HSU.out
        case measure => simp [intOf]; omega
    · have hm0 : m = 0 := by
        rw [show E - t = 0 by omega] at hmE
        omega
      subst hm0
      have HO : Hid (∃ bs' : List Nat, wr.ownsRow B 5 1 v L (vals .u8 bs') ∧ bs'.length = L ∧ (∀ x ∈ bs', x < 256) ∧ pk 8 bs' = T) := hidden ⟨cs, how, hcl, h8, by simpa using hsum⟩
      clear how hcl h8 hV hsum hbel hmE
      go_wp2_with fail
      go_end0
      exact ⟨rfl, HO.out, HB.out⟩
end Go.Proofs.Ytnlanilejhjkkaa
