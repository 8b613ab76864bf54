/- Contract: the document's Sign. -/
import Derived.Test.YtgcdnigfojihiaaWalkA
set_option linter.unusedVariables false
set_option linter.unusedSimpArgs false
namespace Go.Proofs.Ytgcdnigfojihiaa
open Go.RowKit

/-- The byte at a place, as a number. -/
def B (s : ByteArray) (k : Nat) : Nat := ((lb s).getD k 0).toNat

theorem B_lt (s : ByteArray) (k : Nat) : B s k < 256 := UInt8.toNat_lt _
theorem B_get (s : ByteArray) (k : Nat) (h : k < s.size) : (s[k]'h).toNat = B s k := by
  unfold B
  have h2 : k < (lb s).length := h
  rw [List.getD_eq_getElem?_getD, List.getElem?_eq_getElem h2]
  rfl
theorem unit_B (s : ByteArray) : unit (lb s) = Lib.decodeN s.size (B s 0) (B s 1) (B s 2) (B s 3) := rfl

theorem w64_byte (s : ByteArray) (k : Nat) : wrap64 (B s k : Int) = B s k := by
  have := B_lt s k
  unfold wrap64; omega

/-- What is reckoned up to byte number k. -/
def acc (s : ByteArray) (a : Int) : Nat → Int
  | 0 => a
  | k + 1 => if k = 0 then a else acc s a k * 64 + B s k - 128

theorem said_of {s : ByteArray} {c wd : Nat} {o : Bool} (h : unit (lb s) = (c, wd)) (ho : ok (c, wd) = o) : Ending.returned (.tuple #[.int .i64 (c : Int), .int .i64 (wd : Int), .bool o]) = Ending.returned (.tuple #[.int .i64 ((unit (lb s)).1 : Int), .int .i64 ((unit (lb s)).2 : Int), .bool (ok (unit (lb s)))]) := by
  rw [h, ho]

theorem said_int {s : ByteArray} {x : Int} {wd : Nat} {o : Bool} (h : unit (lb s) = (x.toNat, wd)) (hx : x = (x.toNat : Int)) (ho : ok (x.toNat, wd) = o) : Ending.returned (.tuple #[.int .i64 x, .int .i64 wd, .bool o]) = Ending.returned (.tuple #[.int .i64 ((unit (lb s)).1 : Int), .int .i64 ((unit (lb s)).2 : Int), .bool (ok (unit (lb s)))]) := by
  rw [h, ho]
  show _ = Ending.returned (.tuple #[.int .i64 (x.toNat : Int), .int .i64 wd, .bool o])
  rw [← hx]

theorem sign_one (s : ByteArray) (h0 : 0 < s.size) (hb : B s 0 < 128) (w : World) :
    Calls Try.prog 21 #[.string s] w fun e w' => e = Ending.returned (.tuple #[.int .i64 ((unit (lb s)).1 : Int), .int .i64 ((unit (lb s)).2 : Int), .bool (ok (unit (lb s)))]) ∧ w' = w := by
  have hu : unit (lb s) = (B s 0, 1) := by rw [unit_B]; simp only [Lib.decodeN]; rw [if_pos hb]
  have hg := B_get s 0 h0
  have hw := w64_byte s 0
  have HU : Hid (unit (lb s) = (B s 0, 1)) := hu
  clear hu
  generalize B s 0 = b at *
  have h1 : (b : Int) < 128 := by omega
  go_enter Try.func21, Try.ntmps21
  go_wp2_with fail
  go_ret3
  refine ⟨?_, rfl⟩
  exact said_of HU.out (by simp [ok]; omega)

theorem sign_none (s : ByteArray) (h0 : 0 < s.size) (hb : 128 ≤ B s 0) (hb2 : B s 0 < 194 ∨ 245 ≤ B s 0) (w : World) :
    Calls Try.prog 21 #[.string s] w fun e w' => e = Ending.returned (.tuple #[.int .i64 ((unit (lb s)).1 : Int), .int .i64 ((unit (lb s)).2 : Int), .bool (ok (unit (lb s)))]) ∧ w' = w := by
  have hu : unit (lb s) = (65533, 1) := by
    have := B_lt s 0
    have := B_lt s 1
    have := B_lt s 2
    have := B_lt s 3
    rw [unit_B]; simp only [Lib.decodeN]; rw [if_neg (by omega)]
    split
    · rw [if_neg (by omega)]
    · rw [if_neg (by omega)]
      split
      · rw [if_neg (by omega)]
      · rfl
  have hg := B_get s 0 h0
  have hw := w64_byte s 0
  have HU : Hid (unit (lb s) = (65533, 1)) := hu
  clear hu
  generalize B s 0 = b at *
  have h1 : ¬ (b : Int) < 128 := by omega
  rcases hb2 with hb2 | hb2
  · have h2 : ¬ (b : Int) ≥ 194 := by omega
    have h3 : ¬ (b : Int) ≥ 224 := by omega
    have h4 : ¬ (b : Int) ≥ 240 := by omega
    go_enter Try.func21, Try.ntmps21
    go_wp2_with fail
    go_ret3
    exact ⟨said_of HU.out rfl, rfl⟩
  · have h2 : (b : Int) ≥ 194 := by omega
    have h3 : (b : Int) ≥ 224 := by omega
    have h4 : (b : Int) ≥ 240 := by omega
    have h5 : ¬ (b : Int) < 224 := by omega
    have h6 : ¬ (b : Int) < 240 := by omega
    have h7 : ¬ (b : Int) < 245 := by omega
    go_enter Try.func21, Try.ntmps21
    go_wp2_with fail
    go_ret3
    exact ⟨said_of HU.out rfl, rfl⟩

theorem unit_short2 (s : ByteArray) (hb : 194 ≤ B s 0) (hb2 : B s 0 < 224) (hs : s.size < 2) : unit (lb s) = (65533, 1) := by
  rw [unit_B]; simp only [Lib.decodeN]; rw [if_neg (by omega), if_neg (by omega), if_neg (by omega), if_neg (by omega)]

theorem unit_bad2 (s : ByteArray) (hb : 194 ≤ B s 0) (hb2 : B s 0 < 224) (j : Nat) (h1 : 1 ≤ j) (h2 : j < 2) (hj : B s j < 128 ∨ 192 ≤ B s j) : unit (lb s) = (65533, 1) := by
  have := B_lt s 1
  have := B_lt s 2
  have := B_lt s 3
  have hc : (B s 1 < 128 ∨ 192 ≤ B s 1) := by
    obtain rfl : j = 1 := by omega
    exact hj
  rw [unit_B]; simp only [Lib.decodeN]; rw [if_neg (by omega), if_neg (by omega), if_neg (by omega), if_neg (by omega)]

theorem unit_out2 (s : ByteArray) (hb : 194 ≤ B s 0) (hb2 : B s 0 < 224) (hj : ∀ j, 1 ≤ j → j < 2 → 128 ≤ B s j ∧ B s j < 192) (x : Int) (hx : x = acc s (B s 0 - 192) 2)
    (ho : x < 128 ∨ x > 1114111 ∨ (x ≥ 55296 ∧ x < 57344)) : unit (lb s) = (65533, 1) := by
  have := hj 1 (by omega) (by omega)
  simp [acc] at hx
  rw [unit_B]; simp only [Lib.decodeN]; rw [if_neg (by omega)]
  split
  · rw [if_neg (by omega)]
  · split
    · rw [if_neg (by omega)]
    · split
      · rw [if_neg (by omega)]
      · rfl

theorem unit_in2 (s : ByteArray) (hb : 194 ≤ B s 0) (hb2 : B s 0 < 224) (hs : 2 ≤ s.size) (hj : ∀ j, 1 ≤ j → j < 2 → 128 ≤ B s j ∧ B s j < 192) (x : Int) (hx : x = acc s (B s 0 - 192) 2)
    (h1 : ¬ x < 128) (h2 : ¬ x > 1114111) (h3 : ¬ (x ≥ 55296 ∧ x < 57344)) : unit (lb s) = (x.toNat, 2) := by
  have := hj 1 (by omega) (by omega)
  simp [acc] at hx
  rw [unit_B]; simp only [Lib.decodeN]; rw [if_neg (by omega)]
  split
  · first | (exfalso; omega) | (rw [if_pos (by omega)]; congr 1; omega)
  · split
    · first | (exfalso; omega) | (rw [if_pos (by omega)]; congr 1; omega)
    · first | (exfalso; omega) | (rw [if_pos (by omega), if_pos (by omega)]; congr 1; omega)

theorem acc_le2 (s : ByteArray) (hb : 194 ≤ B s 0) (hb2 : B s 0 < 224) (k : Nat) (h1 : 1 ≤ k) (h2 : k ≤ 2) (hj : ∀ j, 1 ≤ j → j < k → 128 ≤ B s j ∧ B s j < 192) : 0 ≤ acc s (B s 0 - 192) k ∧ acc s (B s 0 - 192) k ≤ 33554432 := by
  obtain rfl | rfl | rfl | rfl : k = 1 ∨ k = 2 ∨ k = 3 ∨ k = 4 := by omega
  · simp [acc]; omega
  · have := hj 1 (by omega) (by omega)
    simp [acc]; omega
  · have := hj 1 (by omega) (by omega)
    have := hj 2 (by omega) (by omega)
    simp [acc]; omega
  · have := hj 1 (by omega) (by omega)
    have := hj 2 (by omega) (by omega)
    have := hj 3 (by omega) (by omega)
    simp [acc]; omega

set_option maxRecDepth 100000 in
set_option maxHeartbeats 2000000 in
theorem sign_2 (s : ByteArray) (h0 : 0 < s.size) (hs : s.size ≤ 100000) (hb : 194 ≤ B s 0) (hb2 : B s 0 < 224) (w : World) :
    Calls Try.prog 21 #[.string s] w fun e w' => e = Ending.returned (.tuple #[.int .i64 ((unit (lb s)).1 : Int), .int .i64 ((unit (lb s)).2 : Int), .bool (ok (unit (lb s)))]) ∧ w' = w := by
  have HS : Hid (∀ h : s.size < 2, unit (lb s) = (65533, 1)) := fun h => unit_short2 s hb hb2 h
  have HBad : Hid (∀ (j : Nat) (h1 : 1 ≤ j) (h2 : j < 2) (hj : B s j < 128 ∨ 192 ≤ B s j), unit (lb s) = (65533, 1)) := unit_bad2 s hb hb2
  have HOut : Hid _ := unit_out2 s hb hb2
  have HIn : Hid _ := unit_in2 s hb hb2
  have HA : Hid _ := acc_le2 s hb hb2
  have hg := B_get s 0 h0
  have hw := w64_byte s 0
  have ha1 : ((B s 0 : Int) - 192) = acc s (B s 0 - 192) 1 := rfl
  generalize hA : acc s (B s 0 - 192) = A at *
  have HA2 : Hid (acc s (B s 0 - 192) = A) := hA
  clear hA
  generalize hbb : B s 0 = b at *
  clear hbb
  have h1 : ¬ (b : Int) < 128 := by omega
  have t0 : (b : Int) ≥ 194 := by omega
  have t1 : (b : Int) < 224 := by omega
  by_cases hl : (s.size : Int) < 2
  · go_enter Try.func21, Try.ntmps21
    go_wp2_with fail
    go_ret3
    exact ⟨said_of (HS.out (by omega)) rfl, rfl⟩
  · have hl2 : 2 ≤ s.size := by omega
    go_enter Try.func21, Try.ntmps21
    go_wp2_with fail
    go_loopw [8, 9] (fun n i w' => w' = w ∧ ∃ k : Nat, i = .int .i64 k ∧ 1 ≤ k ∧ k ≤ 2 ∧ n = .int .i64 (A k) ∧ ∀ j, 1 ≤ j → j < k → 128 ≤ B s j ∧ B s j < 192) (fun _ i _ => 2 - (intOf i).toNat)
    case atStart => exact ⟨rfl, 1, rfl, by omega, by omega, rfl, fun j h1 h2 => by omega⟩
    case round =>
      obtain ⟨rfl, k, rfl, hk1, hk2, rfl, hj⟩ := hrel
      have hAk := HA.out k hk1 hk2 hj
      clear ha1
      by_cases hlt : k < 2
      · have hgk := B_get s k (by omega)
        have hwk := w64_byte s k
        have hAs : A (k + 1) = A k * 64 + B s k - 128 := by
          rw [← HA2.out, acc, if_neg (by omega)]
        have hBk := B_lt s k
        have HJ : Hid (∀ j, 1 ≤ j → j < k → 128 ≤ B s j ∧ B s j < 192) := hj
        have HBk : Hid (B s k = B s k) := rfl
        clear hj
        by_cases hc1 : (B s k : Int) < 128
        · have hbd := HBad.out k hk1 hlt (by omega)
          have HU : Hid (unit (lb s) = (65533, 1)) := hbd
          clear hbd hAs
          generalize B s k = bk at *
          go_wp2_with fail
          go_ret3
          exact ⟨said_of HU.out rfl, rfl⟩
        · by_cases hc2 : (B s k : Int) ≥ 192
          · have hbd := HBad.out k hk1 hlt (by omega)
            have HU : Hid (unit (lb s) = (65533, 1)) := hbd
            clear hbd hAs
            generalize B s k = bk at *
            go_wp2_with fail
            go_ret3
            exact ⟨said_of HU.out rfl, rfl⟩
          · have HN : Hid (∀ j, 1 ≤ j → j < k + 1 → 128 ≤ B s j ∧ B s j < 192) := by
              intro j h1 h2
              by_cases h3 : j < k
              · exact HJ.out j h1 h3
              · obtain rfl : j = k := by omega
                omega
            have HS2 : Hid (A (k + 1) = A k * 64 + B s k - 128) := hAs
            clear hAs
            generalize B s k = bk at *
            go_wp2_with fail
            go_roundw
            case rel => exact ⟨trivial, k + 1, by go_num, by omega, by omega, by rw [HS2.out], HN.out⟩
            case measure => simp [intOf]; omega
      · obtain rfl : k = 2 := by omega
        have HX : Hid (∀ x : Int, x = A 2 → ∀ j, 1 ≤ j → j < 2 → 128 ≤ B s j ∧ B s j < 192) := fun _ _ => hj
        have HO := HOut.out hj (A 2) rfl
        have HI := HIn.out hl2 hj (A 2) rfl
        have HO2 : Hid _ := HO
        have HI2 : Hid _ := HI
        clear HO HI hj
        generalize A 2 = x at *
        by_cases t1 : x < 128
        · go_wp2_with fail
          go_ret3
          exact ⟨said_of (HO2.out (Or.inl t1)) rfl, rfl⟩
        · by_cases t2 : x > 1114111
          · go_wp2_with fail
            go_ret3
            exact ⟨said_of (HO2.out (Or.inr (Or.inl t2))) rfl, rfl⟩
          · by_cases t3 : x ≥ 55296
            · by_cases t4 : x < 57344
              · go_wp2_with fail
                go_ret3
                exact ⟨said_of (HO2.out (Or.inr (Or.inr ⟨t3, t4⟩))) rfl, rfl⟩
              · have hz : x = (x.toNat : Int) := by omega
                have HZ : Hid (x = (x.toNat : Int)) := hz
                clear hz
                go_wp2_with fail
                go_ret3
                exact ⟨said_int (wd := 2) (HI2.out t1 t2 (by omega)) HZ.out (ok_of_wide (by decide)), rfl⟩
            · have hz : x = (x.toNat : Int) := by omega
              have HZ : Hid (x = (x.toNat : Int)) := hz
              clear hz
              go_wp2_with fail
              go_ret3
              exact ⟨said_int (wd := 2) (HI2.out t1 t2 (by omega)) HZ.out (ok_of_wide (by decide)), rfl⟩

theorem unit_short3 (s : ByteArray) (hb : 224 ≤ B s 0) (hb2 : B s 0 < 240) (hs : s.size < 3) : unit (lb s) = (65533, 1) := by
  rw [unit_B]; simp only [Lib.decodeN]; rw [if_neg (by omega), if_neg (by omega), if_neg (by omega), if_neg (by omega)]

theorem unit_bad3 (s : ByteArray) (hb : 224 ≤ B s 0) (hb2 : B s 0 < 240) (j : Nat) (h1 : 1 ≤ j) (h2 : j < 3) (hj : B s j < 128 ∨ 192 ≤ B s j) : unit (lb s) = (65533, 1) := by
  have := B_lt s 1
  have := B_lt s 2
  have := B_lt s 3
  have hc : (B s 1 < 128 ∨ 192 ≤ B s 1) ∨ (B s 2 < 128 ∨ 192 ≤ B s 2) := by
    obtain rfl | rfl : j = 1 ∨ j = 2 := by omega
    all_goals omega
  rw [unit_B]; simp only [Lib.decodeN]; rw [if_neg (by omega), if_neg (by omega), if_neg (by omega), if_neg (by omega)]

theorem unit_out3 (s : ByteArray) (hb : 224 ≤ B s 0) (hb2 : B s 0 < 240) (hj : ∀ j, 1 ≤ j → j < 3 → 128 ≤ B s j ∧ B s j < 192) (x : Int) (hx : x = acc s (B s 0 - 224) 3)
    (ho : x < 2048 ∨ x > 1114111 ∨ (x ≥ 55296 ∧ x < 57344)) : unit (lb s) = (65533, 1) := by
  have := hj 1 (by omega) (by omega)
  have := hj 2 (by omega) (by omega)
  simp [acc] at hx
  rw [unit_B]; simp only [Lib.decodeN]; rw [if_neg (by omega)]
  split
  · rw [if_neg (by omega)]
  · split
    · rw [if_neg (by omega)]
    · split
      · rw [if_neg (by omega)]
      · rfl

theorem unit_in3 (s : ByteArray) (hb : 224 ≤ B s 0) (hb2 : B s 0 < 240) (hs : 3 ≤ s.size) (hj : ∀ j, 1 ≤ j → j < 3 → 128 ≤ B s j ∧ B s j < 192) (x : Int) (hx : x = acc s (B s 0 - 224) 3)
    (h1 : ¬ x < 2048) (h2 : ¬ x > 1114111) (h3 : ¬ (x ≥ 55296 ∧ x < 57344)) : unit (lb s) = (x.toNat, 3) := by
  have := hj 1 (by omega) (by omega)
  have := hj 2 (by omega) (by omega)
  simp [acc] at hx
  rw [unit_B]; simp only [Lib.decodeN]; rw [if_neg (by omega)]
  split
  · first | (exfalso; omega) | (rw [if_pos (by omega)]; congr 1; omega)
  · split
    · first | (exfalso; omega) | (rw [if_pos (by omega)]; congr 1; omega)
    · first | (exfalso; omega) | (rw [if_pos (by omega), if_pos (by omega)]; congr 1; omega)

theorem acc_le3 (s : ByteArray) (hb : 224 ≤ B s 0) (hb2 : B s 0 < 240) (k : Nat) (h1 : 1 ≤ k) (h2 : k ≤ 3) (hj : ∀ j, 1 ≤ j → j < k → 128 ≤ B s j ∧ B s j < 192) : 0 ≤ acc s (B s 0 - 224) k ∧ acc s (B s 0 - 224) k ≤ 33554432 := by
  obtain rfl | rfl | rfl | rfl : k = 1 ∨ k = 2 ∨ k = 3 ∨ k = 4 := by omega
  · simp [acc]; omega
  · have := hj 1 (by omega) (by omega)
    simp [acc]; omega
  · have := hj 1 (by omega) (by omega)
    have := hj 2 (by omega) (by omega)
    simp [acc]; omega
  · have := hj 1 (by omega) (by omega)
    have := hj 2 (by omega) (by omega)
    have := hj 3 (by omega) (by omega)
    simp [acc]; omega

set_option maxRecDepth 100000 in
set_option maxHeartbeats 2000000 in
theorem sign_3 (s : ByteArray) (h0 : 0 < s.size) (hs : s.size ≤ 100000) (hb : 224 ≤ B s 0) (hb2 : B s 0 < 240) (w : World) :
    Calls Try.prog 21 #[.string s] w fun e w' => e = Ending.returned (.tuple #[.int .i64 ((unit (lb s)).1 : Int), .int .i64 ((unit (lb s)).2 : Int), .bool (ok (unit (lb s)))]) ∧ w' = w := by
  have HS : Hid (∀ h : s.size < 3, unit (lb s) = (65533, 1)) := fun h => unit_short3 s hb hb2 h
  have HBad : Hid (∀ (j : Nat) (h1 : 1 ≤ j) (h2 : j < 3) (hj : B s j < 128 ∨ 192 ≤ B s j), unit (lb s) = (65533, 1)) := unit_bad3 s hb hb2
  have HOut : Hid _ := unit_out3 s hb hb2
  have HIn : Hid _ := unit_in3 s hb hb2
  have HA : Hid _ := acc_le3 s hb hb2
  have hg := B_get s 0 h0
  have hw := w64_byte s 0
  have ha1 : ((B s 0 : Int) - 224) = acc s (B s 0 - 224) 1 := rfl
  generalize hA : acc s (B s 0 - 224) = A at *
  have HA2 : Hid (acc s (B s 0 - 224) = A) := hA
  clear hA
  generalize hbb : B s 0 = b at *
  clear hbb
  have h1 : ¬ (b : Int) < 128 := by omega
  have t0 : (b : Int) ≥ 194 := by omega
  have t1 : ¬ (b : Int) < 224 := by omega
  have t2 : (b : Int) ≥ 224 := by omega
  have t3 : (b : Int) < 240 := by omega
  by_cases hl : (s.size : Int) < 3
  · go_enter Try.func21, Try.ntmps21
    go_wp2_with fail
    go_ret3
    exact ⟨said_of (HS.out (by omega)) rfl, rfl⟩
  · have hl2 : 3 ≤ s.size := by omega
    go_enter Try.func21, Try.ntmps21
    go_wp2_with fail
    go_loopw [8, 9] (fun n i w' => w' = w ∧ ∃ k : Nat, i = .int .i64 k ∧ 1 ≤ k ∧ k ≤ 3 ∧ n = .int .i64 (A k) ∧ ∀ j, 1 ≤ j → j < k → 128 ≤ B s j ∧ B s j < 192) (fun _ i _ => 3 - (intOf i).toNat)
    case atStart => exact ⟨rfl, 1, rfl, by omega, by omega, rfl, fun j h1 h2 => by omega⟩
    case round =>
      obtain ⟨rfl, k, rfl, hk1, hk2, rfl, hj⟩ := hrel
      have hAk := HA.out k hk1 hk2 hj
      clear ha1
      by_cases hlt : k < 3
      · have hgk := B_get s k (by omega)
        have hwk := w64_byte s k
        have hAs : A (k + 1) = A k * 64 + B s k - 128 := by
          rw [← HA2.out, acc, if_neg (by omega)]
        have hBk := B_lt s k
        have HJ : Hid (∀ j, 1 ≤ j → j < k → 128 ≤ B s j ∧ B s j < 192) := hj
        have HBk : Hid (B s k = B s k) := rfl
        clear hj
        by_cases hc1 : (B s k : Int) < 128
        · have hbd := HBad.out k hk1 hlt (by omega)
          have HU : Hid (unit (lb s) = (65533, 1)) := hbd
          clear hbd hAs
          generalize B s k = bk at *
          go_wp2_with fail
          go_ret3
          exact ⟨said_of HU.out rfl, rfl⟩
        · by_cases hc2 : (B s k : Int) ≥ 192
          · have hbd := HBad.out k hk1 hlt (by omega)
            have HU : Hid (unit (lb s) = (65533, 1)) := hbd
            clear hbd hAs
            generalize B s k = bk at *
            go_wp2_with fail
            go_ret3
            exact ⟨said_of HU.out rfl, rfl⟩
          · have HN : Hid (∀ j, 1 ≤ j → j < k + 1 → 128 ≤ B s j ∧ B s j < 192) := by
              intro j h1 h2
              by_cases h3 : j < k
              · exact HJ.out j h1 h3
              · obtain rfl : j = k := by omega
                omega
            have HS2 : Hid (A (k + 1) = A k * 64 + B s k - 128) := hAs
            clear hAs
            generalize B s k = bk at *
            go_wp2_with fail
            go_roundw
            case rel => exact ⟨trivial, k + 1, by go_num, by omega, by omega, by rw [HS2.out], HN.out⟩
            case measure => simp [intOf]; omega
      · obtain rfl : k = 3 := by omega
        have HX : Hid (∀ x : Int, x = A 3 → ∀ j, 1 ≤ j → j < 3 → 128 ≤ B s j ∧ B s j < 192) := fun _ _ => hj
        have HO := HOut.out hj (A 3) rfl
        have HI := HIn.out hl2 hj (A 3) rfl
        have HO2 : Hid _ := HO
        have HI2 : Hid _ := HI
        clear HO HI hj
        generalize A 3 = x at *
        by_cases t1 : x < 2048
        · go_wp2_with fail
          go_ret3
          exact ⟨said_of (HO2.out (Or.inl t1)) rfl, rfl⟩
        · by_cases t2 : x > 1114111
          · go_wp2_with fail
            go_ret3
            exact ⟨said_of (HO2.out (Or.inr (Or.inl t2))) rfl, rfl⟩
          · by_cases t3 : x ≥ 55296
            · by_cases t4 : x < 57344
              · go_wp2_with fail
                go_ret3
                exact ⟨said_of (HO2.out (Or.inr (Or.inr ⟨t3, t4⟩))) rfl, rfl⟩
              · have hz : x = (x.toNat : Int) := by omega
                have HZ : Hid (x = (x.toNat : Int)) := hz
                clear hz
                go_wp2_with fail
                go_ret3
                exact ⟨said_int (wd := 3) (HI2.out t1 t2 (by omega)) HZ.out (ok_of_wide (by decide)), rfl⟩
            · have hz : x = (x.toNat : Int) := by omega
              have HZ : Hid (x = (x.toNat : Int)) := hz
              clear hz
              go_wp2_with fail
              go_ret3
              exact ⟨said_int (wd := 3) (HI2.out t1 t2 (by omega)) HZ.out (ok_of_wide (by decide)), rfl⟩

theorem unit_short4 (s : ByteArray) (hb : 240 ≤ B s 0) (hb2 : B s 0 < 245) (hs : s.size < 4) : unit (lb s) = (65533, 1) := by
  rw [unit_B]; simp only [Lib.decodeN]; rw [if_neg (by omega), if_neg (by omega), if_neg (by omega), if_neg (by omega)]

theorem unit_bad4 (s : ByteArray) (hb : 240 ≤ B s 0) (hb2 : B s 0 < 245) (j : Nat) (h1 : 1 ≤ j) (h2 : j < 4) (hj : B s j < 128 ∨ 192 ≤ B s j) : unit (lb s) = (65533, 1) := by
  have := B_lt s 1
  have := B_lt s 2
  have := B_lt s 3
  have hc : (B s 1 < 128 ∨ 192 ≤ B s 1) ∨ (B s 2 < 128 ∨ 192 ≤ B s 2) ∨ (B s 3 < 128 ∨ 192 ≤ B s 3) := by
    obtain rfl | rfl | rfl : j = 1 ∨ j = 2 ∨ j = 3 := by omega
    all_goals omega
  rw [unit_B]; simp only [Lib.decodeN]; rw [if_neg (by omega), if_neg (by omega), if_neg (by omega), if_neg (by omega)]

theorem unit_out4 (s : ByteArray) (hb : 240 ≤ B s 0) (hb2 : B s 0 < 245) (hj : ∀ j, 1 ≤ j → j < 4 → 128 ≤ B s j ∧ B s j < 192) (x : Int) (hx : x = acc s (B s 0 - 240) 4)
    (ho : x < 65536 ∨ x > 1114111 ∨ (x ≥ 55296 ∧ x < 57344)) : unit (lb s) = (65533, 1) := by
  have := hj 1 (by omega) (by omega)
  have := hj 2 (by omega) (by omega)
  have := hj 3 (by omega) (by omega)
  simp [acc] at hx
  rw [unit_B]; simp only [Lib.decodeN]; rw [if_neg (by omega)]
  split
  · rw [if_neg (by omega)]
  · split
    · rw [if_neg (by omega)]
    · split
      · rw [if_neg (by omega)]
      · rfl

theorem unit_in4 (s : ByteArray) (hb : 240 ≤ B s 0) (hb2 : B s 0 < 245) (hs : 4 ≤ s.size) (hj : ∀ j, 1 ≤ j → j < 4 → 128 ≤ B s j ∧ B s j < 192) (x : Int) (hx : x = acc s (B s 0 - 240) 4)
    (h1 : ¬ x < 65536) (h2 : ¬ x > 1114111) (h3 : ¬ (x ≥ 55296 ∧ x < 57344)) : unit (lb s) = (x.toNat, 4) := by
  have := hj 1 (by omega) (by omega)
  have := hj 2 (by omega) (by omega)
  have := hj 3 (by omega) (by omega)
  simp [acc] at hx
  rw [unit_B]; simp only [Lib.decodeN]; rw [if_neg (by omega)]
  split
  · first | (exfalso; omega) | (rw [if_pos (by omega)]; congr 1; omega)
  · split
    · first | (exfalso; omega) | (rw [if_pos (by omega)]; congr 1; omega)
    · first | (exfalso; omega) | (rw [if_pos (by omega), if_pos (by omega)]; congr 1; omega)

theorem acc_le4 (s : ByteArray) (hb : 240 ≤ B s 0) (hb2 : B s 0 < 245) (k : Nat) (h1 : 1 ≤ k) (h2 : k ≤ 4) (hj : ∀ j, 1 ≤ j → j < k → 128 ≤ B s j ∧ B s j < 192) : 0 ≤ acc s (B s 0 - 240) k ∧ acc s (B s 0 - 240) k ≤ 33554432 := by
  obtain rfl | rfl | rfl | rfl : k = 1 ∨ k = 2 ∨ k = 3 ∨ k = 4 := by omega
  · simp [acc]; omega
  · have := hj 1 (by omega) (by omega)
    simp [acc]; omega
  · have := hj 1 (by omega) (by omega)
    have := hj 2 (by omega) (by omega)
    simp [acc]; omega
  · have := hj 1 (by omega) (by omega)
    have := hj 2 (by omega) (by omega)
    have := hj 3 (by omega) (by omega)
    simp [acc]; omega

set_option maxRecDepth 100000 in
set_option maxHeartbeats 2000000 in
theorem sign_4 (s : ByteArray) (h0 : 0 < s.size) (hs : s.size ≤ 100000) (hb : 240 ≤ B s 0) (hb2 : B s 0 < 245) (w : World) :
    Calls Try.prog 21 #[.string s] w fun e w' => e = Ending.returned (.tuple #[.int .i64 ((unit (lb s)).1 : Int), .int .i64 ((unit (lb s)).2 : Int), .bool (ok (unit (lb s)))]) ∧ w' = w := by
  have HS : Hid (∀ h : s.size < 4, unit (lb s) = (65533, 1)) := fun h => unit_short4 s hb hb2 h
  have HBad : Hid (∀ (j : Nat) (h1 : 1 ≤ j) (h2 : j < 4) (hj : B s j < 128 ∨ 192 ≤ B s j), unit (lb s) = (65533, 1)) := unit_bad4 s hb hb2
  have HOut : Hid _ := unit_out4 s hb hb2
  have HIn : Hid _ := unit_in4 s hb hb2
  have HA : Hid _ := acc_le4 s hb hb2
  have hg := B_get s 0 h0
  have hw := w64_byte s 0
  have ha1 : ((B s 0 : Int) - 240) = acc s (B s 0 - 240) 1 := rfl
  generalize hA : acc s (B s 0 - 240) = A at *
  have HA2 : Hid (acc s (B s 0 - 240) = A) := hA
  clear hA
  generalize hbb : B s 0 = b at *
  clear hbb
  have h1 : ¬ (b : Int) < 128 := by omega
  have t0 : (b : Int) ≥ 194 := by omega
  have t1 : ¬ (b : Int) < 224 := by omega
  have t2 : (b : Int) ≥ 224 := by omega
  have t3 : ¬ (b : Int) < 240 := by omega
  have t4 : (b : Int) ≥ 240 := by omega
  have t5 : (b : Int) < 245 := by omega
  by_cases hl : (s.size : Int) < 4
  · go_enter Try.func21, Try.ntmps21
    go_wp2_with fail
    go_ret3
    exact ⟨said_of (HS.out (by omega)) rfl, rfl⟩
  · have hl2 : 4 ≤ s.size := by omega
    go_enter Try.func21, Try.ntmps21
    go_wp2_with fail
    go_loopw [8, 9] (fun n i w' => w' = w ∧ ∃ k : Nat, i = .int .i64 k ∧ 1 ≤ k ∧ k ≤ 4 ∧ n = .int .i64 (A k) ∧ ∀ j, 1 ≤ j → j < k → 128 ≤ B s j ∧ B s j < 192) (fun _ i _ => 4 - (intOf i).toNat)
    case atStart => exact ⟨rfl, 1, rfl, by omega, by omega, rfl, fun j h1 h2 => by omega⟩
    case round =>
      obtain ⟨rfl, k, rfl, hk1, hk2, rfl, hj⟩ := hrel
      have hAk := HA.out k hk1 hk2 hj
      clear ha1
      by_cases hlt : k < 4
      · have hgk := B_get s k (by omega)
        have hwk := w64_byte s k
        have hAs : A (k + 1) = A k * 64 + B s k - 128 := by
          rw [← HA2.out, acc, if_neg (by omega)]
        have hBk := B_lt s k
        have HJ : Hid (∀ j, 1 ≤ j → j < k → 128 ≤ B s j ∧ B s j < 192) := hj
        have HBk : Hid (B s k = B s k) := rfl
        clear hj
        by_cases hc1 : (B s k : Int) < 128
        · have hbd := HBad.out k hk1 hlt (by omega)
          have HU : Hid (unit (lb s) = (65533, 1)) := hbd
          clear hbd hAs
          generalize B s k = bk at *
          go_wp2_with fail
          go_ret3
          exact ⟨said_of HU.out rfl, rfl⟩
        · by_cases hc2 : (B s k : Int) ≥ 192
          · have hbd := HBad.out k hk1 hlt (by omega)
            have HU : Hid (unit (lb s) = (65533, 1)) := hbd
            clear hbd hAs
            generalize B s k = bk at *
            go_wp2_with fail
            go_ret3
            exact ⟨said_of HU.out rfl, rfl⟩
          · have HN : Hid (∀ j, 1 ≤ j → j < k + 1 → 128 ≤ B s j ∧ B s j < 192) := by
              intro j h1 h2
              by_cases h3 : j < k
              · exact HJ.out j h1 h3
              · obtain rfl : j = k := by omega
                omega
            have HS2 : Hid (A (k + 1) = A k * 64 + B s k - 128) := hAs
            clear hAs
            generalize B s k = bk at *
            go_wp2_with fail
            go_roundw
            case rel => exact ⟨trivial, k + 1, by go_num, by omega, by omega, by rw [HS2.out], HN.out⟩
            case measure => simp [intOf]; omega
      · obtain rfl : k = 4 := by omega
        have HX : Hid (∀ x : Int, x = A 4 → ∀ j, 1 ≤ j → j < 4 → 128 ≤ B s j ∧ B s j < 192) := fun _ _ => hj
        have HO := HOut.out hj (A 4) rfl
        have HI := HIn.out hl2 hj (A 4) rfl
        have HO2 : Hid _ := HO
        have HI2 : Hid _ := HI
        clear HO HI hj
        generalize A 4 = x at *
        by_cases t1 : x < 65536
        · go_wp2_with fail
          go_ret3
          exact ⟨said_of (HO2.out (Or.inl t1)) rfl, rfl⟩
        · by_cases t2 : x > 1114111
          · go_wp2_with fail
            go_ret3
            exact ⟨said_of (HO2.out (Or.inr (Or.inl t2))) rfl, rfl⟩
          · by_cases t3 : x ≥ 55296
            · by_cases t4 : x < 57344
              · go_wp2_with fail
                go_ret3
                exact ⟨said_of (HO2.out (Or.inr (Or.inr ⟨t3, t4⟩))) rfl, rfl⟩
              · have hz : x = (x.toNat : Int) := by omega
                have HZ : Hid (x = (x.toNat : Int)) := hz
                clear hz
                go_wp2_with fail
                go_ret3
                exact ⟨said_int (wd := 4) (HI2.out t1 t2 (by omega)) HZ.out (ok_of_wide (by decide)), rfl⟩
            · have hz : x = (x.toNat : Int) := by omega
              have HZ : Hid (x = (x.toNat : Int)) := hz
              clear hz
              go_wp2_with fail
              go_ret3
              exact ⟨said_int (wd := 4) (HI2.out t1 t2 (by omega)) HZ.out (ok_of_wide (by decide)), rfl⟩

theorem sign_any (s : ByteArray) (hs : s.size ≤ 100000) (h0 : 0 < s.size) (w : World) :
    Calls Try.prog 21 #[.string s] w fun e w' => e = .returned (.tuple #[.int .i64 (unit (lb s)).1, .int .i64 (unit (lb s)).2, .bool (ok (unit (lb s)))]) ∧ w' = w := by
  by_cases h1 : B s 0 < 128
  · exact sign_one s h0 h1 w
  · by_cases h2 : B s 0 < 194
    · exact sign_none s h0 (by omega) (Or.inl h2) w
    · by_cases h3 : B s 0 < 224
      · exact sign_2 s h0 hs (by omega) h3 w
      · by_cases h4 : B s 0 < 240
        · exact sign_3 s h0 hs (by omega) h4 w
        · by_cases h5 : B s 0 < 245
          · exact sign_4 s h0 hs (by omega) h5 w
          · exact sign_none s h0 (by omega) (Or.inr (by omega)) w
end Go.Proofs.Ytgcdnigfojihiaa
