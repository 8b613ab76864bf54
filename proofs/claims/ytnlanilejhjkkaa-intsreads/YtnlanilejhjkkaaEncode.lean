/- Contracts: encoders, Encode. -/
import Derived.Laws.EntriesVeiled
import Derived.Test.YtnlanilejhjkkaaPutPacked
set_option linter.unusedVariables false
set_option linter.unusedSimpArgs false
namespace Go.Proofs.Ytnlanilejhjkkaa
open Go.RowKit Go.Lib

/-- The array of the encoders. -/
def encArr : Array Value := #[.func (.func 29) #[] #[], .func (.func 30) #[] #[], .func (.func 31) #[] #[], .func (.func 32) #[] #[], .func (.func 33) #[] #[]]

set_option maxRecDepth 100000 in
theorem encoders_any (w : World) : Calls Try.prog 17 #[] w fun e w' => e = .returned (.agg #[.func (.func 29) #[] #[], .func (.func 30) #[] #[], .func (.func 31) #[] #[], .func (.func 32) #[] #[], .func (.func 33) #[] #[]]) ∧ Below w.heap.size w w' := by
  go_enter Try.func17, Try.ntmps17
  go_wp2_with fail
  exact bodyPost_ret (v := .agg #[.func (.func 29) #[] #[], .func (.func 30) #[] #[], .func (.func 31) #[] #[], .func (.func 32) #[] #[], .func (.func 33) #[] #[]]) (by simp [results, Try.results17, go_sem]) rfl ⟨rfl, (Below.refl _ _).alloc (Nat.le_refl _) _⟩

/-- The bytes that Encode tells. -/
def encM (c : Nat) (l : List Int) : List Nat := if c ≤ 4 ∧ l.length ≤ 256 then encC c l else []

set_option maxRecDepth 100000 in
set_option maxHeartbeats 2000000 in
theorem encode_0 {w : World} {v : Value} {l : List Int} (hs : Sv w v (ivals l)) (hl : l.length ≤ 256) (hi : Is l) :
    Calls Try.prog 10 #[.int .u8 0, v] w fun e w' => (∃ v', e = .returned (.tuple #[v', .bool true]) ∧ OwnB w' w.heap.size v' (enc0 l)) ∧ Below w.heap.size w w' := by
  have HS := hidden hs
  have HI := hidden hi
  obtain ⟨a, cap, rfl, hcap, hcm⟩ := hs.form
  have hgt : ¬ (l.length : Int) > 256 := by omega
  clear hs hcap hcm hi
  go_enter Try.func10, Try.ntmps10
  go_wp2_with fail
  refine (encoders_any _).mono ?_
  rintro e w1 ⟨rfl, hb1⟩
  have HB1 := hidden hb1
  have hz1 := hb1.size
  clear hb1
  go_wp2_with fail
  have HB2 := hidden (HB1.out.alloc hz1 (.cells #[.func (.func 29) #[] #[], .func (.func 30) #[] #[], .func (.func 31) #[] #[], .func (.func 32) #[] #[], .func (.func 33) #[] #[]] 41))
  have hz2 := HB2.out.size
  refine (putEach_any (HS.out.kept HB2.out) hl HI.out).mono ?_
  rintro e w3 ⟨⟨v3, rfl, ho3⟩, hb3⟩
  have HO3 := hidden (ho3.low hz2)
  have HB3 := hidden (HB2.out.trans (hb3.mono hz2))
  clear ho3 hb3
  go_wp2_with fail
  go_ret2
  exact ⟨⟨_, rfl, HO3.out⟩, HB3.out⟩

set_option maxRecDepth 100000 in
set_option maxHeartbeats 2000000 in
theorem encode_1 {w : World} {v : Value} {l : List Int} (hs : Sv w v (ivals l)) (hl : l.length ≤ 256) (hi : Is l) :
    Calls Try.prog 10 #[.int .u8 1, v] w fun e w' => (∃ v', e = .returned (.tuple #[v', .bool true]) ∧ OwnB w' w.heap.size v' (enc1 0 l)) ∧ Below w.heap.size w w' := by
  have HS := hidden hs
  have HI := hidden hi
  obtain ⟨a, cap, rfl, hcap, hcm⟩ := hs.form
  have hgt : ¬ (l.length : Int) > 256 := by omega
  clear hs hcap hcm hi
  go_enter Try.func10, Try.ntmps10
  go_wp2_with fail
  refine (encoders_any _).mono ?_
  rintro e w1 ⟨rfl, hb1⟩
  have HB1 := hidden hb1
  have hz1 := hb1.size
  clear hb1
  go_wp2_with fail
  have HB2 := hidden (HB1.out.alloc hz1 (.cells #[.func (.func 29) #[] #[], .func (.func 30) #[] #[], .func (.func 31) #[] #[], .func (.func 32) #[] #[], .func (.func 33) #[] #[]] 41))
  have hz2 := HB2.out.size
  refine (putSteps_any (HS.out.kept HB2.out) hl HI.out).mono ?_
  rintro e w3 ⟨⟨v3, rfl, ho3⟩, hb3⟩
  have HO3 := hidden (ho3.low hz2)
  have HB3 := hidden (HB2.out.trans (hb3.mono hz2))
  clear ho3 hb3
  go_wp2_with fail
  go_ret2
  exact ⟨⟨_, rfl, HO3.out⟩, HB3.out⟩

set_option maxRecDepth 100000 in
set_option maxHeartbeats 2000000 in
theorem encode_2 {w : World} {v : Value} {l : List Int} (hs : Sv w v (ivals l)) (hl : l.length ≤ 256) (hi : Is l) :
    Calls Try.prog 10 #[.int .u8 2, v] w fun e w' => (∃ v', e = .returned (.tuple #[v', .bool true]) ∧ OwnB w' w.heap.size v' (enc2 l)) ∧ Below w.heap.size w w' := by
  have HS := hidden hs
  have HI := hidden hi
  obtain ⟨a, cap, rfl, hcap, hcm⟩ := hs.form
  have hgt : ¬ (l.length : Int) > 256 := by omega
  clear hs hcap hcm hi
  go_enter Try.func10, Try.ntmps10
  go_wp2_with fail
  refine (encoders_any _).mono ?_
  rintro e w1 ⟨rfl, hb1⟩
  have HB1 := hidden hb1
  have hz1 := hb1.size
  clear hb1
  go_wp2_with fail
  have HB2 := hidden (HB1.out.alloc hz1 (.cells #[.func (.func 29) #[] #[], .func (.func 30) #[] #[], .func (.func 31) #[] #[], .func (.func 32) #[] #[], .func (.func 33) #[] #[]] 41))
  have hz2 := HB2.out.size
  refine (putRuns_any (HS.out.kept HB2.out) hl HI.out).mono ?_
  rintro e w3 ⟨⟨v3, rfl, ho3⟩, hb3⟩
  have HO3 := hidden (ho3.low hz2)
  have HB3 := hidden (HB2.out.trans (hb3.mono hz2))
  clear ho3 hb3
  go_wp2_with fail
  go_ret2
  exact ⟨⟨_, rfl, HO3.out⟩, HB3.out⟩

set_option maxRecDepth 100000 in
set_option maxHeartbeats 2000000 in
theorem encode_3 {w : World} {v : Value} {l : List Int} (hs : Sv w v (ivals l)) (hl : l.length ≤ 256) (hi : Is l) :
    Calls Try.prog 10 #[.int .u8 3, v] w fun e w' => (∃ v', e = .returned (.tuple #[v', .bool true]) ∧ OwnB w' w.heap.size v' (enc3 l)) ∧ Below w.heap.size w w' := by
  have HS := hidden hs
  have HI := hidden hi
  obtain ⟨a, cap, rfl, hcap, hcm⟩ := hs.form
  have hgt : ¬ (l.length : Int) > 256 := by omega
  clear hs hcap hcm hi
  go_enter Try.func10, Try.ntmps10
  go_wp2_with fail
  refine (encoders_any _).mono ?_
  rintro e w1 ⟨rfl, hb1⟩
  have HB1 := hidden hb1
  have hz1 := hb1.size
  clear hb1
  go_wp2_with fail
  have HB2 := hidden (HB1.out.alloc hz1 (.cells #[.func (.func 29) #[] #[], .func (.func 30) #[] #[], .func (.func 31) #[] #[], .func (.func 32) #[] #[], .func (.func 33) #[] #[]] 41))
  have hz2 := HB2.out.size
  refine (putPlaces_any (HS.out.kept HB2.out) hl HI.out).mono ?_
  rintro e w3 ⟨⟨v3, rfl, ho3⟩, hb3⟩
  have HO3 := hidden (ho3.low hz2)
  have HB3 := hidden (HB2.out.trans (hb3.mono hz2))
  clear ho3 hb3
  go_wp2_with fail
  go_ret2
  exact ⟨⟨_, rfl, HO3.out⟩, HB3.out⟩

set_option maxRecDepth 100000 in
set_option maxHeartbeats 2000000 in
theorem encode_4 {w : World} {v : Value} {l : List Int} (hs : Sv w v (ivals l)) (hl : l.length ≤ 256) (hi : Is l) :
    Calls Try.prog 10 #[.int .u8 4, v] w fun e w' => (∃ v', e = .returned (.tuple #[v', .bool true]) ∧ OwnB w' w.heap.size v' (enc4 l)) ∧ Below w.heap.size w w' := by
  have HS := hidden hs
  have HI := hidden hi
  obtain ⟨a, cap, rfl, hcap, hcm⟩ := hs.form
  have hgt : ¬ (l.length : Int) > 256 := by omega
  clear hs hcap hcm hi
  go_enter Try.func10, Try.ntmps10
  go_wp2_with fail
  refine (encoders_any _).mono ?_
  rintro e w1 ⟨rfl, hb1⟩
  have HB1 := hidden hb1
  have hz1 := hb1.size
  clear hb1
  go_wp2_with fail
  have HB2 := hidden (HB1.out.alloc hz1 (.cells #[.func (.func 29) #[] #[], .func (.func 30) #[] #[], .func (.func 31) #[] #[], .func (.func 32) #[] #[], .func (.func 33) #[] #[]] 41))
  have hz2 := HB2.out.size
  refine (putHeights_any (HS.out.kept HB2.out) hl HI.out).mono ?_
  rintro e w3 ⟨⟨v3, rfl, ho3⟩, hb3⟩
  have HO3 := hidden (ho3.low hz2)
  have HB3 := hidden (HB2.out.trans (hb3.mono hz2))
  clear ho3 hb3
  go_wp2_with fail
  go_ret2
  exact ⟨⟨_, rfl, HO3.out⟩, HB3.out⟩

set_option maxRecDepth 100000 in
set_option maxHeartbeats 2000000 in
theorem encode_no {w : World} {v : Value} {l : List Int} (hs : Sv w v (ivals l)) (c : Nat) (hc : c < 256) (hno : ¬ (c ≤ 4 ∧ l.length ≤ 256)) :
    Calls Try.prog 10 #[.int .u8 (c : Int), v] w fun e w' => (∃ v', e = .returned (.tuple #[v', .bool false]) ∧ OwnB w' w.heap.size v' []) ∧ Below w.heap.size w w' := by
  obtain ⟨a, cap, rfl, hcap, hcm⟩ := hs.form
  have hm : l.length ≤ 9223372036854775807 := by unfold maxLen at hcm; omega
  clear hs hcap hcm
  by_cases h5 : (c : Int) ≥ 5
  · go_enter Try.func10, Try.ntmps10
    go_wp2_with fail
    go_ret2
    exact ⟨⟨_, rfl, OwnB.nil _ _⟩, Below.refl _ _⟩
  · have hgt : (l.length : Int) > 256 := by omega
    go_enter Try.func10, Try.ntmps10
    go_wp2_with fail
    go_ret2
    exact ⟨⟨_, rfl, OwnB.nil _ _⟩, Below.refl _ _⟩

theorem encode_any {w : World} {v : Value} {l : List Int} (hs : Sv w v (ivals l)) (hi : Is l) (c : Nat) (hc : c < 256) :
    Calls Try.prog 10 #[.int .u8 (c : Int), v] w fun e w' => (∃ v', e = .returned (.tuple #[v', .bool (decide (c ≤ 4 ∧ l.length ≤ 256))]) ∧ OwnB w' w.heap.size v' (encM c l)) ∧ Below w.heap.size w w' := by
  by_cases h : c ≤ 4 ∧ l.length ≤ 256
  · rw [decide_eq_true h]
    unfold encM
    rw [if_pos h]
    obtain ⟨h4, hl⟩ := h
    match c, h4 with
    | 0, _ => exact encode_0 hs hl hi
    | 1, _ => exact encode_1 hs hl hi
    | 2, _ => exact encode_2 hs hl hi
    | 3, _ => exact encode_3 hs hl hi
    | 4, _ => exact encode_4 hs hl hi
  · rw [decide_eq_false h]
    unfold encM
    rw [if_neg h]
    exact encode_no hs c hc h
end Go.Proofs.Ytnlanilejhjkkaa
