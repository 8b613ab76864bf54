/- Contracts: Best. -/
import Derived.Test.YtcmmednihoaekaaGreatWrites
set_option linter.unusedVariables false
set_option linter.unusedSimpArgs false
namespace Go.Proofs.YtcmmednihoaekaaGreat
open Go.RowKit Go.Lib

/-- The best one ahead of a codec. -/
def bst (l : List Int) : Nat → List Nat
  | 0 => []
  | k + 1 => bestUp l k

/-- The bytes that Best tells. -/
def bestM (l : List Int) : List Nat := if l.length ≤ 256 then bestUp l 4 else []

theorem lit_own (w : World) (x : Nat) : OwnB (w.alloc (.cells #[.int .u8 (x : Int)] 5)) w.heap.size (.slice (some ⟨w.heap.size, 0, none⟩) 1 1) [x] :=
  World.ownsRow_lit w #[.int .u8 (x : Int)] 1 (Nat.le_refl _) (by unfold maxLen; omega) rfl

theorem bst_step0 (l : List Int) : bst l 1 = [0] ++ enc0 l := rfl
theorem bst_step1 (l : List Int) : bst l 2 = if (enc1 0 l).length + 1 < (bst l 1).length then [1] ++ enc1 0 l else bst l 1 := rfl
theorem bst_step2 (l : List Int) : bst l 3 = if (enc2 l).length + 1 < (bst l 2).length then [2] ++ enc2 l else bst l 2 := rfl
theorem bst_step3 (l : List Int) : bst l 4 = if (enc3 l).length + 1 < (bst l 3).length then [3] ++ enc3 l else bst l 3 := rfl
theorem bst_step4 (l : List Int) : bst l 5 = if (enc4 l).length + 1 < (bst l 4).length then [4] ++ enc4 l else bst l 4 := rfl

set_option maxRecDepth 100000 in
set_option maxHeartbeats 4000000 in
theorem best_yes {w : World} {v : Value} {l : List Int} (hs : Sv w v (ivals l)) (hl : l.length ≤ 256) (hi : Is l) :
    Calls Tryz.prog 47 #[v] w fun e w' => (∃ v', e = .returned (.tuple #[v', .bool true]) ∧ OwnB w' w.heap.size v' (bestUp l 4)) ∧ Below w.heap.size w w' := by
  have HS := hidden hs
  have HI := hidden hi
  obtain ⟨a, cap, rfl, hcap, hcm⟩ := hs.form
  have hgt : ¬ (l.length : Int) > 256 := by omega
  have HSZ : Hid (∀ k, (bst l k).length ≤ 5131) := by
    intro k
    cases k with
    | zero => simp [bst]
    | succ k =>
      obtain ⟨c, _, e⟩ := bestUp_form l k
      rw [bst, e]
      have := (encC_size c hi hl).1
      simp
      omega
  have i0 : ∀ w, (Instr.index 106 (.agg #[.func (.func 92) #[] #[], .func (.func 93) #[] #[], .func (.func 94) #[] #[], .func (.func 95) #[] #[], .func (.func 96) #[] #[]]) (.int .i64 0)).run Tryz.prog w = .ok (.func (.func 92) #[] #[]) w := fun _ => by kernel_rfl
  have hz_0 := (encC_size 0 hi hl).1
  have HP0 : Hid (∀ W, Sv W (.slice a l.length cap) (ivals l) → Calls Tryz.prog 92 #[.slice a l.length cap] W (Told W (enc0 l))) := fun W h => putEach_any h hl HI.out
  have i1 : ∀ w, (Instr.index 106 (.agg #[.func (.func 92) #[] #[], .func (.func 93) #[] #[], .func (.func 94) #[] #[], .func (.func 95) #[] #[], .func (.func 96) #[] #[]]) (.int .i64 1)).run Tryz.prog w = .ok (.func (.func 93) #[] #[]) w := fun _ => by kernel_rfl
  have hz_1 := (encC_size 1 hi hl).1
  have HP1 : Hid (∀ W, Sv W (.slice a l.length cap) (ivals l) → Calls Tryz.prog 93 #[.slice a l.length cap] W (Told W (enc1 0 l))) := fun W h => putSteps_any h hl HI.out
  have i2 : ∀ w, (Instr.index 106 (.agg #[.func (.func 92) #[] #[], .func (.func 93) #[] #[], .func (.func 94) #[] #[], .func (.func 95) #[] #[], .func (.func 96) #[] #[]]) (.int .i64 2)).run Tryz.prog w = .ok (.func (.func 94) #[] #[]) w := fun _ => by kernel_rfl
  have hz_2 := (encC_size 2 hi hl).1
  have HP2 : Hid (∀ W, Sv W (.slice a l.length cap) (ivals l) → Calls Tryz.prog 94 #[.slice a l.length cap] W (Told W (enc2 l))) := fun W h => putRuns_any h hl HI.out
  have i3 : ∀ w, (Instr.index 106 (.agg #[.func (.func 92) #[] #[], .func (.func 93) #[] #[], .func (.func 94) #[] #[], .func (.func 95) #[] #[], .func (.func 96) #[] #[]]) (.int .i64 3)).run Tryz.prog w = .ok (.func (.func 95) #[] #[]) w := fun _ => by kernel_rfl
  have hz_3 := (encC_size 3 hi hl).1
  have HP3 : Hid (∀ W, Sv W (.slice a l.length cap) (ivals l) → Calls Tryz.prog 95 #[.slice a l.length cap] W (Told W (enc3 l))) := fun W h => putPlaces_any h hl HI.out
  have i4 : ∀ w, (Instr.index 106 (.agg #[.func (.func 92) #[] #[], .func (.func 93) #[] #[], .func (.func 94) #[] #[], .func (.func 95) #[] #[], .func (.func 96) #[] #[]]) (.int .i64 4)).run Tryz.prog w = .ok (.func (.func 96) #[] #[]) w := fun _ => by kernel_rfl
  have hz_4 := (encC_size 4 hi hl).1
  have HP4 : Hid (∀ W, Sv W (.slice a l.length cap) (ivals l) → Calls Tryz.prog 96 #[.slice a l.length cap] W (Told W (enc4 l))) := fun W h => putHeights_any h hl HI.out
  clear hs hcap hcm hi
  go_enter Tryz.func47, Tryz.ntmps47
  go_wp2_with fail
  refine (encoders_any _).mono ?_
  rintro e w1 ⟨rfl, hb1⟩
  have HB1 := hidden hb1
  have hz1 := hb1.size
  clear hb1
  go_wp2_with fail
  go_loopw [4, 12] (fun b i wr => ∃ k : Nat, k ≤ 5 ∧ i = .int .i64 (k : Int) ∧ OwnB wr w.heap.size b (bst l k) ∧ Below w.heap.size w wr) (fun _ i _ => 5 - (intOf i).toNat)
  case atStart => exact ⟨0, by omega, rfl, OwnB.nil _ _, HB1.out⟩
  case round =>
    obtain ⟨k, hk, rfl, hown, hbel⟩ := hrel
    have HO := hidden hown
    have HB := hidden hbel
    have hzr := hbel.size
    obtain ⟨ab, cb, rfl⟩ := hown.len
    have hbl := HSZ.out k
    clear hown hbel
    obtain rfl | rfl | rfl | rfl | rfl | rfl : k = 0 ∨ k = 1 ∨ k = 2 ∨ k = 3 ∨ k = 4 ∨ k = 5 := by omega
    · have HT := hidden (bst_step0 l)
      have HSW := hidden (HS.out.kept (HB.out.alloc hzr (.cells #[.int .u8 0] 5)))
      have HLIT := hidden (lit_own wr 0)
      have HBA := hidden ((Below.refl wr.heap.size wr).alloc (Nat.le_refl _) (.cells #[.int .u8 0] 5))
      have hsize : (enc0 l).length ≤ 5130 := hz_0
      clear hz_0 hz_1 hz_2 hz_3 hz_4
      generalize bst l 0 = B0 at *
      generalize enc0 l = EC at *
      go_wp2_with fail
      refine (HP0.out _ HSW.out).mono ?_
      rintro e w3 ⟨⟨v3, rfl, ho3⟩, hb3⟩
      have HO3 := hidden ho3
      have HL3 := hidden (HLIT.out.kept hb3)
      have HB3 := hidden (HBA.out.trans (hb3.mono (by simp)))
      have hz3 := hb3.size
      rw [World.size_alloc] at hz3
      clear ho3 hb3
      go_wp2_with (first | (at_builtin; refine wpList_append_sv rfl _ _ rfl wr.heap.size _ _ [0] EC rfl HL3.out rfl HO3.out.sv ?c1 ?c2 ?_))
      case c1 => simp; omega
      case c2 => omega
      intro v4 w4 o4 b4
      have HO4 := hidden (o4.low hzr)
      have HB4 := hidden (HB3.out.trans b4)
      have HBB := hidden (HB.out.trans (HB4.out.mono hzr))
      have HOB := hidden (HO.out.kept HB4.out)
      obtain ⟨a4, c4, rfl⟩ := o4.len
      clear o4 b4
      go_wp2_with fail
      go_roundw
      case rel => exact ⟨1, by omega, by go_num, by rw [HT.out]; exact HO4.out, HBB.out⟩
      case measure => simp [intOf]
    · have HT := hidden (bst_step1 l)
      have HSW := hidden (HS.out.kept (HB.out.alloc hzr (.cells #[.int .u8 1] 5)))
      have HLIT := hidden (lit_own wr 1)
      have HBA := hidden ((Below.refl wr.heap.size wr).alloc (Nat.le_refl _) (.cells #[.int .u8 1] 5))
      have hsize : (enc1 0 l).length ≤ 5130 := hz_1
      clear hz_0 hz_1 hz_2 hz_3 hz_4
      generalize bst l 1 = B0 at *
      generalize enc1 0 l = EC at *
      go_wp2_with fail
      refine (HP1.out _ HSW.out).mono ?_
      rintro e w3 ⟨⟨v3, rfl, ho3⟩, hb3⟩
      have HO3 := hidden ho3
      have HL3 := hidden (HLIT.out.kept hb3)
      have HB3 := hidden (HBA.out.trans (hb3.mono (by simp)))
      have hz3 := hb3.size
      rw [World.size_alloc] at hz3
      clear ho3 hb3
      go_wp2_with (first | (at_builtin; refine wpList_append_sv rfl _ _ rfl wr.heap.size _ _ [1] EC rfl HL3.out rfl HO3.out.sv ?c1 ?c2 ?_))
      case c1 => simp; omega
      case c2 => omega
      intro v4 w4 o4 b4
      have HO4 := hidden (o4.low hzr)
      have HB4 := hidden (HB3.out.trans b4)
      have HBB := hidden (HB.out.trans (HB4.out.mono hzr))
      have HOB := hidden (HO.out.kept HB4.out)
      obtain ⟨a4, c4, rfl⟩ := o4.len
      clear o4 b4
      by_cases hlt : EC.length + 1 < B0.length
      · rw [if_pos hlt] at HT
        have hcmp : (EC.length : Int) + 1 < (B0.length : Int) := by omega
        clear hlt
        go_wp2_with fail
        go_roundw
        case rel => exact ⟨2, by omega, by go_num, by rw [HT.out]; exact HO4.out, HBB.out⟩
        case measure => simp [intOf]
      · rw [if_neg hlt] at HT
        have hcmp : ¬ (EC.length : Int) + 1 < (B0.length : Int) := by omega
        clear hlt
        go_wp2_with fail
        go_roundw
        case rel => exact ⟨2, by omega, by go_num, by rw [HT.out]; exact HOB.out, HBB.out⟩
        case measure => simp [intOf]
    · have HT := hidden (bst_step2 l)
      have HSW := hidden (HS.out.kept (HB.out.alloc hzr (.cells #[.int .u8 2] 5)))
      have HLIT := hidden (lit_own wr 2)
      have HBA := hidden ((Below.refl wr.heap.size wr).alloc (Nat.le_refl _) (.cells #[.int .u8 2] 5))
      have hsize : (enc2 l).length ≤ 5130 := hz_2
      clear hz_0 hz_1 hz_2 hz_3 hz_4
      generalize bst l 2 = B0 at *
      generalize enc2 l = EC at *
      go_wp2_with fail
      refine (HP2.out _ HSW.out).mono ?_
      rintro e w3 ⟨⟨v3, rfl, ho3⟩, hb3⟩
      have HO3 := hidden ho3
      have HL3 := hidden (HLIT.out.kept hb3)
      have HB3 := hidden (HBA.out.trans (hb3.mono (by simp)))
      have hz3 := hb3.size
      rw [World.size_alloc] at hz3
      clear ho3 hb3
      go_wp2_with (first | (at_builtin; refine wpList_append_sv rfl _ _ rfl wr.heap.size _ _ [2] EC rfl HL3.out rfl HO3.out.sv ?c1 ?c2 ?_))
      case c1 => simp; omega
      case c2 => omega
      intro v4 w4 o4 b4
      have HO4 := hidden (o4.low hzr)
      have HB4 := hidden (HB3.out.trans b4)
      have HBB := hidden (HB.out.trans (HB4.out.mono hzr))
      have HOB := hidden (HO.out.kept HB4.out)
      obtain ⟨a4, c4, rfl⟩ := o4.len
      clear o4 b4
      by_cases hlt : EC.length + 1 < B0.length
      · rw [if_pos hlt] at HT
        have hcmp : (EC.length : Int) + 1 < (B0.length : Int) := by omega
        clear hlt
        go_wp2_with fail
        go_roundw
        case rel => exact ⟨3, by omega, by go_num, by rw [HT.out]; exact HO4.out, HBB.out⟩
        case measure => simp [intOf]
      · rw [if_neg hlt] at HT
        have hcmp : ¬ (EC.length : Int) + 1 < (B0.length : Int) := by omega
        clear hlt
        go_wp2_with fail
        go_roundw
        case rel => exact ⟨3, by omega, by go_num, by rw [HT.out]; exact HOB.out, HBB.out⟩
        case measure => simp [intOf]
    · have HT := hidden (bst_step3 l)
      have HSW := hidden (HS.out.kept (HB.out.alloc hzr (.cells #[.int .u8 3] 5)))
      have HLIT := hidden (lit_own wr 3)
      have HBA := hidden ((Below.refl wr.heap.size wr).alloc (Nat.le_refl _) (.cells #[.int .u8 3] 5))
      have hsize : (enc3 l).length ≤ 5130 := hz_3
      clear hz_0 hz_1 hz_2 hz_3 hz_4
      generalize bst l 3 = B0 at *
      generalize enc3 l = EC at *
      go_wp2_with fail
      refine (HP3.out _ HSW.out).mono ?_
      rintro e w3 ⟨⟨v3, rfl, ho3⟩, hb3⟩
      have HO3 := hidden ho3
      have HL3 := hidden (HLIT.out.kept hb3)
      have HB3 := hidden (HBA.out.trans (hb3.mono (by simp)))
      have hz3 := hb3.size
      rw [World.size_alloc] at hz3
      clear ho3 hb3
      go_wp2_with (first | (at_builtin; refine wpList_append_sv rfl _ _ rfl wr.heap.size _ _ [3] EC rfl HL3.out rfl HO3.out.sv ?c1 ?c2 ?_))
      case c1 => simp; omega
      case c2 => omega
      intro v4 w4 o4 b4
      have HO4 := hidden (o4.low hzr)
      have HB4 := hidden (HB3.out.trans b4)
      have HBB := hidden (HB.out.trans (HB4.out.mono hzr))
      have HOB := hidden (HO.out.kept HB4.out)
      obtain ⟨a4, c4, rfl⟩ := o4.len
      clear o4 b4
      by_cases hlt : EC.length + 1 < B0.length
      · rw [if_pos hlt] at HT
        have hcmp : (EC.length : Int) + 1 < (B0.length : Int) := by omega
        clear hlt
        go_wp2_with fail
        go_roundw
        case rel => exact ⟨4, by omega, by go_num, by rw [HT.out]; exact HO4.out, HBB.out⟩
        case measure => simp [intOf]
      · rw [if_neg hlt] at HT
        have hcmp : ¬ (EC.length : Int) + 1 < (B0.length : Int) := by omega
        clear hlt
        go_wp2_with fail
        go_roundw
        case rel => exact ⟨4, by omega, by go_num, by rw [HT.out]; exact HOB.out, HBB.out⟩
        case measure => simp [intOf]
    · have HT := hidden (bst_step4 l)
      have HSW := hidden (HS.out.kept (HB.out.alloc hzr (.cells #[.int .u8 4] 5)))
      have HLIT := hidden (lit_own wr 4)
      have HBA := hidden ((Below.refl wr.heap.size wr).alloc (Nat.le_refl _) (.cells #[.int .u8 4] 5))
      have hsize : (enc4 l).length ≤ 5130 := hz_4
      clear hz_0 hz_1 hz_2 hz_3 hz_4
      generalize bst l 4 = B0 at *
      generalize enc4 l = EC at *
      go_wp2_with fail
      refine (HP4.out _ HSW.out).mono ?_
      rintro e w3 ⟨⟨v3, rfl, ho3⟩, hb3⟩
      have HO3 := hidden ho3
      have HL3 := hidden (HLIT.out.kept hb3)
      have HB3 := hidden (HBA.out.trans (hb3.mono (by simp)))
      have hz3 := hb3.size
      rw [World.size_alloc] at hz3
      clear ho3 hb3
      go_wp2_with (first | (at_builtin; refine wpList_append_sv rfl _ _ rfl wr.heap.size _ _ [4] EC rfl HL3.out rfl HO3.out.sv ?c1 ?c2 ?_))
      case c1 => simp; omega
      case c2 => omega
      intro v4 w4 o4 b4
      have HO4 := hidden (o4.low hzr)
      have HB4 := hidden (HB3.out.trans b4)
      have HBB := hidden (HB.out.trans (HB4.out.mono hzr))
      have HOB := hidden (HO.out.kept HB4.out)
      obtain ⟨a4, c4, rfl⟩ := o4.len
      clear o4 b4
      by_cases hlt : EC.length + 1 < B0.length
      · rw [if_pos hlt] at HT
        have hcmp : (EC.length : Int) + 1 < (B0.length : Int) := by omega
        clear hlt
        go_wp2_with fail
        go_roundw
        case rel => exact ⟨5, by omega, by go_num, by rw [HT.out]; exact HO4.out, HBB.out⟩
        case measure => simp [intOf]
      · rw [if_neg hlt] at HT
        have hcmp : ¬ (EC.length : Int) + 1 < (B0.length : Int) := by omega
        clear hlt
        go_wp2_with fail
        go_roundw
        case rel => exact ⟨5, by omega, by go_num, by rw [HT.out]; exact HOB.out, HBB.out⟩
        case measure => simp [intOf]
    · go_wp2_with fail
      go_ret2
      exact ⟨⟨_, rfl, HO.out⟩, HB.out⟩

set_option maxRecDepth 100000 in
set_option maxHeartbeats 2000000 in
theorem best_no {w : World} {v : Value} {l : List Int} (hs : Sv w v (ivals l)) (hl : ¬ l.length ≤ 256) :
    Calls Tryz.prog 47 #[v] w fun e w' => (∃ v', e = .returned (.tuple #[v', .bool false]) ∧ OwnB w' w.heap.size v' []) ∧ Below w.heap.size w w' := by
  obtain ⟨a, cap, rfl, hcap, hcm⟩ := hs.form
  have hm : l.length ≤ 9223372036854775807 := by unfold maxLen at hcm; omega
  have hgt : (l.length : Int) > 256 := by omega
  clear hs hcap hcm hl
  go_enter Tryz.func47, Tryz.ntmps47
  go_wp2_with fail
  go_ret2
  exact ⟨⟨_, rfl, OwnB.nil _ _⟩, Below.refl _ _⟩

theorem best_any {w : World} {v : Value} {l : List Int} (hs : Sv w v (ivals l)) (hi : Is l) :
    Calls Tryz.prog 47 #[v] w fun e w' => (∃ v', e = .returned (.tuple #[v', .bool (decide (l.length ≤ 256))]) ∧ OwnB w' w.heap.size v' (bestM l)) ∧ Below w.heap.size w w' := by
  unfold bestM
  by_cases h : l.length ≤ 256
  · rw [decide_eq_true h, if_pos h]
    exact best_yes hs h hi
  · rw [decide_eq_false h, if_neg h]
    exact best_no hs h
end Go.Proofs.YtcmmednihoaekaaGreat
