/- Contracts: the document's Best. -/
import Derived.Test.YtnlanilejhjkkaaRefEnc4
set_option linter.unusedVariables false
set_option linter.unusedSimpArgs false
namespace Go.Proofs.Ytnlanilejhjkkaa
open Go.RowKit Go.Lib

theorem bst_next (l : List Int) (k : Nat) : bst l (k + 1) = if k = 0 then [k] ++ encC k l else if (encC k l).length + 1 < (bst l k).length then [k] ++ encC k l else bst l k := by
  cases k with
  | zero => rfl
  | succ k => rw [if_neg (by omega)]; rfl

set_option maxRecDepth 100000 in
set_option maxHeartbeats 4000000 in
theorem refBest_yes {w : World} {v : Value} {l : List Int} (hs : Sv w v (ivals l)) (hl : l.length ≤ 256) (hi : Is l) :
    Calls Try.prog 13 #[v] w fun e w' => (∃ v', e = .returned (.tuple #[v', .bool true]) ∧ OwnB w' w.heap.size v' (bestUp l 4)) ∧ Below w.heap.size w w' := by
  have HS := hidden hs
  obtain ⟨a, cap, rfl, hcap, hcm⟩ := hs.form
  have HSZ : Hid (∀ k, (bst l k).length ≤ 5131) := by
    intro k
    cases k with
    | zero => simp [bst]
    | succ k =>
      obtain ⟨c, _, e⟩ := bestUp_form l k
      rw [bst, e]
      have := (encC_size c hi hl).1
      simp
      omega
  have HESZ : Hid (∀ k, (encC k l).length ≤ 5130) := fun k => (encC_size k hi hl).1
  have HEN : Hid (∀ W (k : Nat), k ≤ 4 → Sv W (.slice a l.length cap) (ivals l) → Calls Try.prog 11 #[.int .i64 (k : Int), .slice a l.length cap] W fun e w' => (∃ v', e = .returned (.tuple #[v', .bool true]) ∧ OwnB w' W.heap.size v' (encC k l)) ∧ Below W.heap.size W w') := hidden (fun W k hk h => by
    have := refEncode_any h hi k
    rwa [decide_eq_true (⟨hk, hl⟩ : k ≤ 4 ∧ l.length ≤ 256), show encM k l = encC k l from if_pos ⟨hk, hl⟩] at this)
  clear hs hcap hcm hi
  go_enter Try.func13, Try.ntmps13
  go_wp2_with fail
  go_loopw [4, 5] (fun b i wr => ∃ k : Nat, k ≤ 5 ∧ i = .int .i64 (k : Int) ∧ OwnB wr w.heap.size b (bst l k) ∧ Below w.heap.size w wr) (fun _ i _ => 5 - (intOf i).toNat)
  case atStart => exact ⟨0, by omega, rfl, OwnB.nil _ _, Below.refl _ _⟩
  case round =>
    obtain ⟨k, hk, rfl, hown, hbel⟩ := hrel
    have HO := hidden hown
    have HB := hidden hbel
    have hzr := hbel.size
    obtain ⟨ab, cb, rfl⟩ := hown.len
    have hbl := HSZ.out k
    have hel := HESZ.out k
    have HT := hidden (bst_next l k)
    clear hown hbel
    by_cases hk5 : (k : Int) < 5
    · have HENk := hidden (HEN.out wr k (by omega) (HS.out.kept HB.out))
      generalize bst l k = B0 at *
      generalize encC k l = EC at *
      go_wp2_with fail
      refine HENk.out.mono ?_
      rintro e w3 ⟨⟨v3, rfl, ho3⟩, hb3⟩
      have HO3 := hidden ho3
      have HB3 := hidden (HB.out.trans (hb3.mono hzr))
      have HOB := hidden (HO.out.kept hb3)
      have hz3 := HB3.out.size
      obtain ⟨a3, c3, rfl⟩ := ho3.len
      clear ho3 hb3
      have HLIT := hidden (lit_own w3 k)
      have HBA := hidden (below_alloc' w3 (.cells #[.int .u8 (k : Int)] 5))
      have HE4 := hidden (HO3.out.kept HBA.out)
      by_cases hk0 : ((k : Int) == 0) = true
      · have hk0' : k = 0 := by simpa using hk0
        have HT2 : Hid (bst l (k + 1) = [k] ++ EC) := hidden (by rw [HT.out, if_pos hk0'])
        clear hk0'
        go_wp2_with (first | (at_builtin; refine wpList_append_sv rfl _ _ rfl w3.heap.size _ _ [k] EC rfl HLIT.out rfl HE4.out.sv ?c1 ?c2 ?_))
        case c1 => simp; omega
        case c2 => first | omega | (rw [World.size_alloc]; omega)
        intro v4 w4 o4 b4
        have HO4 := hidden (o4.low hz3)
        have HB4 := hidden (HB3.out.trans ((HBA.out.trans b4).mono hz3))
        clear o4 b4
        go_wp2_with fail
        go_roundw
        case rel => exact ⟨k + 1, by omega, by go_num, by rw [HT2.out]; exact HO4.out, HB4.out⟩
        case measure => simp [intOf]; omega
      · have hk0f : ((k : Int) == 0) = false := by simpa using hk0
        have hk0' : ¬ k = 0 := by simpa using hk0
        by_cases hlt : EC.length + 1 < B0.length
        · have HT2 : Hid (bst l (k + 1) = [k] ++ EC) := hidden (by rw [HT.out, if_neg hk0', if_pos hlt])
          have hcmp : (EC.length : Int) + 1 < (B0.length : Int) := by omega
          clear hk0' hk0 hlt
          go_wp2_with (first | (at_builtin; refine wpList_append_sv rfl _ _ rfl w3.heap.size _ _ [k] EC rfl HLIT.out rfl HE4.out.sv ?c1 ?c2 ?_))
          case c1 => simp; omega
          case c2 => first | omega | (rw [World.size_alloc]; omega)
          intro v4 w4 o4 b4
          have HO4 := hidden (o4.low hz3)
          have HB4 := hidden (HB3.out.trans ((HBA.out.trans b4).mono hz3))
          clear o4 b4
          go_wp2_with fail
          go_roundw
          case rel => exact ⟨k + 1, by omega, by go_num, by rw [HT2.out]; exact HO4.out, HB4.out⟩
          case measure => simp [intOf]; omega
        · have HT2 : Hid (bst l (k + 1) = B0) := hidden (by rw [HT.out, if_neg hk0', if_neg hlt])
          have hcmp : ¬ (EC.length : Int) + 1 < (B0.length : Int) := by omega
          clear hk0' hk0 hlt
          go_wp2_with fail
          go_roundw
          case rel => exact ⟨k + 1, by omega, by go_num, by rw [HT2.out]; exact HOB.out, HB3.out⟩
          case measure => simp [intOf]; omega
    · obtain rfl : k = 5 := by omega
      go_wp2_with fail
      go_ret2
      exact ⟨⟨_, rfl, HO.out⟩, HB.out⟩

set_option maxRecDepth 100000 in
set_option maxHeartbeats 2000000 in
theorem refBest_no {w : World} {v : Value} {l : List Int} (hs : Sv w v (ivals l)) (hi : Is l) (hl : ¬ l.length ≤ 256) :
    Calls Try.prog 13 #[v] w fun e w' => (∃ v', e = .returned (.tuple #[v', .bool false]) ∧ OwnB w' w.heap.size v' []) ∧ Below w.heap.size w w' := by
  have HEN := hidden (refEncode_no hs 0 (fun h => hl h.2))
  clear hs hi hl
  go_enter Try.func13, Try.ntmps13
  go_wp2_with fail
  refine wp_loop_rounds 1 ?_
  rw [rounds_succ]
  go_wp2_with fail
  refine HEN.out.mono ?_
  rintro e w3 ⟨⟨v3, rfl, ho3⟩, hb3⟩
  go_wp2_with fail
  go_ret2
  exact ⟨⟨_, rfl, OwnB.nil _ _⟩, hb3⟩

theorem refBest_any {w : World} {v : Value} {l : List Int} (hs : Sv w v (ivals l)) (hi : Is l) :
    Calls Try.prog 13 #[v] w fun e w' => (∃ v', e = .returned (.tuple #[v', .bool (decide (l.length ≤ 256))]) ∧ OwnB w' w.heap.size v' (bestM l)) ∧ Below w.heap.size w w' := by
  unfold bestM
  by_cases h : l.length ≤ 256
  · rw [decide_eq_true h, if_pos h]
    exact refBest_yes hs h hi
  · rw [decide_eq_false h, if_neg h]
    exact refBest_no hs hi h
end Go.Proofs.Ytnlanilejhjkkaa
