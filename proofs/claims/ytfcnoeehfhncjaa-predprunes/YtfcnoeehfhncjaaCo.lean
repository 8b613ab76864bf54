/- column: cells of a kind, and nulls. -/
import Derived.Test.YtfcnoeehfhncjaaPs3
set_option linter.unusedVariables false
set_option linter.unusedSimpArgs false
namespace Go.Proofs.Ytfcnoeehfhncjaa
open Go.RowKit Go.Lib

def keepK (k : Nat) (c : Cl) : Cl := if c.1 = k then c else nul
def colC (k : Nat) (l : List Cl) : List Cl := (l.take 300).map fun c => keepK k (fixC c)

set_option maxRecDepth 100000 in
set_option maxHeartbeats 4000000 in
theorem column_any {w : World} {v : Value} {l : List Cl} (hs : Sc w v l) (k : Nat) :
    Calls Try.prog 7 #[.int .u8 (k : Int), v] w fun e w' => (∃ v', e = .returned v' ∧ OwnC w' w.heap.size v' (colC k l)) ∧ Below w.heap.size w w' := by
  have HS := hidden hs
  obtain ⟨a, cap, rfl, hcap, hcm⟩ := hs.form
  have hcm' : cap ≤ 9223372036854775807 := by unfold maxLen at hcm; omega
  clear hs hcm
  go_enter Try.func7, Try.ntmps7
  go_wp2_with fail
  go_loopw [5, 6] (fun o i wr => ∃ j : Nat, j ≤ l.length ∧ j ≤ 300 ∧ i = .int .i64 (j : Int) ∧ OwnC wr w.heap.size o ((l.take j).map fun c => keepK k (fixC c)) ∧ Below w.heap.size w wr) (fun _ i _ => l.length - (intOf i).toNat)
  case atStart => exact ⟨0, by omega, by omega, rfl, OwnC.nil _ _, Below.refl _ _⟩
  case round =>
    obtain ⟨j, hj, hj3, rfl, hown, hbel⟩ := hrel
    have HO := hidden hown
    have HB := hidden hbel
    have hzr := hbel.size
    clear hown hbel
    by_cases hlt : j < l.length
    · have hlt' : (j : Int) < (l.length : Int) := by omega
      by_cases h3 : j < 300
      · obtain ⟨g, off, rfl, hg, c0, c1, c2⟩ := (HS.out.kept HB.out).at hlt
        have h3' : (j : Int) < 300 := by omega
        have HNX : Hid ((l.take (j + 1)).map (fun c => keepK k (fixC c)) = (l.take j).map (fun c => keepK k (fixC c)) ++ [keepK k (fixC l[j])]) := hidden (by
          rw [List.take_succ_eq_append_getElem hlt, List.map_append]
          rfl)
        have hlen' : ((l.take j).map fun c => keepK k (fixC c)).length ≤ 100000 := by rw [List.length_map, List.length_take]; omega
        have HVA := hidden (fixC_any l[j])
        rw [txt_eq] at c2
        generalize fixC l[j] = fc at *
        generalize bytesT l[j].2.2 = S at *
        generalize l[j].2.1 = cn at *
        generalize l[j].1 = ck at *
        generalize ((l.take j).map fun c => keepK k (fixC c)) = LL at *
        go_wp2_with fail
        refine (HVA.out _).mono ?_
        rintro e w1 ⟨rfl, hb1⟩
        have HO1 := hidden (HO.out.kept hb1)
        have HB1 := hidden (HB.out.trans (hb1.mono hzr))
        have hz1 := hb1.size
        have hcn := Ceb.new w1 (.int .u8 (fc.1 : Int)) (.int .i64 fc.2.1) (.string (bytesT fc.2.2))
        have hb2 := below_one w1 (.cells #[.int .u8 (fc.1 : Int), .int .i64 fc.2.1, .string (bytesT fc.2.2)] 27)
        obtain ⟨⟨d0, d1, d2⟩, ⟨f0, f1, f2⟩, _⟩ := hcn.facts
        have HO2 := hidden (HO1.out.kept hb2)
        have HB2 := hidden (below_then HB1.out hb2)
        have hz2 := hb2.size
        clear hb1 c0 c1 c2 hcn
        by_cases hk : fc.1 = k
        · have hk' : ((fc.1 : Int) != (k : Int)) = false := by rw [hk]; simp
          have HKK : Hid (keepK k fc = fc) := hidden (if_pos hk)
          rw [HKK.out] at HNX
          clear hb2 hk
          generalize hW : w1.alloc (.cells #[.int .u8 (fc.1 : Int), .int .i64 fc.2.1, .string (bytesT fc.2.2)] 27) = W at *
          have HCN := hidden (cell_new3 W (.int .u8 (fc.1 : Int)) (.int .i64 fc.2.1) (.string (bytesT fc.2.2)) 27)
          go_wp2_with (first | (at_builtin; refine wpList_append_c rfl _ _ rfl w.heap.size _ _ fc LL rfl (HO2.out.kept (below_one _ _)) rfl HCN.out.1 HCN.out.2.1 HCN.out.2.2 hlen' ?c2 ?_))
          case c2 => first | omega | (rw [World.size_alloc]; omega)
          intro v' w5 o5 b5
          have HO5 := hidden o5
          have HB5 := hidden ((HB2.out.alloc (by omega) _).trans b5)
          clear o5 b5
          go_wp2_with fail
          go_roundw
          case rel => exact ⟨j + 1, by omega, by omega, by go_num, by rw [HNX.out]; exact HO5.out, HB5.out⟩
          case measure => simp [intOf]; omega
        · have hk' : ((fc.1 : Int) != (k : Int)) = true := by simp; omega
          have HKK : Hid (keepK k fc = nul) := hidden (if_neg hk)
          rw [HKK.out] at HNX
          have hb3 := set3 hb2 (Nat.le_refl _) (.int .u8 0) (.int .i64 0) (.string ⟨#[]⟩)
          have HO3 := hidden (HO1.out.kept hb3)
          have HB3 := hidden (below_then HB1.out hb3)
          have hz3 := hb3.size
          clear hb2 hk hb3
          generalize hW : w1.alloc (.cells #[.int .u8 (fc.1 : Int), .int .i64 fc.2.1, .string (bytesT fc.2.2)] 27) = W at *
          have HCN := hidden (cell_new3 (((W.setCell ⟨w1.heap.size, 0, none⟩ (.int .u8 0)).setCell ⟨w1.heap.size, 1, none⟩ (.int .i64 0)).setCell ⟨w1.heap.size, 2, none⟩ (.string ⟨#[]⟩)) (.int .u8 0) (.int .i64 0) (.string ⟨#[]⟩) 27)
          have hsz : (((W.setCell ⟨w1.heap.size, 0, none⟩ (.int .u8 0)).setCell ⟨w1.heap.size, 1, none⟩ (.int .i64 0)).setCell ⟨w1.heap.size, 2, none⟩ (.string ⟨#[]⟩)).heap.size = W.heap.size := by simp only [World.size_setCell]
          rw [hsz] at HCN
          clear hsz
          go_wp2_with (first | (at_builtin; refine wpList_append_c rfl _ _ rfl w.heap.size _ _ nul LL rfl (HO3.out.kept (below_one _ _)) rfl HCN.out.1 HCN.out.2.1 HCN.out.2.2 hlen' ?c2 ?_))
          case c2 => first | omega | (rw [World.size_alloc]; omega)
          intro v' w5 o5 b5
          have HO5 := hidden o5
          have HB5 := hidden ((HB3.out.alloc (by omega) _).trans b5)
          clear o5 b5
          go_wp2_with fail
          go_roundw
          case rel => exact ⟨j + 1, by omega, by omega, by go_num, by rw [HNX.out]; exact HO5.out, HB5.out⟩
          case measure => simp [intOf]; omega
      · have h3' : ¬ (j : Int) < 300 := by omega
        have hj300 : j = 300 := by omega
        have HE : Hid ((l.take j).map (fun c => keepK k (fixC c)) = colC k l) := hidden (by rw [hj300]; rfl)
        rw [HE.out] at HO
        clear hj300 HE
        go_wp2_with fail
        go_ret
        exact ⟨⟨_, rfl, HO.out⟩, HB.out⟩
    · obtain rfl : j = l.length := by omega
      have HE : Hid ((l.take l.length).map (fun c => keepK k (fixC c)) = colC k l) := hidden (by
        unfold colC
        rw [List.take_length, List.take_of_length_le hj3])
      rw [HE.out] at HO
      have hge : ¬ ((l.length : Nat) : Int) < (l.length : Int) := by omega
      clear HE
      go_wp2_with fail
      go_ret
      exact ⟨⟨_, rfl, HO.out⟩, HB.out⟩
theorem colC_fine {l : List Cl} (ho : ∀ c ∈ l, Okc c) (k : Nat) : ∀ c ∈ colC k l, Fine c := by
  intro c hc
  unfold colC at hc
  obtain ⟨x, hx, rfl⟩ := List.mem_map.1 hc
  have := fixC_fine (ho x (List.mem_of_mem_take hx))
  unfold keepK
  split
  · exact this
  · exact Or.inl rfl
theorem colC_kind {l : List Cl} (k : Nat) : ∀ c ∈ colC k l, c.1 = k ∨ c = nul := by
  intro c hc
  unfold colC at hc
  obtain ⟨x, hx, rfl⟩ := List.mem_map.1 hc
  unfold keepK
  split
  · next h => exact Or.inl h
  · exact Or.inr rfl
theorem colC_len {l : List Cl} (k : Nat) : (colC k l).length ≤ 300 := by
  unfold colC
  rw [List.length_map, List.length_take]
  omega
end Go.Proofs.Ytfcnoeehfhncjaa
