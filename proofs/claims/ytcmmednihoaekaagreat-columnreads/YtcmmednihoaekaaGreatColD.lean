/- Contracts of layer column: putNulls. -/
import Derived.Test.YtcmmednihoaekaaGreatColC
set_option linter.unusedVariables false
set_option linter.unusedSimpArgs false
namespace Go.Proofs.YtcmmednihoaekaaGreat
open Go.RowKit Go.Lib

theorem own_block {w w' : World} {B e size n g cap : Nat} {xs : List Value} (h : w.ownsRow B e size (.slice (some ⟨g, 0, none⟩) n cap) n xs) (hb : w'.heap[g]? = w.heap[g]?) : w'.ownsRow B e size (.slice (some ⟨g, 0, none⟩) n cap) n xs := by
  obtain ⟨h0, h | ⟨g', cap', cur, h1, h2, h3, h4⟩⟩ := h
  · exact ⟨h0, Or.inl h⟩
  · cases h1
    exact ⟨h0, Or.inr ⟨g, cap, cur, rfl, h2, hb.trans h3, h4⟩⟩

theorem there_take_succ {l : List (Nat × Int × List Nat)} {j : Nat} (h : j < l.length) : there (l.take (j + 1)) = there (l.take j) ++ [if l[j].1 = 0 then 0 else 1] := by
  unfold there
  rw [List.take_succ_eq_append_getElem h, List.map_append]
  rfl

theorem valC_form (c : Nat × Int × List Nat) (h : c.1 ≠ 0) : ∃ t u, valC c = .iface t u := by
  unfold valC
  rw [if_neg h]
  split
  · exact ⟨_, _, rfl⟩
  · split
    · exact ⟨_, _, rfl⟩
    · exact ⟨_, _, rfl⟩

theorem valC_null (c : Nat × Int × List Nat) (h : c.1 = 0) : valC c = .nilIface := if_pos h

theorem headB_no {l : List (Nat × Int × List Nat)} (h : ¬ 0 ∈ there l) : headB l = [0] := if_neg h
theorem headB_yes {l : List (Nat × Int × List Nat)} (h : 0 ∈ there l) : headB l = [1] ++ packR (there l) 1 := if_pos h

theorem packR_short {l : List Nat} (h : ∀ x ∈ l, x < 2) (hl : l.length ≤ 256) : (packR l 1).length ≤ 32 := by
  rw [bits_length h hl]
  unfold by8
  omega

set_option maxRecDepth 100000 in
set_option maxHeartbeats 4000000 in
theorem putNulls_any {w : World} {g : Nat} {v vl : Value} {bs : List Nat} {l : List (Nat × Int × List Nat)} (hg : Gs w g v bs) (hbs : bs.length ≤ 100000) (hs : Sv w vl (vvals l)) (hl : l.length ≤ 256) :
    Calls Tryz.prog 23 #[.func (.func 45) #[] #[.pointer (some ⟨g, 0, none⟩)], vl] w (PutsPost w g (bs ++ headB l)) := by
  obtain ⟨i0, hi, hz0, hz1', hz2⟩ := info_parts info63
  have HG := hidden hg
  have hglt := hg.lt
  have HS := hidden hs
  obtain ⟨a, cap, rfl, hcap, hcm⟩ := hs.form1
  rw [vvals_length] at *
  have hcm' : cap ≤ 9223372036854775807 := by unfold maxLen at hcm; omega
  have H2 := hidden (there_two l)
  have HSH := hidden (packR_short (there_two l) (by rw [there_length]; exact hl))
  have HN := hidden (headB_no (l := l))
  have HY := hidden (headB_yes (l := l))
  obtain ⟨D, hD⟩ : ∃ D, there l = D := ⟨_, rfl⟩
  have hDl : D.length = l.length := by rw [← hD, there_length]
  have HDG : Hid (∀ k (h : k < l.length), D[k]? = some (if l[k].1 = 0 then 0 else 1)) := hidden (fun k h => by rw [← hD]; simp [there, h])
  rw [hD] at H2 HSH HN HY
  have HD := hidden hD
  have HDL := hidden hDl
  clear hs hcm hD hDl hg
  go_enter Tryz.func23, Tryz.ntmps23
  go_wp2_with (first | (refine wpList_make_full _ rfl _ _ 56 rfl w.heap.size 63 i0 (.int .u64 0) 1 Tryz.underlying56 hi hz0 hz1' .i64 .i64 _ _ l.length rfl rfl ?m1 ?m2 ?m3 ?m4 ?m5 ?_))
  case m1 => rfl
  case m2 => rfl
  case m3 => rw [hz2]; omega
  case m4 => unfold maxLen; omega
  case m5 => omega
  intro w4 ho4 hg4
  have hb4 : Below w.heap.size w w4 := (Below.refl _ _).grown hg4 (Nat.le_refl _) (fun k hk => by cases hk)
  have ho4' : w4.ownsRow w.heap.size 63 1 (.slice (some ⟨w.heap.size, 0, none⟩) l.length l.length) l.length (vals .u64 (fill D 0)) := by
    rw [fill_zero, HDL.out, ← made_vals]
    simpa using ho4
  have HO4 := hidden ho4'
  have HB4 := hidden hb4
  clear ho4 hg4 hb4 ho4'
  go_wp2_with fail
  go_loopw [5, 13] (fun o i wr => ∃ k : Nat, o = .bool (decide (0 ∈ there (l.take k))) ∧ i = .int .i64 (k : Int) ∧ k ≤ l.length ∧ wr.ownsRow w.heap.size 63 1 (.slice (some ⟨w.heap.size, 0, none⟩) l.length l.length) l.length (vals .u64 (fill D k)) ∧ Below w.heap.size w wr) (fun _ i _ => l.length - (intOf i).toNat)
  case atStart => exact ⟨0, rfl, rfl, by omega, HO4.out, HB4.out⟩
  case round =>
    obtain ⟨k, rfl, rfl, hk, how, hbel⟩ := hrel
    have HB := hidden hbel
    have HO := hidden how
    have hzr := hbel.size
    clear hbel how
    by_cases hlt : k < l.length
    · have hkD : k < D.length := by rw [HDL.out]; exact hlt
      have hval : D[k] = if l[k].1 = 0 then 0 else 1 := by
        have := HDG.out k hlt
        rw [List.getElem?_eq_getElem hkD] at this
        exact Option.some.inj this
      obtain ⟨b, off, rfl, hb, hck⟩ := (HS.out.kept HB.out).at1 (vvals_get hlt)
      have hfl : k < (fill D k).length := by rw [fill_length (by omega)]; exact hkD
      have HFS := hidden (fill_set hkD)
      have HTS := hidden (there_take_succ hlt)
      have HVF := hidden (valC_form l[k])
      have HVN := hidden (valC_null l[k])
      have ho5 := HO.out
      have hck5 := (ho5.cellAt k (by omega)).trans (vals_get hfl)
      have hfr5 := ho5.frozenAt k
      have hST := ho5.stored k (.int .u64 (D[k] : Int))
      rw [vals_set, HFS.out] at hST
      have HST := hidden hST
      have hgz := (ho5.lt w.heap.size rfl).2
      clear hST ho5
      generalize l[k] = c at *
      generalize (fill D k)[k] = y at *
      generalize D[k] = z at *
      by_cases h0 : c.1 = 0
      · rw [HVN.out h0] at hck
        rw [if_pos h0] at hval HTS
        subst hval
        have HFl : Hid (decide (0 ∈ there (l.take (k + 1))) = true) := hidden (decide_eq_true (by rw [HTS.out]; simp))
        clear HVF HVN h0
        have HBT := hidden (cbit_any false)
        generalize decide (0 ∈ there (l.take k)) = fl at *
        cases fl
        · go_wp2_with fail
          refine (HBT.out _).mono ?_
          rintro e w5 ⟨rfl, rfl⟩
          go_wp2_with fail
          go_roundw
          case rel => exact ⟨k + 1, by rw [HFl.out], by go_num, by omega, HST.out.1, below_set HB.out (Nat.le_refl _) _⟩
          case measure => simp [intOf]; omega
        · go_wp2_with fail
          refine (HBT.out _).mono ?_
          rintro e w5 ⟨rfl, rfl⟩
          go_wp2_with fail
          go_roundw
          case rel => exact ⟨k + 1, by rw [HFl.out], by go_num, by omega, HST.out.1, below_set HB.out (Nat.le_refl _) _⟩
          case measure => simp [intOf]; omega
      · obtain ⟨tt, uu, hvv⟩ := HVF.out h0
        rw [hvv] at hck
        rw [if_neg h0] at hval HTS
        subst hval
        have HFl : Hid (decide (0 ∈ there (l.take (k + 1))) = decide (0 ∈ there (l.take k))) := hidden (by rw [HTS.out]; simp)
        clear HVF HVN h0 hvv
        have HBT := hidden (cbit_any true)
        generalize decide (0 ∈ there (l.take k)) = fl at *
        cases fl
        · go_wp2_with fail
          refine (HBT.out _).mono ?_
          rintro e w5 ⟨rfl, rfl⟩
          go_wp2_with fail
          go_roundw
          case rel => exact ⟨k + 1, by rw [HFl.out], by go_num, by omega, HST.out.1, below_set HB.out (Nat.le_refl _) _⟩
          case measure => simp [intOf]; omega
        · go_wp2_with fail
          refine (HBT.out _).mono ?_
          rintro e w5 ⟨rfl, rfl⟩
          go_wp2_with fail
          go_roundw
          case rel => exact ⟨k + 1, by rw [HFl.out], by go_num, by omega, HST.out.1, below_set HB.out (Nat.le_refl _) _⟩
          case measure => simp [intOf]; omega
    · obtain rfl : k = l.length := by omega
      have e : fill D l.length = D := by
        have := fill_all D
        rwa [HDL.out] at this
      rw [e] at HO
      rw [List.take_length, HD.out]
      have HGr := hidden (HG.out.kept HB.out)
      clear e
      by_cases h0 : 0 ∈ D
      · rw [decide_eq_true h0]
        have HHB := hidden (HY.out h0)
        have HP1 := hidden (cput_any (HGr.out.kept (below_one wr (.cells #[.int .u8 1] 5))) (lit_own wr 1).sv (by simp; omega))
        have hz1 : (wr.alloc (.cells #[.int .u8 1] 5)).heap.size = wr.heap.size + 1 := World.size_alloc _ _
        clear HN HY h0
        go_wp2_with fail
        refine HP1.out.mono ?_
        rintro e w6 ⟨rfl, ⟨v6, hg6⟩, hb6, hk6⟩
        have hgz := (HO.out.lt w.heap.size rfl).2
        have ho6 : OwnU w6 w.heap.size (.slice (some ⟨w.heap.size, 0, none⟩) l.length l.length) D := by
          unfold OwnU
          rw [HDL.out]
          refine own_block (own_kept HO.out (below_one wr (.cells #[.int .u8 1] 5))) (hk6 w.heap.size (by omega) (by omega) (fun e => ?_))
          have := (HG.out.2.lt w.heap.size e).2
          omega
        have hz6 := hb6.size
        have HG6 := hidden hg6
        have HB6 := hidden ((HB.out.mono (Nat.le_of_lt hglt)).trans (((below_one wr (.cells #[.int .u8 1] 5)).mono (by omega)).trans hb6))
        have HP6 := hidden (cpack_any ho6.sv H2.out)
        clear hg6 hb6 hk6 ho6
        go_wp2_with fail
        refine HP6.out.mono ?_
        rintro e w7 ⟨⟨v7, rfl, ho7⟩, hb7⟩
        have HP7 := hidden (cput_any (HG6.out.kept hb7) ho7.sv (by have := HSH.out; simp; omega))
        have HB7 := hidden (HB6.out.trans (hb7.mono (by omega)))
        clear ho7 hb7
        go_wp2_with fail
        refine HP7.out.mono ?_
        rintro e w8 ⟨rfl, ⟨v8, hg8⟩, hb8, _⟩
        rw [List.append_assoc] at hg8
        have HG8 := hidden hg8
        have HB8 := hidden (HB7.out.trans hb8)
        clear hg8 hb8
        go_wp2_with fail
        go_end0
        rw [HHB.out]
        exact ⟨rfl, ⟨_, HG8.out⟩, HB8.out⟩
      · rw [decide_eq_false h0]
        have HHB := hidden (HN.out h0)
        have HP1 := hidden (cput_any (HGr.out.kept (below_one wr (.cells #[.int .u8 0] 5))) (lit_own wr 0).sv (by simp; omega))
        have hz1 : (wr.alloc (.cells #[.int .u8 0] 5)).heap.size = wr.heap.size + 1 := World.size_alloc _ _
        clear HN HY h0
        go_wp2_with fail
        refine HP1.out.mono ?_
        rintro e w6 ⟨rfl, ⟨v6, hg6⟩, hb6, hk6⟩
        have HG6 := hidden hg6
        have HB6 := hidden ((HB.out.mono (Nat.le_of_lt hglt)).trans (((below_one wr (.cells #[.int .u8 0] 5)).mono (by omega)).trans hb6))
        clear hg6 hb6 hk6
        go_wp2_with fail
        go_end0
        rw [HHB.out]
        exact ⟨rfl, ⟨_, HG6.out⟩, HB6.out⟩
end Go.Proofs.YtcmmednihoaekaaGreat
