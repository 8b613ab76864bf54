/- Contracts of layer column: texts by their places, bestTexts. -/
import Derived.Test.YtcmmednihoaekaaGreatColH
set_option linter.unusedVariables false
set_option linter.unusedSimpArgs false
namespace Go.Proofs.YtcmmednihoaekaaGreat
open Go.RowKit Go.Lib

set_option maxRecDepth 100000 in
set_option maxHeartbeats 4000000 in
theorem byPlaces1_any {w : World} {g p q : Nat} {v vl vu : Value} {l : List (List Nat)} (hg : Gs w g v []) (hp : p < g) (hq : q < g) (hcu : w.cell? ⟨q, 0, none⟩ = some vu) (hcl : w.cell? ⟨p, 0, none⟩ = some vl)
    (hs : Sv w vl (svals l)) (hlow : ∀ k, vl.ownBlock = some k → k < g) (hu : Sv w vu (svals (tuq l))) (hulow : ∀ k, vu.ownBlock = some k → k < g) (hl : l.length ≤ 256) (ht : Ts l) :
    Calls Tryz.prog 75 #[.func (.func 45) #[] #[.pointer (some ⟨g, 0, none⟩)], .pointer (some ⟨q, 0, none⟩), .pointer (some ⟨p, 0, none⟩)] w (PutsPost w g (listed l)) := by
  have hglt := hg.lt
  have HCU := hidden hcu
  have HCL := hidden hcl
  have HS := hidden hs
  have HU := hidden hu
  have HLOW := hidden hlow
  have HULOW := hidden hulow
  have HT := hidden ht
  have hul : (tuq l).length ≤ 256 := by have := tuq_length l; omega
  have htxl := txts_len (tuq_ts ht) hul
  have hbl := bstC_len (placesT_i64 hl) (by rw [placesT_length]; exact hl)
  have HLI : Hid (listed l = 1 :: (uv (tuq l).length ++ (txts (tuq l) ++ bstC (placesT l)))) := rfl
  have h10 := uv_ten (n := (tuq l).length) (by omega)
  have HP1 := hidden (cput_any (hg.kept (below_one w (.cells #[.int .u8 1] 5))) (lit_own w 1).sv (by simp))
  have hz1 : (w.alloc (.cells #[.int .u8 1] 5)).heap.size = w.heap.size + 1 := World.size_alloc _ _
  obtain ⟨a, cap, rfl, _, _⟩ := hs.form1
  obtain ⟨au, capu, rfl, _, _⟩ := hu.form1
  rw [svals_length] at *
  have HPU := hidden (vput_told (tuq l).length (by omega))
  clear hg hcl hs hlow ht hu hulow
  go_enter Tryz.func75, Tryz.ntmps75
  go_wp2_with fail
  refine HP1.out.mono ?_
  rintro e w1 ⟨rfl, ⟨v1, hg1⟩, hb1, _⟩
  have HB1 := hidden (((below_one w (.cells #[.int .u8 1] 5)).mono (Nat.le_of_lt hglt)).trans hb1)
  have HG1 := hidden hg1
  have hcu1 := kept_cell HCU.out HB1.out hq
  clear hg1 hb1 hcu
  go_wp2_with fail
  refine (HPU.out _).mono ?_
  rintro e w2 ⟨⟨v2, rfl, ho2⟩, hb2⟩
  have HP2 := hidden (cput_any (HG1.out.kept hb2) ho2.sv (by simp; omega))
  have HB2 := hidden (HB1.out.trans (hb2.mono (Nat.le_of_lt HG1.out.lt)))
  clear ho2 hb2 hcu1
  go_wp2_with fail
  refine HP2.out.mono ?_
  rintro e w3 ⟨rfl, ⟨v3, hg3⟩, hb3, _⟩
  have HB3 := hidden (HB2.out.trans hb3)
  have hcu3 := kept_cell HCU.out HB3.out hq
  have HP3 := hidden (putLens_any hg3 (by simp; omega) (HU.out.keptB HULOW.out HB3.out) HULOW.out hul (tuq_ts HT.out))
  clear hg3 hb3
  go_wp2_with fail
  refine HP3.out.mono ?_
  rintro e w4 ⟨rfl, ⟨v4, hg4⟩, hb4⟩
  have HB4 := hidden (HB3.out.trans hb4)
  have HG4 := hidden hg4
  have hcu4 := kept_cell HCU.out HB4.out hq
  have hcl4 := kept_cell HCL.out HB4.out hp
  have HP4 := hidden (cplaces_any (HU.out.keptB HULOW.out HB4.out) (HS.out.keptB HLOW.out HB4.out) hl hul (tuq_rising l) (fun s hs => (tuq_ts HT.out s hs).2) (fun x hx => mem_tuq.2 hx))
  clear hg4 hb4 hcu3
  go_wp2_with fail
  refine HP4.out.mono ?_
  rintro e w5 ⟨⟨v5, rfl, ho5⟩, hb5⟩
  have hG5 := HG4.out.kept hb5
  have HG5 := hidden hG5
  have HB5 := hidden (HB4.out.trans (hb5.mono (Nat.le_of_lt HG4.out.lt)))
  have HP5 := hidden (cbest_any (l := placesT l) ho5.sv (by rw [placesT_length]; exact hl) (placesT_i64 hl))
  clear ho5 hb5 hcu4 hcl4 hG5
  go_wp2_with fail
  refine HP5.out.mono ?_
  rintro e w6 ⟨⟨v6, rfl, ho6⟩, hb6⟩
  have HP6 := hidden (cput_any (HG5.out.kept hb6) ho6.sv (by simp; omega))
  have HB6 := hidden (HB5.out.trans (hb6.mono (Nat.le_of_lt HG5.out.lt)))
  clear ho6 hb6
  go_wp2_with fail
  refine HP6.out.mono ?_
  rintro e w7 ⟨rfl, ⟨v7, hg7⟩, hb7, _⟩
  have HG7 : Hid (Gs w7 g v7 (listed l)) := hidden (by
    rw [HLI.out]
    simpa [List.append_assoc] using hg7)
  have HB7 := hidden (HB6.out.trans hb7)
  clear hg7 hb7
  go_wp2_with fail
  go_end0
  exact ⟨rfl, ⟨_, HG7.out⟩, HB7.out⟩

theorem heap_cells {W : World} {p T : Nat} {c : Array Value} (h : W.heap[p]? = some (.cells c T (0, 0))) (hc : 0 < c.size) : W.cell? ⟨p, 0, none⟩ = some c[0] ∧ W.frozen? ⟨p, 0, none⟩ = false :=
  ⟨by rw [cell_block h]; simp [hc], by simp [World.frozen?, h]⟩

theorem own_set_ne {w : World} {B e size n q i : Nat} {v x : Value} {xs : List Value} (h : w.ownsRow B e size v n xs) (hq : ∀ k, v.ownBlock = some k → k ≠ q) : (w.setCell ⟨q, i, none⟩ x).ownsRow B e size v n xs := by
  obtain ⟨h0, h | ⟨g, cap, cur, rfl, h2, h3, h4⟩⟩ := h
  · exact ⟨h0, Or.inl h⟩
  · exact ⟨h0, Or.inr ⟨g, cap, cur, rfl, h2, (Below.heap_setCell _ _ _ _ (hq g rfl)).trans h3, h4⟩⟩

theorem own_type_ne {w : World} {B e n q T : Nat} {v : Value} {xs : List Value} {c : Array Value} (h : w.ownsRow B e 1 v n xs) (hq : w.heap[q]? = some (.cells c T (0, 0))) (hT : T ≠ e) : ∀ k, v.ownBlock = some k → k ≠ q := by
  intro k hk e1
  subst e1
  obtain ⟨h0, ⟨rfl, _⟩ | ⟨g, cap, cur, rfl, h2, h3, h4⟩⟩ := h
  · cases hk
  · cases hk
    rw [hq] at h3
    cases h3
    exact hT rfl

set_option maxRecDepth 100000 in
set_option maxHeartbeats 4000000 in
theorem byPlaces_any {w : World} {vl : Value} {l : List (List Nat)} (hs : Sv w vl (svals l)) (hlow : ∀ k, vl.ownBlock = some k → k < w.heap.size) (hl : l.length ≤ 256) (ht : Ts l) :
    Calls Tryz.prog 50 #[vl] w (Told w (listed l)) := by
  obtain ⟨a, cap, rfl, _, _⟩ := hs.form1
  have HS := hidden hs
  have HLOW := hidden hlow
  have HT := hidden ht
  rw [svals_length] at *
  have HBX := hidden (below_one w (.cells #[.slice a l.length cap] 59))
  have hzx := World.size_alloc w (.cells #[.slice a l.length cap] 59)
  have HCX := hidden (cell_new w (.slice a l.length cap) 59)
  have HCL := hidden (cloneS_any (hs.kept HBX.out) hl)
  clear hs hlow ht
  go_enter Tryz.func50, Tryz.ntmps50
  go_wp2_with fail
  refine HCL.out.mono ?_
  rintro e w1 ⟨⟨v1, rfl, ho1⟩, hb1⟩
  have HO1 := hidden ho1
  have HB1 := hidden hb1
  have hz1 := hb1.size
  obtain ⟨a1, c1, rfl, _, _⟩ := own_slice ho1
  have HA2 : Hid ((w1.alloc (.cells #[.slice a1 l.length c1] 59)).heap[w1.heap.size]? = some (.cells #[.slice a1 l.length c1] 59 (0, 0))) := hidden (heap_alloc_new _ _)
  have hz2 := World.size_alloc w1 (.cells #[.slice a1 l.length c1] 59)
  have hO2 := HO1.out.kept (below_one w1 (.cells #[.slice a1 l.length c1] 59))
  have HO2 := hidden hO2
  have hb2 := HB1.out.trans ((below_one w1 (.cells #[.slice a1 l.length c1] 59)).mono hz1)
  have HB2 := hidden hb2
  have hlu : (upT l).length = l.length := up_length l
  have hS2 : (w1.alloc (.cells #[.slice a1 l.length c1] 59)).ownsRow (w.alloc (.cells #[.slice a l.length cap] 59)).heap.size 9 1 (.slice a1 l.length c1) (upT l).length ((upT l).map encStr) := by
    rw [hlu, ← svals_up]
    exact hO2
  have HSO := hidden (sortS_own hS2 (by omega) (by omega))
  clear ho1 hb1 hO2 hb2 hS2 hlu
  go_wp2_with fail
  refine HSO.out.mono ?_
  rintro e w3 ⟨rfl, ho3, hb3, hk3⟩
  have hlu : (upT l).length = l.length := up_length l
  have hlt1 : ∀ k, (Value.slice a1 l.length c1).ownBlock = some k → k < w1.heap.size := fun k hk => (HO1.out.lt k hk).2
  have hq3 : w3.heap[w1.heap.size]? = some (.cells #[.slice a1 l.length c1] 59 (0, 0)) := (hk3 w1.heap.size (by omega) (fun e => by have := hlt1 _ e; omega)).trans HA2.out
  have HQ3 := hidden hq3
  obtain ⟨hc3, hf3⟩ := heap_cells hq3 (by simp)
  have hz3 := hb3.size
  have HB3 := hidden (HB2.out.trans hb3)
  have hls : (srtT (upT l)).length = l.length := by rw [srtT_length]; exact hlu
  have ho3' : w3.ownsRow (w.alloc (.cells #[.slice a l.length cap] 59)).heap.size 9 1 (.slice a1 l.length c1) (srtT (upT l)).length ((srtT (upT l)).map encStr) := by
    rw [srtT_length]
    exact ho3
  have HCO := hidden (compactS_own ho3' (by omega) (by omega))
  rw [compact_up (fun s hs => (HT.out s hs).2), ← svals_up, up_length] at HCO
  simp only [List.getElem_toArray, List.getElem_cons_zero] at hc3
  clear ho3 ho3' hb3 hk3 hq3 hls hlu
  go_wp2_with fail
  refine HCO.out.mono ?_
  rintro e w4 ⟨⟨v4, rfl, ho4⟩, hb4, hk4⟩
  have hq4 : w4.heap[w1.heap.size]? = some (.cells #[.slice a1 l.length c1] 59 (0, 0)) := (hk4 w1.heap.size (by omega) (fun e => by have := hlt1 _ e; omega)).trans HQ3.out
  obtain ⟨hc4, hf4⟩ := heap_cells hq4 (by simp)
  simp only [List.getElem_toArray, List.getElem_cons_zero] at hc4
  have hz4 := hb4.size
  have HB4 := hidden (HB3.out.trans hb4)
  obtain ⟨a4, c4, rfl, _, _⟩ := own_slice ho4
  have hne4 := own_type_ne ho4 hq4 (by decide)
  have hO5 := own_set_ne (i := 0) (x := .slice a4 (tuq l).length c4) ho4 hne4
  have hq5 := heap_set hq4 0 (.slice a4 (tuq l).length c4)
  have HB5 := hidden (HB4.out.setCell (p := ⟨w1.heap.size, 0, none⟩) (by show _ ≤ w1.heap.size; omega) (.slice a4 (tuq l).length c4))
  have hz5 : (w4.setCell ⟨w1.heap.size, 0, none⟩ (.slice a4 (tuq l).length c4)).heap.size = w4.heap.size := World.size_setCell _ _ _
  have HGA := hidden (gather75 (w := w4.setCell ⟨w1.heap.size, 0, none⟩ (.slice a4 (tuq l).length c4)) (p := .pointer (some ⟨w1.heap.size, 0, none⟩)) (q := .pointer (some ⟨w.heap.size, 0, none⟩)) (bs := listed l) (fun W hg hb => by
    have hbl : Below (w.alloc (.cells #[.slice a l.length cap] 59)).heap.size (w.alloc (.cells #[.slice a l.length cap] 59)) W := HB5.out.trans (hb.mono (by omega))
    have hbw : Below w.heap.size w W := HBX.out.trans (hbl.mono (by omega))
    refine byPlaces1_any (vu := .slice a4 (tuq l).length c4) hg (by omega) (by omega) ?_ ?_ (HS.out.kept hbw) (fun k hk => by have := HLOW.out k hk; omega) ?_ (fun k hk => ?_) hl HT.out
    · rw [hb.cell (p := ⟨w1.heap.size, 0, none⟩) (by show w1.heap.size < _; omega), cell_block hq5]
      rfl
    · rw [hbl.cell (p := ⟨w.heap.size, 0, none⟩) (by show w.heap.size < _; omega)]
      exact HCX.out
    · exact (Sv.of_own hO5).kept hb
    · have := (hO5.lt k hk).2
      omega))
  clear ho4 hb4 hk4 hq4 hne4 hO5 hq5
  generalize listed l = bs at *
  generalize tuq l = ul at *
  go_wp2_with fail
  refine HGA.out.mono ?_
  rintro e w6 ⟨⟨v6, rfl, ho6⟩, hb6⟩
  have HO6 := hidden (ho6.low (B := w.heap.size) (by omega))
  have HB6 := hidden (HBX.out.trans ((HB5.out.trans (hb6.mono (by omega))).mono (by omega)))
  clear ho6 hb6
  go_wp2_with fail
  go_ret
  exact ⟨⟨_, rfl, HO6.out⟩, HB6.out⟩

theorem words_le {l : List (List Nat)} (ht : Ts l) (hl : l.length ≤ 256) : (plain l).length ≤ 21526 := by
  have := txts_len ht hl
  unfold plain
  rw [List.length_cons]
  omega

set_option maxRecDepth 100000 in
set_option maxHeartbeats 2000000 in
theorem bestTexts_any {w : World} {vl : Value} {l : List (List Nat)} (hs : Sv w vl (svals l)) (hlow : ∀ k, vl.ownBlock = some k → k < w.heap.size) (hl : l.length ≤ 256) (ht : Ts l) :
    Calls Tryz.prog 28 #[vl] w (Told w (wordsB l)) := by
  have HE := hidden (eachText_any hs hlow hl ht)
  have HP := hidden (fun (W : World) (hb : Below w.heap.size w W) => byPlaces_any (hs.kept hb) (fun k hk => Nat.lt_of_lt_of_le (hlow k hk) hb.size) hl ht)
  have HW : Hid (wordsB l = if (listed l).length < (plain l).length then listed l else plain l) := rfl
  clear hs hlow ht
  generalize wordsB l = wb at *
  generalize listed l = bl at *
  generalize plain l = bp at *
  go_enter Tryz.func28, Tryz.ntmps28
  go_wp2_with fail
  refine HE.out.mono ?_
  rintro e w1 ⟨⟨v1, rfl, ho1⟩, hb1⟩
  have HO1 := hidden ho1
  have HB1 := hidden hb1
  have hz1 := hb1.size
  obtain ⟨a1, c1, rfl⟩ := ho1.len
  clear ho1 hb1
  go_wp2_with fail
  refine (HP.out _ HB1.out).mono ?_
  rintro e w2 ⟨⟨v2, rfl, ho2⟩, hb2⟩
  have HO1' := hidden (HO1.out.kept hb2)
  have HO2 := hidden (ho2.low hz1)
  have HB2 := hidden (HB1.out.trans (hb2.mono hz1))
  obtain ⟨a2, c2, rfl⟩ := ho2.len
  clear ho2 hb2
  by_cases h : bl.length < bp.length
  · have h' : (bl.length : Int) < (bp.length : Int) := by omega
    rw [if_pos h] at HW
    clear h
    go_wp2_with fail
    go_ret
    rw [HW.out]
    exact ⟨⟨_, rfl, HO2.out⟩, HB2.out⟩
  · have h' : ¬ (bl.length : Int) < (bp.length : Int) := by omega
    rw [if_neg h] at HW
    clear h
    go_wp2_with fail
    go_ret
    rw [HW.out]
    exact ⟨⟨_, rfl, HO1'.out⟩, HB2.out⟩
end Go.Proofs.YtcmmednihoaekaaGreat
