/- Contracts of layer column: Write. -/
import Derived.Test.YtcmmednihoaekaaGreatColI
set_option linter.unusedVariables false
set_option linter.unusedSimpArgs false
namespace Go.Proofs.YtcmmednihoaekaaGreat
open Go.RowKit Go.Lib

theorem own_low_block {w : World} {B e n : Nat} {v : Value} {xs : List Value} (h : w.ownsRow B e 1 v n xs) : ∀ k, v.ownBlock = some k → k < w.heap.size := fun k hk => (h.lt k hk).2

set_option maxRecDepth 100000 in
set_option maxHeartbeats 4000000 in
theorem write1_any {w : World} {g p q k : Nat} {v vl : Value} {l : List (Nat × Int × List Nat)} (hg : Gs w g v []) (hp : p < g) (hq : q < g) (hcl : w.cell? ⟨p, 0, none⟩ = some vl) (hck : w.cell? ⟨q, 0, none⟩ = some (.int .u8 (k : Int)))
    (hs : Sv w vl (vvals l)) (hlow : ∀ k, vl.ownBlock = some k → k < g) (hc : Col k l) :
    Calls Tryz.prog 22 #[.func (.func 45) #[] #[.pointer (some ⟨g, 0, none⟩)], .pointer (some ⟨p, 0, none⟩), .pointer (some ⟨q, 0, none⟩)] w (PutsPost w g (colM k l)) := by
  have hglt := hg.lt
  have HCL := hidden hcl
  have HCK := hidden hck
  have HS := hidden hs
  have HLOW := hidden hlow
  obtain ⟨hk, hl, hcells⟩ := hc
  have HC := hidden hcells
  have hhd := (head_size (l := l) hl).1
  have HCM : Hid (colM k l = headB l ++ tailB k l) := rfl
  have HP1 := hidden (putNulls_any hg (by simp) hs hl)
  have hol := ownC_length l
  obtain ⟨a, cap, rfl, _, _⟩ := hs.form1
  rw [vvals_length] at *
  clear hg hs hlow hcells hck
  obtain rfl | rfl | rfl : k = 1 ∨ k = 2 ∨ k = 3 := by omega
  · have hin := ownC_ints HC.out
    have hbl := bstC_len hin.1 (by rw [List.length_map]; omega)
    have HI := hidden hin.1
    have HTL := hidden (tail_1 l)
    clear hin
    go_enter Tryz.func22, Tryz.ntmps22
    go_wp2_with fail
    refine HP1.out.mono ?_
    rintro e w1 ⟨rfl, ⟨v1, hg1⟩, hb1⟩
    have HG1 := hidden hg1
    have HB1 := hidden hb1
    have hcl1 := kept_cell HCL.out hb1 hp
    have hck1 := kept_cell HCK.out hb1 hq
    have HW1 := hidden (wholes_any (HS.out.keptB HLOW.out hb1) hl HC.out)
    clear hg1 hb1 hcl
    go_wp2_with fail
    refine HW1.out.mono ?_
    rintro e w2 ⟨⟨v2, rfl, ho2⟩, hb2⟩
    have HG2 := hidden (HG1.out.kept hb2)
    have HB2 := hidden (HB1.out.trans (hb2.mono (Nat.le_of_lt HG1.out.lt)))
    have HW2 := hidden (cbest_any ho2.sv (by rw [List.length_map]; omega) HI.out)
    clear ho2 hb2 hcl1 hck1
    go_wp2_with fail
    refine HW2.out.mono ?_
    rintro e w3 ⟨⟨v3, rfl, ho3⟩, hb3⟩
    have HB3 := hidden (HB2.out.trans (hb3.mono (Nat.le_of_lt HG2.out.lt)))
    have HP3 := hidden (cput_any (HG2.out.kept hb3) ho3.sv (by simp only [List.nil_append]; omega))
    clear ho3 hb3
    go_wp2_with fail
    refine HP3.out.mono ?_
    rintro e w4 ⟨rfl, ⟨v4, hg4⟩, hb4, _⟩
    rw [List.nil_append, ← HTL.out, ← HCM.out] at hg4
    have HG4 := hidden hg4
    have HB4 := hidden (HB3.out.trans hb4)
    clear hg4 hb4
    go_wp2_with fail
    go_end0
    exact ⟨rfl, ⟨_, HG4.out⟩, HB4.out⟩
  · have hin := ownC_truths HC.out
    have hbl := packR_short hin.1 (by rw [List.length_map]; omega)
    have HI := hidden hin.1
    have HTL := hidden (tail_2 l)
    clear hin
    go_enter Tryz.func22, Tryz.ntmps22
    go_wp2_with fail
    refine HP1.out.mono ?_
    rintro e w1 ⟨rfl, ⟨v1, hg1⟩, hb1⟩
    have HG1 := hidden hg1
    have HB1 := hidden hb1
    have hcl1 := kept_cell HCL.out hb1 hp
    have hck1 := kept_cell HCK.out hb1 hq
    have HW1 := hidden (truths_any (HS.out.keptB HLOW.out hb1) hl HC.out)
    clear hg1 hb1 hcl
    go_wp2_with fail
    refine HW1.out.mono ?_
    rintro e w2 ⟨⟨v2, rfl, ho2⟩, hb2⟩
    have HG2 := hidden (HG1.out.kept hb2)
    have HB2 := hidden (HB1.out.trans (hb2.mono (Nat.le_of_lt HG1.out.lt)))
    have HW2 := hidden (cpack_any ho2.sv HI.out)
    clear ho2 hb2 hcl1 hck1
    go_wp2_with fail
    refine HW2.out.mono ?_
    rintro e w3 ⟨⟨v3, rfl, ho3⟩, hb3⟩
    have HB3 := hidden (HB2.out.trans (hb3.mono (Nat.le_of_lt HG2.out.lt)))
    have HP3 := hidden (cput_any (HG2.out.kept hb3) ho3.sv (by simp only [List.nil_append]; omega))
    clear ho3 hb3
    go_wp2_with fail
    refine HP3.out.mono ?_
    rintro e w4 ⟨rfl, ⟨v4, hg4⟩, hb4, _⟩
    rw [List.nil_append, ← HTL.out, ← HCM.out] at hg4
    have HG4 := hidden hg4
    have HB4 := hidden (HB3.out.trans hb4)
    clear hg4 hb4
    go_wp2_with fail
    go_end0
    exact ⟨rfl, ⟨_, HG4.out⟩, HB4.out⟩
  · have hin := ownC_words HC.out
    have hbl := (words_size hin.1 (by rw [List.length_map]; omega)).1
    have HI := hidden hin.1
    have HTL := hidden (tail_3 l)
    clear hin
    go_enter Tryz.func22, Tryz.ntmps22
    go_wp2_with fail
    refine HP1.out.mono ?_
    rintro e w1 ⟨rfl, ⟨v1, hg1⟩, hb1⟩
    have HG1 := hidden hg1
    have HB1 := hidden hb1
    have hcl1 := kept_cell HCL.out hb1 hp
    have hck1 := kept_cell HCK.out hb1 hq
    have HW1 := hidden (ctexts_any (HS.out.keptB HLOW.out hb1) hl HC.out)
    clear hg1 hb1 hcl
    go_wp2_with fail
    refine HW1.out.mono ?_
    rintro e w2 ⟨⟨v2, rfl, ho2⟩, hb2⟩
    have HG2 := hidden (HG1.out.kept hb2)
    have HB2 := hidden (HB1.out.trans (hb2.mono (Nat.le_of_lt HG1.out.lt)))
    have HW2 := hidden (bestTexts_any ho2.sv (own_low_block ho2) (by rw [List.length_map]; omega) HI.out)
    clear ho2 hb2 hcl1 hck1
    go_wp2_with fail
    refine HW2.out.mono ?_
    rintro e w3 ⟨⟨v3, rfl, ho3⟩, hb3⟩
    have HB3 := hidden (HB2.out.trans (hb3.mono (Nat.le_of_lt HG2.out.lt)))
    have HP3 := hidden (cput_any (HG2.out.kept hb3) ho3.sv (by simp only [List.nil_append]; omega))
    clear ho3 hb3
    go_wp2_with fail
    refine HP3.out.mono ?_
    rintro e w4 ⟨rfl, ⟨v4, hg4⟩, hb4, _⟩
    rw [List.nil_append, ← HTL.out, ← HCM.out] at hg4
    have HG4 := hidden hg4
    have HB4 := hidden (HB3.out.trans hb4)
    clear hg4 hb4
    go_wp2_with fail
    go_end0
    exact ⟨rfl, ⟨_, HG4.out⟩, HB4.out⟩

/-- What Write answers. -/
def WritePost (r : List Nat × Nat) (w : World) (e : Ending) (w' : World) : Prop := (∃ v, e = .returned (.tuple #[v, .int .i64 (r.2 : Int)]) ∧ OwnB w' w.heap.size v r.1) ∧ Below w.heap.size w w'

theorem writeC_bad {k : Nat} {l : List (Nat × Int × List Nat)} (h : (writeC k l).2 ≠ 0) : (writeC k l).1 = [] := by
  unfold writeC at h ⊢
  split
  · split
    · next h1 h2 =>
      rw [if_pos h1, if_pos h2] at h
      exact absurd rfl h
    · rfl
  · rfl

theorem writeC_good {k : Nat} {l : List (Nat × Int × List Nat)} (hf : ∀ c ∈ l, Fine c) (h : (writeC k l).2 = 0) : Col k l := by
  unfold writeC at h
  split at h
  · next h1 =>
    split at h
    · next h2 => exact ⟨⟨h1.1, h1.2.1⟩, h2.1, fun c hc => (hf c hc).cellk (h1.2.2 c hc)⟩
    · simp at h
  · simp at h

set_option maxRecDepth 100000 in
set_option maxHeartbeats 2000000 in
theorem write_any {w : World} {vl : Value} {l : List (Nat × Int × List Nat)} (hs : Sv w vl (vvals l)) (hlow : ∀ k, vl.ownBlock = some k → k < w.heap.size) (hf : ∀ c ∈ l, Fine c) (k : Nat) :
    Calls Tryz.prog 10 #[.int .u8 (k : Int), vl] w (WritePost (writeC k l) w) := by
  obtain ⟨a, cap, rfl, _, _⟩ := hs.form1
  have hz1 := World.size_alloc w (.cells #[.int .u8 (k : Int)] 28)
  have hz2 := World.size_alloc (w.alloc (.cells #[.int .u8 (k : Int)] 28)) (.cells #[.slice a (vvals l).length cap] 29)
  have hb1 := below_one w (.cells #[.int .u8 (k : Int)] 28)
  have hb2 := below_one (w.alloc (.cells #[.int .u8 (k : Int)] 28)) (.cells #[.slice a (vvals l).length cap] 29)
  have hbb := hb1.trans (hb2.mono (by omega))
  have HBB := hidden hbb
  have HFA := hidden (cfault_any (hs.kept hbb) hf k)
  have HC1 := hidden (cell_new w (.int .u8 (k : Int)) 28)
  have HC2 := hidden (cell_new (w.alloc (.cells #[.int .u8 (k : Int)] 28)) (.slice a (vvals l).length cap) 29)
  have HC1' : Hid (((w.alloc (.cells #[.int .u8 (k : Int)] 28)).alloc (.cells #[.slice a (vvals l).length cap] 29)).cell? ⟨w.heap.size, 0, none⟩ = some (.int .u8 (k : Int))) := hidden ((hb2.cell (p := ⟨w.heap.size, 0, none⟩) (by show w.heap.size < _; omega)).trans HC1.out)
  have HBAD := hidden (writeC_bad (k := k) (l := l))
  have HGOOD := hidden (fun h => writeC_good (k := k) (l := l) hf h)
  have HWC := hidden (fun h => writeC_col (k := k) (l := l) h)
  have HGA := hidden (fun (W1 : World) (hw : Below ((w.alloc (.cells #[.int .u8 (k : Int)] 28)).alloc (.cells #[.slice a (vvals l).length cap] 29)).heap.size ((w.alloc (.cells #[.int .u8 (k : Int)] 28)).alloc (.cells #[.slice a (vvals l).length cap] 29)) W1) (hcol : Col k l) => gather22 (w := W1) (p := .pointer (some ⟨w.heap.size + 1, 0, none⟩)) (q := .pointer (some ⟨w.heap.size, 0, none⟩)) (bs := colM k l) (fun W hg hb => by
    have hsz := hw.size
    have hb3 : Below w.heap.size w W := hbb.trans ((hw.trans (hb.mono hsz)).mono (by omega))
    refine write1_any (vl := .slice a (vvals l).length cap) hg (by omega) (by omega) ?_ ?_ (hs.kept hb3) (fun k hk => by have := hlow k hk; omega) hcol
    · rw [hb.cell (p := ⟨w.heap.size + 1, 0, none⟩) (by show w.heap.size + 1 < _; omega), hw.cell (p := ⟨w.heap.size + 1, 0, none⟩) (by show w.heap.size + 1 < _; omega)]
      have := HC2.out
      rwa [hz1] at this
    · rw [hb.cell (p := ⟨w.heap.size, 0, none⟩) (by show w.heap.size < _; omega), hw.cell (p := ⟨w.heap.size, 0, none⟩) (by show w.heap.size < _; omega)]
      exact HC1'.out))
  clear hs hlow hf hb1 hb2 hbb
  generalize writeC k l = wc at *
  obtain ⟨bs, er⟩ := wc
  simp only at *
  generalize (vvals l).length = n at *
  by_cases he : er = 0
  · subst he
    have hcol := HGOOD.out rfl
    have HBS : Hid (bs = colM k l) := hidden (by have := HWC.out hcol; simpa using this)
    have HCOL := hidden hcol
    clear hcol
    go_enter Tryz.func10, Tryz.ntmps10
    go_wp2_with fail
    refine HFA.out.mono ?_
    rintro e w1 ⟨rfl, hb1⟩
    have HGA1 := hidden (HGA.out w1 hb1 HCOL.out)
    have HB1 := hidden (HBB.out.trans (hb1.mono (by omega)))
    have hz3 := hb1.size
    clear hb1
    go_wp2_with fail
    refine HGA1.out.mono ?_
    rintro e w2 ⟨⟨v2, rfl, ho2⟩, hb2⟩
    have HO2 := hidden (ho2.low (B := w.heap.size) (by omega))
    have HB2 := hidden (HB1.out.trans (hb2.mono (by omega)))
    clear ho2 hb2
    go_wp2_with fail
    go_ret2
    rw [HBS.out]
    exact ⟨⟨_, rfl, HO2.out⟩, HB2.out⟩
  · have hne : ((er : Int) != 0) = true := by simpa using he
    have HBS : Hid (bs = []) := hidden (HBAD.out he)
    clear he
    go_enter Tryz.func10, Tryz.ntmps10
    go_wp2_with fail
    refine HFA.out.mono ?_
    rintro e w1 ⟨rfl, hb1⟩
    have HB1 := hidden (HBB.out.trans (hb1.mono (by omega)))
    clear hb1
    go_wp2_with fail
    go_ret2
    rw [HBS.out]
    exact ⟨⟨_, rfl, OwnB.nil _ _⟩, HB1.out⟩
end Go.Proofs.YtcmmednihoaekaaGreat
