/- The reader of layer column: values. -/
import Derived.Test.YtcmmednihoaekaaGreatRdF
set_option linter.unusedVariables false
set_option linter.unusedSimpArgs false
namespace Go.Proofs.YtcmmednihoaekaaGreat
open Go.RowKit Go.Lib

/-- So many values of the kind, none of them null. -/
def Nv (k n : Nat) (l : List (Nat × Int × List Nat)) : Prop := l.length = n ∧ ∀ c ∈ l, Cellk k c ∧ c.1 ≠ 0
/-- Bytes of such values. -/
def byT (k : Nat) (b : List Nat) (l : List (Nat × Int × List Nat)) (r : List Nat) : Prop := b = tailB k l ∧ r = []

theorem ownC_all {l : List (Nat × Int × List Nat)} (h : ∀ c ∈ l, c.1 ≠ 0) : ownC l = l := by
  unfold ownC
  rw [List.filter_eq_self]
  intro c hc
  simpa using h c hc

theorem er_end {f : Nat} {b : List Nat} (h : Er f) : Er (orf f (if b.length = 0 then 0 else 32)) := by
  refine h.orf ?_
  split
  · exact er0
  · exact er32

theorem vals_1 {b : List Nat} {f n : Nat} (hb : Bs b) (hf : Er f) (hn : n ≤ 256) : RP (Nv 1 n) (byT 1 b) f ((readM b n).1.map fun z => (1, z, [])) [] (orf f (readM b n).2) := by
  refine ⟨hf.orf (readM_er hn), fun h => ?_, fun y r a1 a2 a3 => ?_⟩
  · obtain ⟨h1, h2⟩ := orf_eq_zero h
    obtain ⟨h3, h4⟩ := readM_len hb h2
    refine ⟨h1, by rw [List.length_map]; omega, fun c hc => ?_⟩
    obtain ⟨z, hz, rfl⟩ := List.mem_map.1 hc
    exact ⟨Or.inr (Or.inl ⟨rfl, z, rfl, h4 z hz⟩), by simp⟩
  · have ho := ownC_all fun c hc => (a2.2 c hc).2
    have hin := ownC_ints fun c hc => (a2.2 c hc).1
    rw [ho] at hin
    have hb2 : b = bstC (y.map fun c => c.2.1) := by rw [a3.1, tail_1, ho]
    have hbk := bstC_back hin.1 (by rw [List.length_map]; have := a2.1; omega)
    rw [List.length_map, a2.1] at hbk
    rw [hb2, hbk, a1, a3.2]
    exact ⟨rfl, hin.2, rfl⟩

theorem vals_2 {b : List Nat} {f n : Nat} (hf : Er f) (hn : n ≤ 256) : RP (Nv 2 n) (byT 2 b) f ((unR (tkB (by8 n) b) n 1).map fun (x : Nat) => (2, (x : Int), [])) (tkR (by8 n) b) (orf (orf (tkF (by8 n) b f) (unE (tkB (by8 n) b) n 1)) (if (tkR (by8 n) b).length = 0 then 0 else 32)) := by
  refine ⟨er_end ((tkF_er hf).orf (show Er (unE _ n ((1 : Nat) : Int)) from unE_er hn (by omega))), fun h => ?_, fun y r a1 a2 a3 => ?_⟩
  · obtain ⟨h1, h2⟩ := orf_eq_zero (orf_eq_zero h).1
    obtain ⟨h3, h4⟩ := unR_len h2
    refine ⟨(tkF_zero h1).1, by rw [List.length_map]; exact h3, fun c hc => ?_⟩
    obtain ⟨z, hz, rfl⟩ := List.mem_map.1 hc
    exact ⟨Or.inr (Or.inr (Or.inl ⟨rfl, z, rfl, h4 z hz⟩)), by simp⟩
  · have ho := ownC_all fun c hc => (a2.2 c hc).2
    have hin := ownC_truths fun c hc => (a2.2 c hc).1
    rw [ho] at hin
    have hb2 : b = packR (y.map fun c => c.2.1.toNat) 1 ++ [] := by rw [a3.1, tail_2, ho, List.append_nil]
    have hm : (y.map fun c => c.2.1.toNat).length ≤ 256 := by rw [List.length_map]; have := a2.1; omega
    have hl := bits_length hin.1 hm
    have hbk := bits_back hin.1 hm
    rw [List.length_map, a2.1] at hl hbk
    rw [hb2, ← hl, (tk_left (a := packR (y.map fun c => c.2.1.toNat) 1) (r := []) f).1, (tk_left (a := packR (y.map fun c => c.2.1.toNat) 1) (r := []) f).2.1, (tk_left (a := packR (y.map fun c => c.2.1.toNat) 1) (r := []) f).2.2, hbk.1, hbk.2, a1, a3.2]
    exact ⟨rfl, hin.2, rfl⟩

theorem vals_3 {b b1 : List Nat} {f f1 n : Nat} {l : List (List Nat)} (h : RP (Nt n) (byW b) f l b1 f1) : RP (Nv 3 n) (byT 3 b) f (l.map fun s => (3, 0, s)) b1 (orf f1 (if b1.length = 0 then 0 else 32)) := by
  obtain ⟨r1, r2, r3⟩ := h
  refine ⟨er_end r1, fun h => ?_, fun y r a1 a2 a3 => ?_⟩
  · obtain ⟨h1, h2, h3⟩ := r2 (orf_eq_zero h).1
    refine ⟨h1, by rw [List.length_map]; exact h2, fun c hc => ?_⟩
    obtain ⟨s, hs, rfl⟩ := List.mem_map.1 hc
    exact ⟨Or.inr (Or.inr (Or.inr ⟨rfl, s, rfl, h3 s hs⟩)), by simp⟩
  · have ho := ownC_all fun c hc => (a2.2 c hc).2
    have hin := ownC_words fun c hc => (a2.2 c hc).1
    rw [ho] at hin
    obtain ⟨d1, d2, d3⟩ := r3 (y.map fun c => c.2.2) [] a1 ⟨by rw [List.length_map]; exact a2.1, hin.1⟩ ⟨by rw [a3.1, tail_3, ho], rfl⟩
    rw [d2, d3, d1, a3.2]
    exact ⟨rfl, hin.2, rfl⟩

/-- What values tells. -/
def VPost (k n : Nat) (b : List Nat) (p f : Nat) (w : World) (r : Ending) (w' : World) : Prop :=
  ∃ l b' f', (∃ v, r = .returned v ∧ OwnV w' w.heap.size v l) ∧ Rs w' p b' f' ∧ RP (Nv k n) (byT k b) f l b' f' ∧ Fr p w.heap.size w w'

set_option maxRecDepth 100000 in
set_option maxHeartbeats 4000000 in
theorem values_1 {w : World} {p f : Nat} {b : List Nat} (h : Rs w p b f) (hf : Er f) (n : Nat) (hn : n ≤ 256) :
    Calls Tryz.prog 56 #[.pointer (some ⟨p, 0, none⟩), .int .u8 1, .int .i64 (n : Int)] w (VPost 1 n b p f w) := by
  have hlt := h.lt
  have HN := hidden (lastNumbers_any h n)
  have HRP := hidden (vals_1 h.bs hf hn)
  have HSF := hidden (readM_safe h.bs hn)
  clear h
  generalize (readM b n).1 = L at *
  generalize orf f (readM b n).2 = f1 at *
  have hll := HSF.out.2
  go_enter Tryz.func56, Tryz.ntmps56
  go_wp2_with fail
  refine HN.out.mono ?_
  rintro e w1 ⟨⟨v1, rfl, ho1⟩, hs1, hf1⟩
  have HS1 := hidden hs1
  have HF1 := hidden hf1
  have hz1 := hf1.size
  have HV1 := hidden (Sv.of_own ho1)
  have HVB : Hid (∀ j, v1.ownBlock = some j → j < w1.heap.size) := hidden (fun j hj => (ho1.lt j hj).2)

  obtain ⟨a1, c1, rfl, hc1, hcm1⟩ := own_slice ho1
  have hcm1' : c1 ≤ 9223372036854775807 := by unfold maxLen at hcm1; omega
  clear hs1 hf1 ho1 hcm1
  go_wp2_with fail
  go_loopw [7, 21] (fun o i wr => ∃ j : Nat, j ≤ L.length ∧ i = .int .i64 (j : Int) ∧ OwnV wr w1.heap.size o ((L.take j).map (fun z => ((1, z, []) : Nat × Int × List Nat))) ∧ Below w1.heap.size w1 wr) (fun _ i _ => L.length - (intOf i).toNat)
  case atStart => exact ⟨0, by omega, rfl, OwnV.nil _ _, Below.refl _ _⟩
  case round =>
    obtain ⟨j, hj, rfl, hown, hbel⟩ := hrel
    have HO := hidden hown
    have HB := hidden hbel
    have hzr := hbel.size
    clear hown hbel
    by_cases hjl : j < L.length
    · obtain ⟨g, off, rfl, hg, hcell⟩ := (HV1.out.keptB HVB.out HB.out).at1 (ivals_get hjl)
      have hjl' : (j : Int) < (L.length : Int) := by omega
      have HNX : Hid ((L.take (j + 1)).map (fun z => ((1, z, []) : Nat × Int × List Nat)) = (L.take j).map (fun z => ((1, z, []) : Nat × Int × List Nat)) ++ [(fun z => ((1, z, []) : Nat × Int × List Nat)) L[j]]) := hidden (by
        rw [List.take_succ_eq_append_getElem hjl, List.map_append]
        rfl)
      have hlen' : ((L.take j).map (fun z => ((1, z, []) : Nat × Int × List Nat))).length ≤ 100000 := by rw [List.length_map, List.length_take]; omega
      generalize L[j] = z at *
      generalize (L.take j).map (fun z => ((1, z, []) : Nat × Int × List Nat)) = LL at *
      go_wp2_with (first | (at_builtin; refine wpList_append_v rfl _ _ rfl w1.heap.size _ _ (1, z, []) LL rfl (HO.out.kept (below_one _ _)) rfl (cell_new _ _ _) hlen' ?c2 ?_))
      case c2 => first | omega | (rw [World.size_alloc]; omega)
      intro v' w5 o5 b5
      have HO5 := hidden o5
      have HB5 := hidden ((HB.out.alloc hzr _).trans b5)
      clear o5 b5
      go_wp2_with fail
      go_roundw
      case rel => exact ⟨j + 1, by omega, by go_num, by rw [HNX.out]; exact HO5.out, HB5.out⟩
      case measure => simp [intOf]; omega
    · obtain rfl : j = L.length := by omega
      rw [List.take_length] at HO
      have hge : ¬ ((L.length : Nat) : Int) < (L.length : Int) := by omega
      have HSR := hidden (HS1.out.kept HB.out HS1.out.lt)
      have HFR := hidden (HF1.out.trans (Fr.of_below (p := p) (HB.out.mono hz1)))
      generalize L.map (fun z => ((1, z, []) : Nat × Int × List Nat)) = X at *
      go_wp2_with fail
      refine (cend_any HSR.out).mono ?_
      rintro e w5 ⟨rfl, hs5, hf5⟩
      have HO5 : Hid (OwnV w5 w1.heap.size _ X) := hidden (hf5.own HO.out (by omega))
      have HS5 := hidden hs5
      have HF5 := hidden (HFR.out.trans (hf5.mono (by omega)))
      clear hs5 hf5
      go_wp2_with fail
      go_ret
      exact ⟨X, _, _, ⟨_, rfl, own_low HO5.out hz1⟩, HS5.out, (by rw [show orf f1 (if ([] : List Nat).length = 0 then 0 else 32) = f1 by unfold orf; split <;> simp_all]; exact HRP.out), HF5.out⟩

set_option maxRecDepth 100000 in
set_option maxHeartbeats 4000000 in
theorem values_2 {w : World} {p f : Nat} {b : List Nat} (h : Rs w p b f) (hf : Er f) (n : Nat) (hn : n ≤ 256) :
    Calls Tryz.prog 56 #[.pointer (some ⟨p, 0, none⟩), .int .u8 2, .int .i64 (n : Int)] w (VPost 2 n b p f w) := by
  have hlt := h.lt
  have HN := hidden (cpacked_any h n hn)
  have HRP := hidden (vals_2 (b := b) hf hn)
  have HSF : Hid ((∀ x ∈ unR (tkB (by8 n) b) n 1, x < 2) ∧ (unR (tkB (by8 n) b) n 1).length ≤ n) := hidden (by
    by_cases h0 : unE (tkB (by8 n) b) n 1 = 0
    · exact ⟨(unR_len h0).2, Nat.le_of_eq (unR_len h0).1⟩
    · rw [unR_no h0]
      exact ⟨fun x hx => by simp at hx, by simp⟩)
  clear h
  generalize unR (tkB (by8 n) b) n 1 = L at *
  generalize orf (tkF (by8 n) b f) (unE (tkB (by8 n) b) n 1) = f1 at *
  generalize tkR (by8 n) b = b1 at *
  have hll := HSF.out.2
  go_enter Tryz.func56, Tryz.ntmps56
  go_wp2_with fail
  refine HN.out.mono ?_
  rintro e w1 ⟨⟨v1, rfl, ho1⟩, hs1, hf1⟩
  have HS1 := hidden hs1
  have HF1 := hidden hf1
  have hz1 := hf1.size
  have HV1 := hidden (Sv.of_own ho1)
  have HVB : Hid (∀ j, v1.ownBlock = some j → j < w1.heap.size) := hidden (fun j hj => (ho1.lt j hj).2)

  obtain ⟨a1, c1, rfl, hc1, hcm1⟩ := own_slice ho1
  have hcm1' : c1 ≤ 9223372036854775807 := by unfold maxLen at hcm1; omega
  clear hs1 hf1 ho1 hcm1
  go_wp2_with fail
  go_loopw [7, 37] (fun o i wr => ∃ j : Nat, j ≤ L.length ∧ i = .int .i64 (j : Int) ∧ OwnV wr w1.heap.size o ((L.take j).map (fun (x : Nat) => ((2, (x : Int), []) : Nat × Int × List Nat))) ∧ Below w1.heap.size w1 wr) (fun _ i _ => L.length - (intOf i).toNat)
  case atStart => exact ⟨0, by omega, rfl, OwnV.nil _ _, Below.refl _ _⟩
  case round =>
    obtain ⟨j, hj, rfl, hown, hbel⟩ := hrel
    have HO := hidden hown
    have HB := hidden hbel
    have hzr := hbel.size
    clear hown hbel
    by_cases hjl : j < L.length
    · obtain ⟨g, off, rfl, hg, hcell⟩ := (HV1.out.keptB HVB.out HB.out).at1 (vals_get hjl)
      have hjl' : (j : Int) < (L.length : Int) := by omega
      have HNX : Hid ((L.take (j + 1)).map (fun (x : Nat) => ((2, (x : Int), []) : Nat × Int × List Nat)) = (L.take j).map (fun (x : Nat) => ((2, (x : Int), []) : Nat × Int × List Nat)) ++ [(fun (x : Nat) => ((2, (x : Int), []) : Nat × Int × List Nat)) L[j]]) := hidden (by
        rw [List.take_succ_eq_append_getElem hjl, List.map_append]
        rfl)
      have hlen' : ((L.take j).map (fun (x : Nat) => ((2, (x : Int), []) : Nat × Int × List Nat))).length ≤ 100000 := by rw [List.length_map, List.length_take]; omega
      have hx2 := HSF.out.1 L[j] (List.getElem_mem hjl)
      generalize L[j] = x at *
      generalize (L.take j).map (fun (x : Nat) => ((2, (x : Int), []) : Nat × Int × List Nat)) = LL at *
      obtain rfl | rfl : x = 0 ∨ x = 1 := by omega
      · skip
        go_wp2_with (first | (at_builtin; refine wpList_append_v rfl _ _ rfl w1.heap.size _ _ (2, ((0 : Nat) : Int), []) LL rfl (HO.out.kept (below_one _ _)) rfl (cell_new _ _ _) hlen' ?c2 ?_))
        case c2 => first | omega | (rw [World.size_alloc]; omega)
        intro v' w5 o5 b5
        have HO5 := hidden o5
        have HB5 := hidden ((HB.out.alloc hzr _).trans b5)
        clear o5 b5
        go_wp2_with fail
        go_roundw
        case rel => exact ⟨j + 1, by omega, by go_num, by rw [HNX.out]; exact HO5.out, HB5.out⟩
        case measure => simp [intOf]; omega
      · skip
        go_wp2_with (first | (at_builtin; refine wpList_append_v rfl _ _ rfl w1.heap.size _ _ (2, ((1 : Nat) : Int), []) LL rfl (HO.out.kept (below_one _ _)) rfl (cell_new _ _ _) hlen' ?c2 ?_))
        case c2 => first | omega | (rw [World.size_alloc]; omega)
        intro v' w5 o5 b5
        have HO5 := hidden o5
        have HB5 := hidden ((HB.out.alloc hzr _).trans b5)
        clear o5 b5
        go_wp2_with fail
        go_roundw
        case rel => exact ⟨j + 1, by omega, by go_num, by rw [HNX.out]; exact HO5.out, HB5.out⟩
        case measure => simp [intOf]; omega
    · obtain rfl : j = L.length := by omega
      rw [List.take_length] at HO
      have hge : ¬ ((L.length : Nat) : Int) < (L.length : Int) := by omega
      have HSR := hidden (HS1.out.kept HB.out HS1.out.lt)
      have HFR := hidden (HF1.out.trans (Fr.of_below (p := p) (HB.out.mono hz1)))
      generalize L.map (fun (x : Nat) => ((2, (x : Int), []) : Nat × Int × List Nat)) = X at *
      go_wp2_with fail
      refine (cend_any HSR.out).mono ?_
      rintro e w5 ⟨rfl, hs5, hf5⟩
      have HO5 : Hid (OwnV w5 w1.heap.size _ X) := hidden (hf5.own HO.out (by omega))
      have HS5 := hidden hs5
      have HF5 := hidden (HFR.out.trans (hf5.mono (by omega)))
      clear hs5 hf5
      go_wp2_with fail
      go_ret
      exact ⟨X, _, _, ⟨_, rfl, own_low HO5.out hz1⟩, HS5.out, HRP.out, HF5.out⟩

set_option maxRecDepth 100000 in
set_option maxHeartbeats 4000000 in
theorem values_3 {w : World} {p f : Nat} {b : List Nat} (h : Rs w p b f) (hf : Er f) (n : Nat) (hn : n ≤ 256) :
    Calls Tryz.prog 56 #[.pointer (some ⟨p, 0, none⟩), .int .u8 3, .int .i64 (n : Int)] w (VPost 3 n b p f w) := by
  have hlt := h.lt
  have HN := hidden (rtexts_any h hf n hn)
  clear h

  go_enter Tryz.func56, Tryz.ntmps56
  go_wp2_with fail
  refine HN.out.mono ?_
  rintro e w1 ⟨L, b1, f1, ⟨v1, rfl, ho1⟩, hts, hll, hs1, hrp1, hf1⟩
  have HRP := hidden (vals_3 hrp1)
  clear hts hrp1
  have HS1 := hidden hs1
  have HF1 := hidden hf1
  have hz1 := hf1.size
  have HV1 := hidden (Sv.of_own ho1)
  have HVB : Hid (∀ j, v1.ownBlock = some j → j < w1.heap.size) := hidden (fun j hj => (ho1.lt j hj).2)

  obtain ⟨a1, c1, rfl, hc1, hcm1⟩ := own_slice ho1
  have hcm1' : c1 ≤ 9223372036854775807 := by unfold maxLen at hcm1; omega
  clear hs1 hf1 ho1 hcm1
  go_wp2_with fail
  go_loopw [7, 54] (fun o i wr => ∃ j : Nat, j ≤ L.length ∧ i = .int .i64 (j : Int) ∧ OwnV wr w1.heap.size o ((L.take j).map (fun s => ((3, 0, s) : Nat × Int × List Nat))) ∧ Below w1.heap.size w1 wr) (fun _ i _ => L.length - (intOf i).toNat)
  case atStart => exact ⟨0, by omega, rfl, OwnV.nil _ _, Below.refl _ _⟩
  case round =>
    obtain ⟨j, hj, rfl, hown, hbel⟩ := hrel
    have HO := hidden hown
    have HB := hidden hbel
    have hzr := hbel.size
    clear hown hbel
    by_cases hjl : j < L.length
    · obtain ⟨g, off, rfl, hg, hcell⟩ := (HV1.out.keptB HVB.out HB.out).at1 (svals_get hjl)
      have hjl' : (j : Int) < (L.length : Int) := by omega
      have HNX : Hid ((L.take (j + 1)).map (fun s => ((3, 0, s) : Nat × Int × List Nat)) = (L.take j).map (fun s => ((3, 0, s) : Nat × Int × List Nat)) ++ [(fun s => ((3, 0, s) : Nat × Int × List Nat)) L[j]]) := hidden (by
        rw [List.take_succ_eq_append_getElem hjl, List.map_append]
        rfl)
      have hlen' : ((L.take j).map (fun s => ((3, 0, s) : Nat × Int × List Nat))).length ≤ 100000 := by rw [List.length_map, List.length_take]; omega
      rw [txt_eq] at hcell
      generalize L[j] = s at *
      generalize (L.take j).map (fun s => ((3, 0, s) : Nat × Int × List Nat)) = LL at *
      go_wp2_with (first | (at_builtin; refine wpList_append_v rfl _ _ rfl w1.heap.size _ _ (3, 0, s) LL rfl (HO.out.kept (below_one _ _)) rfl (cell_new _ _ _) hlen' ?c2 ?_))
      case c2 => first | omega | (rw [World.size_alloc]; omega)
      intro v' w5 o5 b5
      have HO5 := hidden o5
      have HB5 := hidden ((HB.out.alloc hzr _).trans b5)
      clear o5 b5
      go_wp2_with fail
      go_roundw
      case rel => exact ⟨j + 1, by omega, by go_num, by rw [HNX.out]; exact HO5.out, HB5.out⟩
      case measure => simp [intOf]; omega
    · obtain rfl : j = L.length := by omega
      rw [List.take_length] at HO
      have hge : ¬ ((L.length : Nat) : Int) < (L.length : Int) := by omega
      have HSR := hidden (HS1.out.kept HB.out HS1.out.lt)
      have HFR := hidden (HF1.out.trans (Fr.of_below (p := p) (HB.out.mono hz1)))
      generalize L.map (fun s => ((3, 0, s) : Nat × Int × List Nat)) = X at *
      go_wp2_with fail
      refine (cend_any HSR.out).mono ?_
      rintro e w5 ⟨rfl, hs5, hf5⟩
      have HO5 : Hid (OwnV w5 w1.heap.size _ X) := hidden (hf5.own HO.out (by omega))
      have HS5 := hidden hs5
      have HF5 := hidden (HFR.out.trans (hf5.mono (by omega)))
      clear hs5 hf5
      go_wp2_with fail
      go_ret
      exact ⟨X, _, _, ⟨_, rfl, own_low HO5.out hz1⟩, HS5.out, HRP.out, HF5.out⟩

end Go.Proofs.YtcmmednihoaekaaGreat
