/- Contracts of layer column: column, writtenSo, Read. -/
import Derived.Test.YtcmmednihoaekaaGreatRdH
set_option linter.unusedVariables false
set_option linter.unusedSimpArgs false
namespace Go.Proofs.YtcmmednihoaekaaGreat
open Go.RowKit Go.Lib

theorem bdrew (B : Nat) (w : World) : Below B w w.drew := ⟨rfl, rfl, rfl, Nat.le_refl _, fun _ _ => rfl⟩

theorem values_any {w : World} {p f : Nat} {b : List Nat} (h : Rs w p b f) (hf : Er f) (k n : Nat) (hk : 1 ≤ k ∧ k ≤ 3) (hn : n ≤ 256) :
    Calls Tryz.prog 56 #[.pointer (some ⟨p, 0, none⟩), .int .u8 (k : Int), .int .i64 (n : Int)] w (VPost k n b p f w) := by
  obtain rfl | rfl | rfl : k = 1 ∨ k = 2 ∨ k = 3 := by omega
  · exact values_1 h hf n hn
  · exact values_2 h hf n hn
  · exact values_3 h hf n hn

/-- What a column's reading keeps. -/
def CP (k n : Nat) (b : List Nat) (l : List (Nat × Int × List Nat)) (f' : Nat) : Prop :=
  Er f' ∧ (f' = 0 → Col k l ∧ l.length = n) ∧ (f' ≠ 0 → l = []) ∧ ∀ y, Col k y → y.length = n → b = colM k y → f' = 0 ∧ l = y

theorem fillC_cells {k : Nat} : ∀ {t : List Nat} {s : List (Nat × Int × List Nat)}, (∀ c ∈ s, Cellk k c) → ∀ c ∈ fillC t s, Cellk k c := fun {t s} h => (fillC_inv (P := Cellk k) (Or.inl rfl) h).2

theorem col_bad {k n : Nat} {b b1 b2 : List Nat} {th : List Nat} {s : List (Nat × Int × List Nat)} {f1 f2 : Nat} (h1 : RP (Nu n) (byH b n) 0 th b1 f1) (h2 : RP (Nv k th.sum) (byT k b1) f1 s b2 f2) (hn : f2 ≠ 0) : CP k n b [] f2 := by
  refine ⟨h2.1, fun h => absurd h hn, fun _ => rfl, fun y a1 a2 a3 => ?_⟩
  obtain ⟨d1, d2, d3⟩ := h1.2.2 (there y) (tailB k y) rfl ⟨by rw [there_length]; exact a2, there_two y⟩ ⟨y, a2, rfl, a3⟩
  have ho := ownC_own y
  obtain ⟨e1, _⟩ := h2.2.2 (ownC y) [] d1 ⟨by rw [d2, sum_there], fun c hc => ⟨a1.2.2 c (ownC_mem hc).1, (ownC_mem hc).2⟩⟩ ⟨by rw [d3]; unfold tailB; rw [ho], rfl⟩
  exact absurd e1 hn

theorem col_good {k n : Nat} {b b1 b2 : List Nat} {th : List Nat} {s : List (Nat × Int × List Nat)} {f1 : Nat} (hk : 1 ≤ k ∧ k ≤ 3) (hn : n ≤ 256) (h1 : RP (Nu n) (byH b n) 0 th b1 f1) (h2 : RP (Nv k th.sum) (byT k b1) f1 s b2 0) : CP k n b (fillC th s) 0 := by
  obtain ⟨g1, g2⟩ := h2.2.1 rfl
  obtain ⟨_, g3⟩ := h1.2.1 g1
  refine ⟨er0, fun _ => ⟨⟨hk, by rw [fillC_length, g3.1]; exact hn, fillC_cells fun c hc => (g2.2 c hc).1⟩, by rw [fillC_length, g3.1]⟩, fun h => absurd rfl h, fun y a1 a2 a3 => ⟨rfl, ?_⟩⟩
  obtain ⟨d1, d2, d3⟩ := h1.2.2 (there y) (tailB k y) rfl ⟨by rw [there_length]; exact a2, there_two y⟩ ⟨y, a2, rfl, a3⟩
  have ho := ownC_own y
  obtain ⟨_, e2, _⟩ := h2.2.2 (ownC y) [] d1 ⟨by rw [d2, sum_there], fun c hc => ⟨a1.2.2 c (ownC_mem hc).1, (ownC_mem hc).2⟩⟩ ⟨by rw [d3]; unfold tailB; rw [ho], rfl⟩
  rw [d2, e2]
  exact fillC_ownC a1.2.2

set_option maxRecDepth 100000 in
set_option maxHeartbeats 4000000 in
theorem column_any {w : World} {p : Nat} {b : List Nat} (h : Rs w p b 0) (k n : Nat) (hk : 1 ≤ k ∧ k ≤ 3) (hn : n ≤ 256) :
    Calls Tryz.prog 38 #[.pointer (some ⟨p, 0, none⟩), .int .u8 (k : Int), .int .i64 (n : Int)] w fun r w' => ∃ l b' f', (∃ v, r = .returned v ∧ OwnV w' w.heap.size v l) ∧ Rs w' p b' f' ∧ CP k n b l f' ∧ Fr p w.heap.size w w' := by
  have hlt := h.lt
  have HN := hidden (nulls_any h er0 n hn)
  have HGOOD := hidden (fun b1 b2 th s f1 h1 h2 => col_good (k := k) (n := n) (b := b) (b1 := b1) (b2 := b2) (th := th) (s := s) (f1 := f1) hk hn h1 h2)
  have HK := hidden hk
  clear h hk
  go_enter Tryz.func38, Tryz.ntmps38
  go_wp2_with fail
  refine HN.out.mono ?_
  rintro e w1 ⟨th, b1, f1, ⟨v1, rfl, ho1⟩, ht2, htl, hs1, hrp1, hf1⟩
  have HO1 := hidden ho1
  have HT2 := hidden ht2
  have HS1 := hidden hs1
  have HRP1 := hidden hrp1
  have HF1 := hidden hf1
  have hz1 := hf1.size
  have hsum : th.sum ≤ 256 := by have := sum_two ht2; omega
  have HON := hidden (ones_any (OwnU.sv ho1) ht2 (by omega))
  have HVA := hidden (values_any hs1 hrp1.1 k th.sum HK.out hsum)
  have HVB : Hid (∀ j, v1.ownBlock = some j → j < w1.heap.size ∧ j ≠ p) := hidden (fun j hj => by
    have := ho1.lt j hj
    exact ⟨this.2, by omega⟩)
  clear ho1 ht2 hs1 hrp1 hf1
  go_wp2_with fail
  refine HON.out.mono ?_
  rintro e w2 ⟨rfl, rfl⟩
  go_wp2_with fail
  refine HVA.out.mono ?_
  rintro e w3 ⟨s, b3, f3, ⟨v3, rfl, ho3⟩, hs3, hrp3, hf3⟩
  have HO3 := hidden ho3
  have HS3 := hidden hs3
  have HRP3 := hidden hrp3
  have HF3 := hidden (HF1.out.trans (hf3.mono hz1))
  have hz3 := hf3.size
  have HT3 := hidden ((OwnU.sv HO1.out).keptFr HVB.out hf3)
  obtain ⟨a0, cap0, k0, k1, k2, k3, k4, k5, k6, k7, k8, k9, k10⟩ := hs3.cells
  clear ho3 hs3 hrp3 hf3 k0 k2 k3 k4 k5 k6 k7 k8 k9 k10
  by_cases hf0 : f3 = 0
  · subst hf0
    have HCP := hidden (HGOOD.out b1 b3 th s f1 HRP1.out HRP3.out)
    obtain ⟨g1, g2⟩ := HRP3.out.2.1 rfl
    have HSP := hidden (spread_any HT3.out HT2.out (by omega) (OwnV.sv HO3.out) g2.1 (fun c hc => (g2.2 c hc).2))
    clear g1 g2
    generalize fillC th s = L at *
    go_wp2_with fail
    refine HSP.out.mono ?_
    rintro e w4 ⟨⟨v4, rfl, ho4⟩, hb4⟩
    have HO4 := hidden (own_low (B := w.heap.size) ho4 (by omega))
    have HS4 := hidden (HS3.out.kept hb4 HS3.out.lt)
    have HF4 := hidden (HF3.out.trans (Fr.of_below (hb4.mono (by omega))))
    clear ho4 hb4
    go_wp2_with fail
    go_ret
    exact ⟨L, _, 0, ⟨_, rfl, HO4.out⟩, HS4.out, HCP.out, HF4.out⟩
  · have hne : ((f3 : Int) != 0) = true := by simpa using hf0
    have HCP := hidden (col_bad (k := k) HRP1.out HRP3.out hf0)
    clear hf0
    go_wp2_with fail
    go_ret
    exact ⟨[], _, f3, ⟨_, rfl, OwnV.nil _ _⟩, HS3.out, HCP.out, HF3.out⟩

set_option maxRecDepth 100000 in
set_option maxHeartbeats 2000000 in
theorem cwritten_any {w : World} {vb vl : Value} {b : List Nat} {l : List (Nat × Int × List Nat)} {k : Nat} (hb : Sv w vb (vals .u8 b)) (h8 : Bs b) (hs : Sv w vl (vvals l)) (hlow : ∀ k, vl.ownBlock = some k → k < w.heap.size) (hc : Col k l) :
    Calls Tryz.prog 39 #[.int .u8 (k : Int), vb, vl] w fun e w' => e = .returned (.bool (decide (colM k l = b))) ∧ Below w.heap.size w w' := by
  have HW := hidden (write_any hs hlow (fun c hcc => (hc.2.2 c hcc).fine) k)
  rw [writeC_col hc] at HW
  have HB := hidden hb
  have H8 := hidden h8
  have HCB := hidden (col_size hc).2
  clear hb h8 hs hlow hc
  unfold WritePost at HW
  generalize colM k l = cb at *
  go_enter Tryz.func39, Tryz.ntmps39
  go_wp2_with fail
  refine HW.out.mono ?_
  rintro e w1 ⟨⟨v1, rfl, ho1⟩, hb1⟩
  have HEQ := hidden (equal_any ho1.sv (HB.out.kept hb1) HCB.out H8.out)
  have HB1 := hidden hb1
  clear ho1 hb1
  go_wp2_with fail
  refine HEQ.out.mono ?_
  rintro e w2 ⟨rfl, rfl⟩
  go_wp2_with fail
  go_ret
  exact ⟨rfl, HB1.out⟩

/-- What Read answers. -/
def Told6 (k : Nat) (b : List Nat) (n : Int) (l : List (Nat × Int × List Nat)) (er : Nat) : Prop :=
  if 1 ≤ k ∧ k ≤ 3 then
    (if 0 ≤ n ∧ n ≤ 256 then (er = 0 ∧ readC k b n.toNat = some l) ∨ (er ≠ 0 ∧ Er er ∧ l = [] ∧ readC k b n.toNat = none) else er = 1 ∧ l = [])
  else er = 10 ∧ l = []

def RPost6 (k : Nat) (b : List Nat) (n : Int) (w : World) (e : Ending) (w' : World) : Prop :=
  ∃ (v : Value) (l : List (Nat × Int × List Nat)) (er : Nat), e = .returned (.tuple #[v, .int .i64 (er : Int)]) ∧ OwnV w' w.heap.size v l ∧ Told6 k b n l er ∧ Below w.heap.size w w'

theorem told_main {k n : Nat} {b : List Nat} {l : List (Nat × Int × List Nat)} {er : Nat} (hk : 1 ≤ k ∧ k ≤ 3) (hn : n ≤ 256) (h : (er = 0 ∧ readC k b n = some l) ∨ (er ≠ 0 ∧ Er er ∧ l = [] ∧ readC k b n = none)) : Told6 k b (n : Int) l er := by
  unfold Told6
  rw [if_pos hk, if_pos (by omega), Int.toNat_natCast]
  exact h

theorem cp_none {k n : Nat} {b : List Nat} {l : List (Nat × Int × List Nat)} {f' : Nat} (hk : 1 ≤ k ∧ k ≤ 3) (hn : n ≤ 256) (hb : Bs b) (hc : CP k n b l f') (h : ¬ (f' = 0 ∧ colM k l = b)) : readC k b n = none := by
  cases e : readC k b n with
  | none => rfl
  | some y =>
    obtain ⟨h1, h2, h3⟩ := (readC_iff hk hn hb).1 e
    obtain ⟨d1, d2⟩ := hc.2.2.2 y h1 h2 h3.symm
    exact absurd ⟨d1, by rw [d2]; exact h3⟩ h

set_option maxRecDepth 100000 in
set_option maxHeartbeats 4000000 in
theorem cread_main {w : World} {vb : Value} {b : List Nat} (hb : Sv w vb (vals .u8 b)) (h8 : Bs b) (k n : Nat) (hk : 1 ≤ k ∧ k ≤ 3) (hn : n ≤ 256) :
    Calls Tryz.prog 14 #[.int .u8 (k : Int), vb, .int .i64 (n : Int)] w (RPost6 k b (n : Int) w) := by
  have HSB := hidden hb
  have H8 := hidden h8
  have HOF := hidden (ofColumns_any k)
  rw [decide_eq_true hk] at HOF
  have hb0 := hb
  obtain ⟨a, cap, rfl, hcap, hcm⟩ := hb.form1
  rw [vals_length] at *
  have hn0 : ¬ (n : Int) < 0 := by omega
  have hn1 : ¬ (n : Int) > 256 := by omega
  have HST : Hid (Rs (w.alloc (.cells #[.slice a b.length cap, .int .i64 0] 72)) w.heap.size b 0) := hidden (by
    refine ⟨a, cap, heap_new _ _, hb0.kept (below_one w _), fun h0 j hj => ?_, h8⟩
    obtain ⟨a', cap', e, _, _, _, h4⟩ := hb0
    rw [vals_length] at e h4
    simp only [Value.slice.injEq] at e
    obtain ⟨rfl, _, _⟩ := e
    obtain ⟨g, off, rfl, h5, _⟩ := h4 h0
    cases hj
    exact h5)
  have hza := World.size_alloc w (.cells #[.slice a b.length cap, .int .i64 0] 72)
  have HCO := hidden (column_any HST.out k n hk hn)
  have HBA := hidden (below_one w (.cells #[.slice a b.length cap, .int .i64 0] 72))
  have HK := hidden hk
  have HNONE := hidden (fun l f' hc h => cp_none (k := k) (n := n) (b := b) (l := l) (f' := f') hk hn h8 hc h)
  have HTM := hidden (fun l er h => told_main (k := k) (n := n) (b := b) (l := l) (er := er) hk hn h)
  have HIFF := hidden (fun l => (readC_iff (k := k) (n := n) (b := b) (l := l) hk hn h8).2)
  clear hb hb0 h8 hk hcap hcm
  go_enter Tryz.func14, Tryz.ntmps14
  go_wp2_with fail
  refine (HOF.out _).mono ?_
  rintro e w1 ⟨rfl, rfl⟩
  go_wp2_with fail
  refine HCO.out.mono ?_
  rintro e w2 ⟨l, b2, f2, ⟨v2, rfl, ho2⟩, hs2, hcp, hf2⟩
  have hb2 : Below w1.heap.size w1 w2 := HBA.out.trans (hf2.below (Nat.le_refl _) (by omega))
  have HO2 := hidden (own_low (B := w1.heap.size) ho2 (by omega))
  have HS2 := hidden hs2
  have HCP := hidden hcp
  have HB2 := hidden hb2
  have hz2 := hb2.size
  have hlt2 := hs2.lt
  obtain ⟨a0, cap0, k0, k1, k2, k3, k4, k5, k6, k7, k8, k9, k10⟩ := hs2.cells
  obtain ⟨av, cv, rfl, _, _⟩ := own_slice ho2
  have HV2 := hidden (OwnV.sv ho2)
  have HVB := hidden (fun j hj => (ho2.lt j hj).2)
  clear ho2 hs2 hcp hf2 hb2 k0 k2 k3 k4 k5 k6 k7 k8 k9 k10
  by_cases hf0 : f2 = 0
  · subst hf0
    obtain ⟨hcol, hlen⟩ := HCP.out.2.1 rfl
    have HWR := hidden (cwritten_any (HSB.out.kept HB2.out) H8.out HV2.out HVB.out hcol)
    have HCOL := hidden hcol
    have HLEN := hidden hlen
    clear hcol hlen
    by_cases heq : colM k l = b
    · rw [decide_eq_true heq] at HWR
      have HTD := hidden (HTM.out l 0 (Or.inl ⟨rfl, HIFF.out l ⟨HCOL.out, HLEN.out, heq⟩⟩))
      clear heq
      go_wp2_with fail
      refine HWR.out.mono ?_
      rintro e w3 ⟨rfl, hb3⟩
      have HO3 := hidden (own_kept HO2.out hb3)
      have HB3 := hidden (HB2.out.trans (hb3.mono hz2))
      have hk1' := (HS2.out.kept hb3 hlt2).cells
      obtain ⟨a3, cap3, q0, q1, q2, q3, q4, q5, q6, q7, q8, q9, q10⟩ := hk1'
      clear hb3 q0 q2 q3 q4 q5 q6 q7 q8 q9 q10 k1
      go_wp2_with fail
      go_ret2
      exact ⟨_, l, 0, rfl, HO3.out, HTD.out, HB3.out⟩
    · rw [decide_eq_false heq] at HWR
      have HTD := hidden (HTM.out [] 40 (Or.inr ⟨by omega, er40, rfl, HNONE.out l 0 HCP.out (fun h => heq h.2)⟩))
      clear heq
      go_wp2_with fail
      refine HWR.out.mono ?_
      rintro e w3 ⟨rfl, hb3⟩
      have HB3 := hidden (HB2.out.trans (hb3.mono hz2))
      have hz3 := hb3.size
      have HS3 := hidden (HS2.out.kept hb3 hlt2)
      clear hb3 k1
      go_wp2_with fail
      refine (crefuse_any HS3.out 40).mono ?_
      rintro e w4 ⟨rfl, hs4, hf4⟩
      rw [orf_zero] at hs4
      have HB4 := hidden (HB3.out.trans (hf4.below (Nat.le_refl _) (by omega)))
      obtain ⟨a3, cap3, q0, q1, q2, q3, q4, q5, q6, q7, q8, q9, q10⟩ := hs4.cells
      clear hs4 hf4 q0 q2 q3 q4 q5 q6 q7 q8 q9 q10
      go_wp2_with fail
      go_quiet (fail)
      go_wp2_with fail
      go_ret2
      exact ⟨_, [], 40, rfl, OwnV.nil _ _, HTD.out, HB4.out.trans ⟨rfl, rfl, rfl, Nat.le_refl _, fun _ _ => rfl⟩⟩
  · have hne : ((f2 : Int) != 0) = true := by simpa using hf0
    have hne2 : ((f2 : Int) == 0) = false := by simpa using hf0
    have HTD := hidden (HTM.out [] f2 (Or.inr ⟨hf0, HCP.out.1, rfl, HNONE.out l f2 HCP.out (fun h => hf0 h.1)⟩))
    clear hf0
    go_wp2_with fail
    go_quiet (fail)
    go_wp2_with fail
    go_ret2
    exact ⟨_, [], f2, rfl, OwnV.nil _ _, HTD.out, HB2.out.trans ⟨rfl, rfl, rfl, Nat.le_refl _, fun _ _ => rfl⟩⟩

set_option maxRecDepth 100000 in
set_option maxHeartbeats 2000000 in
theorem cread_any {w : World} {vb : Value} {b : List Nat} (hb : Sv w vb (vals .u8 b)) (h8 : Bs b) (k : Nat) (n : Int) :
    Calls Tryz.prog 14 #[.int .u8 (k : Int), vb, .int .i64 n] w (RPost6 k b n w) := by
  by_cases hk : 1 ≤ k ∧ k ≤ 3
  · by_cases hn : 0 ≤ n ∧ n ≤ 256
    · obtain ⟨m, rfl⟩ : ∃ m : Nat, n = (m : Int) := ⟨n.toNat, by omega⟩
      exact cread_main hb h8 k m hk (by omega)
    · have HOF := hidden (ofColumns_any k)
      rw [decide_eq_true hk] at HOF
      have HTD : Hid (Told6 k b n [] 1) := hidden (by unfold Told6; rw [if_pos hk, if_neg hn]; exact ⟨rfl, rfl⟩)
      obtain ⟨a, cap, rfl, _, _⟩ := hb.form1
      clear hb h8 hk
      by_cases h0 : n < 0
      · clear hn
        go_enter Tryz.func14, Tryz.ntmps14
        go_wp2_with fail
        refine (HOF.out _).mono ?_
        rintro e w1 ⟨rfl, rfl⟩
        go_wp2_with fail
        go_ret2
        exact ⟨_, [], 1, rfl, OwnV.nil _ _, HTD.out, Below.refl _ _⟩
      · have h1 : n > 256 := by omega
        clear hn
        go_enter Tryz.func14, Tryz.ntmps14
        go_wp2_with fail
        refine (HOF.out _).mono ?_
        rintro e w1 ⟨rfl, rfl⟩
        go_wp2_with fail
        go_ret2
        exact ⟨_, [], 1, rfl, OwnV.nil _ _, HTD.out, Below.refl _ _⟩
  · have HOF := hidden (ofColumns_any k)
    rw [decide_eq_false hk] at HOF
    have HTD : Hid (Told6 k b n [] 10) := hidden (by unfold Told6; rw [if_neg hk]; exact ⟨rfl, rfl⟩)
    obtain ⟨a, cap, rfl, _, _⟩ := hb.form1
    clear hb h8 hk
    go_enter Tryz.func14, Tryz.ntmps14
    go_wp2_with fail
    refine (HOF.out _).mono ?_
    rintro e w1 ⟨rfl, rfl⟩
    go_wp2_with fail
    go_ret2
    exact ⟨_, [], 10, rfl, OwnV.nil _ _, HTD.out, Below.refl _ _⟩
end Go.Proofs.YtcmmednihoaekaaGreat
