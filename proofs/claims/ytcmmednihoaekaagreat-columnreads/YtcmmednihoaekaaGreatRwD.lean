/- Contracts of the document's layer 6: Write. -/
import Derived.Test.YtcmmednihoaekaaGreatRwC
set_option linter.unusedVariables false
set_option linter.unusedSimpArgs false
namespace Go.Proofs.YtcmmednihoaekaaGreat
open Go.RowKit Go.Lib

theorem below_then' {B : Nat} {a w w2 : World} (h : Below B a w) (h2 : Below w.heap.size w w2) (hB : B ≤ w.heap.size := by omega) : Below B a w2 := h.trans (h2.mono hB)

theorem Four.keptB {W W' : World} {B B' : Nat} {a b c d : Value} {L1 L2 : List Nat} {L3 : List Int} {L4 : List (List Nat)} (h : Four W B a b c d L1 L2 L3 L4) (hb : Below B' W W') (hl : ∀ (x : Value) k, x = a ∨ x = b ∨ x = c ∨ x = d → x.ownBlock = some k → k < B') : Four W' B a b c d L1 L2 L3 L4 := by
  have key : ∀ {e n : Nat} {v : Value} {xs : List Value}, W.ownsRow B e 1 v n xs → (∀ k, v.ownBlock = some k → k < B') → W'.ownsRow B e 1 v n xs := fun {e n v xs} h hv => by
    obtain ⟨h0, h | ⟨g, cap, cur, rfl, h2, h3, h4⟩⟩ := h
    · exact ⟨h0, Or.inl h⟩
    · exact ⟨h0, Or.inr ⟨g, cap, cur, rfl, h2, (hb.block g (hv g rfl)).trans h3, h4⟩⟩
  exact ⟨key h.1 (fun k => hl a k (by simp)), key h.2.1 (fun k => hl b k (by simp)), key h.2.2.1 (fun k => hl c k (by simp)), key h.2.2.2.1 (fun k => hl d k (by simp)), h.2.2.2.2⟩

theorem cell_new_at (w : World) (v : Value) (t n : Nat) (h : w.heap.size = n) : (w.alloc (.cells #[v] t)).cell? ⟨n, 0, none⟩ = some v := by
  subst h
  exact cell_new _ _ _

set_option maxRecDepth 100000 in
set_option maxHeartbeats 16000000 in
theorem refWrite_any {w : World} {v : Value} {l : List (Nat × Int × List Nat)} (hs : Sc w v l) (hf : ∀ c ∈ l, Finew c) (hl : l.length ≤ 600) (k : Nat) (hk : k < 256) :
    Calls Tryz.prog 12 #[.int .i64 (k : Int), v] w (WritePost (writeC k l) w) := by
  have HS := hidden hs
  have HF := hidden hf
  obtain ⟨a, cap, rfl, hcap, hcm⟩ := hs.form
  have hcm' : cap ≤ 9223372036854775807 := by unfold maxLen at hcm; omega
  by_cases hk3 : 1 ≤ k ∧ k ≤ 3
  · have hk1 : ¬ (k : Int) < 1 := by omega
    have hk2 : ¬ (k : Int) > 3 := by omega
    have HKIND := hidden (fun (c : Nat × Int × List Nat) (hc : c ∈ l) (h : c.1 ≠ 0 ∧ c.1 ≠ k) => writeC_kind (k := k) (l := l) (fun h2 => by
      rcases h2.2.2 c hc with e | e
      · exact h.1 e
      · exact h.2 e))
    have HLONG := hidden (fun (h : ∀ c ∈ l, c.1 = 0 ∨ c.1 = k) (h2 : ¬ (l.length ≤ 256 ∧ ∀ c ∈ l, c.2.2.length ≤ 64)) => writeC_long (k := k) (l := l) ⟨hk3.1, hk3.2, h⟩ h2)
    have HGOOD := hidden (fun (h : ∀ c ∈ l, c.1 = 0 ∨ c.1 = k) (h1 : l.length ≤ 256) (h2 : ∀ c ∈ l, c.2.2.length ≤ 64) => (⟨hk3, h1, fun c hc => ((hf c hc).fine (h2 c hc)).cellk (h c hc)⟩ : Col k l))
    have HWC := hidden (fun h => writeC_col (k := k) (l := l) h)
    clear hs hf hcm
    generalize writeC k l = WC at *
    go_enter Tryz.func12, Tryz.ntmps12
    go_wp2_with fail
    go_loopw [6] (fun i wr => ∃ j : Nat, j ≤ l.length ∧ i = .int .i64 (j : Int) ∧ (∀ c ∈ l.take j, c.1 = 0 ∨ c.1 = k) ∧ Below w.heap.size w wr) (fun i _ => l.length - (intOf i).toNat)
    case atStart => exact ⟨0, by omega, rfl, fun c hc => by simp at hc, Below.refl _ _⟩
    case round =>
      obtain ⟨j, hj, rfl, hall, hbel⟩ := hrel
      have HA := hidden hall
      have HB := hidden hbel
      have hzr := hbel.size
      clear hall hbel
      by_cases hlt : j < l.length
      · obtain ⟨g, off, rfl, hg, c0, c1, c2⟩ := (HS.out.kept HB.out).at hlt
        have hlt' : (j : Int) < (l.length : Int) := by omega
        have HM := hidden (List.getElem_mem hlt)
        have HT : Hid (∀ c, c ∈ l.take (j + 1) → c ∈ l.take j ∨ c = l[j]) := hidden (fun c hc => by
          rw [List.take_succ_eq_append_getElem hlt] at hc
          rcases List.mem_append.1 hc with h | h
          · exact Or.inl h
          · exact Or.inr (by simpa using h))
        have hc3 := (HF.out l[j] (List.getElem_mem hlt)).parts.1
        rw [txt_eq] at c2
        have HBN : Hid (∀ o, Below w.heap.size w (wr.alloc o)) := hidden (fun o => HB.out.alloc hzr o)
        generalize l[j] = c at *
        obtain ⟨ck, cn, cs⟩ := c
        simp only at *
        by_cases h0 : ((ck : Int) != 0) = true
        · by_cases h1 : ((ck : Int) != (k : Int)) = true
          · have HE : Hid (WC = ([], 10)) := hidden (HKIND.out _ HM.out (by
              have a1 : (ck : Int) ≠ 0 := by simpa using h0
              have a2 : (ck : Int) ≠ (k : Int) := by simpa using h1
              exact ⟨by simp only; omega, by simp only; omega⟩))
            go_wp2_with fail
            go_ret2
            rw [HE.out]
            exact ⟨⟨_, rfl, OwnB.nil _ _⟩, HBN.out _⟩
          · have h1' : ((ck : Int) != (k : Int)) = false := by simpa using h1
            have HCK : Hid (ck = k) := hidden (by have : (ck : Int) = (k : Int) := by simpa using h1
                                                  omega)
            clear h1
            go_wp2_with fail
            go_roundw
            case rel => exact ⟨j + 1, by omega, by go_num, fun c hc => (HT.out c hc).elim (HA.out c) (fun e => by rw [e]; exact Or.inr HCK.out), HBN.out _⟩
            case measure => simp [intOf]; omega
        · have h0' : ((ck : Int) != 0) = false := by simpa using h0
          have HCK : Hid (ck = 0) := hidden (by have : (ck : Int) = 0 := by simpa using h0
                                                omega)
          clear h0
          go_wp2_with fail
          go_roundw
          case rel => exact ⟨j + 1, by omega, by go_num, fun c hc => (HT.out c hc).elim (HA.out c) (fun e => by rw [e]; exact Or.inl HCK.out), HBN.out _⟩
          case measure => simp [intOf]; omega
      · obtain rfl : j = l.length := by omega
        rw [List.take_length] at HA
        have hge : ¬ ((l.length : Nat) : Int) < (l.length : Int) := by omega
        by_cases h256 : l.length ≤ 256
        · have h256' : ¬ (l.length : Int) > 256 := by omega
          generalize wr = W1 at *
          go_wp2_with fail
          go_loopw [8, 9, 10, 11, 12, 13] (fun q1 q2 q3 q4 nu i wr => ∃ j : Nat, j ≤ l.length ∧ i = .int .i64 (j : Int) ∧ nu = .bool (decide (0 ∈ there (l.take j))) ∧ (∀ c ∈ l.take j, c.2.2.length ≤ 64) ∧ Four wr w.heap.size q1 q2 q3 q4 (there (l.take j)) (tr4 (l.take j)) (wh4 (l.take j)) (wd4 (l.take j)) ∧ Below w.heap.size w wr) (fun _ _ _ _ _ i _ => l.length - (intOf i).toNat)
          case atStart => exact ⟨0, by omega, rfl, rfl, fun c hc => by simp at hc, Four.nil _ _, HB.out⟩
          case round =>
            obtain ⟨j, hj, rfl, rfl, hsh, hfour, hbel⟩ := hrel
            have HSH := hidden hsh
            have HFO := hidden hfour
            have HB2 := hidden hbel
            have hz2 := hbel.size
            clear hsh hfour hbel
            by_cases hlt : j < l.length
            · obtain ⟨g, off, rfl, hg, c0, c1, c2⟩ := (HS.out.kept HB2.out).at hlt
              have hlt' : (j : Int) < (l.length : Int) := by omega
              have HM := hidden (List.getElem_mem hlt)
              have HT : Hid (∀ c, c ∈ l.take (j + 1) → c ∈ l.take j ∨ c = l[j]) := hidden (fun c hc => by
                rw [List.take_succ_eq_append_getElem hlt] at hc
                rcases List.mem_append.1 hc with h | h
                · exact Or.inl h
                · exact Or.inr (by simpa using h))
              have HFN := hidden (HF.out l[j] (List.getElem_mem hlt))
              have hc3 := HFN.out.parts.1
              rw [txt_eq] at c2
              have HN4 := hidden (fun h0 => four_null hlt h0)
              have HS4 := hidden (fun h0 => four_some hlt h0)
              have hln := four_len l j
              obtain ⟨hln1, hln2, hln3, hln4⟩ := hln
              have HBN : Hid (∀ o, Below w.heap.size w (wr.alloc o)) := hidden (fun o => HB2.out.alloc hz2 o)
              have hsz : (bytesT l[j].2.2).size = l[j].2.2.length := bytesT_size _
              have HSZ := hidden hsz
              clear hsz
              generalize l[j] = c at *
              obtain ⟨ck, cn, cs⟩ := c
              simp only at *
              by_cases h64 : cs.length ≤ 64
              · have h64' : ¬ ((bytesT cs).size : Int) > 64 := by rw [HSZ.out]; omega
                have HSH' : Hid (∀ c ∈ l.take (j + 1), c.2.2.length ≤ 64) := hidden (fun c hc => (HT.out c hc).elim (HSH.out c) (fun e => by rw [e]; exact h64))
                clear h64
                by_cases h0 : ck = 0
                · obtain ⟨e1, e2, e3, e4⟩ := HN4.out h0
                  have HE4 := hidden (And.intro e1 (And.intro e2 (And.intro e3 e4)))
                  have HDT : Hid (decide (0 ∈ there (l.take (j + 1))) = true) := hidden (decide_eq_true (by rw [e1]; simp))
                  clear e1 e2 e3 e4 HS4 HN4
                  subst h0
                  have HFW := hidden (HFO.out.kept (below_one wr (.cells #[.int .u8 0, .int .i64 cn, .string (bytesT cs)] 45)))
                  have hzA := World.size_alloc wr (.cells #[.int .u8 0, .int .i64 cn, .string (bytesT cs)] 45)
                  generalize there (l.take j) = L1 at *
                  generalize tr4 (l.take j) = L2 at *
                  generalize wh4 (l.take j) = L3 at *
                  generalize wd4 (l.take j) = L4 at *
                  generalize decide (0 ∈ L1) = nul0 at *
                  go_wp2_with (first | (at_builtin; refine wpList_append_ug rfl _ _ rfl w.heap.size _ _ 0 L1 rfl (HFW.out.1.kept (below_one _ _)) rfl (cell_new_at _ _ _ _ hzA) (by omega) ?c2 ?_))
                  case c2 => first | omega | (rw [World.size_alloc]; omega)
                  intro v5 w5 o5 g5 n5
                  have HF5 := hidden ((HFW.out.kept (below_one _ _)).g1 o5 g5 (by simpa [World.size_alloc] using n5))
                  have HB5 := hidden (((HBN.out (.cells #[.int .u8 0, .int .i64 cn, .string (bytesT cs)] 45)).alloc (by omega) _).grown g5 (by rw [World.size_alloc]; omega) (fun k hk => (HFW.out.1.lt k hk).1))
                  clear o5 g5 n5
                  go_wp2_with fail
                  go_roundw
                  case rel => exact ⟨j + 1, by omega, by go_num, by rw [HDT.out], HSH'.out, by rw [HE4.out.1, HE4.out.2.1, HE4.out.2.2.1, HE4.out.2.2.2]; exact HF5.out, HB5.out⟩
                  case measure => simp [intOf]; omega
                · skip
                  have hne0 : ((ck : Int) == 0) = false := beq_eq_false_iff_ne.2 (by omega)
                  obtain ⟨e1, e2, e3, e4⟩ := HS4.out h0
                  have HE4 := hidden (And.intro e1 (And.intro e2 (And.intro e3 e4)))
                  have HDT : Hid (decide (0 ∈ there (l.take (j + 1))) = decide (0 ∈ there (l.take j))) := hidden (by rw [e1]; simp)
                  clear e1 e2 e3 e4 HS4 HN4 h0
                  have HFW := hidden (HFO.out.kept (below_one wr (.cells #[.int .u8 (ck : Int), .int .i64 cn, .string (bytesT cs)] 45)))
                  have hzA := World.size_alloc wr (.cells #[.int .u8 (ck : Int), .int .i64 cn, .string (bytesT cs)] 45)
                  have HCB0 : Hid ((wr.alloc (.cells #[.int .u8 (ck : Int), .int .i64 cn, .string (bytesT cs)] 45)).heap[wr.heap.size]? = some (.cells #[.int .u8 (ck : Int), .int .i64 cn, .string (bytesT cs)] 45 (0, 0))) := hidden (heap_alloc_new _ _)
                  have HNE1 : Hid (∀ x : Value, x = u8 ∨ x = u9 ∨ x = u10 ∨ x = u11 → some wr.heap.size ≠ x.ownBlock) := hidden (fun x hx e => by
                    rcases hx with rfl | rfl | rfl | rfl
                    · have := (HFO.out.1.lt _ e.symm).2; omega
                    · have := (HFO.out.2.1.lt _ e.symm).2; omega
                    · have := (HFO.out.2.2.1.lt _ e.symm).2; omega
                    · have := (HFO.out.2.2.2.1.lt _ e.symm).2; omega)
                  generalize decide (0 ∈ there (l.take j)) = nul0 at *
                  generalize there (l.take j) = L1 at *
                  generalize tr4 (l.take j) = L2 at *
                  generalize wh4 (l.take j) = L3 at *
                  generalize wd4 (l.take j) = L4 at *
                  have hconv : IntKind.u64.wrap cn = (uwrap cn : Int) := uwrap_wrap cn
                  generalize hU : uwrap cn = U at *
                  clear hU
                  go_wp2_with (first | (at_builtin; refine wpList_append_ug rfl _ _ rfl w.heap.size _ _ 1 L1 rfl (HFW.out.1.kept (below_one _ _)) rfl (cell_new_at _ _ _ _ hzA) (by omega) ?c2 ?_))
                  case c2 => first | omega | (rw [World.size_alloc]; omega)
                  intro v5 w5 o5 g5 n5
                  have HF5 := hidden ((HFW.out.kept (below_one _ _)).g1 o5 g5 (by simpa [World.size_alloc] using n5))
                  have hb5 : Below w.heap.size w w5 := ((HBN.out (.cells #[.int .u8 (ck : Int), .int .i64 cn, .string (bytesT cs)] 45)).alloc (by omega) _).grown g5 (by rw [World.size_alloc]; omega) (fun k hk => (HFW.out.1.lt k hk).1)
                  have hz5 := g5.size
                  rw [World.size_alloc, hzA] at hz5
                  have hC5 : w5.heap[wr.heap.size]? = some (.cells #[.int .u8 (ck : Int), .int .i64 cn, .string (bytesT cs)] 45 (0, 0)) := (g5.block _ (by rw [World.size_alloc]; omega) (HNE1.out _ (by simp))).trans (((below_one _ _).block _ (by omega)).trans HCB0.out)
                  have hc51 : w5.cell? ⟨wr.heap.size, 1, none⟩ = some (.int .i64 cn) := by rw [cell_block hC5]; rfl
                  have HB5 := hidden hb5
                  have HC5 := hidden hC5
                  have hzz5 := hb5.size
                  clear o5 g5 n5 hb5 hC5 c0 c1 c2
                  go_wp2_with (first | (at_builtin; refine wpList_append_ig rfl _ _ rfl w.heap.size _ _ cn L3 rfl (HF5.out.2.2.1.kept (below_one _ _)) rfl (cell_new _ _ _) (by omega) ?c3 ?_))
                  case c3 => first | omega | (rw [World.size_alloc]; omega)
                  intro v6 w6 o6 g6
                  have HF6 := hidden ((HF5.out.kept (below_one _ _)).g3 o6 g6)
                  have hb6 : Below w.heap.size w w6 := (HB5.out.alloc hzz5 _).grown g6 (by rw [World.size_alloc]; omega) (fun k hk => (HFO.out.2.2.1.lt k hk).1)
                  have hz6 := g6.size
                  rw [World.size_alloc] at hz6
                  have hC6 : w6.heap[wr.heap.size]? = some (.cells #[.int .u8 (ck : Int), .int .i64 cn, .string (bytesT cs)] 45 (0, 0)) := (g6.block _ (by rw [World.size_alloc]; omega) (HNE1.out _ (by simp))).trans (((below_one _ _).block _ (by omega)).trans HC5.out)
                  have hc61 : w6.cell? ⟨wr.heap.size, 1, none⟩ = some (.int .i64 cn) := by rw [cell_block hC6]; rfl
                  have HB6 := hidden hb6
                  have HC6 := hidden hC6
                  have hzz6 := hb6.size
                  clear o6 g6 hb6 hC6 hc51
                  go_wp2_with (first | (at_builtin; refine wpList_append_ug rfl _ _ rfl w.heap.size _ _ U L2 rfl (HF6.out.2.1.kept (below_one _ _)) rfl (cell_new _ _ _) (by omega) ?c4 ?_))
                  case c4 => first | omega | (rw [World.size_alloc]; omega)
                  intro v7 w7 o7 g7 n7
                  have HF7 := hidden ((HF6.out.kept (below_one _ _)).g2 o7 g7 (by simpa [World.size_alloc] using n7))
                  have hb7 : Below w.heap.size w w7 := (HB6.out.alloc hzz6 _).grown g7 (by rw [World.size_alloc]; omega) (fun k hk => (HFO.out.2.1.lt k hk).1)
                  have hz7 := g7.size
                  rw [World.size_alloc] at hz7
                  have hC7 : w7.heap[wr.heap.size]? = some (.cells #[.int .u8 (ck : Int), .int .i64 cn, .string (bytesT cs)] 45 (0, 0)) := (g7.block _ (by rw [World.size_alloc]; omega) (HNE1.out _ (by simp))).trans (((below_one _ _).block _ (by omega)).trans HC6.out)
                  have hc72 : w7.cell? ⟨wr.heap.size, 2, none⟩ = some (.string (bytesT cs)) := by rw [cell_block hC7]; rfl
                  have HB7 := hidden hb7
                  have hzz7 := hb7.size
                  clear o7 g7 n7 hb7 hC7 hc61
                  go_wp2_with (first | (at_builtin; refine wpList_append_stg rfl _ _ rfl w.heap.size _ _ cs L4 rfl (HF7.out.2.2.2.1.kept (below_one _ _)) rfl (cell_new _ _ _) (by omega) ?c5 ?_))
                  case c5 => first | omega | (rw [World.size_alloc]; omega)
                  intro v8 w8 o8 g8
                  have HF8 := hidden ((HF7.out.kept (below_one _ _)).g4 o8 g8)
                  have HB8 := hidden ((HB7.out.alloc hzz7 _).grown g8 (by rw [World.size_alloc]; omega) (fun k hk => (HFO.out.2.2.2.1.lt k hk).1))
                  clear o8 g8
                  go_wp2_with fail
                  go_roundw
                  case rel => exact ⟨j + 1, by omega, by go_num, by rw [HDT.out], HSH'.out, by rw [HE4.out.1, HE4.out.2.1, HE4.out.2.2.1, HE4.out.2.2.2]; exact HF8.out, HB8.out⟩
                  case measure => simp [intOf]; omega
              · have h64' : ((bytesT cs).size : Int) > 64 := by rw [HSZ.out]; omega
                have HE : Hid (WC = ([], 5)) := hidden (HLONG.out HA.out (fun h => h64 (h.2 _ HM.out)))
                clear h64
                go_wp2_with fail
                go_ret2
                rw [HE.out]
                exact ⟨⟨_, rfl, OwnB.nil _ _⟩, HBN.out _⟩
            · skip
              obtain rfl : j = l.length := by omega
              rw [List.take_length] at HSH HFO
              rw [List.take_length]
              have hge2 : ¬ ((l.length : Nat) : Int) < (l.length : Int) := by omega
              have hcol := HGOOD.out HA.out h256 HSH.out
              have HWE := hidden (HWC.out hcol)
              have hhd := (head_size (l := l) h256).1
              have hol := ownC_length l
              have HHN := hidden (headB_no (l := l))
              have HHY := hidden (headB_yes (l := l))
              have HTT := hidden (there_two l)
              have hpl := packR_short (there_two l) (by rw [there_length]; exact h256)
              have HCM : Hid (colM k l = headB l ++ tailB k l) := rfl
              have HT1 := hidden (tail_1 l)
              have HT2 := hidden (tail_2 l)
              have HT3 := hidden (tail_3 l)
              have HCC := hidden hcol.2.2
              have hkk := hcol.1
              clear HGOOD HWC hcol HKIND HLONG
              by_cases h0 : 0 ∈ there l
              · rw [decide_eq_true h0]
                have HHB := hidden (HHY.out h0)
                clear h0 HHN HHY
                have HFA := hidden (HFO.out.kept (below_one wr (.cells #[.int .u8 0] 5)))
                have hzA := World.size_alloc wr (.cells #[.int .u8 0] 5)
                have HFB := hidden (HFA.out.kept (below_one _ (.cells #[.int .u8 1] 5)))
                have hzB := World.size_alloc (wr.alloc (.cells #[.int .u8 0] 5)) (.cells #[.int .u8 1] 5)
                have HBB := hidden ((HB2.out.alloc hz2 (.cells #[.int .u8 0] 5)).alloc (by omega) (.cells #[.int .u8 1] 5))
                have HLT := hidden (lit_own (wr.alloc (.cells #[.int .u8 0] 5)) 1)
                rw [hzA] at HLT
                have HFLG := hidden (flags_any HFB.out.1.sv (fun x hx => by have := HTT.out x hx; omega))
                generalize hPK : packR (there l) 1 = PK at *
                clear hPK
                go_wp2_with fail
                refine HFLG.out.mono ?_
                rintro e w1 ⟨⟨v1, rfl, o1⟩, hb1⟩
                have HO1 := hidden o1
                have HL1 := hidden (HLT.out.kept hb1)
                have HFC := hidden (HFB.out.kept hb1)
                have hz1 := hb1.size
                have HB1 := hidden (HBB.out.trans (hb1.mono (by omega)))
                clear o1 hb1
                go_wp2_with (first | (at_builtin; refine wpList_append_sv rfl _ _ rfl (wr.heap.size + 1) _ _ [1] PK rfl HL1.out rfl HO1.out.sv ?a1 ?a2 ?_))
                case a1 => simp; omega
                case a2 => omega
                intro vb wx ob bb
                have HVB : Hid (OwnB wx w.heap.size vb (headB l)) := hidden (by rw [HHB.out]; exact ob.low (by omega))
                have HFX : Hid (Four wx w.heap.size _ _ _ _ (there l) (tr4 l) (wh4 l) (wd4 l)) := hidden (by
                  have hq := HFO.out
                  have hf3 : ∀ x : Value, (∃ k, x.ownBlock = some k ∧ ¬ k < wr.heap.size + 1) → x = u8 ∨ x = u9 ∨ x = u10 ∨ x = u11 → False := fun x ⟨k, hk, hn⟩ hx => by
                    rcases hx with rfl | rfl | rfl | rfl
                    · have := (hq.1.lt _ hk).2; omega
                    · have := (hq.2.1.lt _ hk).2; omega
                    · have := (hq.2.2.1.lt _ hk).2; omega
                    · have := (hq.2.2.2.1.lt _ hk).2; omega
                  exact Four.keptB HFC.out bb (fun x k hx hk => by
                    rcases Nat.lt_or_ge k (wr.heap.size + 1) with h | h
                    · exact h
                    · exact (hf3 x ⟨k, hk, by omega⟩ hx).elim))
                have HBX := hidden (HB1.out.trans (bb.mono (by omega)))
                have hzx := HBX.out.size
                clear ob bb HFA HFB HFC HBB HB1 HL1 HO1 HLT HFLG
                obtain rfl | rfl | rfl : k = 1 ∨ k = 2 ∨ k = 3 := by omega
                · have hin := ownC_ints HCC.out
                  have hbl := bstC_len hin.1 (by rw [List.length_map]; omega)
                  have HBE := hidden (refBest_any HFX.out.2.2.1.sv hin.1)
                  have hwl : (wh4 l).length ≤ 256 := by unfold wh4; rw [List.length_map]; omega
                  rw [bstC_best hwl] at HBE
                  have HT1' : Hid (tailB 1 l = bstC (wh4 l)) := hidden HT1.out
                  have hbl' : (bstC (wh4 l)).length ≤ 5131 := hbl
                  clear hin hbl
                  generalize bstC (wh4 l) = BS at *
                  go_wp2_with fail
                  refine HBE.out.mono ?_
                  rintro e wy ⟨⟨vy, rfl, oy⟩, hby⟩
                  have HVY := hidden (HVB.out.kept hby)
                  have HOY := hidden oy
                  have HBY := hidden (HBX.out.trans (hby.mono hzx))
                  have hzy := HBY.out.size
                  clear oy hby
                  go_wp2_with (first | (at_builtin; refine wpList_append_sv rfl _ _ rfl w.heap.size _ _ (headB l) BS rfl HVY.out rfl HOY.out.sv ?b1 ?b2 ?_))
                  case b1 => omega
                  case b2 => omega
                  intro vz wz oz bz
                  have HOZ := hidden oz
                  have HBZ := hidden (HBY.out.trans bz)
                  clear oz bz
                  go_wp2_with fail
                  go_ret2
                  rw [HWE.out, HCM.out, HT1'.out]
                  exact ⟨⟨_, rfl, HOZ.out⟩, HBZ.out⟩
                · have hin := ownC_truths HCC.out
                  have hbl := packR_short hin.1 (by rw [List.length_map]; omega)
                  have ht4 := tr4_two HCC.out
                  have HBE := hidden (flags_any HFX.out.2.1.sv (fun x hx => by
                    rw [ht4] at hx
                    have := hin.1 x hx
                    omega))
                  rw [ht4] at HBE
                  clear hin ht4
                  have HT2' := hidden HT2.out
                  generalize packR ((ownC l).map fun c => c.2.1.toNat) 1 = BS at *
                  go_wp2_with fail
                  refine HBE.out.mono ?_
                  rintro e wy ⟨⟨vy, rfl, oy⟩, hby⟩
                  have HVY := hidden (HVB.out.kept hby)
                  have HOY := hidden oy
                  have HBY := hidden (HBX.out.trans (hby.mono hzx))
                  have hzy := HBY.out.size
                  clear oy hby
                  go_wp2_with (first | (at_builtin; refine wpList_append_sv rfl _ _ rfl w.heap.size _ _ (headB l) BS rfl HVY.out rfl HOY.out.sv ?b1 ?b2 ?_))
                  case b1 => omega
                  case b2 => omega
                  intro vz wz oz bz
                  have HOZ := hidden oz
                  have HBZ := hidden (HBY.out.trans bz)
                  clear oz bz
                  go_wp2_with fail
                  go_ret2
                  rw [HWE.out, HCM.out, HT2'.out]
                  exact ⟨⟨_, rfl, HOZ.out⟩, HBZ.out⟩
                · have hin := ownC_words HCC.out
                  have hwz := words_size hin.1 (by rw [List.length_map]; omega)
                  have HTS := hidden hin.1
                  have hwl : (wd4 l).length ≤ 256 := by unfold wd4; rw [List.length_map]; omega
                  have HT3' : Hid (tailB 3 l = wordsB (wd4 l)) := hidden HT3.out
                  have HWW : Hid (wordsB (wd4 l) = if (listed (wd4 l)).length < (plain (wd4 l)).length then listed (wd4 l) else plain (wd4 l)) := rfl
                  have HTS4 : Hid (Ts (wd4 l)) := hidden hin.1
                  clear hin HT3 HT1 HT2 HTS hwz
                  have hfx := HFX.out.2.2.2.1
                  have HWD := hidden hfx
                  clear hfx
                  generalize hWW : wd4 l = WW at *
                  clear hWW
                  have hul : (tuq WW).length ≤ 256 := by have := tuq_length WW; omega
                  have HPL : Hid (plain WW = [0] ++ txts WW) := rfl
                  have HLI : Hid (listed WW = [1] ++ uv (tuq WW).length ++ txts (tuq WW) ++ bstC (placesT WW)) := hidden (by unfold listed; simp)
                  have htx1 := txts_len HTS4.out hwl
                  have htx2 := txts_len (tuq_ts HTS4.out) hul
                  have hbp := bstC_len (placesT_i64 hwl) (by rw [placesT_length]; exact hwl)
                  have h10 := uv_ten (n := (tuq WW).length) (by omega)
                  have HUN := hidden (unlikeS_any HWD.out.sv hwl (fun s hs => (HTS4.out s hs).2))
                  go_wp2_with fail
                  refine HUN.out.mono ?_
                  rintro e wu ⟨⟨vu, rfl, ou⟩, hbu⟩
                  have HVU := hidden (HVB.out.kept hbu)
                  have HWU := hidden (HWD.out.kept hbu)
                  have HOU := hidden ou
                  have HBU := hidden (HBX.out.trans (hbu.mono hzx))
                  have hzu := HBU.out.size
                  have HPG := hidden (fun (x : List Nat) (hx : x ∈ WW) => plT_get (mem_tuq.2 hx))
                  obtain ⟨au, cu, rfl, hcu, hcum⟩ := own_slice ou
                  obtain ⟨aw, cw, hvw, hcw, hcwm⟩ := own_slice HWU.out
                  subst hvw
                  have hcum' : cu ≤ 9223372036854775807 := by unfold maxLen at hcum; omega
                  have hcwm' : cw ≤ 9223372036854775807 := by unfold maxLen at hcwm; omega
                  have HBSW : Hid (∀ s ∈ WW, Bs s) := hidden (fun s hs => (HTS4.out s hs).2)
                  have HBSU : Hid (∀ s ∈ tuq WW, Bs s) := hidden (fun s hs => HBSW.out s (mem_tuq.1 hs))
                  clear ou hbu hcum hcwm
                  have HPT : Hid (placesT WW = WW.map fun s => (plT (tuq WW) s : Int)) := rfl
                  have HTQ := hidden (tuq_ts HTS4.out)
                  have HPI := hidden (placesT_i64 hwl)
                  have hptl : (placesT WW).length ≤ 256 := by rw [placesT_length]; exact hwl
                  generalize placesT WW = PT at *
                  generalize hTU : tuq WW = TU at *
                  clear hTU
                  go_wp2_with fail
                  go_loopw [19, 20] (fun o i wq => ∃ j : Nat, j ≤ WW.length ∧ i = .int .i64 (j : Int) ∧ OwnI wq wu.heap.size o ((WW.take j).map fun s => (plT TU s : Int)) ∧ Below wu.heap.size wu wq) (fun _ i _ => WW.length - (intOf i).toNat)
                  case atStart => exact ⟨0, by omega, rfl, OwnI.nil _ _, Below.refl _ _⟩
                  case round =>
                    obtain ⟨j, hj, rfl, hown, hbel⟩ := hrel
                    have HO := hidden hown
                    have HBQ := hidden hbel
                    have hzq := hbel.size
                    clear hown hbel
                    by_cases hlt : j < WW.length
                    · have hlt' : (j : Int) < (WW.length : Int) := by omega
                      obtain ⟨gw, offw, hgw0, hgw, hcw0⟩ := HWU.out.sv.at1 (svals_get hlt)
                      subst hgw0
                      rw [txt_eq] at hcw0
                      have HCW := hidden hcw0
                      obtain ⟨hp1, hp2⟩ := HPG.out WW[j] (List.getElem_mem hlt)
                      have HP2 := hidden hp2
                      have HNX : Hid ((WW.take (j + 1)).map (fun s => (plT TU s : Int)) = (WW.take j).map (fun s => (plT TU s : Int)) ++ [(plT TU WW[j] : Int)]) := hidden (by
                        rw [List.take_succ_eq_append_getElem hlt, List.map_append]
                        rfl)
                      have hlen' : ((WW.take j).map fun s => (plT TU s : Int)).length ≤ 100000 := by rw [List.length_map, List.length_take]; omega
                      have HPN := hidden (fun (q : Nat) (h : q < TU.length) (hq : q < plT TU WW[j]) => plT_ne h hq)
                      have HBX0 := hidden (HBSW.out WW[j] (List.getElem_mem hlt))
                      clear hcw0 hp2
                      generalize WW[j] = x at *
                      generalize ((WW.take j).map fun s => (plT TU s : Int)) = LL at *
                      generalize hpz : plT TU x = pz at *
                      clear hpz
                      generalize wr = WR9 at *
                      go_wp2_with fail
                      go_loopw [21] (fun i wq2 => ∃ q : Nat, q ≤ pz ∧ i = .int .i64 (q : Int) ∧ Below WR9.heap.size WR9 wq2) (fun i _ => pz - (intOf i).toNat)
                      case atStart => exact ⟨0, by omega, rfl, Below.refl _ _⟩
                      case round =>
                        obtain ⟨q, hq, rfl, hbel2⟩ := hrel
                        have HB9 := hidden hbel2
                        have hz9 := hbel2.size
                        clear hbel2
                        have hqu : q < TU.length := by omega
                        have hqu' : (q : Int) < (TU.length : Int) := by omega
                        obtain ⟨gu, offu, hgu0, hgu, hcu0⟩ := HOU.out.sv.at1 (svals_get hqu)
                        cases hgu0
                        rw [txt_eq] at hcu0
                        have hcu1 := (HB9.out.cell (p := ⟨gu, offu + q, none⟩) (Nat.lt_of_lt_of_le hgu hzq)).trans ((HBQ.out.cell (p := ⟨gu, offu + q, none⟩) hgu).trans hcu0)
                        have hcw1 := (HB9.out.cell (p := ⟨gw, offw + j, none⟩) (Nat.lt_of_lt_of_le hgw hzq)).trans ((HBQ.out.cell (p := ⟨gw, offw + j, none⟩) hgw).trans HCW.out)
                        have HBY0 := hidden (HBSU.out TU[q] (List.getElem_mem hqu))
                        have HNE9 := hidden (HPN.out q hqu)
                        have HTQ9 : Hid (q = pz → TU[q] = x) := hidden (fun e => by
                          have := HP2.out
                          subst e
                          rw [List.getElem?_eq_getElem hqu] at this
                          exact Option.some.inj this)
                        have HBA : Hid (∀ n z, Below wu.heap.size wu ((wr.drewN n).alloc (.cells #[.int .i64 z] 2))) := hidden (fun n z => (below_drewN (HBQ.out.trans (HB9.out.mono hzq)) n).alloc (by show wu.heap.size ≤ wr.heap.size; omega) _)
                        have HZA : Hid (∀ n z, wu.heap.size ≤ ((wr.drewN n).alloc (.cells #[.int .i64 z] 2)).heap.size) := hidden (fun n z => by rw [World.size_alloc]; show wu.heap.size ≤ wr.heap.size + 1; omega)
                        have HOA : Hid (∀ n z, OwnI ((wr.drewN n).alloc (.cells #[.int .i64 z] 2)) wu.heap.size _ LL) := hidden (fun n z => ((HO.out.kept HB9.out).kept (below_drewN (Below.refl _ _) n)).kept (below_one _ _))
                        clear hcu0
                        generalize TU[q] = y at *
                        by_cases hqz : q = pz
                        · have hyx := HTQ9.out hqz
                          subst hyx
                          have HQZ := hidden hqz
                          clear hqz
                          go_wp2_with fail
                          go_quiet (fail)
                          go_wp2_with (first | (at_builtin; refine wpList_append_i rfl _ _ rfl wu.heap.size _ _ (q : Int) LL rfl (HOA.out _ (q : Int)) rfl (cell_new _ _ _) hlen' ?f3 ?_))
                          case f3 => first | omega | exact HZA.out _ _
                          intro v7 w7 o7 b7
                          rw [HQZ.out] at o7
                          have HO7 := hidden o7
                          have HB7 := hidden ((HBA.out _ (q : Int)).trans b7)
                          clear o7 b7
                          go_wp2_with fail
                          go_roundw
                          case rel => exact ⟨j + 1, by omega, by go_num, by rw [HNX.out]; exact HO7.out, HB7.out⟩
                          case measure => simp [intOf]; omega
                        · have hne := HNE9.out (by omega)
                          have hyx : ((bytesT y).toList == (bytesT x).toList) = false := by
                            rw [bytesT_toList, bytesT_toList]
                            exact beq_eq_false_iff_ne.2 (fun e => hne (by rw [← map_fwd HBY0.out, ← map_fwd HBX0.out, e]))
                          have HB10 := hidden (below_drewN HB9.out)
                          have hq2 : q + 1 ≤ pz := by omega
                          clear hne hqz
                          go_wp2_with fail
                          go_quiet (fail)
                          go_wp2_with fail
                          go_roundw
                          case rel => exact ⟨q + 1, hq2, by go_num, HB10.out _⟩
                          case measure => simp [intOf]; omega
                    · obtain rfl : j = WW.length := by omega
                      rw [List.take_length, ← HPT.out] at HO
                      have hge3 : ¬ ((WW.length : Nat) : Int) < (WW.length : Int) := by omega
                      have HV9 := hidden (HVU.out.kept HBQ.out)
                      have HW9 := hidden (HWU.out.kept HBQ.out)
                      have HU9 := hidden (HOU.out.kept HBQ.out)
                      have HB9 := hidden (HBU.out.trans (HBQ.out.mono hzu))
                      generalize wr = WR9 at *
                      have HLa := hidden (lit_own WR9 0)
                      have HBa := hidden (below_one WR9 (.cells #[.int .u8 0] 5))
                      have hza := World.size_alloc WR9 (.cells #[.int .u8 0] 5)
                      have HTa := hidden (refTexts_any (HW9.out.kept HBa.out).sv hwl HTS4.out)
                      generalize plain WW = PLN at *
                      generalize listed WW = LST at *
                      generalize hTX1 : txts WW = TX1 at *
                      clear hTX1
                      go_wp2_with fail
                      refine HTa.out.mono ?_
                      rintro e wa ⟨⟨va, rfl, oa⟩, hba⟩
                      have HOa := hidden oa
                      have HLb := hidden (HLa.out.kept hba)
                      have HBab := hidden (HBa.out.trans (hba.mono (by omega)))
                      have hzb := HBab.out.size
                      clear oa hba
                      go_wp2_with (first | (at_builtin; refine wpList_append_sv rfl _ _ rfl WR9.heap.size _ _ [0] TX1 rfl HLb.out rfl HOa.out.sv ?g1 ?g2 ?_))
                      case g1 => simp; omega
                      case g2 => omega
                      intro vc wc oc bc
                      have oc' : OwnB wc WR9.heap.size vc PLN := by rw [HPL.out]; exact oc
                      have HOC := hidden oc'
                      have HBc := hidden (HBab.out.trans bc)
                      have HVc := hidden (HV9.out.kept HBc.out)
                      have HUc := hidden (HU9.out.kept HBc.out)
                      have HPc := hidden (HO.out.kept HBc.out)
                      have HB9c := hidden (below_then' HB9.out HBc.out)
                      obtain ⟨ac, cc, rfl⟩ := oc'.len
                      have hzc := HBc.out.size
                      clear oc oc' bc HLa HBa HTa HOa HLb HBab
                      have HLd := hidden (lit_own wc 1)
                      have HBd := hidden (below_one wc (.cells #[.int .u8 1] 5))
                      have hzd := World.size_alloc wc (.cells #[.int .u8 1] 5)
                      have HPUT := hidden (refPut_told TU.length (by omega))
                      generalize hUV : uv TU.length = UV at *
                      clear hUV
                      go_wp2_with fail
                      refine (HPUT.out _).mono ?_
                      rintro e wd ⟨⟨vd, rfl, od⟩, hbd⟩
                      have HOd := hidden od
                      have HLe := hidden (HLd.out.kept hbd)
                      have HBde := hidden (HBd.out.trans (hbd.mono (by omega)))
                      have hze := HBde.out.size
                      clear od hbd
                      go_wp2_with (first | (at_builtin; refine wpList_append_sv rfl _ _ rfl wc.heap.size _ _ [1] UV rfl HLe.out rfl HOd.out.sv ?i1 ?i2 ?_))
                      case i1 => simp; omega
                      case i2 => omega
                      intro vf wf of bf
                      have HOF := hidden of
                      have HBf := hidden (HBde.out.trans bf)
                      have hzf := HBf.out.size
                      have HTf := hidden (refTexts_any (HUc.out.kept HBf.out).sv hul HTQ.out)
                      generalize hTX2 : txts TU = TX2 at *
                      clear hTX2 of bf HLd HBd HOd HLe HBde
                      go_wp2_with fail
                      refine HTf.out.mono ?_
                      rintro e wg ⟨⟨vg, rfl, og⟩, hbg⟩
                      have HOg := hidden og
                      have HFg := hidden (HOF.out.kept hbg)
                      have HBg := hidden (HBf.out.trans (hbg.mono hzf))
                      have hzg := HBg.out.size
                      have HJ1 : Hid ((1 :: UV).length + TX2.length ≤ 140737488355328) := hidden (by rw [List.length_cons]; omega)
                      clear og hbg
                      go_wp2_with (first | (at_builtin; refine wpList_append_sv rfl _ _ rfl wc.heap.size _ _ (1 :: UV) TX2 rfl HFg.out rfl HOg.out.sv HJ1.out hzg ?_))
                      intro vh wh oh bh
                      have oh' : OwnB wh wc.heap.size vh (1 :: (UV ++ TX2)) := oh
                      have HOH := hidden oh'
                      clear oh'
                      have HBh := hidden (HBg.out.trans bh)
                      have hzh := HBh.out.size
                      have HBEp := hidden (refBest_any (HPc.out.kept HBh.out).sv HPI.out)
                      rw [bstC_best hptl] at HBEp
                      generalize hBP : bstC PT = BP at *
                      clear hBP oh bh
                      go_wp2_with fail
                      refine HBEp.out.mono ?_
                      rintro e wi ⟨⟨vi, rfl, oi⟩, hbi⟩
                      have HOi := hidden oi
                      have HHi := hidden (HOH.out.kept hbi)
                      have HBi := hidden (HBh.out.trans (hbi.mono hzh))
                      have hzi := HBi.out.size
                      have HK1 : Hid ((1 :: (UV ++ TX2)).length + BP.length ≤ 140737488355328) := hidden (by rw [List.length_cons, List.length_append]; omega)
                      clear oi hbi
                      go_wp2_with (first | (at_builtin; refine wpList_append_sv rfl _ _ rfl wc.heap.size _ _ (1 :: (UV ++ TX2)) BP rfl HHi.out rfl HOi.out.sv HK1.out hzi ?_))
                      intro vj wj oj bj
                      have oj' : OwnB wj wc.heap.size vj LST := by rw [HLI.out]; simpa using oj
                      have HOJ := hidden oj'
                      have HBj := hidden (HBi.out.trans bj)
                      have hzj := HBj.out.size
                      have HCj := hidden (HOC.out.kept HBj.out)
                      have HVj := hidden (HVc.out.kept HBj.out)
                      have HB9j := hidden (below_then' HB9c.out HBj.out)
                      have hz9j := HB9j.out.size
                      obtain ⟨aj, cj, rfl⟩ := oj'.len
                      have hlst : LST.length ≤ 40000 := by rw [HLI.out]; simp; omega
                      have hpln : PLN.length ≤ 40000 := by rw [HPL.out]; simp; omega
                      have HL1a : Hid ((headB l).length + LST.length ≤ 140737488355328) := hidden (by omega)
                      have HL1b : Hid ((headB l).length + PLN.length ≤ 140737488355328) := hidden (by omega)
                      clear oj oj' bj
                      by_cases hless : LST.length < PLN.length
                      · have hless' : (LST.length : Int) < (PLN.length : Int) := by omega
                        rw [if_pos hless] at HWW
                        clear hless
                        go_wp2_with (first | (at_builtin; refine wpList_append_sv rfl _ _ rfl w.heap.size _ _ (headB l) LST rfl HVj.out rfl HOJ.out.sv HL1a.out hz9j ?_))
                        intro vz wz oz bz
                        have HOZ := hidden oz
                        have HBZ := hidden (HB9j.out.trans bz)
                        clear oz bz
                        go_wp2_with fail
                        go_ret2
                        rw [HWE.out, HCM.out, HT3'.out, HWW.out]
                        exact ⟨⟨_, rfl, HOZ.out⟩, HBZ.out⟩
                      · have hless' : ¬ (LST.length : Int) < (PLN.length : Int) := by omega
                        rw [if_neg hless] at HWW
                        clear hless
                        go_wp2_with (first | (at_builtin; refine wpList_append_sv rfl _ _ rfl w.heap.size _ _ (headB l) PLN rfl HVj.out rfl HCj.out.sv HL1b.out hz9j ?_))
                        intro vz wz oz bz
                        have HOZ := hidden oz
                        have HBZ := hidden (HB9j.out.trans bz)
                        clear oz bz
                        go_wp2_with fail
                        go_ret2
                        rw [HWE.out, HCM.out, HT3'.out, HWW.out]
                        exact ⟨⟨_, rfl, HOZ.out⟩, HBZ.out⟩
              · rw [decide_eq_false h0]
                have HHB := hidden (HHN.out h0)
                clear h0 HHN HHY
                have HFX := hidden (HFO.out.kept (below_one wr (.cells #[.int .u8 0] 5)))
                have hzA := World.size_alloc wr (.cells #[.int .u8 0] 5)
                have HVB : Hid (OwnB (wr.alloc (.cells #[.int .u8 0] 5)) w.heap.size (.slice (some ⟨wr.heap.size, 0, none⟩) 1 1) (headB l)) := hidden (by rw [HHB.out]; exact (lit_own wr 0).low hz2)
                have HBX := hidden (HB2.out.alloc hz2 (.cells #[.int .u8 0] 5))
                have hzx := HBX.out.size
                obtain ⟨wx, hwx⟩ : ∃ wx, wr.alloc (.cells #[.int .u8 0] 5) = wx := ⟨_, rfl⟩
                rw [hwx] at HFX HVB HBX hzx
                have HWX := hidden hwx
                clear hwx
                obtain rfl | rfl | rfl : k = 1 ∨ k = 2 ∨ k = 3 := by omega
                · have hin := ownC_ints HCC.out
                  have hbl := bstC_len hin.1 (by rw [List.length_map]; omega)
                  have HBE := hidden (refBest_any HFX.out.2.2.1.sv hin.1)
                  have hwl : (wh4 l).length ≤ 256 := by unfold wh4; rw [List.length_map]; omega
                  rw [bstC_best hwl] at HBE
                  have HT1' : Hid (tailB 1 l = bstC (wh4 l)) := hidden HT1.out
                  have hbl' : (bstC (wh4 l)).length ≤ 5131 := hbl
                  clear hin hbl
                  generalize bstC (wh4 l) = BS at *
                  go_wp2_with fail
                  rw [HWX.out]
                  refine HBE.out.mono ?_
                  rintro e wy ⟨⟨vy, rfl, oy⟩, hby⟩
                  have HVY := hidden (HVB.out.kept hby)
                  have HOY := hidden oy
                  have HBY := hidden (HBX.out.trans (hby.mono hzx))
                  have hzy := HBY.out.size
                  clear oy hby
                  go_wp2_with (first | (at_builtin; refine wpList_append_sv rfl _ _ rfl w.heap.size _ _ (headB l) BS rfl HVY.out rfl HOY.out.sv ?b1 ?b2 ?_))
                  case b1 => omega
                  case b2 => omega
                  intro vz wz oz bz
                  have HOZ := hidden oz
                  have HBZ := hidden (HBY.out.trans bz)
                  clear oz bz
                  go_wp2_with fail
                  go_ret2
                  rw [HWE.out, HCM.out, HT1'.out]
                  exact ⟨⟨_, rfl, HOZ.out⟩, HBZ.out⟩
                · have hin := ownC_truths HCC.out
                  have hbl := packR_short hin.1 (by rw [List.length_map]; omega)
                  have ht4 := tr4_two HCC.out
                  have HBE := hidden (flags_any HFX.out.2.1.sv (fun x hx => by
                    rw [ht4] at hx
                    have := hin.1 x hx
                    omega))
                  rw [ht4] at HBE
                  clear hin ht4
                  have HT2' := hidden HT2.out
                  generalize packR ((ownC l).map fun c => c.2.1.toNat) 1 = BS at *
                  go_wp2_with fail
                  rw [HWX.out]
                  refine HBE.out.mono ?_
                  rintro e wy ⟨⟨vy, rfl, oy⟩, hby⟩
                  have HVY := hidden (HVB.out.kept hby)
                  have HOY := hidden oy
                  have HBY := hidden (HBX.out.trans (hby.mono hzx))
                  have hzy := HBY.out.size
                  clear oy hby
                  go_wp2_with (first | (at_builtin; refine wpList_append_sv rfl _ _ rfl w.heap.size _ _ (headB l) BS rfl HVY.out rfl HOY.out.sv ?b1 ?b2 ?_))
                  case b1 => omega
                  case b2 => omega
                  intro vz wz oz bz
                  have HOZ := hidden oz
                  have HBZ := hidden (HBY.out.trans bz)
                  clear oz bz
                  go_wp2_with fail
                  go_ret2
                  rw [HWE.out, HCM.out, HT2'.out]
                  exact ⟨⟨_, rfl, HOZ.out⟩, HBZ.out⟩
                · have hin := ownC_words HCC.out
                  have hwz := words_size hin.1 (by rw [List.length_map]; omega)
                  have HTS := hidden hin.1
                  have hwl : (wd4 l).length ≤ 256 := by unfold wd4; rw [List.length_map]; omega
                  have HT3' : Hid (tailB 3 l = wordsB (wd4 l)) := hidden HT3.out
                  have HWW : Hid (wordsB (wd4 l) = if (listed (wd4 l)).length < (plain (wd4 l)).length then listed (wd4 l) else plain (wd4 l)) := rfl
                  have HTS4 : Hid (Ts (wd4 l)) := hidden hin.1
                  clear hin HT3 HT1 HT2 HTS hwz
                  have hfx := HFX.out.2.2.2.1
                  have HWD := hidden hfx
                  clear hfx
                  generalize hWW : wd4 l = WW at *
                  clear hWW
                  have hul : (tuq WW).length ≤ 256 := by have := tuq_length WW; omega
                  have HPL : Hid (plain WW = [0] ++ txts WW) := rfl
                  have HLI : Hid (listed WW = [1] ++ uv (tuq WW).length ++ txts (tuq WW) ++ bstC (placesT WW)) := hidden (by unfold listed; simp)
                  have htx1 := txts_len HTS4.out hwl
                  have htx2 := txts_len (tuq_ts HTS4.out) hul
                  have hbp := bstC_len (placesT_i64 hwl) (by rw [placesT_length]; exact hwl)
                  have h10 := uv_ten (n := (tuq WW).length) (by omega)
                  have HUN := hidden (unlikeS_any HWD.out.sv hwl (fun s hs => (HTS4.out s hs).2))
                  go_wp2_with fail
                  rw [HWX.out]
                  refine HUN.out.mono ?_
                  rintro e wu ⟨⟨vu, rfl, ou⟩, hbu⟩
                  have HVU := hidden (HVB.out.kept hbu)
                  have HWU := hidden (HWD.out.kept hbu)
                  have HOU := hidden ou
                  have HBU := hidden (HBX.out.trans (hbu.mono hzx))
                  have hzu := HBU.out.size
                  have HPG := hidden (fun (x : List Nat) (hx : x ∈ WW) => plT_get (mem_tuq.2 hx))
                  obtain ⟨au, cu, rfl, hcu, hcum⟩ := own_slice ou
                  obtain ⟨aw, cw, hvw, hcw, hcwm⟩ := own_slice HWU.out
                  subst hvw
                  have hcum' : cu ≤ 9223372036854775807 := by unfold maxLen at hcum; omega
                  have hcwm' : cw ≤ 9223372036854775807 := by unfold maxLen at hcwm; omega
                  have HBSW : Hid (∀ s ∈ WW, Bs s) := hidden (fun s hs => (HTS4.out s hs).2)
                  have HBSU : Hid (∀ s ∈ tuq WW, Bs s) := hidden (fun s hs => HBSW.out s (mem_tuq.1 hs))
                  clear ou hbu hcum hcwm
                  have HPT : Hid (placesT WW = WW.map fun s => (plT (tuq WW) s : Int)) := rfl
                  have HTQ := hidden (tuq_ts HTS4.out)
                  have HPI := hidden (placesT_i64 hwl)
                  have hptl : (placesT WW).length ≤ 256 := by rw [placesT_length]; exact hwl
                  generalize placesT WW = PT at *
                  generalize hTU : tuq WW = TU at *
                  clear hTU
                  go_wp2_with fail
                  go_loopw [19, 20] (fun o i wq => ∃ j : Nat, j ≤ WW.length ∧ i = .int .i64 (j : Int) ∧ OwnI wq wu.heap.size o ((WW.take j).map fun s => (plT TU s : Int)) ∧ Below wu.heap.size wu wq) (fun _ i _ => WW.length - (intOf i).toNat)
                  case atStart => exact ⟨0, by omega, rfl, OwnI.nil _ _, Below.refl _ _⟩
                  case round =>
                    obtain ⟨j, hj, rfl, hown, hbel⟩ := hrel
                    have HO := hidden hown
                    have HBQ := hidden hbel
                    have hzq := hbel.size
                    clear hown hbel
                    by_cases hlt : j < WW.length
                    · have hlt' : (j : Int) < (WW.length : Int) := by omega
                      obtain ⟨gw, offw, hgw0, hgw, hcw0⟩ := HWU.out.sv.at1 (svals_get hlt)
                      subst hgw0
                      rw [txt_eq] at hcw0
                      have HCW := hidden hcw0
                      obtain ⟨hp1, hp2⟩ := HPG.out WW[j] (List.getElem_mem hlt)
                      have HP2 := hidden hp2
                      have HNX : Hid ((WW.take (j + 1)).map (fun s => (plT TU s : Int)) = (WW.take j).map (fun s => (plT TU s : Int)) ++ [(plT TU WW[j] : Int)]) := hidden (by
                        rw [List.take_succ_eq_append_getElem hlt, List.map_append]
                        rfl)
                      have hlen' : ((WW.take j).map fun s => (plT TU s : Int)).length ≤ 100000 := by rw [List.length_map, List.length_take]; omega
                      have HPN := hidden (fun (q : Nat) (h : q < TU.length) (hq : q < plT TU WW[j]) => plT_ne h hq)
                      have HBX0 := hidden (HBSW.out WW[j] (List.getElem_mem hlt))
                      clear hcw0 hp2
                      generalize WW[j] = x at *
                      generalize ((WW.take j).map fun s => (plT TU s : Int)) = LL at *
                      generalize hpz : plT TU x = pz at *
                      clear hpz
                      generalize wr = WR9 at *
                      go_wp2_with fail
                      go_loopw [21] (fun i wq2 => ∃ q : Nat, q ≤ pz ∧ i = .int .i64 (q : Int) ∧ Below WR9.heap.size WR9 wq2) (fun i _ => pz - (intOf i).toNat)
                      case atStart => exact ⟨0, by omega, rfl, Below.refl _ _⟩
                      case round =>
                        obtain ⟨q, hq, rfl, hbel2⟩ := hrel
                        have HB9 := hidden hbel2
                        have hz9 := hbel2.size
                        clear hbel2
                        have hqu : q < TU.length := by omega
                        have hqu' : (q : Int) < (TU.length : Int) := by omega
                        obtain ⟨gu, offu, hgu0, hgu, hcu0⟩ := HOU.out.sv.at1 (svals_get hqu)
                        cases hgu0
                        rw [txt_eq] at hcu0
                        have hcu1 := (HB9.out.cell (p := ⟨gu, offu + q, none⟩) (Nat.lt_of_lt_of_le hgu hzq)).trans ((HBQ.out.cell (p := ⟨gu, offu + q, none⟩) hgu).trans hcu0)
                        have hcw1 := (HB9.out.cell (p := ⟨gw, offw + j, none⟩) (Nat.lt_of_lt_of_le hgw hzq)).trans ((HBQ.out.cell (p := ⟨gw, offw + j, none⟩) hgw).trans HCW.out)
                        have HBY0 := hidden (HBSU.out TU[q] (List.getElem_mem hqu))
                        have HNE9 := hidden (HPN.out q hqu)
                        have HTQ9 : Hid (q = pz → TU[q] = x) := hidden (fun e => by
                          have := HP2.out
                          subst e
                          rw [List.getElem?_eq_getElem hqu] at this
                          exact Option.some.inj this)
                        have HBA : Hid (∀ n z, Below wu.heap.size wu ((wr.drewN n).alloc (.cells #[.int .i64 z] 2))) := hidden (fun n z => (below_drewN (HBQ.out.trans (HB9.out.mono hzq)) n).alloc (by show wu.heap.size ≤ wr.heap.size; omega) _)
                        have HZA : Hid (∀ n z, wu.heap.size ≤ ((wr.drewN n).alloc (.cells #[.int .i64 z] 2)).heap.size) := hidden (fun n z => by rw [World.size_alloc]; show wu.heap.size ≤ wr.heap.size + 1; omega)
                        have HOA : Hid (∀ n z, OwnI ((wr.drewN n).alloc (.cells #[.int .i64 z] 2)) wu.heap.size _ LL) := hidden (fun n z => ((HO.out.kept HB9.out).kept (below_drewN (Below.refl _ _) n)).kept (below_one _ _))
                        clear hcu0
                        generalize TU[q] = y at *
                        by_cases hqz : q = pz
                        · have hyx := HTQ9.out hqz
                          subst hyx
                          have HQZ := hidden hqz
                          clear hqz
                          go_wp2_with fail
                          go_quiet (fail)
                          go_wp2_with (first | (at_builtin; refine wpList_append_i rfl _ _ rfl wu.heap.size _ _ (q : Int) LL rfl (HOA.out _ (q : Int)) rfl (cell_new _ _ _) hlen' ?f3 ?_))
                          case f3 => first | omega | exact HZA.out _ _
                          intro v7 w7 o7 b7
                          rw [HQZ.out] at o7
                          have HO7 := hidden o7
                          have HB7 := hidden ((HBA.out _ (q : Int)).trans b7)
                          clear o7 b7
                          go_wp2_with fail
                          go_roundw
                          case rel => exact ⟨j + 1, by omega, by go_num, by rw [HNX.out]; exact HO7.out, HB7.out⟩
                          case measure => simp [intOf]; omega
                        · have hne := HNE9.out (by omega)
                          have hyx : ((bytesT y).toList == (bytesT x).toList) = false := by
                            rw [bytesT_toList, bytesT_toList]
                            exact beq_eq_false_iff_ne.2 (fun e => hne (by rw [← map_fwd HBY0.out, ← map_fwd HBX0.out, e]))
                          have HB10 := hidden (below_drewN HB9.out)
                          have hq2 : q + 1 ≤ pz := by omega
                          clear hne hqz
                          go_wp2_with fail
                          go_quiet (fail)
                          go_wp2_with fail
                          go_roundw
                          case rel => exact ⟨q + 1, hq2, by go_num, HB10.out _⟩
                          case measure => simp [intOf]; omega
                    · obtain rfl : j = WW.length := by omega
                      rw [List.take_length, ← HPT.out] at HO
                      have hge3 : ¬ ((WW.length : Nat) : Int) < (WW.length : Int) := by omega
                      have HV9 := hidden (HVU.out.kept HBQ.out)
                      have HW9 := hidden (HWU.out.kept HBQ.out)
                      have HU9 := hidden (HOU.out.kept HBQ.out)
                      have HB9 := hidden (HBU.out.trans (HBQ.out.mono hzu))
                      generalize wr = WR9 at *
                      have HLa := hidden (lit_own WR9 0)
                      have HBa := hidden (below_one WR9 (.cells #[.int .u8 0] 5))
                      have hza := World.size_alloc WR9 (.cells #[.int .u8 0] 5)
                      have HTa := hidden (refTexts_any (HW9.out.kept HBa.out).sv hwl HTS4.out)
                      generalize plain WW = PLN at *
                      generalize listed WW = LST at *
                      generalize hTX1 : txts WW = TX1 at *
                      clear hTX1
                      go_wp2_with fail
                      refine HTa.out.mono ?_
                      rintro e wa ⟨⟨va, rfl, oa⟩, hba⟩
                      have HOa := hidden oa
                      have HLb := hidden (HLa.out.kept hba)
                      have HBab := hidden (HBa.out.trans (hba.mono (by omega)))
                      have hzb := HBab.out.size
                      clear oa hba
                      go_wp2_with (first | (at_builtin; refine wpList_append_sv rfl _ _ rfl WR9.heap.size _ _ [0] TX1 rfl HLb.out rfl HOa.out.sv ?g1 ?g2 ?_))
                      case g1 => simp; omega
                      case g2 => omega
                      intro vc wc oc bc
                      have oc' : OwnB wc WR9.heap.size vc PLN := by rw [HPL.out]; exact oc
                      have HOC := hidden oc'
                      have HBc := hidden (HBab.out.trans bc)
                      have HVc := hidden (HV9.out.kept HBc.out)
                      have HUc := hidden (HU9.out.kept HBc.out)
                      have HPc := hidden (HO.out.kept HBc.out)
                      have HB9c := hidden (below_then' HB9.out HBc.out)
                      obtain ⟨ac, cc, rfl⟩ := oc'.len
                      have hzc := HBc.out.size
                      clear oc oc' bc HLa HBa HTa HOa HLb HBab
                      have HLd := hidden (lit_own wc 1)
                      have HBd := hidden (below_one wc (.cells #[.int .u8 1] 5))
                      have hzd := World.size_alloc wc (.cells #[.int .u8 1] 5)
                      have HPUT := hidden (refPut_told TU.length (by omega))
                      generalize hUV : uv TU.length = UV at *
                      clear hUV
                      go_wp2_with fail
                      refine (HPUT.out _).mono ?_
                      rintro e wd ⟨⟨vd, rfl, od⟩, hbd⟩
                      have HOd := hidden od
                      have HLe := hidden (HLd.out.kept hbd)
                      have HBde := hidden (HBd.out.trans (hbd.mono (by omega)))
                      have hze := HBde.out.size
                      clear od hbd
                      go_wp2_with (first | (at_builtin; refine wpList_append_sv rfl _ _ rfl wc.heap.size _ _ [1] UV rfl HLe.out rfl HOd.out.sv ?i1 ?i2 ?_))
                      case i1 => simp; omega
                      case i2 => omega
                      intro vf wf of bf
                      have HOF := hidden of
                      have HBf := hidden (HBde.out.trans bf)
                      have hzf := HBf.out.size
                      have HTf := hidden (refTexts_any (HUc.out.kept HBf.out).sv hul HTQ.out)
                      generalize hTX2 : txts TU = TX2 at *
                      clear hTX2 of bf HLd HBd HOd HLe HBde
                      go_wp2_with fail
                      refine HTf.out.mono ?_
                      rintro e wg ⟨⟨vg, rfl, og⟩, hbg⟩
                      have HOg := hidden og
                      have HFg := hidden (HOF.out.kept hbg)
                      have HBg := hidden (HBf.out.trans (hbg.mono hzf))
                      have hzg := HBg.out.size
                      have HJ1 : Hid ((1 :: UV).length + TX2.length ≤ 140737488355328) := hidden (by rw [List.length_cons]; omega)
                      clear og hbg
                      go_wp2_with (first | (at_builtin; refine wpList_append_sv rfl _ _ rfl wc.heap.size _ _ (1 :: UV) TX2 rfl HFg.out rfl HOg.out.sv HJ1.out hzg ?_))
                      intro vh wh oh bh
                      have oh' : OwnB wh wc.heap.size vh (1 :: (UV ++ TX2)) := oh
                      have HOH := hidden oh'
                      clear oh'
                      have HBh := hidden (HBg.out.trans bh)
                      have hzh := HBh.out.size
                      have HBEp := hidden (refBest_any (HPc.out.kept HBh.out).sv HPI.out)
                      rw [bstC_best hptl] at HBEp
                      generalize hBP : bstC PT = BP at *
                      clear hBP oh bh
                      go_wp2_with fail
                      refine HBEp.out.mono ?_
                      rintro e wi ⟨⟨vi, rfl, oi⟩, hbi⟩
                      have HOi := hidden oi
                      have HHi := hidden (HOH.out.kept hbi)
                      have HBi := hidden (HBh.out.trans (hbi.mono hzh))
                      have hzi := HBi.out.size
                      have HK1 : Hid ((1 :: (UV ++ TX2)).length + BP.length ≤ 140737488355328) := hidden (by rw [List.length_cons, List.length_append]; omega)
                      clear oi hbi
                      go_wp2_with (first | (at_builtin; refine wpList_append_sv rfl _ _ rfl wc.heap.size _ _ (1 :: (UV ++ TX2)) BP rfl HHi.out rfl HOi.out.sv HK1.out hzi ?_))
                      intro vj wj oj bj
                      have oj' : OwnB wj wc.heap.size vj LST := by rw [HLI.out]; simpa using oj
                      have HOJ := hidden oj'
                      have HBj := hidden (HBi.out.trans bj)
                      have hzj := HBj.out.size
                      have HCj := hidden (HOC.out.kept HBj.out)
                      have HVj := hidden (HVc.out.kept HBj.out)
                      have HB9j := hidden (below_then' HB9c.out HBj.out)
                      have hz9j := HB9j.out.size
                      obtain ⟨aj, cj, rfl⟩ := oj'.len
                      have hlst : LST.length ≤ 40000 := by rw [HLI.out]; simp; omega
                      have hpln : PLN.length ≤ 40000 := by rw [HPL.out]; simp; omega
                      have HL1a : Hid ((headB l).length + LST.length ≤ 140737488355328) := hidden (by omega)
                      have HL1b : Hid ((headB l).length + PLN.length ≤ 140737488355328) := hidden (by omega)
                      clear oj oj' bj
                      by_cases hless : LST.length < PLN.length
                      · have hless' : (LST.length : Int) < (PLN.length : Int) := by omega
                        rw [if_pos hless] at HWW
                        clear hless
                        go_wp2_with (first | (at_builtin; refine wpList_append_sv rfl _ _ rfl w.heap.size _ _ (headB l) LST rfl HVj.out rfl HOJ.out.sv HL1a.out hz9j ?_))
                        intro vz wz oz bz
                        have HOZ := hidden oz
                        have HBZ := hidden (HB9j.out.trans bz)
                        clear oz bz
                        go_wp2_with fail
                        go_ret2
                        rw [HWE.out, HCM.out, HT3'.out, HWW.out]
                        exact ⟨⟨_, rfl, HOZ.out⟩, HBZ.out⟩
                      · have hless' : ¬ (LST.length : Int) < (PLN.length : Int) := by omega
                        rw [if_neg hless] at HWW
                        clear hless
                        go_wp2_with (first | (at_builtin; refine wpList_append_sv rfl _ _ rfl w.heap.size _ _ (headB l) PLN rfl HVj.out rfl HCj.out.sv HL1b.out hz9j ?_))
                        intro vz wz oz bz
                        have HOZ := hidden oz
                        have HBZ := hidden (HB9j.out.trans bz)
                        clear oz bz
                        go_wp2_with fail
                        go_ret2
                        rw [HWE.out, HCM.out, HT3'.out, HWW.out]
                        exact ⟨⟨_, rfl, HOZ.out⟩, HBZ.out⟩
        · have h256' : (l.length : Int) > 256 := by omega
          have HE : Hid (WC = ([], 5)) := hidden (HLONG.out HA.out (fun h => h256 h.1))
          clear h256
          go_wp2_with fail
          go_ret2
          rw [HE.out]
          exact ⟨⟨_, rfl, OwnB.nil _ _⟩, HB.out⟩
  · have HE : Hid (writeC k l = ([], 10)) := hidden (writeC_kind (fun h => hk3 ⟨h.1, h.2.1⟩))
    clear hs hf hcm
    by_cases hk0 : (k : Int) < 1
    · clear hk3
      go_enter Tryz.func12, Tryz.ntmps12
      go_wp2_with fail
      go_ret2
      rw [HE.out]
      exact ⟨⟨_, rfl, OwnB.nil _ _⟩, Below.refl _ _⟩
    · have hk4 : (k : Int) > 3 := by omega
      clear hk3
      go_enter Tryz.func12, Tryz.ntmps12
      go_wp2_with fail
      go_ret2
      rw [HE.out]
      exact ⟨⟨_, rfl, OwnB.nil _ _⟩, Below.refl _ _⟩
end Go.Proofs.YtcmmednihoaekaaGreat
