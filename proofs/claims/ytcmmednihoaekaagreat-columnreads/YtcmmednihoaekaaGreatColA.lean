/- Contracts of layer column: best, pack, bit, ofColumns, the values that are there (wholes, truths, texts), fault. -/
import Derived.Test.YtcmmednihoaekaaGreatTxt
import Derived.Test.YtcmmednihoaekaaGreatBest
set_option linter.unusedVariables false
set_option linter.unusedSimpArgs false
namespace Go.Proofs.YtcmmednihoaekaaGreat
open Go.RowKit Go.Lib

theorem below_one (w : World) (o : Obj) : Below w.heap.size w (w.alloc o) := (Below.refl _ _).alloc (Nat.le_refl _) _

theorem info9 : (Tryz.prog.info? 9).map (fun i => (i.zero, i.size, i.bytes)) = some (some (.string ⟨#[]⟩), 1, 16) := by kernel_rfl

/-- A text put behind texts of the call's own. -/
theorem wpList_append_s {w : World} {ops : Array Oper} {rest : List Oper} {o : Oper} {a : Act} {Q : Exit → Act → World → Prop} (hgd : o.guard = none) (s x : Operand)
    (ho : o.op = .call { callee := .builtin .append, args := #[s, x], argTypes := #[59, 59] })
    (base : Nat) (v : Value) (g : Nat) (z : List Nat) (l0 : List (List Nat)) (hs : a.eval s = v) (hown : OwnS w base v l0) (hx : a.eval x = .slice (some ⟨g, 0, none⟩) 1 1) (hc : w.cell? ⟨g, 0, none⟩ = some (txt z))
    (hbytes : l0.length ≤ 100000) (hbase : base ≤ w.heap.size)
    (h : ∀ v' w', OwnS w' base v' (l0 ++ [z]) → Below base w w' → wpList Tryz.prog ops Q rest (a.put o.dst v') w') :
    wpList Tryz.prog ops Q (o :: rest) a w := by
  obtain ⟨i0, hi, hz0, hz1', hz2⟩ := info_parts info9
  unfold OwnS at *
  refine wpList_append_own_at (w := w) hgd s x 59 ho base 9 i0 (.string ⟨#[]⟩) 1 16 Tryz.underlying59 hi hz0 hz1' hz2 rfl (by decide) v l0.length (svals l0) hs hown ⟨g, 0, none⟩ 1 1 [txt z] hx rfl ?_ (fun u hu => by
    have : u = txt z := by simpa using hu
    subst this
    rfl) (by unfold maxLen; omega) (by omega) hbase ?_
  · intro j u hu
    rw [add0]
    cases j with
    | zero =>
      simp only [List.getElem?_cons_zero, Option.some.injEq] at hu
      rw [← hu]
      exact hc
    | succ j => simp at hu
  · intro v' w' o1 g1 _ _
    refine h v' w' ?_ ((Below.refl base w).grown g1 hbase (fun k hk => (hown.lt k hk).1))
    rw [svals_append, List.length_append]
    exact o1

/-- A value put behind values of the call's own. -/
theorem wpList_append_v {w : World} {ops : Array Oper} {rest : List Oper} {o : Oper} {a : Act} {Q : Exit → Act → World → Prop} (hgd : o.guard = none) (s x : Operand)
    (ho : o.op = .call { callee := .builtin .append, args := #[s, x], argTypes := #[29, 29] })
    (base : Nat) (v : Value) (g : Nat) (z : Nat × Int × List Nat) (l0 : List (Nat × Int × List Nat)) (hs : a.eval s = v) (hown : OwnV w base v l0) (hx : a.eval x = .slice (some ⟨g, 0, none⟩) 1 1) (hc : w.cell? ⟨g, 0, none⟩ = some (valC z))
    (hbytes : l0.length ≤ 100000) (hbase : base ≤ w.heap.size)
    (h : ∀ v' w', OwnV w' base v' (l0 ++ [z]) → Below base w w' → wpList Tryz.prog ops Q rest (a.put o.dst v') w') :
    wpList Tryz.prog ops Q (o :: rest) a w := by
  obtain ⟨i0, hi, hz0, hz1', hz2⟩ := info_parts info47
  unfold OwnV at *
  refine wpList_append_own_at (w := w) hgd s x 29 ho base 47 i0 .nilIface 1 16 Tryz.underlying29 hi hz0 hz1' hz2 rfl (by decide) v l0.length (vvals l0) hs hown ⟨g, 0, none⟩ 1 1 [valC z] hx rfl ?_ (fun u hu => by
    have : u = valC z := by simpa using hu
    subst this
    exact valC_oneCell z) (by unfold maxLen; omega) (by omega) hbase ?_
  · intro j u hu
    rw [add0]
    cases j with
    | zero =>
      simp only [List.getElem?_cons_zero, Option.some.injEq] at hu
      rw [← hu]
      exact hc
    | succ j => simp at hu
  · intro v' w' o1 g1 _ _
    refine h v' w' ?_ ((Below.refl base w).grown g1 hbase (fun k hk => (hown.lt k hk).1))
    rw [vvals_append, List.length_append]
    exact o1

theorem info45 : (Tryz.prog.info? 45).map (fun i => (i.zero, i.size, i.bytes)) = some (some (.agg #[.int .u8 0, .int .i64 0, .string ⟨#[]⟩]), 3, 32) := by kernel_rfl

/-- A cell put behind cells of the call's own. -/
theorem wpList_append_c {w : World} {ops : Array Oper} {rest : List Oper} {o : Oper} {a : Act} {Q : Exit → Act → World → Prop} (hgd : o.guard = none) (s x : Operand)
    (ho : o.op = .call { callee := .builtin .append, args := #[s, x], argTypes := #[22, 22] })
    (base : Nat) (v : Value) (g : Nat) (z : Nat × Int × List Nat) (l0 : List (Nat × Int × List Nat)) (hs : a.eval s = v) (hown : OwnC w base v l0) (hx : a.eval x = .slice (some ⟨g, 0, none⟩) 1 1)
    (hc0 : w.cell? ⟨g, 0, none⟩ = some (.int .u8 (z.1 : Int))) (hc1 : w.cell? ⟨g, 1, none⟩ = some (.int .i64 z.2.1)) (hc2 : w.cell? ⟨g, 2, none⟩ = some (txt z.2.2))
    (hbytes : l0.length ≤ 100000) (hbase : base ≤ w.heap.size)
    (h : ∀ v' w', OwnC w' base v' (l0 ++ [z]) → Below base w w' → wpList Tryz.prog ops Q rest (a.put o.dst v') w') :
    wpList Tryz.prog ops Q (o :: rest) a w := by
  obtain ⟨i0, hi, hz0, hz1', hz2⟩ := info_parts info45
  unfold OwnC at *
  refine wpList_append_own_at (w := w) hgd s x 22 ho base 45 i0 (.agg #[.int .u8 0, .int .i64 0, .string ⟨#[]⟩]) 3 32 Tryz.underlying22 hi hz0 hz1' hz2 rfl (by decide) v l0.length (cvals l0) hs hown ⟨g, 0, none⟩ 1 1 (celC z) hx rfl ?_ (fun u hu => by
    unfold celC at hu
    simp only [List.mem_cons, List.not_mem_nil, or_false] at hu
    rcases hu with rfl | rfl | rfl <;> rfl) (by unfold maxLen; omega) (by omega) hbase ?_
  · intro j u hu
    rw [add0]
    unfold celC at hu
    match j, hu with
    | 0, hu => simp only [List.getElem?_cons_zero, Option.some.injEq] at hu; rw [← hu]; exact hc0
    | 1, hu => simp only [List.getElem?_cons_succ, List.getElem?_cons_zero, Option.some.injEq] at hu; rw [← hu]; exact hc1
    | 2, hu => simp only [List.getElem?_cons_succ, List.getElem?_cons_zero, Option.some.injEq] at hu; rw [← hu]; exact hc2
    | j + 3, hu => simp at hu
  · intro v' w' o1 g1 _ _
    refine h v' w' ?_ ((Below.refl base w).grown g1 hbase (fun k hk => (hown.lt k hk).1))
    rw [cvals_append, List.length_append]
    have : cvals [z] = celC z := by simp [cvals]
    rw [this]
    exact o1

theorem bstC_best {l : List Int} (hl : l.length ≤ 256) : bestM l = bstC l := if_pos hl

set_option maxRecDepth 100000 in
theorem cbest_any {w : World} {v : Value} {l : List Int} (hs : Sv w v (ivals l)) (hl : l.length ≤ 256) (hi : Is l) : Calls Tryz.prog 24 #[v] w (Told w (bstC l)) := by
  have HB := hidden (best_any hs hi)
  rw [bstC_best hl] at HB
  clear hs hi
  generalize bstC l = bs at *
  go_enter Tryz.func24, Tryz.ntmps24
  go_wp2_with fail
  refine HB.out.mono ?_
  rintro e w1 ⟨⟨v1, rfl, ho1⟩, hb1⟩
  have HO1 := hidden ho1
  have HB1 := hidden hb1
  clear ho1 hb1
  go_wp2_with fail
  go_ret
  exact ⟨⟨_, rfl, HO1.out⟩, HB1.out⟩

set_option maxRecDepth 100000 in
theorem cpack_any {w : World} {v : Value} {l : List Nat} (hs : Sv w v (vals .u64 l)) (h2 : ∀ x ∈ l, x < 2) : Calls Tryz.prog 26 #[v] w (Told w (packR l 1)) := by
  have HB := hidden (pack_any hs.sx (fun x hx => by have := h2 x hx; omega) 1)
  clear hs h2
  generalize packR l 1 = bs at *
  generalize can l 1 = bb at *
  go_enter Tryz.func26, Tryz.ntmps26
  go_wp2_with fail
  refine HB.out.mono ?_
  rintro e w1 ⟨v1, rfl, ho1, hb1⟩
  have HO1 := hidden ho1
  have HB1 := hidden hb1
  clear ho1 hb1
  go_wp2_with fail
  go_ret
  exact ⟨⟨_, rfl, HO1.out⟩, HB1.out⟩

theorem cbit_any (b : Bool) (w : World) : Calls Tryz.prog 46 #[.bool b] w fun e w' => e = .returned (.int .u64 (if b then 1 else 0)) ∧ w' = w := by
  cases b
  all_goals
    go_enter Tryz.func46, Tryz.ntmps46
    go_wp2
    go_ret
    exact ⟨rfl, rfl⟩

theorem ofColumns_any (k : Nat) (w : World) : Calls Tryz.prog 37 #[.int .u8 (k : Int)] w fun e w' => e = .returned (.bool (decide (1 ≤ k ∧ k ≤ 3))) ∧ w' = w := by
  by_cases h1 : ((k : Int) == 1) = true
  · have hk : k = 1 := by have : (k : Int) = 1 := by simpa using h1
                          omega
    subst hk
    go_enter Tryz.func37, Tryz.ntmps37
    go_wp2
    go_ret
    exact ⟨rfl, rfl⟩
  · by_cases h2 : ((k : Int) == 2) = true
    · have hk : k = 2 := by have : (k : Int) = 2 := by simpa using h2
                            omega
      subst hk
      go_enter Tryz.func37, Tryz.ntmps37
      go_wp2
      go_ret
      exact ⟨rfl, rfl⟩
    · by_cases h3 : ((k : Int) == 3) = true
      · have hk : k = 3 := by have : (k : Int) = 3 := by simpa using h3
                              omega
        subst hk
        go_enter Tryz.func37, Tryz.ntmps37
        go_wp2
        go_ret
        exact ⟨rfl, rfl⟩
      · have h1' : ((k : Int) == 1) = false := by simpa using h1
        have h2' : ((k : Int) == 2) = false := by simpa using h2
        have h3' : ((k : Int) == 3) = false := by simpa using h3
        have HN : Hid (decide (1 ≤ k ∧ k ≤ 3) = false) := hidden (by
          have a1 : (k : Int) ≠ 1 := by simpa using h1
          have a2 : (k : Int) ≠ 2 := by simpa using h2
          have a3 : (k : Int) ≠ 3 := by simpa using h3
          exact decide_eq_false (by omega))
        rw [HN.out]
        clear h1 h2 h3
        go_enter Tryz.func37, Tryz.ntmps37
        go_wp2
        go_ret
        exact ⟨rfl, rfl⟩

/-- A value that may be. -/
def Fine (c : Nat × Int × List Nat) : Prop :=
  c = nul ∨ (∃ n, c = (1, n, []) ∧ I64 n) ∨ (∃ n : Nat, c = (2, (n : Int), []) ∧ n < 2) ∨ (∃ s, c = (3, 0, s) ∧ s.length ≤ 64 ∧ Bs s)

theorem Cellk.fine {k : Nat} {c : Nat × Int × List Nat} (h : Cellk k c) : Fine c := by
  rcases h with h | ⟨_, h⟩ | ⟨_, h⟩ | ⟨_, h⟩
  · exact Or.inl h
  · exact Or.inr (Or.inl h)
  · exact Or.inr (Or.inr (Or.inl h))
  · exact Or.inr (Or.inr (Or.inr h))

theorem Fine.cellk {k : Nat} {c : Nat × Int × List Nat} (h : Fine c) (hk : c.1 = 0 ∨ c.1 = k) : Cellk k c := by
  rcases h with h | ⟨n, rfl, h⟩ | ⟨n, rfl, h⟩ | ⟨n, rfl, h⟩
  · exact Or.inl h
  · have : k = 1 := by simp at hk; omega
    exact Or.inr (Or.inl ⟨this, n, rfl, h⟩)
  · have : k = 2 := by simp at hk; omega
    exact Or.inr (Or.inr (Or.inl ⟨this, n, rfl, h⟩))
  · have : k = 3 := by simp at hk; omega
    exact Or.inr (Or.inr (Or.inr ⟨this, n, rfl, h⟩))

theorem Fine.val {c : Nat × Int × List Nat} (h : Fine c) : Val (valC c) (c.1 : Int) c.2.1 (bytesT c.2.2) := by
  rcases h with rfl | ⟨n, rfl, h⟩ | ⟨n, rfl, h⟩ | ⟨n, rfl, h⟩
  · exact Or.inl ⟨rfl, rfl, rfl, rfl⟩
  · exact Or.inr (Or.inl ⟨rfl, rfl, rfl⟩)
  · refine Or.inr (Or.inr (Or.inl ⟨decide (((n : Nat) : Int) = 1), rfl, rfl, ?_, rfl⟩))
    obtain rfl | rfl : n = 0 ∨ n = 1 := by omega
    · rfl
    · rfl
  · exact Or.inr (Or.inr (Or.inr ⟨rfl, rfl, rfl⟩))

theorem ownC_take_succ {l : List (Nat × Int × List Nat)} {j : Nat} (h : j < l.length) : ownC (l.take (j + 1)) = ownC (l.take j) ++ (if l[j].1 = 0 then [] else [l[j]]) := by
  unfold ownC
  rw [List.take_succ_eq_append_getElem h, List.filter_append]
  congr 1
  by_cases h0 : l[j].1 = 0
  · simp [h0]
  · simp [h0]

theorem ownC_take_len (l : List (Nat × Int × List Nat)) (j : Nat) : (ownC (l.take j)).length ≤ l.length := by
  have := ownC_length (l.take j)
  rw [List.length_take] at this
  omega

set_option maxRecDepth 100000 in
set_option maxHeartbeats 2000000 in
theorem wholes_any {w : World} {v : Value} {l : List (Nat × Int × List Nat)} (hs : Sv w v (vvals l)) (hl : l.length ≤ 256) (hc : ∀ c ∈ l, Cellk 1 c) :
    Calls Tryz.prog 25 #[v] w fun e w' => (∃ v', e = .returned v' ∧ OwnI w' w.heap.size v' ((ownC l).map fun c => c.2.1)) ∧ Below w.heap.size w w' := by
  have HS := hidden hs
  have HC := hidden hc
  obtain ⟨a, cap, rfl, hcap, hcm⟩ := hs.form1
  rw [vvals_length] at *
  have t1 := ta_2_2
  have t2 := ta_n_2
  have hcm' : cap ≤ 9223372036854775807 := by unfold maxLen at hcm; omega
  clear hs hc hcm
  go_enter Tryz.func25, Tryz.ntmps25
  go_wp2_with fail
  go_loopw [3, 10] (fun o i wr => ∃ j : Nat, j ≤ l.length ∧ i = .int .i64 (j : Int) ∧ OwnI wr w.heap.size o ((ownC (l.take j)).map fun c => c.2.1) ∧ Below w.heap.size w wr) (fun _ i _ => l.length - (intOf i).toNat)
  case atStart => exact ⟨0, by omega, rfl, OwnI.nil _ _, Below.refl _ _⟩
  case round =>
    obtain ⟨j, hj, rfl, hown, hbel⟩ := hrel
    have HO := hidden hown
    have HB := hidden hbel
    have hzr := hbel.size
    clear hown hbel
    by_cases hlt : j < l.length
    · obtain ⟨b, off, rfl, hb, hcell⟩ := HS.out.at1 (vvals_get hlt)
      have hcell' := (HB.out.cell (p := ⟨b, off + j, none⟩) hb).trans hcell
      have HT := hidden (ownC_take_succ hlt)
      have hlen := ownC_take_len l j
      have hck := HC.out l[j] (List.getElem_mem hlt)
      have hlt' : (j : Int) < (l.length : Int) := by omega
      clear hcell
      generalize l[j] = c at *
      rcases hck with rfl | ⟨_, n, rfl, hn⟩ | ⟨hk, _⟩ | ⟨hk, _⟩
      · simp only [nul, valC, if_true] at hcell'
        have HT' : Hid (ownC (l.take (j + 1)) = ownC (l.take j)) := hidden (by
          have := HT.out
          simpa [nul] using this)
        clear HT
        go_wp2_with fail
        go_roundw
        case rel => exact ⟨j + 1, by omega, by go_num, by rw [HT'.out]; exact HO.out, HB.out⟩
        case measure => simp [intOf]; omega
      · simp only [valC] at hcell'
        have HT' : Hid ((ownC (l.take (j + 1))).map (fun c => c.2.1) = ((ownC (l.take j)).map fun c => c.2.1) ++ [n]) := hidden (by
          have := HT.out
          simp only [show (1 : Nat) ≠ 0 from by omega, if_false] at this
          rw [this, List.map_append]
          rfl)
        have hlen' : ((ownC (l.take j)).map fun c => c.2.1).length ≤ 100000 := by rw [List.length_map]; omega
        clear HT
        generalize ((ownC (l.take j)).map fun c => c.2.1) = L at *
        go_wp2_with (first | (at_builtin; refine wpList_append_i rfl _ _ rfl w.heap.size _ _ n L rfl (HO.out.kept (below_one _ _)) rfl (cell_new _ _ _) hlen' ?c2 ?_))
        case c2 => first | omega | (rw [World.size_alloc]; omega)
        intro v' w2 o2 b2
        have HO2 := hidden o2
        have HB2 := hidden ((HB.out.alloc hzr _).trans b2)
        clear o2 b2
        go_wp2_with fail
        go_roundw
        case rel => exact ⟨j + 1, by omega, by go_num, by rw [HT'.out]; exact HO2.out, HB2.out⟩
        case measure => simp [intOf]; omega
      · omega
      · omega
    · have : j = l.length := by omega
      subst this
      have hge : ¬ ((l.length : Nat) : Int) < (l.length : Int) := by omega
      rw [List.take_length] at HO
      go_wp2_with fail
      go_ret
      exact ⟨⟨_, rfl, HO.out⟩, HB.out⟩
set_option maxRecDepth 100000 in
set_option maxHeartbeats 2000000 in
theorem ctexts_any {w : World} {v : Value} {l : List (Nat × Int × List Nat)} (hs : Sv w v (vvals l)) (hl : l.length ≤ 256) (hc : ∀ c ∈ l, Cellk 3 c) :
    Calls Tryz.prog 29 #[v] w fun e w' => (∃ v', e = .returned v' ∧ OwnS w' w.heap.size v' ((ownC l).map fun c => c.2.2)) ∧ Below w.heap.size w w' := by
  have HS := hidden hs
  have HC := hidden hc
  obtain ⟨a, cap, rfl, hcap, hcm⟩ := hs.form1
  rw [vvals_length] at *
  have t1 := ta_9_9
  have t2 := ta_n_9
  have hcm' : cap ≤ 9223372036854775807 := by unfold maxLen at hcm; omega
  clear hs hc hcm
  go_enter Tryz.func29, Tryz.ntmps29
  go_wp2_with fail
  go_loopw [3, 10] (fun o i wr => ∃ j : Nat, j ≤ l.length ∧ i = .int .i64 (j : Int) ∧ OwnS wr w.heap.size o ((ownC (l.take j)).map fun c => c.2.2) ∧ Below w.heap.size w wr) (fun _ i _ => l.length - (intOf i).toNat)
  case atStart => exact ⟨0, by omega, rfl, OwnS.nil _ _, Below.refl _ _⟩
  case round =>
    obtain ⟨j, hj, rfl, hown, hbel⟩ := hrel
    have HO := hidden hown
    have HB := hidden hbel
    have hzr := hbel.size
    clear hown hbel
    by_cases hlt : j < l.length
    · obtain ⟨b, off, rfl, hb, hcell⟩ := HS.out.at1 (vvals_get hlt)
      have hcell' := (HB.out.cell (p := ⟨b, off + j, none⟩) hb).trans hcell
      have HT := hidden (ownC_take_succ hlt)
      have hlen := ownC_take_len l j
      have hck := HC.out l[j] (List.getElem_mem hlt)
      have hlt' : (j : Int) < (l.length : Int) := by omega
      clear hcell
      generalize l[j] = c at *
      rcases hck with rfl | ⟨hk, _⟩ | ⟨hk, _⟩ | ⟨_, n, rfl, hn⟩
      · simp only [nul, valC, if_true] at hcell'
        have HT' : Hid (ownC (l.take (j + 1)) = ownC (l.take j)) := hidden (by
          have := HT.out
          simpa [nul] using this)
        clear HT
        go_wp2_with fail
        go_roundw
        case rel => exact ⟨j + 1, by omega, by go_num, by rw [HT'.out]; exact HO.out, HB.out⟩
        case measure => simp [intOf]; omega
      · omega
      · omega
      · simp only [valC, txt_eq, show (3 : Nat) ≠ 0 from by omega, show (3 : Nat) ≠ 1 from by omega, show (3 : Nat) ≠ 2 from by omega, if_false] at hcell'
        have HT' : Hid ((ownC (l.take (j + 1))).map (fun c => c.2.2) = ((ownC (l.take j)).map fun c => c.2.2) ++ [n]) := hidden (by
          have := HT.out
          simp only [show (3 : Nat) ≠ 0 from by omega, if_false] at this
          rw [this, List.map_append]
          rfl)
        have hlen' : ((ownC (l.take j)).map fun c => c.2.2).length ≤ 100000 := by rw [List.length_map]; omega
        clear HT
        generalize ((ownC (l.take j)).map fun c => c.2.2) = L at *
        go_wp2_with (first | (at_builtin; refine wpList_append_s rfl _ _ rfl w.heap.size _ _ n L rfl (HO.out.kept (below_one _ _)) rfl (cell_new _ _ _) hlen' ?c2 ?_))
        case c2 => first | omega | (rw [World.size_alloc]; omega)
        intro v' w2 o2 b2
        have HO2 := hidden o2
        have HB2 := hidden ((HB.out.alloc hzr _).trans b2)
        clear o2 b2
        go_wp2_with fail
        go_roundw
        case rel => exact ⟨j + 1, by omega, by go_num, by rw [HT'.out]; exact HO2.out, HB2.out⟩
        case measure => simp [intOf]; omega
    · have : j = l.length := by omega
      subst this
      have hge : ¬ ((l.length : Nat) : Int) < (l.length : Int) := by omega
      rw [List.take_length] at HO
      go_wp2_with fail
      go_ret
      exact ⟨⟨_, rfl, HO.out⟩, HB.out⟩
set_option maxRecDepth 100000 in
set_option maxHeartbeats 2000000 in
theorem truths_any {w : World} {v : Value} {l : List (Nat × Int × List Nat)} (hs : Sv w v (vvals l)) (hl : l.length ≤ 256) (hc : ∀ c ∈ l, Cellk 2 c) :
    Calls Tryz.prog 27 #[v] w fun e w' => (∃ v', e = .returned v' ∧ OwnU w' w.heap.size v' ((ownC l).map fun c => c.2.1.toNat)) ∧ Below w.heap.size w w' := by
  have HS := hidden hs
  have HC := hidden hc
  obtain ⟨a, cap, rfl, hcap, hcm⟩ := hs.form1
  rw [vvals_length] at *
  have t1 := ta_4_4
  have t2 := ta_n_4
  have hcm' : cap ≤ 9223372036854775807 := by unfold maxLen at hcm; omega
  clear hs hc hcm
  go_enter Tryz.func27, Tryz.ntmps27
  go_wp2_with fail
  go_loopw [3, 10] (fun o i wr => ∃ j : Nat, j ≤ l.length ∧ i = .int .i64 (j : Int) ∧ OwnU wr w.heap.size o ((ownC (l.take j)).map fun c => c.2.1.toNat) ∧ Below w.heap.size w wr) (fun _ i _ => l.length - (intOf i).toNat)
  case atStart => exact ⟨0, by omega, rfl, OwnU.nil _ _, Below.refl _ _⟩
  case round =>
    obtain ⟨j, hj, rfl, hown, hbel⟩ := hrel
    have HO := hidden hown
    have HB := hidden hbel
    have hzr := hbel.size
    clear hown hbel
    by_cases hlt : j < l.length
    · obtain ⟨b, off, rfl, hb, hcell⟩ := HS.out.at1 (vvals_get hlt)
      have hcell' := (HB.out.cell (p := ⟨b, off + j, none⟩) hb).trans hcell
      have HT := hidden (ownC_take_succ hlt)
      have hlen := ownC_take_len l j
      have hck := HC.out l[j] (List.getElem_mem hlt)
      have hlt' : (j : Int) < (l.length : Int) := by omega
      clear hcell
      generalize l[j] = c at *
      rcases hck with rfl | ⟨hk, _⟩ | ⟨_, n, rfl, hn⟩ | ⟨hk, _⟩
      · simp only [nul, valC, if_true] at hcell'
        have HT' : Hid (ownC (l.take (j + 1)) = ownC (l.take j)) := hidden (by
          have := HT.out
          simpa [nul] using this)
        clear HT
        go_wp2_with fail
        go_roundw
        case rel => exact ⟨j + 1, by omega, by go_num, by rw [HT'.out]; exact HO.out, HB.out⟩
        case measure => simp [intOf]; omega
      · omega
      · simp only [valC, show (2 : Nat) ≠ 0 from by omega, show (2 : Nat) ≠ 1 from by omega, if_false, if_true] at hcell'
        have HBT : Hid (∀ W : World, Calls Tryz.prog 46 #[.bool (decide ((n : Int) = 1))] W fun e w' => e = .returned (.int .u64 (n : Int)) ∧ w' = W) := hidden (fun W => by
          have := cbit_any (decide ((n : Int) = 1)) W
          obtain rfl | rfl : n = 0 ∨ n = 1 := by omega
          · exact this
          · exact this)
        generalize decide ((n : Int) = 1) = bb at *
        have HT' : Hid ((ownC (l.take (j + 1))).map (fun c => c.2.1.toNat) = ((ownC (l.take j)).map fun c => c.2.1.toNat) ++ [n]) := hidden (by
          have := HT.out
          simp only [show (2 : Nat) ≠ 0 from by omega, if_false] at this
          rw [this, List.map_append]
          simp)
        have hlen' : ((ownC (l.take j)).map fun c => c.2.1.toNat).length ≤ 100000 := by rw [List.length_map]; omega
        clear HT
        generalize ((ownC (l.take j)).map fun c => c.2.1.toNat) = L at *
        go_wp2_with fail
        refine (HBT.out _).mono ?_
        rintro e wq ⟨rfl, rfl⟩
        go_wp2_with (first | (at_builtin; refine wpList_append_u rfl _ _ rfl w.heap.size _ _ n L rfl (HO.out.kept (below_one _ _)) rfl (cell_new _ _ _) hlen' ?c2 ?_))
        case c2 => first | omega | (rw [World.size_alloc]; omega)
        intro v' w2 o2 b2
        have HO2 := hidden o2
        have HB2 := hidden ((HB.out.alloc hzr _).trans b2)
        clear o2 b2
        go_wp2_with fail
        go_roundw
        case rel => exact ⟨j + 1, by omega, by go_num, by rw [HT'.out]; exact HO2.out, HB2.out⟩
        case measure => simp [intOf]; omega
      · omega
    · have : j = l.length := by omega
      subst this
      have hge : ¬ ((l.length : Nat) : Int) < (l.length : Int) := by omega
      rw [List.take_length] at HO
      go_wp2_with fail
      go_ret
      exact ⟨⟨_, rfl, HO.out⟩, HB.out⟩
end Go.Proofs.YtcmmednihoaekaaGreat
