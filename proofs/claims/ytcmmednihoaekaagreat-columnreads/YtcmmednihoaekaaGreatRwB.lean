/- Lists that grow beside one another; contracts of the document's layer 6: flags, counted, texts. -/
import Derived.Test.YtcmmednihoaekaaGreatRwA
import Derived.Lib.AppendStr
set_option linter.unusedVariables false
set_option linter.unusedSimpArgs false
namespace Go.Proofs.YtcmmednihoaekaaGreat
open Go.RowKit Go.Lib

/-- Two lists' memory isn't shared. -/
def Ap (a b : Value) : Prop := ∀ g, a.ownBlock = some g → b.ownBlock ≠ some g
theorem Ap.symm {a b : Value} (h : Ap a b) : Ap b a := fun g hg h2 => h g h2 hg
theorem Ap.of_types {w : World} {B B' e e' n n' : Nat} {v v' : Value} {xs xs' : List Value} (h : w.ownsRow B e 1 v n xs) (h' : w.ownsRow B' e' 1 v' n' xs') (hne : e ≠ e') : Ap v v' := by
  intro g hg hg'
  obtain ⟨_, ⟨rfl, _⟩ | ⟨k, cap, cur, rfl, _, h3, _⟩⟩ := h
  · cases hg
  · obtain ⟨_, ⟨rfl, _⟩ | ⟨k', cap', cur', rfl, _, h3', _⟩⟩ := h'
    · cases hg'
    · cases hg
      cases hg'
      rw [h3] at h3'
      cases h3'
      exact hne rfl
theorem own_grown {W w' : World} {B e n : Nat} {v u : Value} {xs : List Value} (h : W.ownsRow B e 1 v n xs) (hg : W.grownBy w' u.ownBlock) (ha : Ap v u) : w'.ownsRow B e 1 v n xs := by
  refine h.kept hg ?_
  cases hv : v.ownBlock with
  | none => exact Or.inl rfl
  | some g => exact Or.inr (fun e => ha g hv e.symm)
theorem Ap.grow {a a' b : Value} {n : Nat} (h : Ap a b) (hn : a'.ownBlock = a.ownBlock ∨ a'.ownBlock = some n) (hb : ∀ k, b.ownBlock = some k → k < n) : Ap a' b := by
  intro g hg hg2
  rcases hn with hn | hn
  · exact h g (by rw [← hn]; exact hg) hg2
  · have e : n = g := Option.some.inj (hn.symm.trans hg)
    have := hb g hg2
    omega

theorem wpList_append_ig {w : World} {ops : Array Oper} {rest : List Oper} {o : Oper} {a : Act} {Q : Exit → Act → World → Prop} (hgd : o.guard = none) (s x : Operand)
    (ho : o.op = .call { callee := .builtin .append, args := #[s, x], argTypes := #[53, 53] })
    (base : Nat) (v : Value) (g : Nat) (z : Int) (l0 : List Int) (hs : a.eval s = v) (hown : OwnI w base v l0) (hx : a.eval x = .slice (some ⟨g, 0, none⟩) 1 1) (hc : w.cell? ⟨g, 0, none⟩ = some (.int .i64 z))
    (hbytes : l0.length ≤ 100000) (hbase : base ≤ w.heap.size)
    (h : ∀ v' w', OwnI w' base v' (l0 ++ [z]) → w.grownBy w' v.ownBlock → wpList Tryz.prog ops Q rest (a.put o.dst v') w') :
    wpList Tryz.prog ops Q (o :: rest) a w := by
  obtain ⟨i0, hi, hz0, hz1', hz2⟩ := info_parts info2
  unfold OwnI at *
  refine wpList_append_own_at (w := w) hgd s x 53 ho base 2 i0 (.int .i64 0) 1 8 Tryz.underlying53 hi hz0 hz1' hz2 rfl (by decide) v l0.length (ivals l0) hs hown ⟨g, 0, none⟩ 1 1 [.int .i64 z] hx rfl ?_ (fun u hu => by
    have : u = .int .i64 z := by simpa using hu
    subst this
    rfl) (by unfold maxLen; omega) (by omega) hbase ?_
  · intro j u hu
    rw [add0]
    cases j with
    | zero =>
      simp only [List.getElem?_cons_zero, Option.some.injEq] at hu
      rw [← hu]
      exact hc
    | succ j => simp at hu
  · intro v' w' o1 g1 _ _
    refine h v' w' ?_ g1
    rw [ivals_append, List.length_append]
    exact o1

theorem wpList_append_ug {w : World} {ops : Array Oper} {rest : List Oper} {o : Oper} {a : Act} {Q : Exit → Act → World → Prop} (hgd : o.guard = none) (s x : Operand)
    (ho : o.op = .call { callee := .builtin .append, args := #[s, x], argTypes := #[56, 56] })
    (base : Nat) (v : Value) (g : Nat) (z : Nat) (l0 : List Nat) (hs : a.eval s = v) (hown : OwnU w base v l0) (hx : a.eval x = .slice (some ⟨g, 0, none⟩) 1 1) (hc : w.cell? ⟨g, 0, none⟩ = some (.int .u64 (z : Int)))
    (hbytes : l0.length ≤ 100000) (hbase : base ≤ w.heap.size)
    (h : ∀ v' w', OwnU w' base v' (l0 ++ [z]) → w.grownBy w' v.ownBlock → (v'.ownBlock = v.ownBlock ∨ v'.ownBlock = some w.heap.size) → wpList Tryz.prog ops Q rest (a.put o.dst v') w') :
    wpList Tryz.prog ops Q (o :: rest) a w := by
  obtain ⟨i0, hi, hz0, hz1', hz2⟩ := info_parts info63
  unfold OwnU at *
  refine wpList_append_own_at (w := w) hgd s x 56 ho base 63 i0 (.int .u64 0) 1 8 Tryz.underlying56 hi hz0 hz1' hz2 rfl (by decide) v l0.length (vals .u64 l0) hs hown ⟨g, 0, none⟩ 1 1 [.int .u64 (z : Int)] hx rfl ?_ (fun u hu => by
    have : u = .int .u64 (z : Int) := by simpa using hu
    subst this
    rfl) (by unfold maxLen; omega) (by omega) hbase ?_
  · intro j u hu
    rw [add0]
    cases j with
    | zero =>
      simp only [List.getElem?_cons_zero, Option.some.injEq] at hu
      rw [← hu]
      exact hc
    | succ j => simp at hu
  · intro v' w' o1 g1 _ g2
    refine h v' w' ?_ g1 g2
    rw [vals_append, List.length_append]
    exact o1

theorem wpList_append_stg {w : World} {ops : Array Oper} {rest : List Oper} {o : Oper} {a : Act} {Q : Exit → Act → World → Prop} (hgd : o.guard = none) (s x : Operand)
    (ho : o.op = .call { callee := .builtin .append, args := #[s, x], argTypes := #[59, 59] })
    (base : Nat) (v : Value) (g : Nat) (z : List Nat) (l0 : List (List Nat)) (hs : a.eval s = v) (hown : OwnS w base v l0) (hx : a.eval x = .slice (some ⟨g, 0, none⟩) 1 1) (hc : w.cell? ⟨g, 0, none⟩ = some (txt z))
    (hbytes : l0.length ≤ 100000) (hbase : base ≤ w.heap.size)
    (h : ∀ v' w', OwnS w' base v' (l0 ++ [z]) → w.grownBy w' v.ownBlock → wpList Tryz.prog ops Q rest (a.put o.dst v') w') :
    wpList Tryz.prog ops Q (o :: rest) a w := by
  obtain ⟨i0, hi, hz0, hz1', hz2⟩ := info_parts info9
  unfold OwnS at *
  refine wpList_append_own_at (w := w) hgd s x 59 ho base 9 i0 (.string ⟨#[]⟩) 1 16 Tryz.underlying59 hi hz0 hz1' hz2 rfl (by decide) v l0.length (svals l0) hs hown ⟨g, 0, none⟩ 1 1 [txt z] hx rfl ?_ (fun u hu => by
    have : u = txt z := by simpa using hu
    subst this
    rfl) (by unfold maxLen; omega) (by omega) hbase ?_
  · intro j u hu
    rw [add0]
    cases j with
    | zero =>
      simp only [List.getElem?_cons_zero, Option.some.injEq] at hu
      rw [← hu]
      exact hc
    | succ j => simp at hu
  · intro v' w' o1 g1 _ _
    refine h v' w' ?_ g1
    rw [svals_append, List.length_append]
    exact o1

/-- A text's bytes put behind bytes of the call's own. -/
theorem wpList_append_bt {w : World} {ops : Array Oper} {rest : List Oper} {o : Oper} {a : Act} {Q : Exit → Act → World → Prop} (hgd : o.guard = none) (s x : Operand)
    (ho : o.op = .call { callee := .builtin .append, args := #[s, x], argTypes := #[24, 9] })
    (base : Nat) (v : Value) (l0 z : List Nat) (hs : a.eval s = v) (hown : OwnB w base v l0) (hx : a.eval x = .string (bytesT z)) (hz : Bs z)
    (hbytes : l0.length + z.length ≤ 140737488355328) (hbase : base ≤ w.heap.size)
    (h : ∀ v' w', OwnB w' base v' (l0 ++ z) → w.grownBy w' v.ownBlock → wpList Tryz.prog ops Q rest (a.put o.dst v') w') :
    wpList Tryz.prog ops Q (o :: rest) a w := by
  obtain ⟨i0, hi, hz0, hz1', hz2⟩ := info_parts info5
  unfold OwnB at *
  refine wpList_append_own_string (w := w) hgd s x 24 9 ho base 5 i0 Tryz.underlying24 Tryz.underlying9 hi hz0 hz1' hz2 v l0.length (vals .u8 l0) hs hown (bytesT z) hx (by rw [bytesT_size]; unfold maxLen; omega) (by rw [bytesT_size]; exact hbytes) hbase ?_
  intro v' w' o1 g1 _
  refine h v' w' ?_ g1
  rw [bytesT_size] at o1
  have e : strCells (bytesT z) = vals .u8 z := by
    unfold strCells bytesT vals
    simp only [List.map_map]
    apply List.map_congr_left
    intro y hy
    have := hz y hy
    simp [Nat.mod_eq_of_lt this]
  rw [e] at o1
  rw [vals_append, List.length_append]
  exact o1

set_option maxRecDepth 100000 in
theorem flags_any {w : World} {v : Value} {l : List Nat} (hs : Sv w v (vals .u64 l)) (h2 : ∀ x ∈ l, x < 18446744073709551616) : Calls Tryz.prog 31 #[v] w (Told w (packR l 1)) := by
  have HB := hidden (refPack_any hs.sx h2 1)
  clear hs h2
  generalize packR l 1 = bs at *
  generalize can l 1 = bb at *
  go_enter Tryz.func31, Tryz.ntmps31
  go_wp2_with fail
  refine HB.out.mono ?_
  rintro e w1 ⟨v1, rfl, ho1, hb1⟩
  have HO1 := hidden ho1
  have HB1 := hidden hb1
  clear ho1 hb1
  go_wp2_with fail
  go_ret
  exact ⟨⟨_, rfl, HO1.out⟩, HB1.out⟩

set_option maxRecDepth 100000 in
theorem refCounted_any {w : World} {v : Value} {l : List Int} (hs : Sv w v (ivals l)) (hl : l.length ≤ 256) (hi : Is l) : Calls Tryz.prog 53 #[v] w (Told w (cnt l)) := by
  have HB := hidden (refBest_any hs hi)
  rw [bstC_best hl] at HB
  have hlen := bstC_len hi hl
  have HCN : Hid (cnt l = uv (bstC l).length ++ bstC l) := rfl
  clear hs hi
  generalize cnt l = cn at *
  generalize bstC l = bs at *
  have h10 := uv_ten (n := bs.length) (by omega)
  have HP := hidden (refPut_told bs.length (by omega))
  go_enter Tryz.func53, Tryz.ntmps53
  go_wp2_with fail
  refine HB.out.mono ?_
  rintro e w1 ⟨⟨v1, rfl, ho1⟩, hb1⟩
  have HO1 := hidden ho1
  have HB1 := hidden hb1
  have hz1 := hb1.size
  obtain ⟨a1, c1, rfl⟩ := ho1.len
  clear ho1 hb1
  go_wp2_with fail
  refine (HP.out _).mono ?_
  rintro e w2 ⟨⟨v2, rfl, ho2⟩, hb2⟩
  have HO2 := hidden (ho2.low hz1)
  have HB2 := hidden hb2
  have hz2 := hb2.size
  clear ho2 hb2
  go_wp2_with (first | (at_builtin; refine wpList_append_sv rfl _ _ rfl w.heap.size _ _ (uv bs.length) bs rfl HO2.out rfl (HO1.out.kept HB2.out).sv ?c1 ?c2 ?_))
  case c1 => omega
  case c2 => omega
  intro v4 w4 o4 b4
  have HO4 := hidden o4
  have HB4 := hidden ((HB1.out.trans (HB2.out.mono hz1)).trans b4)
  clear o4 b4
  go_wp2_with fail
  go_ret
  rw [HCN.out]
  exact ⟨⟨_, rfl, HO4.out⟩, HB4.out⟩

theorem sizes_take_succ {l : List (List Nat)} {k : Nat} (h : k < l.length) : sizes (l.take (k + 1)) = sizes (l.take k) ++ [((bytesT l[k]).size : Int)] := by
  unfold sizes
  rw [List.take_succ_eq_append_getElem h, List.map_append, bytesT_size]
  rfl

set_option maxRecDepth 100000 in
set_option maxHeartbeats 4000000 in
theorem refTexts_any {w : World} {v : Value} {l : List (List Nat)} (hs : Sv w v (svals l)) (hl : l.length ≤ 256) (ht : Ts l) : Calls Tryz.prog 34 #[v] w (Told w (txts l)) := by
  have HS := hidden hs
  have HT := hidden ht
  obtain ⟨a, cap, rfl, hcap, hcm⟩ := hs.form1
  rw [svals_length] at *
  have hcm' : cap ≤ 9223372036854775807 := by unfold maxLen at hcm; omega
  have HTX : Hid (txts l = cnt (sizes l) ++ l.flatten) := rfl
  have HFL := hidden (fun k => flatten_take_len ht hl k)
  have HSI := hidden (sizes_i64 ht)
  have hcl : (cnt (sizes l)).length ≤ 5141 := by
    have h1 := bstC_len (sizes_i64 ht) (by rw [sizes_length]; exact hl)
    have h2 := uv_ten (n := (bstC (sizes l)).length) (by omega)
    unfold cnt
    rw [List.length_append]
    omega
  have hfl := flatten_take_len ht hl l.length
  rw [List.take_length] at hfl
  clear hs hcm ht
  generalize txts l = TX at *
  go_enter Tryz.func34, Tryz.ntmps34
  go_wp2_with fail
  go_loopw [3, 4, 5] (fun o q i wr => ∃ j : Nat, j ≤ l.length ∧ i = .int .i64 (j : Int) ∧ OwnI wr w.heap.size o (sizes (l.take j)) ∧ OwnB wr w.heap.size q (l.take j).flatten ∧ Below w.heap.size w wr) (fun _ _ i _ => l.length - (intOf i).toNat)
  case atStart => exact ⟨0, by omega, rfl, OwnI.nil _ _, OwnB.nil _ _, Below.refl _ _⟩
  case round =>
    obtain ⟨j, hj, rfl, hown, hownb, hbel⟩ := hrel
    have HO := hidden hown
    have HOB := hidden hownb
    have HB := hidden hbel
    have hzr := hbel.size
    clear hown hownb hbel
    by_cases hlt : j < l.length
    · obtain ⟨g, off, rfl, hg, hcell⟩ := HS.out.at1 (svals_get hlt)
      rw [txt_eq] at hcell
      have HCE := hidden hcell
      have hcell1 := (HB.out.cell (p := ⟨g, off + j, none⟩) hg).trans hcell
      have hlt' : (j : Int) < (l.length : Int) := by omega
      have HZS := hidden (sizes_take_succ hlt)
      have HFS := hidden (flatten_take_succ hlt)
      have hlen' : (sizes (l.take j)).length ≤ 100000 := by rw [sizes_length, List.length_take]; omega
      have hfl2 := HFL.out j
      obtain ⟨hts, htb⟩ := HT.out _ (List.getElem_mem hlt)
      have HTB := hidden htb
      clear hcell htb
      generalize l[j] = x at *
      generalize hfj : (l.take j).flatten = FJ at *
      generalize sizes (l.take j) = SJ at *
      clear hfj
      go_wp2_with (first | (at_builtin; refine wpList_append_ig rfl _ _ rfl w.heap.size _ _ ((bytesT x).size : Int) SJ rfl (HO.out.kept (below_one _ _)) rfl (cell_new _ _ _) hlen' ?c2 ?_))
      case c2 => first | omega | (rw [World.size_alloc]; omega)
      intro v5 w5 o5 g5
      have hob : OwnB wr w.heap.size _ FJ := HOB.out
      have hap := Ap.of_types hob HO.out (by decide)
      have HOB5 := hidden (show OwnB w5 w.heap.size _ FJ from own_grown (own_kept hob (below_one wr (.cells #[.int .i64 ((bytesT x).size : Int)] 2))) g5 hap)
      have HO5 := hidden o5
      have hb5 : Below w.heap.size w w5 := (HB.out.alloc hzr (.cells #[.int .i64 ((bytesT x).size : Int)] 2)).grown g5 (by rw [World.size_alloc]; omega) (fun k hk => (HO.out.lt k hk).1)
      have HB5 := hidden hb5
      have hz5 := hb5.size
      have hcell5 := (hb5.cell (p := ⟨g, off + j, none⟩) hg).trans HCE.out
      clear o5 g5 hob hap hb5 hcell1
      go_wp2_with (first | (at_builtin; refine wpList_append_bt rfl _ _ rfl w.heap.size _ FJ x rfl HOB5.out rfl HTB.out ?d1 ?d2 ?_))
      case d1 => omega
      case d2 => omega
      intro v6 w6 o6 g6
      have hap := Ap.of_types HO5.out HOB5.out (by decide)
      have HO6 := hidden (show OwnI w6 w.heap.size v5 (SJ ++ [((bytesT x).size : Int)]) from own_grown HO5.out g6 hap)
      have HOB6 := hidden o6
      have HB6 := hidden (HB5.out.grown g6 hz5 (fun k hk => (HOB5.out.lt k hk).1))
      clear o6 g6 hap
      go_wp2_with fail
      go_roundw
      case rel => exact ⟨j + 1, by omega, by go_num, by rw [HZS.out]; exact HO6.out, by rw [HFS.out]; exact HOB6.out, HB6.out⟩
      case measure => simp [intOf]; omega
    · obtain rfl : j = l.length := by omega
      rw [List.take_length] at HO HOB
      have hge : ¬ ((l.length : Nat) : Int) < (l.length : Int) := by omega
      have HCT := hidden (refCounted_any HO.out.sv (by rw [sizes_length]; exact hl) HSI.out)
      generalize cnt (sizes l) = CN at *
      generalize l.flatten = FL at *
      go_wp2_with fail
      refine HCT.out.mono ?_
      rintro e w5 ⟨⟨v5, rfl, o5⟩, hb5⟩
      have HO5 := hidden (o5.low hzr)
      have HOB5 := hidden (HOB.out.kept hb5)
      have HB5 := hidden (HB.out.trans (hb5.mono hzr))
      have hz5 := hb5.size
      clear o5 hb5
      go_wp2_with (first | (at_builtin; refine wpList_append_sv rfl _ _ rfl w.heap.size _ _ CN FL rfl HO5.out rfl HOB5.out.sv ?e1 ?e2 ?_))
      case e1 => omega
      case e2 => omega
      intro v6 w6 o6 b6
      have HO6 := hidden o6
      have HB6 := hidden (HB5.out.trans b6)
      clear o6 b6
      go_wp2_with fail
      go_ret
      rw [HTX.out]
      exact ⟨⟨_, rfl, HO6.out⟩, HB6.out⟩
end Go.Proofs.YtcmmednihoaekaaGreat
