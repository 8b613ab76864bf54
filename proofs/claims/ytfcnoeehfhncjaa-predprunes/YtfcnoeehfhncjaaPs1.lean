/- Clone, and DeleteFunc of the nulls. -/
import Derived.Test.YtfcnoeehfhncjaaPs0
import Derived.Lib.SliceRun
import Derived.Lib.EndianMore
set_option linter.unusedVariables false
set_option linter.unusedSimpArgs false
namespace Go.Proofs.Ytfcnoeehfhncjaa
open Go.RowKit Go.Lib

set_option maxHeartbeats 400000 in
theorem wpList_append_vs {w : World} {ops : Array Oper} {rest : List Oper} {o : Oper} {a : Act} {Q : Exit → Act → World → Prop} (hgd : o.guard = none) (s x : Operand)
    (ho : o.op = .call { callee := .builtin .append, args := #[s, x], argTypes := #[31, 31] })
    (base : Nat) (v : Value) (ad : Addr) (cap : Nat) (l0 l : List Cl) (hs : a.eval s = v) (hown : OwnV w base v l0) (hx : a.eval x = .slice (some ad) l.length cap) (hsl : Sv w (.slice (some ad) l.length cap) (vvals l))
    (hbytes : l0.length + l.length ≤ 100000) (hbase : base ≤ w.heap.size)
    (h : ∀ v' w', OwnV w' base v' (l0 ++ l) → Below base w w' → wpList Try.prog ops Q rest (a.put o.dst v') w') :
    wpList Try.prog ops Q (o :: rest) a w := by
  obtain ⟨i0, hi, hz0, hz1', hz2⟩ := info_parts info61
  unfold OwnV at *
  obtain ⟨ad', cap', hse, h1, h2, h3, h4⟩ := hsl
  simp only [Value.slice.injEq] at hse
  obtain ⟨rfl, _, rfl⟩ := hse
  rw [vvals_length] at *
  refine wpList_append_own_at (w := w) hgd s x 31 ho base 61 i0 .nilIface 1 16 Try.underlying31 hi hz0 hz1' hz2 rfl (by decide) v l0.length (vvals l0) hs hown ad l.length cap (vvals l) hx (by rw [vvals_length]; omega) ?_ (vvals_oneCell l) (by unfold maxLen; omega) (by omega) hbase ?_
  · intro j u hu
    have hj : j < l.length := by
      have := (List.getElem?_eq_some_iff.1 hu).1
      rwa [vvals_length] at this
    obtain ⟨b, off, h5, _, h6⟩ := h4 (by omega)
    cases h5
    rw [addj]
    exact h6 j u hu
  · intro v' w' o1 g1 _ _
    refine h v' w' ?_ ((Below.refl base w).grown g1 hbase (fun k hk => (hown.lt k hk).1))
    rw [vvals_append, List.length_append]
    exact o1

set_option maxRecDepth 100000 in
set_option maxHeartbeats 2000000 in
theorem cloneV_any {w : World} {v : Value} {cs : List Cl} (hs : Sv w v (vvals cs)) (hl : cs.length ≤ 1000) : Calls Try.prog 23 #[v] w fun e w' => (∃ v', e = .returned v' ∧ OwnV w' w.heap.size v' cs) ∧ Below w.heap.size w w' := by
  have HS := hidden hs
  obtain ⟨ad, cap, rfl, h1, h2, h3, h4⟩ := hs
  rw [vvals_length] at *
  cases ad with
  | none =>
    have hc := h3 rfl
    subst hc
    have hl0 : cs = [] := List.eq_nil_of_length_eq_zero (by omega)
    subst hl0
    have hq : (binOp .eql 31 (.slice none 0 0) (.slice none 0 0)).run Try.prog w = .ok (.bool true) w := run_eql_slice_nil w 31 61 none 0 0 0 0 Try.underlying31
    go_enter Try.func23, Try.ntmps23
    go_wp2_with fail
    go_ret
    exact ⟨⟨_, rfl, OwnV.nil _ _⟩, Below.refl _ _⟩
  | some ad =>
    have HN : Hid (OwnV (w.alloc (.cells #[] 61)) w.heap.size (.slice (some ⟨w.heap.size, 0, none⟩) 0 0) []) := hidden (World.ownsRow_lit (e := 61) (size := 1) w #[] 0 (base := w.heap.size) (Nat.le_refl _) (by unfold maxLen; omega) rfl)
    have HS2 := hidden (HS.out.kept (below_one w (.cells #[] 61)))
    clear h3 h4
    have hq : (binOp .eql 31 (.slice (some ad) cs.length cap) (.slice none 0 0)).run Try.prog w = .ok (.bool false) w := run_eql_slice_nil w 31 61 (some ad) cs.length cap 0 0 Try.underlying31
    go_enter Try.func23, Try.ntmps23
    go_wp2_with (first | (at_builtin; refine wpList_append_vs rfl _ _ rfl w.heap.size _ ad cap [] cs rfl ?q1 rfl ?q2 ?c1 ?c2 ?_))
    case q1 => exact HN.out
    case q2 => exact HS2.out
    case c1 => simp; omega
    case c2 => rw [World.size_alloc]; omega
    intro v3 w3 o3 hb3
    have HO3 := hidden o3
    have HB3 := hidden ((below_one w (.cells #[] 61)).trans hb3)
    clear o3 hb3
    go_wp2_with fail
    go_ret
    exact ⟨⟨_, rfl, HO3.out⟩, HB3.out⟩

/-- What is left when the nulls went. -/
def nonN (cs : List Cl) : List Cl := cs.filter fun c => !decide (c.1 = 0)
theorem nonN_all {cs : List Cl} (h : ∀ j (h : j < cs.length), decide (cs[j].1 = 0) = false) : nonN cs = cs := by
  unfold nonN
  rw [List.filter_eq_self]
  intro c hc
  obtain ⟨j, hj, rfl⟩ := List.mem_iff_getElem.1 hc
  rw [h j hj]
  rfl
theorem nonN_step {cs : List Cl} {j : Nat} (h : j < cs.length) : nonN (cs.take (j + 1)) = nonN (cs.take j) ++ (if cs[j].1 = 0 then [] else [cs[j]]) := by
  unfold nonN
  rw [List.take_add_one, List.getElem?_eq_getElem h, List.filter_append]
  congr 1
  by_cases hc : cs[j].1 = 0
  · simp [hc]
  · simp [hc]

/-- What DeleteFunc has made of the row, up to j. -/
def Del (cs : List Cl) (xs : List Value) (i j : Nat) : Prop := xs.length = cs.length ∧ i < j ∧ j ≤ cs.length ∧ xs.take i = vvals (nonN (cs.take j)) ∧ xs.drop j = vvals (cs.drop j)
theorem Del.skip {cs : List Cl} {xs : List Value} {i j : Nat} (h : Del cs xs i j) (hj : j < cs.length) (hn : cs[j].1 = 0) : Del cs xs i (j + 1) := by
  obtain ⟨h1, h2, h3, h4, h5⟩ := h
  refine ⟨h1, by omega, by omega, ?_, ?_⟩
  · rw [nonN_step hj, if_pos hn, List.append_nil]
    exact h4
  · rw [← List.drop_drop, h5]
    unfold vvals
    rw [← List.map_drop, List.drop_drop]
theorem Del.keep {cs : List Cl} {xs : List Value} {i j : Nat} (h : Del cs xs i j) (hj : j < cs.length) (hn : ¬ cs[j].1 = 0) : Del cs (xs.set i (valC cs[j])) (i + 1) (j + 1) := by
  obtain ⟨h1, h2, h3, h4, h5⟩ := h
  refine ⟨by rw [List.length_set]; exact h1, by omega, by omega, ?_, ?_⟩
  · rw [nonN_step hj, if_neg hn, vvals_append, ← h4, List.take_add_one, List.take_set_of_le (by omega), List.getElem?_set_self (by omega)]
    rfl
  · rw [List.drop_set_of_lt (by omega), ← List.drop_drop, h5]
    unfold vvals
    rw [← List.map_drop, List.drop_drop]
theorem Del.get {cs : List Cl} {xs : List Value} {i j : Nat} (h : Del cs xs i j) (hj : j < cs.length) : xs[j]? = some (valC cs[j]) := by
  obtain ⟨h1, h2, h3, h4, h5⟩ := h
  have := congrArg (fun l => l[0]?) h5
  simp only [List.getElem?_drop, Nat.add_zero] at this
  rw [this]
  unfold vvals
  rw [List.getElem?_map, List.getElem?_drop, Nat.add_zero, List.getElem?_eq_getElem hj]
  rfl
theorem Del.start {cs : List Cl} {k : Nat} (hk : k < cs.length) (hn : cs[k].1 = 0) (hall : ∀ j (h : j < cs.length), j < k → decide (cs[j].1 = 0) = false) : Del cs (vvals cs) k (k + 1) := by
  refine ⟨vvals_length _, by omega, by omega, ?_, ?_⟩
  · rw [nonN_step hk, if_pos hn, List.append_nil, nonN_all (cs := cs.take k)]
    · unfold vvals
      rw [List.map_take]
    · intro j hj
      rw [List.getElem_take]
      exact hall j (by rw [List.length_take] at hj; omega) (by rw [List.length_take] at hj; omega)
  · unfold vvals
    rw [List.map_drop]
theorem Del.len {cs : List Cl} {xs : List Value} {i j : Nat} (h : Del cs xs i j) : (nonN (cs.take j)).length = i := by
  obtain ⟨h1, h2, h3, h4, h5⟩ := h
  have := congrArg List.length h4
  rw [vvals_length, List.length_take] at this
  omega

set_option maxRecDepth 100000 in
set_option maxHeartbeats 4000000 in
theorem deleteNull_any {w : World} {B : Nat} {v : Value} {cs : List Cl} (ho : OwnV w B v cs) (hf : ∀ c ∈ cs, Fine c) (hBw : B ≤ w.heap.size) : Calls Try.prog 22 #[v, .func (.func 24) #[] #[]] w fun e w' => (∃ v', e = .returned v' ∧ Sv w' v' (vvals (nonN cs))) ∧ Below B w w' := by
  have HO := hidden ho
  have HF := hidden hf
  obtain ⟨a, cap, rfl, hcap, hcm⟩ := own_slice ho
  have hcm' : cap ≤ 9223372036854775807 := by unfold maxLen at hcm; omega
  have HI := hidden (idxNull_any ho.sv hf)
  have HCM := hidden hcm
  clear ho hf hcm
  go_enter Try.func22, Try.ntmps22
  go_wp2_with fail
  refine HI.out.mono ?_
  rintro e w1 ⟨⟨z, rfl, hz⟩, hb1⟩
  have HB1 := hidden (hb1.mono hBw)
  have HO1 := hidden (HO.out.kept hb1)
  clear hb1 HI HO
  rcases hz with ⟨rfl, hall⟩ | ⟨k0, hk0, rfl, hp, hall⟩
  · have HN := hidden (nonN_all hall)
    clear hall
    go_wp2_with fail
    go_ret
    refine ⟨⟨_, rfl, ?_⟩, HB1.out⟩
    rw [HN.out]
    exact HO1.out.sv
  · have HDS := hidden (Del.start hk0 (by simpa using hp) hall)
    obtain ⟨g, cap', hge, hg1, hg2, _⟩ := (vown_form HO1.out).2 (by omega)
    simp only [Value.slice.injEq] at hge
    obtain ⟨rfl, _, rfl⟩ := hge
    have hn0 : ((k0 : Int) == -1) = false := beq_eq_false_iff_ne.2 (by omega)
    clear hp hall
    go_wp2_with fail
    go_loopw [5, 6] (fun a b wr => ∃ (i j : Nat) (xs : List Value), a = .int .i64 (i : Int) ∧ b = .int .i64 (j : Int) ∧ Del cs xs i j ∧ wr.ownsRow B 61 1 (.slice (some ⟨g, 0, none⟩) cs.length cap) cs.length xs ∧ Below B w wr) (fun _ b _ => cs.length - (intOf b).toNat)
    case atStart => exact ⟨k0, k0 + 1, _, rfl, by go_num, HDS.out, HO1.out, HB1.out⟩
    case round =>
      obtain ⟨i, j, xs, rfl, rfl, hdel, how, hbel⟩ := hrel
      have HD := hidden hdel
      have HO := hidden how
      have HB := hidden hbel
      have hij := hdel.2.1
      have hjn := hdel.2.2.1
      by_cases hlt : j < cs.length
      · have hlt' : (j : Int) < (cs.length : Int) := by omega
        have cj := (how.cellAt j (by omega)).trans (hdel.get hlt)
        have fi := how.frozenAt i
        obtain ⟨ci, hci⟩ : ∃ u, wr.cell? ⟨g, i, none⟩ = some u := by
          refine ⟨xs[i]'(by have := hdel.1; omega), ?_⟩
          rw [how.cellAt i (by omega), List.getElem?_eq_getElem]
        have HC := hidden (isnull_any (HF.out cs[j] (List.getElem_mem hlt)))
        have HSK := hidden (hdel.skip hlt)
        have HKP := hidden (hdel.keep hlt)
        clear hdel how hbel
        generalize hck : cs[j] = c at *
        clear hck
        have hin : (i : Int) < (cs.length : Int) := by omega
        go_wp2_with fail
        refine (HC.out _).mono ?_
        rintro e w3 ⟨rfl, hb3⟩
        have HB3 := hidden (HB.out.trans (hb3.mono (Nat.le_trans hBw HB.out.size)))
        have HO3 := hidden (own_kept HO.out hb3)
        have fi3 := HO3.out.frozenAt i
        have ci3 := (hb3.cell (p := ⟨g, i, none⟩) (show g < wr.heap.size by have := HO.out.lt g rfl; omega)).trans hci
        clear hb3 fi cj hci
        by_cases hc0 : c.1 = 0
        · rw [show decide (c.1 = 0) = true from decide_eq_true hc0]
          have HD2 := hidden (HSK.out hc0)
          go_wp2_with fail
          go_roundw
          case rel => exact ⟨i, j + 1, xs, rfl, by go_num, HD2.out, HO3.out, HB3.out⟩
          case measure => simp [intOf]; omega
        · rw [show decide (c.1 = 0) = false from decide_eq_false hc0]
          have HD2 := hidden (HKP.out hc0)
          obtain ⟨ty, u, hvc⟩ := valC_form c hc0
          rw [hvc] at HD2 ⊢
          clear hvc HC HKP HSK
          go_wp2_with fail
          go_roundw
          case rel => exact ⟨i + 1, j + 1, _, by go_num, by go_num, HD2.out, (HO3.out.stored i _).1, HB3.out.setCell (p := ⟨g, i, none⟩) hg2 _⟩
          case measure => simp [intOf]; omega
      · obtain rfl : j = cs.length := by omega
        have hge : ¬ ((cs.length : Nat) : Int) < (cs.length : Int) := by omega
        have HLN : Hid ((nonN cs).length = i) := hidden (by have := hdel.len; rwa [List.take_length] at this)
        have HTK : Hid (xs.take i = vvals (nonN cs)) := hidden (by have := hdel.2.2.2.1; rwa [List.take_length] at this)
        have hin : (i : Int) ≤ (cs.length : Int) := by omega
        have hin2 : i ≤ cs.length := by omega
        have hxl := hdel.1
        have hz61 : ∀ w, (zeroValue 61).run Try.prog w = .ok .nilIface w := fun w => by kernel_rfl
        have hcl : ∀ ty, (Builtin.clear_ #[31] ty #[.slice (some ⟨g, i, none⟩) (cs.length - i) (cap - i)]).run Try.prog wr = .ok (.tuple #[]) (wr.setCells g i (List.replicate (cs.length - i) .nilIface)) := fun ty => run_clear_slice wr 31 61 ty .nilIface Try.underlying31 hz61 rfl rfl g i (cs.length - i) (cap - i) (by omega) (fun t ht => by
          rw [how.cellAt (i + t) (by omega), List.getElem?_eq_getElem (by omega)]
          rfl) (fun t ht => how.frozenAt (i + t))
        clear hz61
        have HSV : Hid (Sv (wr.setCells g i (List.replicate (cs.length - i) .nilIface)) (.slice (some ⟨g, 0, none⟩) i cap) (vvals (nonN cs))) := hidden ⟨some ⟨g, 0, none⟩, cap, by rw [vvals_length, HLN.out], by rw [vvals_length, HLN.out]; omega, HCM.out, fun h => by simp at h, fun h0 => ⟨g, 0, rfl, by
          have := (below_setCells_w (B := 0) (g := g) (Nat.zero_le _) (List.replicate (cs.length - i) .nilIface) i wr).size
          have := how.lt g rfl
          omega, fun t x hx => by
          have ht : t < i := by
            have := (List.getElem?_eq_some_iff.1 hx).1
            rw [vvals_length, HLN.out] at this
            exact this
          rw [Nat.zero_add, World.cell?_setCells_out g _ i wr ⟨g, t, none⟩ (fun _ _ => Or.inl ht), how.cellAt t (by omega)]
          rw [← HTK.out, List.getElem?_take_of_lt ht] at hx
          exact hx⟩⟩
        have HBS := hidden (HB.out.trans (below_setCells_w hg2 (List.replicate (cs.length - i) .nilIface) i wr))
        clear hdel how hbel hxl
        go_wp2_with fail
        go_ret
        exact ⟨⟨_, rfl, HSV.out⟩, HBS.out⟩
end Go.Proofs.Ytfcnoeehfhncjaa
