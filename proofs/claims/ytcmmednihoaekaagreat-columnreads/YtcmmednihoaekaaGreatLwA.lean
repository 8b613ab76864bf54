/- Contracts of the law's own functions: Fix, Value, Row, FixRow, Cells, over triples. -/
import Derived.Test.YtcmmednihoaekaaGreatRdI
set_option linter.unusedVariables false
set_option linter.unusedSimpArgs false
namespace Go.Proofs.YtcmmednihoaekaaGreat
open Go.RowKit Go.Lib

/-- Any cell. -/
def Okc (c : Nat × Int × List Nat) : Prop := c.1 < 256 ∧ I64 c.2.1 ∧ Bs c.2.2

/-- The cell, if it is a value's; else null. -/
def fixC (c : Nat × Int × List Nat) : Nat × Int × List Nat := if flt (c.1 : Int) c.2.1 (bytesT c.2.2) = 0 then c else nul

theorem bytesT_empty {s : List Nat} (h : bytesT s = ⟨#[]⟩) : s = [] := by
  have := congrArg ByteArray.size h
  rw [bytesT_size] at this
  exact List.eq_nil_of_length_eq_zero this

theorem fixC_fine {c : Nat × Int × List Nat} (h : Okc c) : Fine (fixC c) := by
  unfold fixC
  split
  · next h0 =>
    obtain ⟨ck, cn, cs⟩ := c
    obtain ⟨g1, g2, g3⟩ := h
    simp only at *
    rcases flt_zero (by omega) h0 with ⟨a1, a2, a3⟩ | ⟨a1, a3⟩ | ⟨a1, a2, a3⟩ | ⟨a1, a2, a3⟩ | ⟨a1, a2, a3⟩
    · have e1 : ck = 0 := by omega
      have e3 := bytesT_empty a3
      subst e1 a2 e3
      exact Or.inl rfl
    · have e1 : ck = 1 := by omega
      have e3 := bytesT_empty a3
      subst e1 e3
      exact Or.inr (Or.inl ⟨cn, rfl, g2⟩)
    · have e1 : ck = 2 := by omega
      have e3 := bytesT_empty a3
      subst e1 a2 e3
      exact Or.inr (Or.inr (Or.inl ⟨0, rfl, by omega⟩))
    · have e1 : ck = 2 := by omega
      have e3 := bytesT_empty a3
      subst e1 a2 e3
      exact Or.inr (Or.inr (Or.inl ⟨1, rfl, by omega⟩))
    · have e1 : ck = 3 := by omega
      subst e1 a2
      rw [bytesT_size] at a3
      exact Or.inr (Or.inr (Or.inr ⟨cs, rfl, a3, g3⟩))
  · exact Or.inl rfl

theorem nul_flt : flt 0 0 (bytesT []) = 0 := by simp [flt, tx, nfit, bytesT_nil, ByteArray.size]

theorem fine_flt {c : Nat × Int × List Nat} (h : Fine c) : flt (c.1 : Int) c.2.1 (bytesT c.2.2) = 0 := by
  rcases h with rfl | ⟨n, rfl, _⟩ | ⟨n, rfl, hn⟩ | ⟨s, rfl, hs, _⟩
  · exact nul_flt
  · simp [flt, tx, nfit, bytesT_nil, ByteArray.size]
  · obtain rfl | rfl : n = 0 ∨ n = 1 := by omega
    · simp [flt, tx, nfit, bytesT_nil, ByteArray.size]
    · simp [flt, tx, nfit, bytesT_nil, ByteArray.size]
  · have : ¬ 64 < ((bytesT s).size : Int) := by rw [bytesT_size]; omega
    simp [flt, tx, nfit, this]

theorem fixC_same {c : Nat × Int × List Nat} (h : Fine c) : fixC c = c := if_pos (fine_flt h)

theorem Fine.okc {c : Nat × Int × List Nat} (h : Fine c) : Okc c := by
  rcases h with rfl | ⟨n, rfl, h⟩ | ⟨n, rfl, hn⟩ | ⟨s, rfl, _, h⟩
  · exact ⟨by simp [nul], by simp [nul, I64], fun x hx => by simp [nul] at hx⟩
  · exact ⟨by simp, h, fun x hx => by simp at hx⟩
  · exact ⟨by simp, by simp only [I64]; omega, fun x hx => by simp at hx⟩
  · exact ⟨by simp, by simp [I64], h⟩

theorem val_valC {v : Value} {c : Nat × Int × List Nat} (hf : Fine c) (h : Val v (c.1 : Int) c.2.1 (bytesT c.2.2)) : v = valC c := by
  rcases hf with rfl | ⟨n, rfl, _⟩ | ⟨n, rfl, hn⟩ | ⟨s, rfl, _⟩
  · rcases h with ⟨h, _⟩ | ⟨_, h, _⟩ | ⟨b, _, h, _⟩ | ⟨_, h, _⟩
    · exact h
    · simp [nul] at h
    · simp [nul] at h
    · simp [nul] at h
  · rcases h with ⟨_, h, _⟩ | ⟨h, _⟩ | ⟨b, _, h, _⟩ | ⟨_, h, _⟩
    · simp at h
    · exact h
    · simp at h
    · simp at h
  · rcases h with ⟨_, h, _⟩ | ⟨_, h, _⟩ | ⟨b, h, _, h2, _⟩ | ⟨_, h, _⟩
    · simp at h
    · simp at h
    · rw [h]
      simp only at h2
      obtain rfl | rfl : n = 0 ∨ n = 1 := by omega
      · cases b
        · rfl
        · simp at h2
      · cases b
        · simp at h2
        · rfl
    · simp at h
  · rcases h with ⟨_, h, _⟩ | ⟨_, h, _⟩ | ⟨b, _, h, _⟩ | ⟨h, _⟩
    · simp at h
    · simp at h
    · simp at h
    · exact h

theorem fixed_parts (c : Nat × Int × List Nat) : fk (c.1 : Int) c.2.1 (bytesT c.2.2) = ((fixC c).1 : Int) ∧ fn (c.1 : Int) c.2.1 (bytesT c.2.2) = (fixC c).2.1 ∧ fs (c.1 : Int) c.2.1 (bytesT c.2.2) = bytesT (fixC c).2.2 := by
  unfold fk fn fs fixC
  split
  · exact ⟨rfl, rfl, rfl⟩
  · exact ⟨rfl, rfl, rfl⟩

theorem fixC_any (c : Nat × Int × List Nat) (w : World) : Calls Tryz.prog 36 #[.agg #[.int .u8 (c.1 : Int), .int .i64 c.2.1, .string (bytesT c.2.2)]] w fun e w' => e = .returned (.agg #[.int .u8 ((fixC c).1 : Int), .int .i64 (fixC c).2.1, .string (bytesT (fixC c).2.2)]) ∧ Below w.heap.size w w' := by
  have := fix_any (c.1 : Int) c.2.1 (bytesT c.2.2) (by omega) w
  rw [(fixed_parts c).1, (fixed_parts c).2.1, (fixed_parts c).2.2] at this
  exact this

theorem valueC_any {c : Nat × Int × List Nat} (h : Okc c) (w : World) : Calls Tryz.prog 30 #[.agg #[.int .u8 (c.1 : Int), .int .i64 c.2.1, .string (bytesT c.2.2)]] w fun e w' => e = .returned (valC (fixC c)) ∧ Below w.heap.size w w' := by
  have := value_any (c.1 : Int) c.2.1 (bytesT c.2.2) (by omega) w
  rw [(fixed_parts c).1, (fixed_parts c).2.1, (fixed_parts c).2.2] at this
  refine this.mono ?_
  rintro e w' ⟨⟨v, rfl, hv⟩, hb⟩
  rw [val_valC (fixC_fine h) hv]
  exact ⟨rfl, hb⟩

theorem cellC_any {c : Nat × Int × List Nat} (h : Fine c) (w : World) : Calls Tryz.prog 19 #[valC c] w fun e w' => e = .returned (.agg #[.int .u8 (c.1 : Int), .int .i64 c.2.1, .string (bytesT c.2.2)]) ∧ Below w.heap.size w w' := lawCell_any h.val w

theorem Sc.form {W : World} {v : Value} {l : List (Nat × Int × List Nat)} (h : Sc W v l) : ∃ a cap, v = .slice a l.length cap ∧ l.length ≤ cap ∧ cap ≤ maxLen := by
  obtain ⟨a, cap, h1, h2, h3, _⟩ := h
  exact ⟨a, cap, h1, h2, h3⟩

set_option maxRecDepth 100000 in
set_option maxHeartbeats 2000000 in
theorem row6_any {w : World} {v : Value} {l : List (Nat × Int × List Nat)} (hs : Sc w v l) (hok : ∀ c ∈ l, Okc c) (hl : l.length ≤ 600) :
    Calls Tryz.prog 11 #[v] w fun e w' => (∃ v', e = .returned v' ∧ OwnV w' w.heap.size v' (l.map fixC)) ∧ Below w.heap.size w w' := by
  have HS := hidden hs
  have HK := hidden hok
  obtain ⟨a, cap, rfl, hcap, hcm⟩ := hs.form
  have hcm' : cap ≤ 9223372036854775807 := by unfold maxLen at hcm; omega
  clear hs hok hcm
  go_enter Tryz.func11, Tryz.ntmps11
  go_wp2_with fail
  go_loopw [3, 4] (fun o i wr => ∃ j : Nat, j ≤ l.length ∧ i = .int .i64 (j : Int) ∧ OwnV wr w.heap.size o ((l.take j).map fixC) ∧ Below w.heap.size w wr) (fun _ i _ => l.length - (intOf i).toNat)
  case atStart => exact ⟨0, by omega, rfl, OwnV.nil _ _, Below.refl _ _⟩
  case round =>
    obtain ⟨j, hj, rfl, hown, hbel⟩ := hrel
    have HO := hidden hown
    have HB := hidden hbel
    have hzr := hbel.size
    clear hown hbel
    by_cases hlt : j < l.length
    · obtain ⟨g, off, rfl, hg, c0, c1, c2⟩ := (HS.out.kept HB.out).at hlt
      have hlt' : (j : Int) < (l.length : Int) := by omega
      have HNX : Hid ((l.take (j + 1)).map fixC = (l.take j).map fixC ++ [fixC l[j]]) := hidden (by
        rw [List.take_succ_eq_append_getElem hlt, List.map_append]
        rfl)
      have hlen' : ((l.take j).map fixC).length ≤ 100000 := by rw [List.length_map, List.length_take]; omega
      have HVA := hidden (valueC_any (HK.out l[j] (List.getElem_mem hlt)))
      rw [txt_eq] at c2
      generalize fixC l[j] = fc at *
      generalize bytesT l[j].2.2 = S at *
      generalize l[j].2.1 = cn at *
      generalize l[j].1 = ck at *
      generalize (l.take j).map fixC = LL at *
      go_wp2_with fail
      refine (HVA.out _).mono ?_
      rintro e w1 ⟨rfl, hb1⟩
      have HO1 := hidden (HO.out.kept hb1)
      have HB1 := hidden (HB.out.trans (hb1.mono hzr))
      have hz1 := hb1.size
      clear hb1 c0 c1 c2
      generalize hvc : valC fc = vc
      have hcn : ∀ W : World, (W.alloc (.cells #[vc] 47)).cell? ⟨W.heap.size, 0, none⟩ = some (valC fc) := fun W => by rw [hvc]; exact cell_new _ _ _
      have HCN := hidden hcn
      have hvf : vc = .nilIface ∨ ∃ tt uu, vc = .iface tt uu := by
        rw [← hvc]
        by_cases h0 : fc.1 = 0
        · exact Or.inl (valC_null fc h0)
        · exact Or.inr (valC_form fc h0)
      clear hvc hcn
      rcases hvf with rfl | ⟨tt, uu, rfl⟩
      · go_wp2_with (first | (at_builtin; refine wpList_append_v rfl _ _ rfl w.heap.size _ _ fc LL rfl (HO1.out.kept (below_one _ _)) rfl (HCN.out _) hlen' ?c2 ?_))
        case c2 => first | omega | (rw [World.size_alloc]; omega)
        intro v' w5 o5 b5
        have HO5 := hidden o5
        have HB5 := hidden ((HB1.out.alloc (Nat.le_trans hzr hz1) _).trans b5)
        clear o5 b5
        go_wp2_with fail
        go_roundw
        case rel => exact ⟨j + 1, by omega, by go_num, by rw [HNX.out]; exact HO5.out, HB5.out⟩
        case measure => simp [intOf]; omega
      · go_wp2_with (first | (at_builtin; refine wpList_append_v rfl _ _ rfl w.heap.size _ _ fc LL rfl (HO1.out.kept (below_one _ _)) rfl (HCN.out _) hlen' ?c2 ?_))
        case c2 => first | omega | (rw [World.size_alloc]; omega)
        intro v' w5 o5 b5
        have HO5 := hidden o5
        have HB5 := hidden ((HB1.out.alloc (Nat.le_trans hzr hz1) _).trans b5)
        clear o5 b5
        go_wp2_with fail
        go_roundw
        case rel => exact ⟨j + 1, by omega, by go_num, by rw [HNX.out]; exact HO5.out, HB5.out⟩
        case measure => simp [intOf]; omega
    · obtain rfl : j = l.length := by omega
      rw [List.take_length] at HO
      have hge : ¬ ((l.length : Nat) : Int) < (l.length : Int) := by omega
      go_wp2_with fail
      go_ret
      exact ⟨⟨_, rfl, HO.out⟩, HB.out⟩

/-- A new cell in a block of its own. -/
theorem cell_new3 (w : World) (x y z : Value) (t : Nat) : (w.alloc (.cells #[x, y, z] t)).cell? ⟨w.heap.size, 0, none⟩ = some x ∧ (w.alloc (.cells #[x, y, z] t)).cell? ⟨w.heap.size, 1, none⟩ = some y ∧ (w.alloc (.cells #[x, y, z] t)).cell? ⟨w.heap.size, 2, none⟩ = some z := by
  have h := heap_alloc_new w (.cells #[x, y, z] t)
  exact ⟨by rw [cell_block h]; rfl, by rw [cell_block h]; rfl, by rw [cell_block h]; rfl⟩

set_option maxRecDepth 100000 in
set_option maxHeartbeats 2000000 in
theorem fixRow_any {w : World} {v : Value} {l : List (Nat × Int × List Nat)} (hs : Sc w v l) (hl : l.length ≤ 600) :
    Calls Tryz.prog 13 #[v] w fun e w' => (∃ v', e = .returned v' ∧ OwnC w' w.heap.size v' (l.map fixC)) ∧ Below w.heap.size w w' := by
  have HS := hidden hs
  obtain ⟨a, cap, rfl, hcap, hcm⟩ := hs.form
  have hcm' : cap ≤ 9223372036854775807 := by unfold maxLen at hcm; omega
  clear hs hcm
  go_enter Tryz.func13, Tryz.ntmps13
  go_wp2_with fail
  go_loopw [3, 4] (fun o i wr => ∃ j : Nat, j ≤ l.length ∧ i = .int .i64 (j : Int) ∧ OwnC wr w.heap.size o ((l.take j).map fixC) ∧ Below w.heap.size w wr) (fun _ i _ => l.length - (intOf i).toNat)
  case atStart => exact ⟨0, by omega, rfl, OwnC.nil _ _, Below.refl _ _⟩
  case round =>
    obtain ⟨j, hj, rfl, hown, hbel⟩ := hrel
    have HO := hidden hown
    have HB := hidden hbel
    have hzr := hbel.size
    clear hown hbel
    by_cases hlt : j < l.length
    · obtain ⟨g, off, rfl, hg, c0, c1, c2⟩ := (HS.out.kept HB.out).at hlt
      have hlt' : (j : Int) < (l.length : Int) := by omega
      have HNX : Hid ((l.take (j + 1)).map fixC = (l.take j).map fixC ++ [fixC l[j]]) := hidden (by
        rw [List.take_succ_eq_append_getElem hlt, List.map_append]
        rfl)
      have hlen' : ((l.take j).map fixC).length ≤ 100000 := by rw [List.length_map, List.length_take]; omega
      have HVA := hidden (fixC_any l[j])
      rw [txt_eq] at c2
      generalize fixC l[j] = fc at *
      generalize bytesT l[j].2.2 = S at *
      generalize l[j].2.1 = cn at *
      generalize l[j].1 = ck at *
      generalize (l.take j).map fixC = LL at *
      go_wp2_with fail
      refine (HVA.out _).mono ?_
      rintro e w1 ⟨rfl, hb1⟩
      have HO1 := hidden (HO.out.kept hb1)
      have HB1 := hidden (HB.out.trans (hb1.mono hzr))
      have hz1 := hb1.size
      have HCN := hidden (cell_new3 w1 (.int .u8 (fc.1 : Int)) (.int .i64 fc.2.1) (.string (bytesT fc.2.2)) 45)
      clear hb1 c0 c1 c2
      go_wp2_with (first | (at_builtin; refine wpList_append_c rfl _ _ rfl w.heap.size _ _ fc LL rfl (HO1.out.kept (below_one _ _)) rfl HCN.out.1 HCN.out.2.1 HCN.out.2.2 hlen' ?c2 ?_))
      case c2 => first | omega | (rw [World.size_alloc]; omega)
      intro v' w5 o5 b5
      have HO5 := hidden o5
      have HB5 := hidden ((HB1.out.alloc (Nat.le_trans hzr hz1) _).trans b5)
      clear o5 b5
      go_wp2_with fail
      go_roundw
      case rel => exact ⟨j + 1, by omega, by go_num, by rw [HNX.out]; exact HO5.out, HB5.out⟩
      case measure => simp [intOf]; omega
    · obtain rfl : j = l.length := by omega
      rw [List.take_length] at HO
      have hge : ¬ ((l.length : Nat) : Int) < (l.length : Int) := by omega
      go_wp2_with fail
      go_ret
      exact ⟨⟨_, rfl, HO.out⟩, HB.out⟩

set_option maxRecDepth 100000 in
set_option maxHeartbeats 2000000 in
theorem cells_any {w : World} {v : Value} {l : List (Nat × Int × List Nat)} (hs : Sv w v (vvals l)) (hf : ∀ c ∈ l, Fine c) (hl : l.length ≤ 600) :
    Calls Tryz.prog 17 #[v] w fun e w' => (∃ v', e = .returned v' ∧ OwnC w' w.heap.size v' l) ∧ Below w.heap.size w w' := by
  have HS := hidden hs
  have HK := hidden hf
  obtain ⟨a, cap, rfl, hcap, hcm⟩ := hs.form1
  rw [vvals_length] at *
  have hcm' : cap ≤ 9223372036854775807 := by unfold maxLen at hcm; omega
  clear hs hcm hf
  go_enter Tryz.func17, Tryz.ntmps17
  go_wp2_with fail
  go_loopw [3, 4] (fun o i wr => ∃ j : Nat, j ≤ l.length ∧ i = .int .i64 (j : Int) ∧ OwnC wr w.heap.size o (l.take j) ∧ Below w.heap.size w wr) (fun _ i _ => l.length - (intOf i).toNat)
  case atStart => exact ⟨0, by omega, rfl, OwnC.nil _ _, Below.refl _ _⟩
  case round =>
    obtain ⟨j, hj, rfl, hown, hbel⟩ := hrel
    have HO := hidden hown
    have HB := hidden hbel
    have hzr := hbel.size
    clear hown hbel
    by_cases hlt : j < l.length
    · obtain ⟨g, off, rfl, hg, hcell⟩ := (HS.out.kept HB.out).at1 (vvals_get hlt)
      have hlt' : (j : Int) < (l.length : Int) := by omega
      have HNX : Hid (l.take (j + 1) = l.take j ++ [l[j]]) := hidden (List.take_succ_eq_append_getElem hlt)
      have hlen' : (l.take j).length ≤ 100000 := by rw [List.length_take]; omega
      have HVA := hidden (cellC_any (HK.out l[j] (List.getElem_mem hlt)))
      generalize l[j] = fc at *
      generalize l.take j = LL at *
      generalize valC fc = vc at *
      go_wp2_with fail
      refine (HVA.out _).mono ?_
      rintro e w1 ⟨rfl, hb1⟩
      have HO1 := hidden (HO.out.kept hb1)
      have HB1 := hidden (HB.out.trans (hb1.mono hzr))
      have hz1 := hb1.size
      have HCN := hidden (cell_new3 w1 (.int .u8 (fc.1 : Int)) (.int .i64 fc.2.1) (.string (bytesT fc.2.2)) 45)
      clear hb1 hcell
      go_wp2_with (first | (at_builtin; refine wpList_append_c rfl _ _ rfl w.heap.size _ _ fc LL rfl (HO1.out.kept (below_one _ _)) rfl HCN.out.1 HCN.out.2.1 HCN.out.2.2 hlen' ?c2 ?_))
      case c2 => first | omega | (rw [World.size_alloc]; omega)
      intro v' w5 o5 b5
      have HO5 := hidden o5
      have HB5 := hidden ((HB1.out.alloc (Nat.le_trans hzr hz1) _).trans b5)
      clear o5 b5
      go_wp2_with fail
      go_roundw
      case rel => exact ⟨j + 1, by omega, by go_num, by rw [HNX.out]; exact HO5.out, HB5.out⟩
      case measure => simp [intOf]; omega
    · obtain rfl : j = l.length := by omega
      rw [List.take_length] at HO
      have hge : ¬ ((l.length : Nat) : Int) < (l.length : Int) := by omega
      go_wp2_with fail
      go_ret
      exact ⟨⟨_, rfl, HO.out⟩, HB.out⟩
end Go.Proofs.YtcmmednihoaekaaGreat
