/- What statistics leave of a node: withSome. -/
import Derived.Test.YtfcnoeehfhncjaaPy
set_option linter.unusedVariables false
set_option linter.unusedSimpArgs false
namespace Go.Proofs.Ytfcnoeehfhncjaa
open Go.RowKit Go.Lib

/-- Statistics in memory. -/
def celS (st : Stt) : List Value := [.int .i64 st.rows, .int .i64 st.nulls, .bool st.some, .bool st.high, .int .u8 (st.lo.1 : Int), .int .i64 st.lo.2.1, .string (bytesT st.lo.2.2), .int .u8 (st.hi.1 : Int), .int .i64 st.hi.2.1, .string (bytesT st.hi.2.2)]
def aggS (st : Stt) : Value := .agg #[.int .i64 st.rows, .int .i64 st.nulls, .bool st.some, .bool st.high, .int .u8 (st.lo.1 : Int), .int .i64 st.lo.2.1, .string (bytesT st.lo.2.2), .int .u8 (st.hi.1 : Int), .int .i64 st.hi.2.1, .string (bytesT st.hi.2.2)]
def Stb (W : World) (q : Nat) (st : Stt) : Prop := W.heap[q]? = some (.cells #[.int .i64 st.rows, .int .i64 st.nulls, .bool st.some, .bool st.high, .int .u8 (st.lo.1 : Int), .int .i64 st.lo.2.1, .string (bytesT st.lo.2.2), .int .u8 (st.hi.1 : Int), .int .i64 st.hi.2.1, .string (bytesT st.hi.2.2)] 29 (0, 0))
/-- The ten cells of statistics. -/
def StAt (W : World) (b off : Nat) (st : Stt) : Prop := b < W.heap.size ∧ (W.cell? ⟨b, off, none⟩ = some (.int .i64 st.rows) ∧ W.cell? ⟨b, off + 1, none⟩ = some (.int .i64 st.nulls) ∧ W.cell? ⟨b, off + 2, none⟩ = some (.bool st.some) ∧ W.cell? ⟨b, off + 3, none⟩ = some (.bool st.high)) ∧ (W.cell? ⟨b, off + 4, none⟩ = some (.int .u8 (st.lo.1 : Int)) ∧ W.cell? ⟨b, off + 5, none⟩ = some (.int .i64 st.lo.2.1) ∧ W.cell? ⟨b, off + 6, none⟩ = some (.string (bytesT st.lo.2.2))) ∧ (W.cell? ⟨b, off + 7, none⟩ = some (.int .u8 (st.hi.1 : Int)) ∧ W.cell? ⟨b, off + 8, none⟩ = some (.int .i64 st.hi.2.1) ∧ W.cell? ⟨b, off + 9, none⟩ = some (.string (bytesT st.hi.2.2)))
theorem StAt.kept {W W' : World} {b off : Nat} {st : Stt} (h : StAt W b off st) (hb : Below W.heap.size W W') : StAt W' b off st := by
  obtain ⟨h0, ⟨a1, a2, a3, a4⟩, ⟨a5, a6, a7⟩, a8, a9, a10⟩ := h
  have e : ∀ o, W'.cell? ⟨b, o, none⟩ = W.cell? ⟨b, o, none⟩ := fun o => (bcell hb).1 b o h0
  exact ⟨Nat.lt_of_lt_of_le h0 hb.size, ⟨by rw [e]; exact a1, by rw [e]; exact a2, by rw [e]; exact a3, by rw [e]; exact a4⟩, ⟨by rw [e]; exact a5, by rw [e]; exact a6, by rw [e]; exact a7⟩, by rw [e]; exact a8, by rw [e]; exact a9, by rw [e]; exact a10⟩
theorem Stb.at {W : World} {q : Nat} {st : Stt} (h : Stb W q st) : StAt W q 0 st := by
  unfold Stb at h
  exact ⟨(Array.getElem?_eq_some_iff.1 h).1, ⟨by rw [cell_block h]; rfl, by rw [cell_block h]; rfl, by rw [cell_block h]; rfl, by rw [cell_block h]; rfl⟩, ⟨by rw [cell_block h]; rfl, by rw [cell_block h]; rfl, by rw [cell_block h]; rfl⟩, by rw [cell_block h]; rfl, by rw [cell_block h]; rfl, by rw [cell_block h]; rfl⟩
theorem Stb.new (w : World) (st : Stt) : Stb (w.alloc (.cells #[.int .i64 st.rows, .int .i64 st.nulls, .bool st.some, .bool st.high, .int .u8 (st.lo.1 : Int), .int .i64 st.lo.2.1, .string (bytesT st.lo.2.2), .int .u8 (st.hi.1 : Int), .int .i64 st.hi.2.1, .string (bytesT st.hi.2.2)] 29)) w.heap.size st := heap_alloc_new w _
def Oks (st : Stt) : Prop := Okc st.lo ∧ Okc st.hi
theorem set3 {B : Nat} {w W : World} (h : Below B w W) {p : Nat} (hp : B ≤ p) (x y z : Value) : Below B w (((W.setCell ⟨p, 0, none⟩ x).setCell ⟨p, 1, none⟩ y).setCell ⟨p, 2, none⟩ z) :=
  ((h.setCell (p := ⟨p, 0, none⟩) hp _).setCell (p := ⟨p, 1, none⟩) hp _).setCell (p := ⟨p, 2, none⟩) hp _

theorem withM1 (u : Bool) (c : Cl) (st : Stt) : withM u 1 c st = (!(st.high && decide (cmpC (fixC c) (fixC st.lo) = 0) && decide (cmpC (fixC c) (fixC st.hi) = 0) && uncutM (fixC c)), u, decide (0 ≤ cmpC (fixC c) (fixC st.lo)) && !(st.high && decide (0 < cmpC (fixC c) (fixC st.hi)))) := rfl
theorem withM2 (u : Bool) (c : Cl) (st : Stt) : withM u 2 c st = (!(st.high && decide (0 < cmpC (fixC c) (fixC st.hi))), u, decide (0 < cmpC (fixC c) (fixC st.lo))) := rfl
theorem withM3 (u : Bool) (c : Cl) (st : Stt) : withM u 3 c st = (!(st.high && decide (0 ≤ cmpC (fixC c) (fixC st.hi))), u, decide (0 ≤ cmpC (fixC c) (fixC st.lo))) := rfl
theorem withM4 (u : Bool) (c : Cl) (st : Stt) : withM u 4 c st = (true, u, true) := rfl
theorem withM5 (u : Bool) (op : Nat) (c : Cl) (st : Stt) (h : ¬ (1 ≤ op ∧ op ≤ 4)) : withM u op c st = (true, true, true) := by
  unfold withM
  rw [if_neg (by omega), if_neg (by omega), if_neg (by omega), if_neg (by omega)]

/-- What withSome has in memory while it goes on. -/
def WsIn (w X : World) (b off op f : Nat) (c : Cl) (kv : Value) (u : Bool) (st : Stt) : Prop := Below w.heap.size w X ∧ Flg X w.heap.size (false, u, false) ∧ Stb X (w.heap.size + 1) st ∧ Flg X (w.heap.size + 1 + 1) (false, false, false) ∧ NodeAt X b off op f c kv
theorem WsIn.kept {w X Y : World} {b off op f : Nat} {c : Cl} {kv : Value} {u : Bool} {st : Stt} (h : WsIn w X b off op f c kv u st) (hb : Below X.heap.size X Y) : WsIn w Y b off op f c kv u st := by
  obtain ⟨h1, h2, h3, h4, h5⟩ := h
  refine ⟨below_then h1 hb, h2.kept hb, ?_, h4.kept hb, h5.kept hb⟩
  unfold Stb at *
  rw [hb.block _ ((Array.getElem?_eq_some_iff.1 h3).1)]
  exact h3

set_option maxRecDepth 100000 in
set_option maxHeartbeats 8000000 in
theorem withSome_any {w : World} {b off op f : Nat} {c : Cl} {kv : Value} (hn : NodeAt w b off op f c kv) (hok : Okc c) (u : Bool) (st : Stt) (hst : Oks st) :
    Calls Try.prog 76 #[.agg #[.bool false, .bool u, .bool false], .pointer (some ⟨b, off, none⟩), .agg #[.int .i64 st.rows, .int .i64 st.nulls, .bool st.some, .bool st.high, .int .u8 (st.lo.1 : Int), .int .i64 st.lo.2.1, .string (bytesT st.lo.2.2), .int .u8 (st.hi.1 : Int), .int .i64 st.hi.2.1, .string (bytesT st.hi.2.2)]] w fun e w' => e = .returned (b3V (withM u op c st)) ∧ Below w.heap.size w w' := by
  have HO := hidden hok
  have HST := hidden hst
  have hf1 := Flg.new w (false, u, false)
  have hb1 := below_one w (.cells #[.bool false, .bool u, .bool false] 51)
  have s1 : (w.alloc (.cells #[.bool false, .bool u, .bool false] 51)).heap.size = w.heap.size + 1 := World.size_alloc _ _
  simp only at hf1
  generalize hA : w.alloc (.cells #[.bool false, .bool u, .bool false] 51) = A at *
  have hf2 := Stb.new A st
  have hb2 := below_one A (.cells #[.int .i64 st.rows, .int .i64 st.nulls, .bool st.some, .bool st.high, .int .u8 (st.lo.1 : Int), .int .i64 st.lo.2.1, .string (bytesT st.lo.2.2), .int .u8 (st.hi.1 : Int), .int .i64 st.hi.2.1, .string (bytesT st.hi.2.2)] 29)
  have s2 : (A.alloc (.cells #[.int .i64 st.rows, .int .i64 st.nulls, .bool st.some, .bool st.high, .int .u8 (st.lo.1 : Int), .int .i64 st.lo.2.1, .string (bytesT st.lo.2.2), .int .u8 (st.hi.1 : Int), .int .i64 st.hi.2.1, .string (bytesT st.hi.2.2)] 29)).heap.size = A.heap.size + 1 := World.size_alloc _ _
  generalize hB : A.alloc (.cells #[.int .i64 st.rows, .int .i64 st.nulls, .bool st.some, .bool st.high, .int .u8 (st.lo.1 : Int), .int .i64 st.lo.2.1, .string (bytesT st.lo.2.2), .int .u8 (st.hi.1 : Int), .int .i64 st.hi.2.1, .string (bytesT st.hi.2.2)] 29) = B at *
  have hf3 := Flg.new B (false, false, false)
  have hb3 := below_one B (.cells #[.bool false, .bool false, .bool false] 51)
  simp only at hf3
  generalize hC : B.alloc (.cells #[.bool false, .bool false, .bool false] 51) = C at *
  have s12 : B.heap.size = w.heap.size + 1 + 1 := by omega
  have hws : WsIn w C b off op f c kv u st := by
    refine ⟨below_then (below_then hb1 hb2) hb3, (hf1.kept hb2).kept hb3, ?_, by rw [← s12]; exact hf3, ((hn.kept hb1).kept hb2).kept hb3⟩
    rw [← s1]
    have q := hf2
    unfold Stb at *
    rw [hb3.block _ ((Array.getElem?_eq_some_iff.1 q).1)]
    exact q
  have HW0 := hidden hws
  obtain ⟨hbw, hg1, hg2, hg3, hb0, x0, x1, x2, x3, x4, x5⟩ := hws
  clear hn hok hst hf1 hf2 hf3 hb1 hb2 hb3 hbw hg1 hg2 hg3
  go_enter Try.func76, Try.ntmps76
  go_wp2_with fail
  clear hA hB hC
  refine (bound_any HO.out _).mono ?_
  rintro e w1 ⟨rfl, hb⟩
  have HW1 := hidden (HW0.out.kept hb)
  clear hb x0 x1 x2 x3 x4 x5 hb0 HW0
  have HQ : Hid (∀ X, WsIn w X b off op f c kv u st → (X.cell? ⟨w.heap.size + 1, 3, none⟩ = some (.bool st.high) ∧ X.cell? ⟨w.heap.size + 1, 4, none⟩ = some (.int .u8 (st.lo.1 : Int)) ∧ X.cell? ⟨w.heap.size + 1, 5, none⟩ = some (.int .i64 st.lo.2.1) ∧ X.cell? ⟨w.heap.size + 1, 6, none⟩ = some (.string (bytesT st.lo.2.2)) ∧ X.cell? ⟨w.heap.size + 1, 7, none⟩ = some (.int .u8 (st.hi.1 : Int)) ∧ X.cell? ⟨w.heap.size + 1, 8, none⟩ = some (.int .i64 st.hi.2.1) ∧ X.cell? ⟨w.heap.size + 1, 9, none⟩ = some (.string (bytesT st.hi.2.2))) ∧ X.cell? ⟨b, off, none⟩ = some (.int .u8 (op : Int))) := hidden (fun X h => by
    obtain ⟨_, ⟨_, _, _, a4⟩, ⟨a5, a6, a7⟩, a8, a9, a10⟩ := h.2.2.1.at
    simp only [Nat.zero_add] at *
    exact ⟨⟨a4, a5, a6, a7, a8, a9, a10⟩, h.2.2.2.2.2.1⟩)
  obtain ⟨⟨z3, z4, z5, z6, z7, z8, z9⟩, zo⟩ := HQ.out _ HW1.out
  clear s1 s2 s12
  go_wp2_with fail
  refine (bound_any HST.out.1 _).mono ?_
  rintro e w2 ⟨rfl, hb⟩
  have HW2 := hidden (HW1.out.kept hb)
  clear hb z3 z4 z5 z6 z7 z8 z9 zo HW1
  obtain ⟨⟨z3, z4, z5, z6, z7, z8, z9⟩, zo⟩ := HQ.out _ HW2.out
  go_wp2_with fail
  refine (compare_cv (fixC_fine HO.out).val (fixC_fine HST.out.1).val _).mono ?_
  rintro e w3 ⟨rfl, hb⟩
  have HW3 := hidden (HW2.out.kept hb)
  clear hb z3 z4 z5 z6 z7 z8 z9 zo HW2
  obtain ⟨⟨z3, z4, z5, z6, z7, z8, z9⟩, zo⟩ := HQ.out _ HW3.out
  obtain ⟨m, hm⟩ : ∃ m, m = cmpC (fixC c) (fixC st.lo) := ⟨_, rfl⟩
  rw [show cv ((fixC c).1 : Int) (fixC c).2.1 (bytesT (fixC c).2.2) ((fixC st.lo).1 : Int) (fixC st.lo).2.1 (bytesT (fixC st.lo).2.2) = m from hm.symm]
  have HM := hidden hm
  clear hm
  go_wp2_with fail
  refine (bound_any HST.out.2 _).mono ?_
  rintro e w4 ⟨rfl, hb⟩
  have HW4 := hidden (HW3.out.kept hb)
  clear hb z3 z4 z5 z6 z7 z8 z9 zo HW3
  obtain ⟨⟨z3, z4, z5, z6, z7, z8, z9⟩, zo⟩ := HQ.out _ HW4.out
  go_wp2_with fail
  refine (compare_cv (fixC_fine HO.out).val (fixC_fine HST.out.2).val _).mono ?_
  rintro e w5 ⟨rfl, hb⟩
  have HW5 := hidden (HW4.out.kept hb)
  clear hb z3 z4 z5 z6 z7 z8 z9 zo HW4
  obtain ⟨⟨z3, z4, z5, z6, z7, z8, z9⟩, zo⟩ := HQ.out _ HW5.out
  obtain ⟨M, hM⟩ : ∃ m, m = cmpC (fixC c) (fixC st.hi) := ⟨_, rfl⟩
  rw [show cv ((fixC c).1 : Int) (fixC c).2.1 (bytesT (fixC c).2.2) ((fixC st.hi).1 : Int) (fixC st.hi).2.1 (bytesT (fixC st.hi).2.2) = M from hM.symm]
  have HMM := hidden hM
  clear hM z4 z5 z6 z7 z8 z9 HQ
  obtain ⟨⟨p0, p1, p2⟩, ⟨t0, t1, t2⟩, hpz⟩ := HW5.out.2.1.facts
  obtain ⟨⟨r0, r1, r2⟩, ⟨v0, v1, v2⟩, hrz⟩ := HW5.out.2.2.2.1.facts
  have HBW := hidden HW5.out.1
  have HU := hidden (uncut_any (fixC_fine HO.out))
  have H1 := hidden (withM1 u c st)
  have H2 := hidden (withM2 u c st)
  have H3 := hidden (withM3 u c st)
  have H4 := hidden (withM4 u c st)
  have H5 := hidden (withM5 u op c st)
  rw [← HM.out, ← HMM.out] at H1 H2 H3
  generalize st.high = hi at *
  generalize uncutM (fixC c) = uc at *
  obtain ⟨R, hR⟩ : ∃ R, R = withM u op c st := ⟨_, rfl⟩
  have HR := hidden hR
  clear hR
  by_cases h1 : op = 1
  · subst h1
    clear H4 H5 HR H2 H3
    obtain hmc | hmc | hmc : m < 0 ∨ m = 0 ∨ 0 < m := by omega
    · have G1 : Hid (decide (0 ≤ m) = false ∧ decide (m = 0) = false ∧ decide (0 < m) = false) := hidden (by refine ⟨?_, ?_, ?_⟩ <;> simp <;> omega)
      have k1 : (m == 0) = false := beq_eq_false_iff_ne.2 (by omega)
      have k2 : ¬ m ≥ 0 := by omega
      have k3 : ¬ 0 < m := by omega
      clear hmc
      cases hi
      · skip
        go_wp2_with fail
        refine bodyPost_ret (v := .agg #[.bool true, .bool u, .bool false]) (by simp [results, Try.results76, go_sem, r0, r1, r2] <;> omega) rfl ⟨?_, set3 ((HBW.out.setCell (p := ⟨w.heap.size, 2, none⟩) (Nat.le_refl _) _).setCell (p := ⟨w.heap.size, 0, none⟩) (Nat.le_refl _) _) (by omega) _ _ _⟩
        simp only [H1.out, G1.out.1, G1.out.2.1]
        rfl
      · obtain hMc | hMc | hMc : M < 0 ∨ M = 0 ∨ 0 < M := by omega
        · have G2 : Hid (decide (0 ≤ M) = false ∧ decide (M = 0) = false ∧ decide (0 < M) = false) := hidden (by refine ⟨?_, ?_, ?_⟩ <;> simp <;> omega)
          have l1 : (M == 0) = false := beq_eq_false_iff_ne.2 (by omega)
          have l2 : ¬ M ≥ 0 := by omega
          have l3 : ¬ 0 < M := by omega
          clear hMc
          go_wp2_with fail
          refine bodyPost_ret (v := .agg #[.bool true, .bool u, .bool false]) (by simp [results, Try.results76, go_sem, r0, r1, r2] <;> omega) rfl ⟨?_, set3 ((HBW.out.setCell (p := ⟨w.heap.size, 2, none⟩) (Nat.le_refl _) _).setCell (p := ⟨w.heap.size, 0, none⟩) (Nat.le_refl _) _) (by omega) _ _ _⟩
          simp only [H1.out, G1.out.1, G1.out.2.1, G2.out.2.1, G2.out.2.2]
          rfl
        · have G2 : Hid (decide (0 ≤ M) = true ∧ decide (M = 0) = true ∧ decide (0 < M) = false) := hidden (by refine ⟨?_, ?_, ?_⟩ <;> simp <;> omega)
          subst hMc
          go_wp2_with fail
          refine bodyPost_ret (v := .agg #[.bool true, .bool u, .bool false]) (by simp [results, Try.results76, go_sem, r0, r1, r2] <;> omega) rfl ⟨?_, set3 ((HBW.out.setCell (p := ⟨w.heap.size, 2, none⟩) (Nat.le_refl _) _).setCell (p := ⟨w.heap.size, 0, none⟩) (Nat.le_refl _) _) (by omega) _ _ _⟩
          simp only [H1.out, G1.out.1, G1.out.2.1, G2.out.2.1, G2.out.2.2]
          rfl
        · have G2 : Hid (decide (0 ≤ M) = true ∧ decide (M = 0) = false ∧ decide (0 < M) = true) := hidden (by refine ⟨?_, ?_, ?_⟩ <;> simp <;> omega)
          have l1 : (M == 0) = false := beq_eq_false_iff_ne.2 (by omega)
          have l2 : M ≥ 0 := by omega
          have l3 : 0 < M := by omega
          clear hMc
          go_wp2_with fail
          refine bodyPost_ret (v := .agg #[.bool true, .bool u, .bool false]) (by simp [results, Try.results76, go_sem, r0, r1, r2] <;> omega) rfl ⟨?_, set3 ((HBW.out.setCell (p := ⟨w.heap.size, 2, none⟩) (Nat.le_refl _) _).setCell (p := ⟨w.heap.size, 0, none⟩) (Nat.le_refl _) _) (by omega) _ _ _⟩
          simp only [H1.out, G1.out.1, G1.out.2.1, G2.out.2.1, G2.out.2.2]
          rfl
    · have G1 : Hid (decide (0 ≤ m) = true ∧ decide (m = 0) = true ∧ decide (0 < m) = false) := hidden (by refine ⟨?_, ?_, ?_⟩ <;> simp <;> omega)
      subst hmc
      cases hi
      · skip
        go_wp2_with fail
        refine bodyPost_ret (v := .agg #[.bool true, .bool u, .bool true]) (by simp [results, Try.results76, go_sem, r0, r1, r2] <;> omega) rfl ⟨?_, set3 ((HBW.out.setCell (p := ⟨w.heap.size, 2, none⟩) (Nat.le_refl _) _).setCell (p := ⟨w.heap.size, 0, none⟩) (Nat.le_refl _) _) (by omega) _ _ _⟩
        simp only [H1.out, G1.out.1, G1.out.2.1]
        rfl
      · obtain hMc | hMc | hMc : M < 0 ∨ M = 0 ∨ 0 < M := by omega
        · have G2 : Hid (decide (0 ≤ M) = false ∧ decide (M = 0) = false ∧ decide (0 < M) = false) := hidden (by refine ⟨?_, ?_, ?_⟩ <;> simp <;> omega)
          have l1 : (M == 0) = false := beq_eq_false_iff_ne.2 (by omega)
          have l2 : ¬ M ≥ 0 := by omega
          have l3 : ¬ 0 < M := by omega
          clear hMc
          go_wp2_with fail
          refine bodyPost_ret (v := .agg #[.bool true, .bool u, .bool true]) (by simp [results, Try.results76, go_sem, r0, r1, r2] <;> omega) rfl ⟨?_, set3 ((HBW.out.setCell (p := ⟨w.heap.size, 2, none⟩) (Nat.le_refl _) _).setCell (p := ⟨w.heap.size, 0, none⟩) (Nat.le_refl _) _) (by omega) _ _ _⟩
          simp only [H1.out, G1.out.1, G1.out.2.1, G2.out.2.1, G2.out.2.2]
          rfl
        · have G2 : Hid (decide (0 ≤ M) = true ∧ decide (M = 0) = true ∧ decide (0 < M) = false) := hidden (by refine ⟨?_, ?_, ?_⟩ <;> simp <;> omega)
          subst hMc
          go_wp2_with fail
          have hx1 := HW5.out.2.1.set 2 (by omega)
          have hbx : Below w.heap.size w (w5.setCell ⟨w.heap.size, 2, none⟩ (.bool true)) := HBW.out.setCell (p := ⟨w.heap.size, 2, none⟩) (Nat.le_refl _) (.bool true)
          have hx2 : Flg (w5.setCell ⟨w.heap.size, 2, none⟩ (.bool true)) (w.heap.size + 1 + 1) (false, false, false) := by
            have q := HW5.out.2.2.2.1
            unfold Flg at *
            rw [heap_setCell_other w5 ⟨w.heap.size, 2, none⟩ (w.heap.size + 1 + 1) _ (show w.heap.size + 1 + 1 ≠ w.heap.size by omega)]
            exact q
          have HX1 := hidden hx1
          have HX2 := hidden hx2
          have HBX := hidden hbx
          clear hx1 hx2 hbx p0 p1 p2 t0 t1 t2 r0 r1 r2 v0 v1 v2 z3 zo
          refine (HU.out _).mono ?_
          rintro e w6 ⟨rfl, hb6⟩
          obtain ⟨⟨p0, p1, p2⟩, ⟨t0, t1, t2⟩, _⟩ := (HX1.out.kept hb6).facts
          obtain ⟨⟨r0, r1, r2⟩, ⟨v0, v1, v2⟩, _⟩ := (HX2.out.kept hb6).facts
          have HB6 := hidden (below_then HBX.out hb6)
          clear hb6
          simp only [setB, Nat.reduceEqDiff, if_true, if_false] at p0 p1 p2
          go_wp2_with fail
          refine bodyPost_ret (v := .agg #[.bool (!uc), .bool u, .bool true]) (by simp [results, Try.results76, go_sem, r0, r1, r2] <;> omega) rfl ⟨?_, set3 (HB6.out.setCell (p := ⟨w.heap.size, 0, none⟩) (Nat.le_refl _) _) (by omega) _ _ _⟩
          simp only [H1.out, G1.out.1, G1.out.2.1, G2.out.2.1, G2.out.2.2]
          rfl
        · have G2 : Hid (decide (0 ≤ M) = true ∧ decide (M = 0) = false ∧ decide (0 < M) = true) := hidden (by refine ⟨?_, ?_, ?_⟩ <;> simp <;> omega)
          have l1 : (M == 0) = false := beq_eq_false_iff_ne.2 (by omega)
          have l2 : M ≥ 0 := by omega
          have l3 : 0 < M := by omega
          clear hMc
          go_wp2_with fail
          refine bodyPost_ret (v := .agg #[.bool true, .bool u, .bool false]) (by simp [results, Try.results76, go_sem, r0, r1, r2] <;> omega) rfl ⟨?_, set3 ((HBW.out.setCell (p := ⟨w.heap.size, 2, none⟩) (Nat.le_refl _) _).setCell (p := ⟨w.heap.size, 0, none⟩) (Nat.le_refl _) _) (by omega) _ _ _⟩
          simp only [H1.out, G1.out.1, G1.out.2.1, G2.out.2.1, G2.out.2.2]
          rfl
    · have G1 : Hid (decide (0 ≤ m) = true ∧ decide (m = 0) = false ∧ decide (0 < m) = true) := hidden (by refine ⟨?_, ?_, ?_⟩ <;> simp <;> omega)
      have k1 : (m == 0) = false := beq_eq_false_iff_ne.2 (by omega)
      have k2 : m ≥ 0 := by omega
      have k3 : 0 < m := by omega
      clear hmc
      cases hi
      · skip
        go_wp2_with fail
        refine bodyPost_ret (v := .agg #[.bool true, .bool u, .bool true]) (by simp [results, Try.results76, go_sem, r0, r1, r2] <;> omega) rfl ⟨?_, set3 ((HBW.out.setCell (p := ⟨w.heap.size, 2, none⟩) (Nat.le_refl _) _).setCell (p := ⟨w.heap.size, 0, none⟩) (Nat.le_refl _) _) (by omega) _ _ _⟩
        simp only [H1.out, G1.out.1, G1.out.2.1]
        rfl
      · obtain hMc | hMc | hMc : M < 0 ∨ M = 0 ∨ 0 < M := by omega
        · have G2 : Hid (decide (0 ≤ M) = false ∧ decide (M = 0) = false ∧ decide (0 < M) = false) := hidden (by refine ⟨?_, ?_, ?_⟩ <;> simp <;> omega)
          have l1 : (M == 0) = false := beq_eq_false_iff_ne.2 (by omega)
          have l2 : ¬ M ≥ 0 := by omega
          have l3 : ¬ 0 < M := by omega
          clear hMc
          go_wp2_with fail
          refine bodyPost_ret (v := .agg #[.bool true, .bool u, .bool true]) (by simp [results, Try.results76, go_sem, r0, r1, r2] <;> omega) rfl ⟨?_, set3 ((HBW.out.setCell (p := ⟨w.heap.size, 2, none⟩) (Nat.le_refl _) _).setCell (p := ⟨w.heap.size, 0, none⟩) (Nat.le_refl _) _) (by omega) _ _ _⟩
          simp only [H1.out, G1.out.1, G1.out.2.1, G2.out.2.1, G2.out.2.2]
          rfl
        · have G2 : Hid (decide (0 ≤ M) = true ∧ decide (M = 0) = true ∧ decide (0 < M) = false) := hidden (by refine ⟨?_, ?_, ?_⟩ <;> simp <;> omega)
          subst hMc
          go_wp2_with fail
          refine bodyPost_ret (v := .agg #[.bool true, .bool u, .bool true]) (by simp [results, Try.results76, go_sem, r0, r1, r2] <;> omega) rfl ⟨?_, set3 ((HBW.out.setCell (p := ⟨w.heap.size, 2, none⟩) (Nat.le_refl _) _).setCell (p := ⟨w.heap.size, 0, none⟩) (Nat.le_refl _) _) (by omega) _ _ _⟩
          simp only [H1.out, G1.out.1, G1.out.2.1, G2.out.2.1, G2.out.2.2]
          rfl
        · have G2 : Hid (decide (0 ≤ M) = true ∧ decide (M = 0) = false ∧ decide (0 < M) = true) := hidden (by refine ⟨?_, ?_, ?_⟩ <;> simp <;> omega)
          have l1 : (M == 0) = false := beq_eq_false_iff_ne.2 (by omega)
          have l2 : M ≥ 0 := by omega
          have l3 : 0 < M := by omega
          clear hMc
          go_wp2_with fail
          refine bodyPost_ret (v := .agg #[.bool true, .bool u, .bool false]) (by simp [results, Try.results76, go_sem, r0, r1, r2] <;> omega) rfl ⟨?_, set3 ((HBW.out.setCell (p := ⟨w.heap.size, 2, none⟩) (Nat.le_refl _) _).setCell (p := ⟨w.heap.size, 0, none⟩) (Nat.le_refl _) _) (by omega) _ _ _⟩
          simp only [H1.out, G1.out.1, G1.out.2.1, G2.out.2.1, G2.out.2.2]
          rfl
  have n1 : ((op : Int) == 1) = false := beq_eq_false_iff_ne.2 (by omega)
  by_cases h2 : op = 2
  · subst h2
    clear H4 H5 HR H1 H3
    obtain hmc | hmc | hmc : m < 0 ∨ m = 0 ∨ 0 < m := by omega
    · have G1 : Hid (decide (0 ≤ m) = false ∧ decide (m = 0) = false ∧ decide (0 < m) = false) := hidden (by refine ⟨?_, ?_, ?_⟩ <;> simp <;> omega)
      have k1 : (m == 0) = false := beq_eq_false_iff_ne.2 (by omega)
      have k2 : ¬ m ≥ 0 := by omega
      have k3 : ¬ 0 < m := by omega
      clear hmc
      cases hi
      · skip
        go_wp2_with fail
        refine bodyPost_ret (v := .agg #[.bool true, .bool u, .bool false]) (by simp [results, Try.results76, go_sem, r0, r1, r2] <;> omega) rfl ⟨?_, set3 ((HBW.out.setCell (p := ⟨w.heap.size, 2, none⟩) (Nat.le_refl _) _).setCell (p := ⟨w.heap.size, 0, none⟩) (Nat.le_refl _) _) (by omega) _ _ _⟩
        rw [H2.out, G1.out.2.2]
        rfl
      · obtain hMc | hMc | hMc : M < 0 ∨ M = 0 ∨ 0 < M := by omega
        · have G2 : Hid (decide (0 ≤ M) = false ∧ decide (M = 0) = false ∧ decide (0 < M) = false) := hidden (by refine ⟨?_, ?_, ?_⟩ <;> simp <;> omega)
          have l1 : (M == 0) = false := beq_eq_false_iff_ne.2 (by omega)
          have l2 : ¬ M ≥ 0 := by omega
          have l3 : ¬ 0 < M := by omega
          clear hMc
          go_wp2_with fail
          refine bodyPost_ret (v := .agg #[.bool true, .bool u, .bool false]) (by simp [results, Try.results76, go_sem, r0, r1, r2] <;> omega) rfl ⟨?_, set3 ((HBW.out.setCell (p := ⟨w.heap.size, 2, none⟩) (Nat.le_refl _) _).setCell (p := ⟨w.heap.size, 0, none⟩) (Nat.le_refl _) _) (by omega) _ _ _⟩
          simp only [H2.out, G1.out.2.2, G2.out.2.2]
          rfl
        · have G2 : Hid (decide (0 ≤ M) = true ∧ decide (M = 0) = true ∧ decide (0 < M) = false) := hidden (by refine ⟨?_, ?_, ?_⟩ <;> simp <;> omega)
          subst hMc
          go_wp2_with fail
          refine bodyPost_ret (v := .agg #[.bool true, .bool u, .bool false]) (by simp [results, Try.results76, go_sem, r0, r1, r2] <;> omega) rfl ⟨?_, set3 ((HBW.out.setCell (p := ⟨w.heap.size, 2, none⟩) (Nat.le_refl _) _).setCell (p := ⟨w.heap.size, 0, none⟩) (Nat.le_refl _) _) (by omega) _ _ _⟩
          simp only [H2.out, G1.out.2.2, G2.out.2.2]
          rfl
        · have G2 : Hid (decide (0 ≤ M) = true ∧ decide (M = 0) = false ∧ decide (0 < M) = true) := hidden (by refine ⟨?_, ?_, ?_⟩ <;> simp <;> omega)
          have l1 : (M == 0) = false := beq_eq_false_iff_ne.2 (by omega)
          have l2 : M ≥ 0 := by omega
          have l3 : 0 < M := by omega
          clear hMc
          go_wp2_with fail
          refine bodyPost_ret (v := .agg #[.bool false, .bool u, .bool false]) (by simp [results, Try.results76, go_sem, r0, r1, r2] <;> omega) rfl ⟨?_, set3 ((HBW.out.setCell (p := ⟨w.heap.size, 2, none⟩) (Nat.le_refl _) _).setCell (p := ⟨w.heap.size, 0, none⟩) (Nat.le_refl _) _) (by omega) _ _ _⟩
          simp only [H2.out, G1.out.2.2, G2.out.2.2]
          rfl
    · have G1 : Hid (decide (0 ≤ m) = true ∧ decide (m = 0) = true ∧ decide (0 < m) = false) := hidden (by refine ⟨?_, ?_, ?_⟩ <;> simp <;> omega)
      subst hmc
      cases hi
      · skip
        go_wp2_with fail
        refine bodyPost_ret (v := .agg #[.bool true, .bool u, .bool false]) (by simp [results, Try.results76, go_sem, r0, r1, r2] <;> omega) rfl ⟨?_, set3 ((HBW.out.setCell (p := ⟨w.heap.size, 2, none⟩) (Nat.le_refl _) _).setCell (p := ⟨w.heap.size, 0, none⟩) (Nat.le_refl _) _) (by omega) _ _ _⟩
        rw [H2.out, G1.out.2.2]
        rfl
      · obtain hMc | hMc | hMc : M < 0 ∨ M = 0 ∨ 0 < M := by omega
        · have G2 : Hid (decide (0 ≤ M) = false ∧ decide (M = 0) = false ∧ decide (0 < M) = false) := hidden (by refine ⟨?_, ?_, ?_⟩ <;> simp <;> omega)
          have l1 : (M == 0) = false := beq_eq_false_iff_ne.2 (by omega)
          have l2 : ¬ M ≥ 0 := by omega
          have l3 : ¬ 0 < M := by omega
          clear hMc
          go_wp2_with fail
          refine bodyPost_ret (v := .agg #[.bool true, .bool u, .bool false]) (by simp [results, Try.results76, go_sem, r0, r1, r2] <;> omega) rfl ⟨?_, set3 ((HBW.out.setCell (p := ⟨w.heap.size, 2, none⟩) (Nat.le_refl _) _).setCell (p := ⟨w.heap.size, 0, none⟩) (Nat.le_refl _) _) (by omega) _ _ _⟩
          simp only [H2.out, G1.out.2.2, G2.out.2.2]
          rfl
        · have G2 : Hid (decide (0 ≤ M) = true ∧ decide (M = 0) = true ∧ decide (0 < M) = false) := hidden (by refine ⟨?_, ?_, ?_⟩ <;> simp <;> omega)
          subst hMc
          go_wp2_with fail
          refine bodyPost_ret (v := .agg #[.bool true, .bool u, .bool false]) (by simp [results, Try.results76, go_sem, r0, r1, r2] <;> omega) rfl ⟨?_, set3 ((HBW.out.setCell (p := ⟨w.heap.size, 2, none⟩) (Nat.le_refl _) _).setCell (p := ⟨w.heap.size, 0, none⟩) (Nat.le_refl _) _) (by omega) _ _ _⟩
          simp only [H2.out, G1.out.2.2, G2.out.2.2]
          rfl
        · have G2 : Hid (decide (0 ≤ M) = true ∧ decide (M = 0) = false ∧ decide (0 < M) = true) := hidden (by refine ⟨?_, ?_, ?_⟩ <;> simp <;> omega)
          have l1 : (M == 0) = false := beq_eq_false_iff_ne.2 (by omega)
          have l2 : M ≥ 0 := by omega
          have l3 : 0 < M := by omega
          clear hMc
          go_wp2_with fail
          refine bodyPost_ret (v := .agg #[.bool false, .bool u, .bool false]) (by simp [results, Try.results76, go_sem, r0, r1, r2] <;> omega) rfl ⟨?_, set3 ((HBW.out.setCell (p := ⟨w.heap.size, 2, none⟩) (Nat.le_refl _) _).setCell (p := ⟨w.heap.size, 0, none⟩) (Nat.le_refl _) _) (by omega) _ _ _⟩
          simp only [H2.out, G1.out.2.2, G2.out.2.2]
          rfl
    · have G1 : Hid (decide (0 ≤ m) = true ∧ decide (m = 0) = false ∧ decide (0 < m) = true) := hidden (by refine ⟨?_, ?_, ?_⟩ <;> simp <;> omega)
      have k1 : (m == 0) = false := beq_eq_false_iff_ne.2 (by omega)
      have k2 : m ≥ 0 := by omega
      have k3 : 0 < m := by omega
      clear hmc
      cases hi
      · skip
        go_wp2_with fail
        refine bodyPost_ret (v := .agg #[.bool true, .bool u, .bool true]) (by simp [results, Try.results76, go_sem, r0, r1, r2] <;> omega) rfl ⟨?_, set3 ((HBW.out.setCell (p := ⟨w.heap.size, 2, none⟩) (Nat.le_refl _) _).setCell (p := ⟨w.heap.size, 0, none⟩) (Nat.le_refl _) _) (by omega) _ _ _⟩
        rw [H2.out, G1.out.2.2]
        rfl
      · obtain hMc | hMc | hMc : M < 0 ∨ M = 0 ∨ 0 < M := by omega
        · have G2 : Hid (decide (0 ≤ M) = false ∧ decide (M = 0) = false ∧ decide (0 < M) = false) := hidden (by refine ⟨?_, ?_, ?_⟩ <;> simp <;> omega)
          have l1 : (M == 0) = false := beq_eq_false_iff_ne.2 (by omega)
          have l2 : ¬ M ≥ 0 := by omega
          have l3 : ¬ 0 < M := by omega
          clear hMc
          go_wp2_with fail
          refine bodyPost_ret (v := .agg #[.bool true, .bool u, .bool true]) (by simp [results, Try.results76, go_sem, r0, r1, r2] <;> omega) rfl ⟨?_, set3 ((HBW.out.setCell (p := ⟨w.heap.size, 2, none⟩) (Nat.le_refl _) _).setCell (p := ⟨w.heap.size, 0, none⟩) (Nat.le_refl _) _) (by omega) _ _ _⟩
          simp only [H2.out, G1.out.2.2, G2.out.2.2]
          rfl
        · have G2 : Hid (decide (0 ≤ M) = true ∧ decide (M = 0) = true ∧ decide (0 < M) = false) := hidden (by refine ⟨?_, ?_, ?_⟩ <;> simp <;> omega)
          subst hMc
          go_wp2_with fail
          refine bodyPost_ret (v := .agg #[.bool true, .bool u, .bool true]) (by simp [results, Try.results76, go_sem, r0, r1, r2] <;> omega) rfl ⟨?_, set3 ((HBW.out.setCell (p := ⟨w.heap.size, 2, none⟩) (Nat.le_refl _) _).setCell (p := ⟨w.heap.size, 0, none⟩) (Nat.le_refl _) _) (by omega) _ _ _⟩
          simp only [H2.out, G1.out.2.2, G2.out.2.2]
          rfl
        · have G2 : Hid (decide (0 ≤ M) = true ∧ decide (M = 0) = false ∧ decide (0 < M) = true) := hidden (by refine ⟨?_, ?_, ?_⟩ <;> simp <;> omega)
          have l1 : (M == 0) = false := beq_eq_false_iff_ne.2 (by omega)
          have l2 : M ≥ 0 := by omega
          have l3 : 0 < M := by omega
          clear hMc
          go_wp2_with fail
          refine bodyPost_ret (v := .agg #[.bool false, .bool u, .bool true]) (by simp [results, Try.results76, go_sem, r0, r1, r2] <;> omega) rfl ⟨?_, set3 ((HBW.out.setCell (p := ⟨w.heap.size, 2, none⟩) (Nat.le_refl _) _).setCell (p := ⟨w.heap.size, 0, none⟩) (Nat.le_refl _) _) (by omega) _ _ _⟩
          simp only [H2.out, G1.out.2.2, G2.out.2.2]
          rfl
  have n2 : ((op : Int) == 2) = false := beq_eq_false_iff_ne.2 (by omega)
  by_cases h3 : op = 3
  · subst h3
    clear H4 H5 HR H1 H2
    obtain hmc | hmc | hmc : m < 0 ∨ m = 0 ∨ 0 < m := by omega
    · have G1 : Hid (decide (0 ≤ m) = false ∧ decide (m = 0) = false ∧ decide (0 < m) = false) := hidden (by refine ⟨?_, ?_, ?_⟩ <;> simp <;> omega)
      have k1 : (m == 0) = false := beq_eq_false_iff_ne.2 (by omega)
      have k2 : ¬ m ≥ 0 := by omega
      have k3 : ¬ 0 < m := by omega
      clear hmc
      cases hi
      · skip
        go_wp2_with fail
        refine bodyPost_ret (v := .agg #[.bool true, .bool u, .bool false]) (by simp [results, Try.results76, go_sem, r0, r1, r2] <;> omega) rfl ⟨?_, set3 ((HBW.out.setCell (p := ⟨w.heap.size, 2, none⟩) (Nat.le_refl _) _).setCell (p := ⟨w.heap.size, 0, none⟩) (Nat.le_refl _) _) (by omega) _ _ _⟩
        rw [H3.out, G1.out.1]
        rfl
      · obtain hMc | hMc | hMc : M < 0 ∨ M = 0 ∨ 0 < M := by omega
        · have G2 : Hid (decide (0 ≤ M) = false ∧ decide (M = 0) = false ∧ decide (0 < M) = false) := hidden (by refine ⟨?_, ?_, ?_⟩ <;> simp <;> omega)
          have l1 : (M == 0) = false := beq_eq_false_iff_ne.2 (by omega)
          have l2 : ¬ M ≥ 0 := by omega
          have l3 : ¬ 0 < M := by omega
          clear hMc
          go_wp2_with fail
          refine bodyPost_ret (v := .agg #[.bool true, .bool u, .bool false]) (by simp [results, Try.results76, go_sem, r0, r1, r2] <;> omega) rfl ⟨?_, set3 ((HBW.out.setCell (p := ⟨w.heap.size, 2, none⟩) (Nat.le_refl _) _).setCell (p := ⟨w.heap.size, 0, none⟩) (Nat.le_refl _) _) (by omega) _ _ _⟩
          simp only [H3.out, G1.out.1, G2.out.1]
          rfl
        · have G2 : Hid (decide (0 ≤ M) = true ∧ decide (M = 0) = true ∧ decide (0 < M) = false) := hidden (by refine ⟨?_, ?_, ?_⟩ <;> simp <;> omega)
          subst hMc
          go_wp2_with fail
          refine bodyPost_ret (v := .agg #[.bool false, .bool u, .bool false]) (by simp [results, Try.results76, go_sem, r0, r1, r2] <;> omega) rfl ⟨?_, set3 ((HBW.out.setCell (p := ⟨w.heap.size, 2, none⟩) (Nat.le_refl _) _).setCell (p := ⟨w.heap.size, 0, none⟩) (Nat.le_refl _) _) (by omega) _ _ _⟩
          simp only [H3.out, G1.out.1, G2.out.1]
          rfl
        · have G2 : Hid (decide (0 ≤ M) = true ∧ decide (M = 0) = false ∧ decide (0 < M) = true) := hidden (by refine ⟨?_, ?_, ?_⟩ <;> simp <;> omega)
          have l1 : (M == 0) = false := beq_eq_false_iff_ne.2 (by omega)
          have l2 : M ≥ 0 := by omega
          have l3 : 0 < M := by omega
          clear hMc
          go_wp2_with fail
          refine bodyPost_ret (v := .agg #[.bool false, .bool u, .bool false]) (by simp [results, Try.results76, go_sem, r0, r1, r2] <;> omega) rfl ⟨?_, set3 ((HBW.out.setCell (p := ⟨w.heap.size, 2, none⟩) (Nat.le_refl _) _).setCell (p := ⟨w.heap.size, 0, none⟩) (Nat.le_refl _) _) (by omega) _ _ _⟩
          simp only [H3.out, G1.out.1, G2.out.1]
          rfl
    · have G1 : Hid (decide (0 ≤ m) = true ∧ decide (m = 0) = true ∧ decide (0 < m) = false) := hidden (by refine ⟨?_, ?_, ?_⟩ <;> simp <;> omega)
      subst hmc
      cases hi
      · skip
        go_wp2_with fail
        refine bodyPost_ret (v := .agg #[.bool true, .bool u, .bool true]) (by simp [results, Try.results76, go_sem, r0, r1, r2] <;> omega) rfl ⟨?_, set3 ((HBW.out.setCell (p := ⟨w.heap.size, 2, none⟩) (Nat.le_refl _) _).setCell (p := ⟨w.heap.size, 0, none⟩) (Nat.le_refl _) _) (by omega) _ _ _⟩
        rw [H3.out, G1.out.1]
        rfl
      · obtain hMc | hMc | hMc : M < 0 ∨ M = 0 ∨ 0 < M := by omega
        · have G2 : Hid (decide (0 ≤ M) = false ∧ decide (M = 0) = false ∧ decide (0 < M) = false) := hidden (by refine ⟨?_, ?_, ?_⟩ <;> simp <;> omega)
          have l1 : (M == 0) = false := beq_eq_false_iff_ne.2 (by omega)
          have l2 : ¬ M ≥ 0 := by omega
          have l3 : ¬ 0 < M := by omega
          clear hMc
          go_wp2_with fail
          refine bodyPost_ret (v := .agg #[.bool true, .bool u, .bool true]) (by simp [results, Try.results76, go_sem, r0, r1, r2] <;> omega) rfl ⟨?_, set3 ((HBW.out.setCell (p := ⟨w.heap.size, 2, none⟩) (Nat.le_refl _) _).setCell (p := ⟨w.heap.size, 0, none⟩) (Nat.le_refl _) _) (by omega) _ _ _⟩
          simp only [H3.out, G1.out.1, G2.out.1]
          rfl
        · have G2 : Hid (decide (0 ≤ M) = true ∧ decide (M = 0) = true ∧ decide (0 < M) = false) := hidden (by refine ⟨?_, ?_, ?_⟩ <;> simp <;> omega)
          subst hMc
          go_wp2_with fail
          refine bodyPost_ret (v := .agg #[.bool false, .bool u, .bool true]) (by simp [results, Try.results76, go_sem, r0, r1, r2] <;> omega) rfl ⟨?_, set3 ((HBW.out.setCell (p := ⟨w.heap.size, 2, none⟩) (Nat.le_refl _) _).setCell (p := ⟨w.heap.size, 0, none⟩) (Nat.le_refl _) _) (by omega) _ _ _⟩
          simp only [H3.out, G1.out.1, G2.out.1]
          rfl
        · have G2 : Hid (decide (0 ≤ M) = true ∧ decide (M = 0) = false ∧ decide (0 < M) = true) := hidden (by refine ⟨?_, ?_, ?_⟩ <;> simp <;> omega)
          have l1 : (M == 0) = false := beq_eq_false_iff_ne.2 (by omega)
          have l2 : M ≥ 0 := by omega
          have l3 : 0 < M := by omega
          clear hMc
          go_wp2_with fail
          refine bodyPost_ret (v := .agg #[.bool false, .bool u, .bool true]) (by simp [results, Try.results76, go_sem, r0, r1, r2] <;> omega) rfl ⟨?_, set3 ((HBW.out.setCell (p := ⟨w.heap.size, 2, none⟩) (Nat.le_refl _) _).setCell (p := ⟨w.heap.size, 0, none⟩) (Nat.le_refl _) _) (by omega) _ _ _⟩
          simp only [H3.out, G1.out.1, G2.out.1]
          rfl
    · have G1 : Hid (decide (0 ≤ m) = true ∧ decide (m = 0) = false ∧ decide (0 < m) = true) := hidden (by refine ⟨?_, ?_, ?_⟩ <;> simp <;> omega)
      have k1 : (m == 0) = false := beq_eq_false_iff_ne.2 (by omega)
      have k2 : m ≥ 0 := by omega
      have k3 : 0 < m := by omega
      clear hmc
      cases hi
      · skip
        go_wp2_with fail
        refine bodyPost_ret (v := .agg #[.bool true, .bool u, .bool true]) (by simp [results, Try.results76, go_sem, r0, r1, r2] <;> omega) rfl ⟨?_, set3 ((HBW.out.setCell (p := ⟨w.heap.size, 2, none⟩) (Nat.le_refl _) _).setCell (p := ⟨w.heap.size, 0, none⟩) (Nat.le_refl _) _) (by omega) _ _ _⟩
        rw [H3.out, G1.out.1]
        rfl
      · obtain hMc | hMc | hMc : M < 0 ∨ M = 0 ∨ 0 < M := by omega
        · have G2 : Hid (decide (0 ≤ M) = false ∧ decide (M = 0) = false ∧ decide (0 < M) = false) := hidden (by refine ⟨?_, ?_, ?_⟩ <;> simp <;> omega)
          have l1 : (M == 0) = false := beq_eq_false_iff_ne.2 (by omega)
          have l2 : ¬ M ≥ 0 := by omega
          have l3 : ¬ 0 < M := by omega
          clear hMc
          go_wp2_with fail
          refine bodyPost_ret (v := .agg #[.bool true, .bool u, .bool true]) (by simp [results, Try.results76, go_sem, r0, r1, r2] <;> omega) rfl ⟨?_, set3 ((HBW.out.setCell (p := ⟨w.heap.size, 2, none⟩) (Nat.le_refl _) _).setCell (p := ⟨w.heap.size, 0, none⟩) (Nat.le_refl _) _) (by omega) _ _ _⟩
          simp only [H3.out, G1.out.1, G2.out.1]
          rfl
        · have G2 : Hid (decide (0 ≤ M) = true ∧ decide (M = 0) = true ∧ decide (0 < M) = false) := hidden (by refine ⟨?_, ?_, ?_⟩ <;> simp <;> omega)
          subst hMc
          go_wp2_with fail
          refine bodyPost_ret (v := .agg #[.bool false, .bool u, .bool true]) (by simp [results, Try.results76, go_sem, r0, r1, r2] <;> omega) rfl ⟨?_, set3 ((HBW.out.setCell (p := ⟨w.heap.size, 2, none⟩) (Nat.le_refl _) _).setCell (p := ⟨w.heap.size, 0, none⟩) (Nat.le_refl _) _) (by omega) _ _ _⟩
          simp only [H3.out, G1.out.1, G2.out.1]
          rfl
        · have G2 : Hid (decide (0 ≤ M) = true ∧ decide (M = 0) = false ∧ decide (0 < M) = true) := hidden (by refine ⟨?_, ?_, ?_⟩ <;> simp <;> omega)
          have l1 : (M == 0) = false := beq_eq_false_iff_ne.2 (by omega)
          have l2 : M ≥ 0 := by omega
          have l3 : 0 < M := by omega
          clear hMc
          go_wp2_with fail
          refine bodyPost_ret (v := .agg #[.bool false, .bool u, .bool true]) (by simp [results, Try.results76, go_sem, r0, r1, r2] <;> omega) rfl ⟨?_, set3 ((HBW.out.setCell (p := ⟨w.heap.size, 2, none⟩) (Nat.le_refl _) _).setCell (p := ⟨w.heap.size, 0, none⟩) (Nat.le_refl _) _) (by omega) _ _ _⟩
          simp only [H3.out, G1.out.1, G2.out.1]
          rfl
  have n3 : ((op : Int) == 3) = false := beq_eq_false_iff_ne.2 (by omega)
  by_cases h4 : op = 4
  · subst h4
    clear H1 H2 H3 H5 HR
    go_wp2_with fail
    refine bodyPost_ret (v := .agg #[.bool true, .bool u, .bool true]) (by simp [results, Try.results76, go_sem, r0, r1, r2] <;> omega) rfl ⟨?_, set3 ((HBW.out.setCell (p := ⟨w.heap.size, 2, none⟩) (Nat.le_refl _) _).setCell (p := ⟨w.heap.size, 0, none⟩) (Nat.le_refl _) _) (by omega) _ _ _⟩
    rw [H4.out]
    rfl
  have n4 : ((op : Int) == 4) = false := beq_eq_false_iff_ne.2 (by omega)
  have H6 := hidden (H5.out (by omega))
  clear h1 h2 h3 h4 H5 H1 H2 H3 H4 HR
  go_wp2_with fail
  refine bodyPost_ret (v := .agg #[.bool true, .bool true, .bool true]) (by simp [results, Try.results76, go_sem, r0, r1, r2]) rfl ⟨?_, set3 (set3 HBW.out (Nat.le_refl _) _ _ _) (by omega) _ _ _⟩
  rw [H6.out]
  rfl
end Go.Proofs.Ytfcnoeehfhncjaa
