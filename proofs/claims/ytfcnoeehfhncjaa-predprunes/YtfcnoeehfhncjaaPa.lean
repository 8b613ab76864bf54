/- What statistics leave of a node that has a field. -/
import Derived.Test.YtfcnoeehfhncjaaPw
set_option linter.unusedVariables false
set_option linter.unusedSimpArgs false
namespace Go.Proofs.Ytfcnoeehfhncjaa
open Go.RowKit Go.Lib

/-- A list of statistics in memory. -/
def Ss (W : World) (v : Value) (l : List Stt) : Prop := ∃ a cap, v = .slice a l.length cap ∧ l.length ≤ cap ∧ cap ≤ maxLen ∧ (0 < l.length → ∃ b off, a = some ⟨b, off, none⟩ ∧ ∀ j (h : j < l.length), StAt W b (off + j * 10) l[j])
theorem Ss.kept {W W' : World} {v : Value} {l : List Stt} (h : Ss W v l) (hb : Below W.heap.size W W') : Ss W' v l := by
  obtain ⟨a, cap, h1, h2, h3, h4⟩ := h
  refine ⟨a, cap, h1, h2, h3, fun h0 => ?_⟩
  obtain ⟨b, off, h5, h6⟩ := h4 h0
  exact ⟨b, off, h5, fun j h => (h6 j h).kept hb⟩
theorem Ss.form {W : World} {v : Value} {l : List Stt} (h : Ss W v l) : ∃ a cap, v = .slice a l.length cap ∧ l.length ≤ cap ∧ cap ≤ maxLen := by
  obtain ⟨a, cap, h1, h2, h3, _⟩ := h
  exact ⟨a, cap, h1, h2, h3⟩
theorem Ss.at {W : World} {a : Option Addr} {n cap : Nat} {l : List Stt} (h : Ss W (.slice a n cap) l) {i : Nat} (hi : i < l.length) : ∃ g o, a = some ⟨g, o, none⟩ ∧ StAt W g (o + i * 10) l[i] := by
  obtain ⟨a', cap', e, _, _, h4⟩ := h
  simp only [Value.slice.injEq] at e
  obtain ⟨rfl, _, _⟩ := e
  obtain ⟨g, o, rfl, h6⟩ := h4 (by omega)
  exact ⟨g, o, rfl, h6 i hi⟩
/-- Rows of a schema in memory, as May has them. -/
def RowsOf (W : World) (q si : Nat) (fv sv : Value) (l : List Fd) (r : List Stt) : Prop :=
  q < W.heap.size ∧ W.cell? ⟨q, 0, none⟩ = some (.int .u32 (si : Int)) ∧ W.cell? ⟨q, 1, none⟩ = some fv ∧ W.cell? ⟨q, 2, none⟩ = some sv ∧ Sf W fv l ∧ Ss W sv r
theorem RowsOf.kept {W W' : World} {q si : Nat} {fv rv : Value} {l : List Fd} {r : List Stt} (h : RowsOf W q si fv rv l r) (hb : Below W.heap.size W W') : RowsOf W' q si fv rv l r := by
  obtain ⟨h0, h1, h2, h3, h4, h5⟩ := h
  have e : ∀ o, W'.cell? ⟨q, o, none⟩ = W.cell? ⟨q, o, none⟩ := fun o => (bcell hb).1 q o h0
  exact ⟨Nat.lt_of_lt_of_le h0 hb.size, by rw [e]; exact h1, by rw [e]; exact h2, by rw [e]; exact h3, h4.kept hb, h5.kept hb⟩
theorem mleafM_none {l : List Fd} {r : List Stt} {op f : Nat} {c : Cl} (h : place l f = none) : mleafM l r op f c = (true, true, true) := by unfold mleafM; rw [h]
theorem mleafM_past {l : List Fd} {r : List Stt} {op f j : Nat} {c : Cl} (h : place l f = some j) (hj : ¬ j < r.length) : mleafM l r op f c = (true, true, true) := by
  unfold mleafM; rw [h]; simp only; rw [List.getElem?_eq_none (by omega)]
theorem mleafM_at {l : List Fd} {r : List Stt} {op f j : Nat} {c : Cl} (h : place l f = some j) (hj : j < r.length) : mleafM l r op f c = mleafX op c r[j] := by
  unfold mleafM; rw [h]; simp only; rw [List.getElem?_eq_getElem hj]

set_option maxRecDepth 100000 in
set_option maxHeartbeats 8000000 in
theorem answersOfField_any {w : World} {q si b off op f : Nat} {c : Cl} {kv fv rv : Value} {l : List Fd} {r : List Stt} (hr : RowsOf w q si fv rv l r) (hn : NodeAt w b off op f c kv) (hok : Okc c) (hfr : ∀ x ∈ r, Oks x) :
    Calls Try.prog 62 #[.pointer (some ⟨q, 0, none⟩), .pointer (some ⟨b, off, none⟩)] w fun e w' => e = .returned (b3V (mleafM l r op f c)) ∧ Below w.heap.size w w' := by
  have HO := hidden hok
  have HFR := hidden hfr
  have HA0 := hidden (fun h => mleafM_none (l := l) (r := r) (op := op) (f := f) (c := c) h)
  have HA1 := hidden (fun (j : Nat) h hj => mleafM_past (l := l) (r := r) (op := op) (f := f) (c := c) (j := j) h hj)
  have HA2 := hidden (fun (j : Nat) h hj => mleafM_at (l := l) (r := r) (op := op) (f := f) (c := c) (j := j) h hj)
  generalize mleafM l r op f c = R at *
  have hf1 := Flg.new w (false, false, false)
  have hb1 := below_one w (.cells #[.bool false, .bool false, .bool false] 51)
  simp only at hf1
  have HB1 := hidden hb1
  have HR := hidden (hr.kept hb1)
  have HN := hidden (hn.kept hb1)
  have HF1 := hidden hf1
  have hsz : (w.alloc (.cells #[.bool false, .bool false, .bool false] 51)).heap.size = w.heap.size + 1 := World.size_alloc _ _
  have HSZ := hidden hsz
  generalize hA : w.alloc (.cells #[.bool false, .bool false, .bool false] 51) = A at *
  clear hr hn hf1 hb1 hok hfr hsz
  have HPL := hidden (fun (U : World) (hU : Below A.heap.size A U) => place_any (HR.out.2.2.2.2.1.kept hU) si f)
  obtain ⟨hq0, y0, y1, y2, hsf, hsv⟩ := HR.out
  obtain ⟨hb0, x0, x1, x2, x3, x4, x5⟩ := HN.out
  obtain ⟨fa, fcap, rfl, hfc, hfm⟩ := hsf.form
  obtain ⟨ra, rcap, rfl, hrc, hrm⟩ := hsv.form
  clear hsf hsv
  have hr0 : ∀ s : SubW (fun x => Below A.heap.size A x), s.w.cell? ⟨q, 0, none⟩ = some (.int .u32 (si : Int)) := fun s => (s.ok.cell (p := ⟨q, 0, none⟩) hq0).trans y0
  have hr1 : ∀ s : SubW (fun x => Below A.heap.size A x), s.w.cell? ⟨q, 1, none⟩ = some (.slice fa l.length fcap) := fun s => (s.ok.cell (p := ⟨q, 1, none⟩) hq0).trans y1
  have hr2 : ∀ s : SubW (fun x => Below A.heap.size A x), s.w.cell? ⟨b, off + 1, none⟩ = some (.int .u32 (f : Int)) := fun s => (s.ok.cell (p := ⟨b, off + 1, none⟩) hb0).trans x1
  haveI : Nonempty (SubW (fun x => Below A.heap.size A x)) := ⟨SubW.mk A (Below.refl _ _)⟩
  go_enter Try.func62, Try.ntmps62
  go_wp2_with fail
  refine wp_region_still (S := fun x => Below A.heap.size A x) (by kernel_rfl) (by kernel_rfl) (by first | exact (Below.refl _ _).drew | (rw [hA]; exact (Below.refl _ _).drew)) ?_
  repeat (go_big_quiet_step ((go_at_call 75; exact (HPL.out _ (SubW.ok _)).mono (fun e w' h => ⟨h.1, SubW.mk w' (below_then (SubW.ok _) h.2), rfl⟩))))
  refine wpQuiet_nil ?_
  rintro _ ⟨s2, rfl⟩
  obtain ⟨w2, hw2⟩ : ∃ x, x = s2.w := ⟨_, rfl⟩
  have hb2 := s2.ok
  rw [← hw2] at hb2 ⊢
  have HB2 := hidden (below_then HB1.out hb2)
  have HR2 := hidden (HR.out.kept hb2)
  have HN2 := hidden (HN.out.kept hb2)
  have HF2 := hidden (HF1.out.kept hb2)
  have HZ2 : Hid (w.heap.size < w2.heap.size) := hidden (by have := hb2.size; have := HSZ.out; omega)
  clear hw2 hb2 hr0 hr1 hr2 x0 x1 x2 x3 x4 x5 y0 y1 y2 HR HN HF1 hA hq0 hb0
  obtain ⟨⟨p0, p1, p2⟩, ⟨t0, t1, t2⟩, _⟩ := HF2.out.facts
  cases hp : place l f with
  | none =>
    have HA := hidden (HA0.out hp)
    simp only [Option.isSome_none, Option.getD_none]
    clear hp HA0 HA1 HA2
    go_wp2_with fail
    refine bodyPost_ret (v := .agg #[.bool true, .bool true, .bool true]) (by simp [results, Try.results62, go_sem, p0, p1, p2]) rfl ⟨?_, set3 HB2.out (Nat.le_refl _) _ _ _⟩
    rw [HA.out]
    rfl
  | some j =>
    simp only [Option.isSome_some, Option.getD_some]
    by_cases hj : j < r.length
    · have HA := hidden (HA2.out j hp hj)
      obtain ⟨hq0, y0, y1, y2, _, hsv⟩ := HR2.out
      have hj' : ¬ (j : Int) ≥ (r.length : Int) := by omega
      have hj2 : (j : Int) < (r.length : Int) := by omega
      obtain ⟨rb, roff, rfl, hst⟩ := hsv.at hj
      have HOS := hidden (HFR.out r[j] (List.getElem_mem hj))
      generalize r[j] = st at *
      have HSTT := hidden hst
      obtain ⟨srows, snulls, ssome, shigh, slo, shi⟩ := st
      have hst' := hst
      obtain ⟨hrb, ⟨d0, d1, d2, d3⟩, ⟨d4, d5, d6⟩, d7, d8, d9⟩ := hst'
      simp only at d0 d1 d2 d3 d4 d5 d6 d7 d8 d9
      have HB3 := hidden (below_then HB2.out (below_one w2 (.cells #[.int .i64 srows, .int .i64 snulls, .bool ssome, .bool shigh, .int .u8 (slo.1 : Int), .int .i64 slo.2.1, .string (bytesT slo.2.2), .int .u8 (shi.1 : Int), .int .i64 shi.2.1, .string (bytesT shi.2.2)] 29)))
      have hb3 := below_one w2 (.cells #[.int .i64 srows, .int .i64 snulls, .bool ssome, .bool shigh, .int .u8 (slo.1 : Int), .int .i64 slo.2.1, .string (bytesT slo.2.2), .int .u8 (shi.1 : Int), .int .i64 shi.2.1, .string (bytesT shi.2.2)] 29)
      have hS3 := Stb.new w2 (⟨srows, snulls, ssome, shigh, slo, shi⟩ : Stt)
      simp only at hS3
      have HN3 := hidden (HN2.out.kept hb3)
      have HF3 := hidden (HF2.out.kept hb3)
      have s3 : (w2.alloc (.cells #[.int .i64 srows, .int .i64 snulls, .bool ssome, .bool shigh, .int .u8 (slo.1 : Int), .int .i64 slo.2.1, .string (bytesT slo.2.2), .int .u8 (shi.1 : Int), .int .i64 shi.2.1, .string (bytesT shi.2.2)] 29)).heap.size = w2.heap.size + 1 := World.size_alloc _ _
      have HS3 := hidden hS3
      generalize hE : w2.alloc (.cells #[.int .i64 srows, .int .i64 snulls, .bool ssome, .bool shigh, .int .u8 (slo.1 : Int), .int .i64 slo.2.1, .string (bytesT slo.2.2), .int .u8 (shi.1 : Int), .int .i64 shi.2.1, .string (bytesT shi.2.2)] 29) = E at *
      have HEZ : Hid (E.heap.size = w2.heap.size + 1) := hidden s3
      clear hsv hst hp HA0 HA1 HA2 HFR hb3 s3 hS3
      obtain ⟨hb0, x0, x1, x2, x3, x4, x5⟩ := HN3.out
      obtain ⟨_, ⟨e0, e1, e2, e3⟩, ⟨e4, e5, e6⟩, e7, e8, e9⟩ := HS3.out.at
      simp only [Nat.zero_add] at e0 e1 e2 e3 e4 e5 e6 e7 e8 e9
      obtain ⟨⟨p0', p1', p2'⟩, ⟨t0', t1', t2'⟩, _⟩ := HF3.out.facts
      by_cases h5 : op = 5
      · subst h5
        go_wp2_with fail
        refine bodyPost_ret (v := .agg #[.bool ssome, .bool false, .bool (decide (0 < snulls))]) (by simp [results, Try.results62, go_sem, p0', p1', p2']) rfl ⟨?_, set3 HB3.out (Nat.le_refl _) _ _ _⟩
        rw [HA.out]
        rfl
      · have n5 : ((op : Int) == 5) = false := beq_eq_false_iff_ne.2 (by omega)
        have HAX : Hid (R = if ssome = true then withM (decide (0 < snulls)) op c (⟨srows, snulls, ssome, shigh, slo, shi⟩ : Stt) else (false, decide (0 < snulls), false)) := hidden (by rw [HA.out]; unfold mleafX; rw [if_neg h5])
        clear HA h5
        have hfF := Flg.new E (false, decide (0 < snulls), false)
        have hbF := below_one E (.cells #[.bool false, .bool (decide (0 < snulls)), .bool false] 51)
        simp only at hfF
        have sF : (E.alloc (.cells #[.bool false, .bool (decide (0 < snulls)), .bool false] 51)).heap.size = E.heap.size + 1 := World.size_alloc _ _
        have HFF := hidden hfF
        have HNF := hidden (HN3.out.kept hbF)
        have HS4 : Hid (∀ X, Below (E.alloc (.cells #[.bool false, .bool (decide (0 < snulls)), .bool false] 51)).heap.size (E.alloc (.cells #[.bool false, .bool (decide (0 < snulls)), .bool false] 51)) X → StAt X w2.heap.size 0 (⟨srows, snulls, ssome, shigh, slo, shi⟩ : Stt) ∧ Flg X w.heap.size (false, false, false) ∧ Flg X E.heap.size (false, decide (0 < snulls), false)) := hidden (fun X h => ⟨(HS3.out.at.kept hbF).kept h, (HF3.out.kept hbF).kept h, HFF.out.kept h⟩)
        have HB4 := hidden (below_then HB3.out hbF)
        obtain ⟨⟨_, ⟨g0, g1, g2, g3⟩, ⟨g4, g5, g6⟩, g7, g8, g9⟩, hfg, hfh⟩ := HS4.out _ (Below.refl _ _)
        simp only [Nat.zero_add] at g0 g1 g2 g3 g4 g5 g6 g7 g8 g9
        obtain ⟨⟨u0, u1, u2⟩, ⟨s0, s1, s2'⟩, _⟩ := hfg.facts
        obtain ⟨⟨v0, v1, v2⟩, ⟨q0', q1', q2'⟩, hvz⟩ := hfh.facts
        clear hfF hbF sF hfg hfh
        have HEW : Hid (w.heap.size < E.heap.size) := hidden (by have := HZ2.out; have := HEZ.out; omega)
        have hne : ¬ E.heap.size = w.heap.size := by have := HEW.out; omega
        have hne2 : ¬ w.heap.size = E.heap.size := by have := HEW.out; omega
        cases ssome
        · have HAX' : Hid (R = (false, decide (0 < snulls), false)) := hidden (by rw [HAX.out]; rfl)
          go_wp2_with fail
          have hal : ∀ (X : World) (o : Obj) (i : Nat), w.heap.size < X.heap.size → (X.alloc o).cell? ⟨w.heap.size, i, none⟩ = X.cell? ⟨w.heap.size, i, none⟩ := fun X o i h => (below_one X o).cell h
          have hew := HEW.out
          have hset := set3 HB3.out (Nat.le_refl _) (.bool false) (.bool (decide (0 < snulls))) (.bool false)
          refine bodyPost_ret (v := .agg #[.bool false, .bool (decide (0 < snulls)), .bool false]) (by simp [results, Try.results62, go_sem, hal, hew, p0', p1', p2']) rfl ⟨?_, hset.alloc hset.size _⟩
          rw [HAX'.out]
          rfl
        · have HAX' : Hid (R = withM (decide (0 < snulls)) op c ⟨srows, snulls, true, shigh, slo, shi⟩) := hidden (by rw [HAX.out]; rfl)
          have HC := hidden (fun (U : World) (hU : Below (E.alloc (.cells #[.bool false, .bool (decide (0 < snulls)), .bool false] 51)).heap.size (E.alloc (.cells #[.bool false, .bool (decide (0 < snulls)), .bool false] 51)) U) => withSome_any (HNF.out.kept hU) HO.out (decide (0 < snulls)) ⟨srows, snulls, true, shigh, slo, shi⟩ HOS.out)
          simp only at HC
          generalize withM (decide (0 < snulls)) op c ⟨srows, snulls, true, shigh, slo, shi⟩ = WM at *
          clear HAX
          go_wp2_with fail
          refine (HC.out _ (Below.refl _ _)).mono ?_
          rintro e w5 ⟨rfl, hb5⟩
          obtain ⟨_, hfg, hfh⟩ := HS4.out _ hb5
          have HB5 := hidden (below_then HB4.out hb5)
          clear hb5 u0 u1 u2 s0 s1 s2' v0 v1 v2 q0' q1' q2' g0 g1 g2 g3 g4 g5 g6 g7 g8 g9 hE e0 e1 e2 e3 e4 e5 e6 e7 e8 e9 p0' p1' p2' t0' t1' t2' x0 x1 x2 x3 x4 x5 hvz
          obtain ⟨⟨u0, u1, u2⟩, ⟨s0, s1, s2'⟩, _⟩ := hfg.facts
          obtain ⟨⟨v0, v1, v2⟩, ⟨q0', q1', q2'⟩, hvz⟩ := hfh.facts
          clear hfg hfh
          unfold b3V
          go_wp2_with fail
          refine bodyPost_ret (v := .agg #[.bool WM.1, .bool WM.2.1, .bool WM.2.2]) (by simp [results, Try.results62, go_sem, u0, u1, u2, hne, hne2]) rfl ⟨?_, set3 (set3 HB5.out (by have := HEW.out; omega) _ _ _) (Nat.le_refl _) _ _ _⟩
          rw [HAX'.out]
          rfl
    · have HA := hidden (HA1.out j hp hj)
      obtain ⟨_, y0, y1, y2, _, hsv⟩ := HR2.out
      have hj' : (j : Int) ≥ (r.length : Int) := by omega
      clear hp HA0 HA1 HA2 hsv
      go_wp2_with fail
      refine bodyPost_ret (v := .agg #[.bool true, .bool true, .bool true]) (by simp [results, Try.results62, go_sem, p0, p1, p2]) rfl ⟨?_, set3 HB2.out (Nat.le_refl _) _ _ _⟩
      rw [HA.out]
      rfl
end Go.Proofs.Ytfcnoeehfhncjaa
