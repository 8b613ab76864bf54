/- The document's Stats. -/
import Derived.Test.YtfcnoeehfhncjaaPs4
import Derived.Test.YtfcnoeehfhncjaaBne
set_option linter.unusedVariables false
set_option linter.unusedSimpArgs false
namespace Go.Proofs.Ytfcnoeehfhncjaa
open Go.RowKit Go.Lib

theorem lessC (a b : Cl) (w : World) : Calls Try.prog 11 #[.agg #[.int .u8 (a.1 : Int), .int .i64 a.2.1, .string (bytesT a.2.2)], .agg #[.int .u8 (b.1 : Int), .int .i64 b.2.1, .string (bytesT b.2.2)]] w fun e w' => e = .returned (.bool (decide (cmpC a b < 0))) ∧ Below w.heap.size w w' := by
  refine less_eq _ _ _ _ _ _ _ ?_ w
  rw [ls_cv]
  have := cmpC_range a b
  show decide (cmpC a b = -1) = _
  rcases this with h | h | h
  · rw [h]; rfl
  · rw [h]; rfl
  · rw [h]; rfl
theorem minC_snoc : ∀ (r : List Cl) (m c : Cl), minC m (r ++ [c]) = if cmpC c (minC m r) < 0 then c else minC m r
  | [], m, c => rfl
  | x :: r, m, c => by
    rw [List.cons_append, minC, minC_snoc r, minC]
theorem maxC_snoc : ∀ (r : List Cl) (m c : Cl), maxC m (r ++ [c]) = if 0 < cmpC c (maxC m r) then c else maxC m r
  | [], m, c => rfl
  | x :: r, m, c => by
    rw [List.cons_append, maxC, maxC_snoc r, maxC]
def soM (ns : List Cl) : Bool := !ns.isEmpty
def leM : List Cl → Cl
  | [] => nul
  | x :: r => minC x r
def moM : List Cl → Cl
  | [] => nul
  | x :: r => maxC x r
def ckM (ns : List Cl) : Bool := ns.all fun c => !decide (c.1 = 3) || cleanC c
theorem ckM_snoc (ns : List Cl) (c : Cl) : ckM (ns ++ [c]) = (ckM ns && (!decide (c.1 = 3) || cleanC c)) := by simp [ckM]
theorem soM_snoc (ns : List Cl) (c : Cl) : soM (ns ++ [c]) = true := by simp [soM]
theorem leM_snoc (ns : List Cl) (c : Cl) : leM (ns ++ [c]) = if soM ns = false ∨ cmpC c (leM ns) < 0 then c else leM ns := by
  cases ns with
  | nil => rfl
  | cons x r =>
    show minC x (r ++ [c]) = _
    rw [minC_snoc]
    simp [soM, leM]
theorem moM_snoc (ns : List Cl) (c : Cl) : moM (ns ++ [c]) = if soM ns = false ∨ cmpC (moM ns) c < 0 then c else moM ns := by
  cases ns with
  | nil => rfl
  | cons x r =>
    show maxC x (r ++ [c]) = _
    rw [maxC_snoc]
    have h := cmpC_swap c (maxC x r)
    by_cases h2 : 0 < cmpC c (maxC x r)
    · rw [if_pos h2]
      have h4 : soM (x :: r) = false ∨ cmpC (moM (x :: r)) c < 0 := Or.inr (show cmpC (maxC x r) c < 0 by omega)
      rw [if_pos h4]
    · rw [if_neg h2]
      have h4 : ¬ (soM (x :: r) = false ∨ cmpC (moM (x :: r)) c < 0) := fun h3 => by
        rcases h3 with h3 | h3
        · simp [soM] at h3
        · have h4 : cmpC (maxC x r) c < 0 := h3
          omega
      rw [if_neg h4]
      rfl
theorem nonN_null {cs : List Cl} {j : Nat} (h : j < cs.length) (h0 : cs[j].1 = 0) : nonN (cs.take (j + 1)) = nonN (cs.take j) := by
  unfold nonN
  rw [List.take_succ_eq_append_getElem h, List.filter_append]
  simp [h0]
theorem nonN_snoc {cs : List Cl} {j : Nat} (h : j < cs.length) (h0 : cs[j].1 ≠ 0) : nonN (cs.take (j + 1)) = nonN (cs.take j) ++ [cs[j]] := by
  unfold nonN
  rw [List.take_succ_eq_append_getElem h, List.filter_append]
  simp [h0]

/-- What Stats has in memory. -/
def Rw (W : World) (q0 q1 q2 q3 : Nat) (st : Stt) (lo hi : Cl) : Prop :=
  Stb W q0 stZ ∧ Stb W q1 st ∧ Ceb W q2 (.int .u8 (lo.1 : Int)) (.int .i64 lo.2.1) (.string (bytesT lo.2.2)) ∧ Ceb W q3 (.int .u8 (hi.1 : Int)) (.int .i64 hi.2.1) (.string (bytesT hi.2.2))
theorem Rw.kept {W X : World} {q0 q1 q2 q3 : Nat} {st : Stt} {lo hi : Cl} (h : Rw W q0 q1 q2 q3 st lo hi) (hb : Below W.heap.size W X) : Rw X q0 q1 q2 q3 st lo hi := ⟨h.1.kept hb, h.2.1.kept hb, h.2.2.1.kept hb, h.2.2.2.kept hb⟩
theorem Ceb.other {W : World} {p q : Nat} {x y z : Value} (h : Ceb W q x y z) (hn : q ≠ p) (i : Nat) (v : Value) : Ceb (W.setCell ⟨p, i, none⟩ v) q x y z := by
  unfold Ceb at *
  rw [heap_setCell_other _ ⟨p, i, none⟩ q _ hn]
  exact h
theorem Ceb.put {W : World} {p : Nat} {x y z : Value} (h : Ceb W p x y z) (x' y' z' : Value) : Ceb (((W.setCell ⟨p, 0, none⟩ x').setCell ⟨p, 1, none⟩ y').setCell ⟨p, 2, none⟩ z') p x' y' z' := by
  unfold Ceb at *
  rw [heap_set (heap_set (heap_set h 0 _) 1 _) 2 _]
  rfl
theorem Ceb.put2 {W : World} {p : Nat} {x y z : Value} (h : Ceb W p x y z) (z' : Value) : Ceb (W.setCell ⟨p, 2, none⟩ z') p x y z' := by
  unfold Ceb at *
  rw [heap_set h 2 _]
  rfl
theorem Rw.nulls {W : World} {q0 q1 q2 q3 : Nat} {st : Stt} {lo hi : Cl} (h : Rw W q0 q1 q2 q3 st lo hi) (h0 : q0 < q1) (h1 : q1 < q2) (h2 : q2 < q3) (m : Int) : Rw (W.setCell ⟨q1, 1, none⟩ (.int .i64 m)) q0 q1 q2 q3 {st with nulls := m} lo hi := by
  refine ⟨h.1.other (by omega) _ _, ?_, h.2.2.1.other (by omega) _ _, h.2.2.2.other (by omega) _ _⟩
  have := h.2.1
  unfold Stb at *
  rw [heap_set this 1 _]
  rfl
theorem Rw.some {W : World} {q0 q1 q2 q3 : Nat} {st : Stt} {lo hi : Cl} (h : Rw W q0 q1 q2 q3 st lo hi) (h0 : q0 < q1) (h1 : q1 < q2) (h2 : q2 < q3) : Rw (W.setCell ⟨q1, 2, none⟩ (.bool true)) q0 q1 q2 q3 {st with some := true} lo hi := by
  refine ⟨h.1.other (by omega) _ _, ?_, h.2.2.1.other (by omega) _ _, h.2.2.2.other (by omega) _ _⟩
  have := h.2.1
  unfold Stb at *
  rw [heap_set this 2 _]
  rfl
theorem Rw.high {W : World} {q0 q1 q2 q3 : Nat} {st : Stt} {lo hi : Cl} (h : Rw W q0 q1 q2 q3 st lo hi) (h0 : q0 < q1) (h1 : q1 < q2) (h2 : q2 < q3) (b : Bool) : Rw (W.setCell ⟨q1, 3, none⟩ (.bool b)) q0 q1 q2 q3 {st with high := b} lo hi := by
  refine ⟨h.1.other (by omega) _ _, ?_, h.2.2.1.other (by omega) _ _, h.2.2.2.other (by omega) _ _⟩
  have := h.2.1
  unfold Stb at *
  rw [heap_set this 3 _]
  rfl
theorem Rw.lo {W : World} {q0 q1 q2 q3 : Nat} {st : Stt} {lo hi : Cl} (h : Rw W q0 q1 q2 q3 st lo hi) (h0 : q0 < q1) (h1 : q1 < q2) (h2 : q2 < q3) (c : Cl) : Rw (((W.setCell ⟨q2, 0, none⟩ (.int .u8 (c.1 : Int))).setCell ⟨q2, 1, none⟩ (.int .i64 c.2.1)).setCell ⟨q2, 2, none⟩ (.string (bytesT c.2.2))) q0 q1 q2 q3 st c hi :=
  ⟨((h.1.other (by omega) _ _).other (by omega) _ _).other (by omega) _ _, ((h.2.1.other (by omega) _ _).other (by omega) _ _).other (by omega) _ _, h.2.2.1.put _ _ _, ((h.2.2.2.other (by omega) _ _).other (by omega) _ _).other (by omega) _ _⟩
theorem Rw.hi {W : World} {q0 q1 q2 q3 : Nat} {st : Stt} {lo hi : Cl} (h : Rw W q0 q1 q2 q3 st lo hi) (h0 : q0 < q1) (h1 : q1 < q2) (h2 : q2 < q3) (c : Cl) : Rw (((W.setCell ⟨q3, 0, none⟩ (.int .u8 (c.1 : Int))).setCell ⟨q3, 1, none⟩ (.int .i64 c.2.1)).setCell ⟨q3, 2, none⟩ (.string (bytesT c.2.2))) q0 q1 q2 q3 st lo c :=
  ⟨((h.1.other (by omega) _ _).other (by omega) _ _).other (by omega) _ _, ((h.2.1.other (by omega) _ _).other (by omega) _ _).other (by omega) _ _, ((h.2.2.1.other (by omega) _ _).other (by omega) _ _).other (by omega) _ _, h.2.2.2.put _ _ _⟩
theorem Rw.loS {W : World} {q0 q1 q2 q3 : Nat} {st : Stt} {lo hi : Cl} (h : Rw W q0 q1 q2 q3 st lo hi) (h0 : q0 < q1) (h1 : q1 < q2) (h2 : q2 < q3) (s : List Nat) : Rw (W.setCell ⟨q2, 2, none⟩ (.string (bytesT s))) q0 q1 q2 q3 st (lo.1, lo.2.1, s) hi :=
  ⟨h.1.other (by omega) _ _, h.2.1.other (by omega) _ _, h.2.2.1.put2 _, h.2.2.2.other (by omega) _ _⟩
theorem Rw.hiS {W : World} {q0 q1 q2 q3 : Nat} {st : Stt} {lo hi : Cl} (h : Rw W q0 q1 q2 q3 st lo hi) (h0 : q0 < q1) (h1 : q1 < q2) (h2 : q2 < q3) (s : List Nat) : Rw (W.setCell ⟨q3, 2, none⟩ (.string (bytesT s))) q0 q1 q2 q3 st lo (hi.1, hi.2.1, s) :=
  ⟨h.1.other (by omega) _ _, h.2.1.other (by omega) _ _, h.2.2.1.other (by omega) _ _, h.2.2.2.put2 _⟩
theorem Rw.facts {W : World} {q0 q1 q2 q3 : Nat} {st : Stt} {lo hi : Cl} (h : Rw W q0 q1 q2 q3 st lo hi) :
    (W.cell? ⟨q1, 1, none⟩ = Option.some (.int .i64 st.nulls) ∧ W.cell? ⟨q1, 2, none⟩ = Option.some (.bool st.some) ∧ W.cell? ⟨q1, 3, none⟩ = Option.some (.bool st.high)) ∧
    (W.cell? ⟨q2, 0, none⟩ = Option.some (.int .u8 (lo.1 : Int)) ∧ W.cell? ⟨q2, 1, none⟩ = Option.some (.int .i64 lo.2.1) ∧ W.cell? ⟨q2, 2, none⟩ = Option.some (.string (bytesT lo.2.2))) ∧
    (W.cell? ⟨q3, 0, none⟩ = Option.some (.int .u8 (hi.1 : Int)) ∧ W.cell? ⟨q3, 1, none⟩ = Option.some (.int .i64 hi.2.1) ∧ W.cell? ⟨q3, 2, none⟩ = Option.some (.string (bytesT hi.2.2))) ∧
    (∀ i, W.frozen? ⟨q0, i, none⟩ = false) ∧ (∀ i, W.frozen? ⟨q1, i, none⟩ = false) ∧ (∀ i, W.frozen? ⟨q2, i, none⟩ = false) ∧ (∀ i, W.frozen? ⟨q3, i, none⟩ = false) := by
  obtain ⟨_, ⟨_, a1, a2, a3⟩, _⟩ := h.2.1.at
  simp only [Nat.zero_add] at a1 a2 a3
  refine ⟨⟨a1, a2, a3⟩, h.2.2.1.facts.1, h.2.2.2.facts.1, h.1.frozen, h.2.1.frozen, ?_, ?_⟩
  · have := h.2.2.1
    unfold Ceb at this
    intro i
    simp [World.frozen?, this]
  · have := h.2.2.2
    unfold Ceb at this
    intro i
    simp [World.frozen?, this]

/-- What the document's Stats tells. -/
def refStatM (cs : List Cl) : Stt :=
  if soM (nonN cs) = false then ⟨cs.length, (cs.length : Int) - ((nonN cs).length : Nat), false, false, nul, nul⟩
  else if (leM (nonN cs)).1 = 3 then (if ckM (nonN cs) = false then ⟨cs.length, (cs.length : Int) - ((nonN cs).length : Nat), true, false, ((leM (nonN cs)).1, (leM (nonN cs)).2.1, []), nul⟩
    else match refAboveL (lb (bytesT (moM (nonN cs)).2.2)) 4 with
      | none => ⟨cs.length, (cs.length : Int) - ((nonN cs).length : Nat), true, false, ((leM (nonN cs)).1, (leM (nonN cs)).2.1, nb (firstL (lb (bytesT (leM (nonN cs)).2.2)) 4)), nul⟩
      | some a => ⟨cs.length, (cs.length : Int) - ((nonN cs).length : Nat), true, true, ((leM (nonN cs)).1, (leM (nonN cs)).2.1, nb (firstL (lb (bytesT (leM (nonN cs)).2.2)) 4)), ((moM (nonN cs)).1, (moM (nonN cs)).2.1, nb a)⟩)
  else ⟨cs.length, (cs.length : Int) - ((nonN cs).length : Nat), true, true, leM (nonN cs), moM (nonN cs)⟩

set_option maxRecDepth 100000 in
set_option maxHeartbeats 16000000 in
theorem refStats_any {w : World} {v : Value} {cs : List Cl} (hs : Sc w v cs) (hf : ∀ c ∈ cs, Fine c) (hl : cs.length ≤ 1000) : Calls Try.prog 10 #[v] w fun e w' => e = .returned (aggS (refStatM cs)) ∧ Below w.heap.size w w' := by
  have HF := hidden hf
  have HL := hidden hl
  obtain ⟨a, cap, rfl, hcap, hcm⟩ := hs.form
  have HS := hidden hs
  clear hs hf hl hcm
  go_enter Try.func10, Try.ntmps10
  go_wp2_with fail
  have hz0 := Stb.new w stZ
  have hb0 := below_one w (.cells #[.int .i64 0, .int .i64 0, .bool false, .bool false, .int .u8 0, .int .i64 0, .string ⟨#[]⟩, .int .u8 0, .int .i64 0, .string ⟨#[]⟩] 29)
  have s0 : (w.alloc (.cells #[.int .i64 0, .int .i64 0, .bool false, .bool false, .int .u8 0, .int .i64 0, .string ⟨#[]⟩, .int .u8 0, .int .i64 0, .string ⟨#[]⟩] 29)).heap.size = w.heap.size + 1 := World.size_alloc _ _
  have hz0' : Stb (w.alloc (.cells #[.int .i64 0, .int .i64 0, .bool false, .bool false, .int .u8 0, .int .i64 0, .string ⟨#[]⟩, .int .u8 0, .int .i64 0, .string ⟨#[]⟩] 29)) w.heap.size stZ := hz0
  clear hz0
  generalize hA : w.alloc (.cells #[.int .i64 0, .int .i64 0, .bool false, .bool false, .int .u8 0, .int .i64 0, .string ⟨#[]⟩, .int .u8 0, .int .i64 0, .string ⟨#[]⟩] 29) = A at *
  have hz1 := Stb.new A ⟨cs.length, 0, false, false, nul, nul⟩
  have hb1 := below_one A (.cells #[.int .i64 (cs.length : Int), .int .i64 0, .bool false, .bool false, .int .u8 0, .int .i64 0, .string ⟨#[]⟩, .int .u8 0, .int .i64 0, .string ⟨#[]⟩] 29)
  have s1 : (A.alloc (.cells #[.int .i64 (cs.length : Int), .int .i64 0, .bool false, .bool false, .int .u8 0, .int .i64 0, .string ⟨#[]⟩, .int .u8 0, .int .i64 0, .string ⟨#[]⟩] 29)).heap.size = A.heap.size + 1 := World.size_alloc _ _
  have hz1' : Stb (A.alloc (.cells #[.int .i64 (cs.length : Int), .int .i64 0, .bool false, .bool false, .int .u8 0, .int .i64 0, .string ⟨#[]⟩, .int .u8 0, .int .i64 0, .string ⟨#[]⟩] 29)) A.heap.size ⟨cs.length, 0, false, false, nul, nul⟩ := hz1
  clear hz1
  generalize hB : A.alloc (.cells #[.int .i64 (cs.length : Int), .int .i64 0, .bool false, .bool false, .int .u8 0, .int .i64 0, .string ⟨#[]⟩, .int .u8 0, .int .i64 0, .string ⟨#[]⟩] 29) = B at *
  have hz2 := Ceb.new B (.int .u8 0) (.int .i64 0) (.string ⟨#[]⟩)
  have hb2 := below_one B (.cells #[.int .u8 0, .int .i64 0, .string ⟨#[]⟩] 27)
  have s2 : (B.alloc (.cells #[.int .u8 0, .int .i64 0, .string ⟨#[]⟩] 27)).heap.size = B.heap.size + 1 := World.size_alloc _ _
  generalize hC : B.alloc (.cells #[.int .u8 0, .int .i64 0, .string ⟨#[]⟩] 27) = C at *
  have hz3 := Ceb.new C (.int .u8 0) (.int .i64 0) (.string ⟨#[]⟩)
  have hb3 := below_one C (.cells #[.int .u8 0, .int .i64 0, .string ⟨#[]⟩] 27)
  have s3 : (C.alloc (.cells #[.int .u8 0, .int .i64 0, .string ⟨#[]⟩] 27)).heap.size = C.heap.size + 1 := World.size_alloc _ _
  generalize hD : C.alloc (.cells #[.int .u8 0, .int .i64 0, .string ⟨#[]⟩] 27) = D at *
  have HRW : Hid (Rw D w.heap.size A.heap.size B.heap.size C.heap.size ⟨cs.length, 0, false, false, nul, nul⟩ nul nul) := hidden ⟨((hz0'.kept hb1).kept hb2).kept hb3, (hz1'.kept hb2).kept hb3, hz2.kept hb3, hz3⟩
  have HBD := hidden (below_then (below_then (below_then hb0 hb1) hb2) hb3)
  have e1 : A.heap.size = w.heap.size + 1 := s0
  have e2 : B.heap.size = w.heap.size + 1 + 1 := by omega
  have e3 : C.heap.size = w.heap.size + 1 + 1 + 1 := by omega
  rw [e1, e2, e3] at HRW
  clear hz0' hz1' hz2 hz3 hb0 hb1 hb2 hb3 hA hB hC hD s0 s1 s2 s3 e1 e2 e3
  obtain ⟨q1, hq1⟩ : ∃ q1, q1 = w.heap.size + 1 := ⟨_, rfl⟩
  obtain ⟨q2, hq2⟩ : ∃ q2, q2 = w.heap.size + 1 + 1 := ⟨_, rfl⟩
  obtain ⟨q3, hq3⟩ : ∃ q3, q3 = w.heap.size + 1 + 1 + 1 := ⟨_, rfl⟩
  have HQ : Hid (w.heap.size < q1 ∧ q1 < q2 ∧ q2 < q3) := hidden (by omega)
  rw [← hq3, ← hq2, ← hq1] at HRW
  rw [← hq3, ← hq2, ← hq1]
  clear hq1 hq2 hq3
  go_loopw [6, 7] (fun ck i wr => ∃ j : Nat, j ≤ cs.length ∧ i = .int .i64 (j : Int) ∧ ck = .bool (ckM (nonN (cs.take j))) ∧ Rw wr w.heap.size q1 q2 q3 ⟨cs.length, (j : Int) - ((nonN (cs.take j)).length : Nat), soM (nonN (cs.take j)), false, nul, nul⟩ (leM (nonN (cs.take j))) (moM (nonN (cs.take j))) ∧ Below w.heap.size w wr) (fun _ i _ => cs.length - (intOf i).toNat)
  case atStart => exact ⟨0, by omega, rfl, rfl, HRW.out, HBD.out⟩
  case round =>
    obtain ⟨j, hj, rfl, rfl, hrw, hbel⟩ := hrel
    have HR := hidden hrw
    have HB := hidden hbel
    have hzr := hbel.size
    have HNE : Hid (¬ q1 = w.heap.size ∧ ¬ w.heap.size = q1 ∧ ¬ q2 = w.heap.size ∧ ¬ w.heap.size = q2 ∧ ¬ q3 = w.heap.size ∧ ¬ w.heap.size = q3 ∧ ¬ q1 = q2 ∧ ¬ q2 = q1 ∧ ¬ q1 = q3 ∧ ¬ q3 = q1 ∧ ¬ q2 = q3 ∧ ¬ q3 = q2) := hidden (by have := HQ.out; omega)
    clear hrw hbel HRW HBD
    by_cases hlt : j < cs.length
    · have hlt' : (j : Int) < (cs.length : Int) := by omega
      have HJ1 : Hid (j + 1 ≤ cs.length) := hidden hlt
      have HWJ : Hid (Value.int .i64 (wrap64 ((j : Int) + 1)) = Value.int .i64 ((j + 1 : Nat) : Int)) := hidden (by
        have := HL.out
        have hw : wrap64 ((j : Int) + 1) = (j : Int) + 1 := by unfold wrap64; omega
        rw [hw]
        rfl)
      have HJM : Hid (∀ k, intOf (.int .i64 (wrap64 ((j : Int) + 1))) = k → cs.length - k.toNat < cs.length - (intOf (.int .i64 (j : Int))).toNat) := hidden (by
        intro k hk
        have := HL.out
        have hw : wrap64 ((j : Int) + 1) = (j : Int) + 1 := by unfold wrap64; omega
        rw [hw] at hk
        simp only [intOf] at hk ⊢
        omega)
      obtain ⟨g, off, rfl, hg, c0, c1, c2⟩ := (HS.out.kept (HB.out.mono (Nat.le_refl _))).at hlt
      rw [txt_eq] at c2
      have HX0 := hidden (nonN_null hlt)
      have HX1 := hidden (nonN_snoc hlt)
      have HNL : Hid ((nonN (cs.take j)).length ≤ j) := hidden (by
        have := List.length_filter_le (fun c : Cl => !decide (c.1 = 0)) (cs.take j)
        rw [List.length_take] at this
        unfold nonN
        omega)
      have HFC := hidden (HF.out cs[j] (List.getElem_mem hlt))
      generalize hns : nonN (cs.take j) = ns at *
      generalize hns2 : nonN (cs.take (j + 1)) = ns2 at *
      have HN2 := hidden hns2
      clear hns hns2
      generalize cs[j] = c at *
      have hcn := Ceb.new wr (.int .u8 (c.1 : Int)) (.int .i64 c.2.1) (.string (bytesT c.2.2))
      have hb2 := below_one wr (.cells #[.int .u8 (c.1 : Int), .int .i64 c.2.1, .string (bytesT c.2.2)] 27)
      have HR2 := hidden (HR.out.kept hb2)
      have HB2 := hidden (below_then HB.out hb2)
      have HCN := hidden hcn
      clear hcn hb2
      obtain ⟨⟨d0, d1, d2⟩, _, _⟩ := HCN.out.facts
      obtain ⟨⟨r1, r2, _⟩, ⟨l0, l1, l2⟩, ⟨m0, m1, m2⟩, fq0, fq1, fq2, fq3⟩ := HR2.out.facts
      obtain ⟨n1, n2, n3, n4, n5, n6, n7, n8, n9, n10, n11, n12⟩ := HNE.out
      simp only at r1 r2
      have h8 : q3 < wr.heap.size := HR.out.2.2.2.facts.2.2
      have n13 : ¬ wr.heap.size = q1 := by have := HQ.out; omega
      have n14 : ¬ wr.heap.size = q2 := by have := HQ.out; omega
      have n15 : ¬ wr.heap.size = q3 := by have := HQ.out; omega
      have n16 : ¬ q1 = wr.heap.size := by have := HQ.out; omega
      have n17 : ¬ q2 = wr.heap.size := by have := HQ.out; omega
      have n18 : ¬ q3 = wr.heap.size := by have := HQ.out; omega
      clear h8
      generalize hW : wr.alloc (.cells #[.int .u8 (c.1 : Int), .int .i64 c.2.1, .string (bytesT c.2.2)] 27) = W at *
      by_cases hc0 : c.1 = 0
      · have hc0' : ((c.1 : Int) == 0) = true := by rw [hc0]; rfl
        have hx := HX0.out hc0
        clear HX0 HX1
        subst hx
        have hwr : wrap64 ((j : Int) - (ns2.length : Int) + 1) = (j : Int) - (ns2.length : Int) + 1 := by have := HL.out; have := HNL.out; unfold wrap64; omega
        have HR3 := hidden (HR2.out.nulls HQ.out.1 HQ.out.2.1 HQ.out.2.2 ((j : Int) - (ns2.length : Int) + 1))
        have HB3 := hidden (HB2.out.setCell (p := ⟨q1, 1, none⟩) (Nat.le_of_lt HQ.out.1) (.int .i64 ((j : Int) - (ns2.length : Int) + 1)))
        clear hc0
        go_wp2_with fail
        go_roundw
        case rel =>
          refine ⟨j + 1, HJ1.out, HWJ.out, by rw [HN2.out], ?_, HB3.out⟩
          have := HR3.out
          rw [HN2.out, show ((j + 1 : Nat) : Int) - (ns2.length : Int) = (j : Int) - (ns2.length : Int) + 1 by omega]
          exact this
        case measure => exact HJM.out _ rfl
      · have hc0' : ((c.1 : Int) == 0) = false := beq_eq_false_iff_ne.2 (by omega)
        have hx := HX1.out hc0
        clear HX0 HX1
        have HST : Hid (∀ (X : World) (cl : Bool) (lo hi : Cl), cl = ckM (ns ++ [c]) → lo = leM (ns ++ [c]) → hi = moM (ns ++ [c]) → Rw X w.heap.size q1 q2 q3 ⟨cs.length, (j : Int) - (ns.length : Nat), true, false, nul, nul⟩ lo hi → Below w.heap.size w X →
            ∃ j1 : Nat, j1 ≤ cs.length ∧ Value.int .i64 (wrap64 ((j : Int) + 1)) = .int .i64 (j1 : Int) ∧ Value.bool cl = .bool (ckM (nonN (cs.take j1))) ∧ Rw X w.heap.size q1 q2 q3 ⟨cs.length, (j1 : Int) - ((nonN (cs.take j1)).length : Nat), soM (nonN (cs.take j1)), false, nul, nul⟩ (leM (nonN (cs.take j1))) (moM (nonN (cs.take j1))) ∧ Below w.heap.size w X) := hidden (by
          intro X cl lo hi e1 e2 e3 h1 h2
          refine ⟨j + 1, HJ1.out, HWJ.out, by rw [HN2.out, e1, hx], ?_, h2⟩
          rw [HN2.out, hx, soM_snoc, ← e2, ← e3, List.length_append, show ((j + 1 : Nat) : Int) - ((ns.length + [c].length : Nat) : Int) = (j : Int) - (ns.length : Int) by simp only [List.length_cons, List.length_nil]; omega]
          exact h1)
        have HCK : Hid (ckM (ns ++ [c]) = (ckM ns && (!decide (c.1 = 3) || cleanC c))) := hidden (ckM_snoc ns c)
        have HLE : Hid (leM (ns ++ [c]) = if soM ns = false ∨ cmpC c (leM ns) < 0 then c else leM ns) := hidden (leM_snoc ns c)
        have HMO : Hid (moM (ns ++ [c]) = if soM ns = false ∨ cmpC (moM ns) c < 0 then c else moM ns) := hidden (moM_snoc ns c)
        have HSG := hidden (signs_any (bytesT c.2.2) (by have := HFC.out.short; omega))
        have HL1 := hidden (lessC c (leM ns))
        have HL2 := hidden (lessC (moM ns) c)
        have HSZ : Hid (w.heap.size ≤ wr.heap.size) := hidden hzr
        clear hc0 hx HN2
        generalize hso : soM ns = so at *
        generalize leM ns = lo at *
        generalize moM ns = hi at *
        generalize ckM ns = cl at *
        generalize ckM (ns ++ [c]) = cl' at *
        generalize leM (ns ++ [c]) = lo' at *
        generalize moM (ns ++ [c]) = hi' at *
        clear hso hzr
        generalize (j : Int) - (ns.length : Int) = mm at *
        have hgo : ((c.1 : Int) == 3) = true ∨ ((c.1 : Int) == 3) = false := by cases ((c.1 : Int) == 3) <;> simp
        rcases hgo with h3 | h3
        · have HCL : Hid (cl' = (cl && clean (lb (bytesT c.2.2)))) := hidden (by
            have : c.1 = 3 := by have := eq_of_beq h3; omega
            rw [HCK.out, this]
            rfl)
          go_wp2_with fail
          refine (HSG.out _).mono ?_
          rintro e w2 ⟨⟨sa, sb, rfl, _, _⟩, hb3⟩
          have HR3 := hidden (HR2.out.kept hb3)
          have HB3 := hidden (below_then HB2.out hb3)
          have HCN3 := hidden (HCN.out.kept hb3)
          clear hb3 HR2 HB2 HCN d0 d1 d2 r1 r2 l0 l1 l2 m0 m1 m2 fq0 fq1 fq2 fq3
          obtain ⟨⟨d0, d1, d2⟩, _, _⟩ := HCN3.out.facts
          obtain ⟨⟨r1, r2, _⟩, ⟨l0, l1, l2⟩, ⟨m0, m1, m2⟩, fq0, fq1, fq2, fq3⟩ := HR3.out.facts
          simp only at r1 r2
          generalize clean (lb (bytesT c.2.2)) = ck at *
          have HCL2 : Hid (cl' = (if cl = true then ck else false)) := hidden (by rw [HCL.out]; cases cl <;> rfl)
          clear HCL
          cases cl
          all_goals
            simp only [if_true, if_false, Bool.false_eq_true] at HCL2
            cases so
            · have HEL : Hid (lo' = c) := hidden (by rw [HLE.out, if_pos (Or.inl rfl)])
              have HEH : Hid (hi' = c) := hidden (by rw [HMO.out, if_pos (Or.inl rfl)])
              have HRF := hidden (((HR3.out.lo HQ.out.1 HQ.out.2.1 HQ.out.2.2 c).hi HQ.out.1 HQ.out.2.1 HQ.out.2.2 c).some HQ.out.1 HQ.out.2.1 HQ.out.2.2)
              have HBF := hidden ((set3 (set3 HB3.out (Nat.le_of_lt (Nat.lt_trans HQ.out.1 HQ.out.2.1)) (.int .u8 (c.1 : Int)) (.int .i64 c.2.1) (.string (bytesT c.2.2))) (Nat.le_of_lt (Nat.lt_trans (Nat.lt_trans HQ.out.1 HQ.out.2.1) HQ.out.2.2)) (.int .u8 (c.1 : Int)) (.int .i64 c.2.1) (.string (bytesT c.2.2))).setCell (p := ⟨q1, 2, none⟩) (Nat.le_of_lt HQ.out.1) (.bool true))
              clear HLE HMO
              go_wp2_with fail
              go_roundw
              case rel => exact HST.out _ _ c c HCL2.out.symm HEL.out.symm HEH.out.symm HRF.out HBF.out
              case measure => exact HJM.out _ rfl
            · have HEL : Hid (lo' = if decide (cmpC c lo < 0) = true then c else lo) := hidden (by rw [HLE.out]; simp)
              have HEH : Hid (hi' = if decide (cmpC hi c < 0) = true then c else hi) := hidden (by rw [HMO.out]; simp)
              clear HLE HMO
              generalize decide (cmpC c lo < 0) = b1 at *
              generalize decide (cmpC hi c < 0) = b2 at *
              go_wp2_with fail
              refine (HL1.out _).mono ?_
              rintro e w4 ⟨rfl, hb4⟩
              have HR4 := hidden (HR3.out.kept hb4)
              have HB4 := hidden (below_then HB3.out hb4)
              have HCN4 := hidden (HCN3.out.kept hb4)
              clear hb4 HR3 HB3 HCN3 d0 d1 d2 r1 r2 l0 l1 l2 m0 m1 m2 fq0 fq1 fq2 fq3
              obtain ⟨⟨d0, d1, d2⟩, _, _⟩ := HCN4.out.facts
              obtain ⟨⟨r1, r2, _⟩, ⟨l0, l1, l2⟩, ⟨m0, m1, m2⟩, fq0, fq1, fq2, fq3⟩ := HR4.out.facts
              simp only at r1 r2
              cases b1
              · have HEL2 : Hid (lo' = lo) := hidden HEL.out
                clear HEL
                go_wp2_with fail
                refine (HL2.out _).mono ?_
                rintro e w5 ⟨rfl, hb5⟩
                have HR5 := hidden (HR4.out.kept hb5)
                have HB5 := hidden (below_then HB4.out hb5)
                have HCN5 := hidden (HCN4.out.kept hb5)
                clear hb5 HR4 HB4 HCN4 d0 d1 d2 r1 r2 l0 l1 l2 m0 m1 m2 fq0 fq1 fq2 fq3
                obtain ⟨⟨d0, d1, d2⟩, _, _⟩ := HCN5.out.facts
                obtain ⟨⟨r1, r2, _⟩, ⟨l0, l1, l2⟩, ⟨m0, m1, m2⟩, fq0, fq1, fq2, fq3⟩ := HR5.out.facts
                simp only at r1 r2
                cases b2
                · have HEH2 : Hid (hi' = hi) := hidden HEH.out
                  have HRF := hidden (HR5.out.some HQ.out.1 HQ.out.2.1 HQ.out.2.2)
                  have HBF := hidden (HB5.out.setCell (p := ⟨q1, 2, none⟩) (Nat.le_of_lt HQ.out.1) (.bool true))
                  clear HEH
                  go_wp2_with fail
                  go_roundw
                  case rel => exact HST.out _ _ lo hi HCL2.out.symm HEL2.out.symm HEH2.out.symm HRF.out HBF.out
                  case measure => exact HJM.out _ rfl
                · have HEH2 : Hid (hi' = c) := hidden HEH.out
                  have HRF := hidden ((HR5.out.hi HQ.out.1 HQ.out.2.1 HQ.out.2.2 c).some HQ.out.1 HQ.out.2.1 HQ.out.2.2)
                  have HBF := hidden ((set3 HB5.out (Nat.le_of_lt (Nat.lt_trans (Nat.lt_trans HQ.out.1 HQ.out.2.1) HQ.out.2.2)) (.int .u8 (c.1 : Int)) (.int .i64 c.2.1) (.string (bytesT c.2.2))).setCell (p := ⟨q1, 2, none⟩) (Nat.le_of_lt HQ.out.1) (.bool true))
                  clear HEH
                  go_wp2_with fail
                  go_roundw
                  case rel => exact HST.out _ _ lo c HCL2.out.symm HEL2.out.symm HEH2.out.symm HRF.out HBF.out
                  case measure => exact HJM.out _ rfl
              · have HEL2 : Hid (lo' = c) := hidden HEL.out
                clear HEL
                go_wp2_with fail
                have HR4' := hidden (HR4.out.lo HQ.out.1 HQ.out.2.1 HQ.out.2.2 c)
                have HB4' := hidden (set3 HB4.out (Nat.le_of_lt (Nat.lt_trans HQ.out.1 HQ.out.2.1)) (.int .u8 (c.1 : Int)) (.int .i64 c.2.1) (.string (bytesT c.2.2)))
                have HCN4' := hidden (((HCN4.out.other n14 0 (.int .u8 (c.1 : Int))).other n14 1 (.int .i64 c.2.1)).other n14 2 (.string (bytesT c.2.2)))
                refine (HL2.out _).mono ?_
                rintro e w5 ⟨rfl, hb5⟩
                have HR5 := hidden (HR4'.out.kept hb5)
                have HB5 := hidden (below_then HB4'.out hb5)
                have HCN5 := hidden (HCN4'.out.kept hb5)
                clear hb5 HR4 HB4 HCN4 HR4' HB4' HCN4' d0 d1 d2 r1 r2 l0 l1 l2 m0 m1 m2 fq0 fq1 fq2 fq3
                obtain ⟨⟨d0, d1, d2⟩, _, _⟩ := HCN5.out.facts
                obtain ⟨⟨r1, r2, _⟩, ⟨l0, l1, l2⟩, ⟨m0, m1, m2⟩, fq0, fq1, fq2, fq3⟩ := HR5.out.facts
                simp only at r1 r2
                cases b2
                · have HEH2 : Hid (hi' = hi) := hidden HEH.out
                  have HRF := hidden (HR5.out.some HQ.out.1 HQ.out.2.1 HQ.out.2.2)
                  have HBF := hidden (HB5.out.setCell (p := ⟨q1, 2, none⟩) (Nat.le_of_lt HQ.out.1) (.bool true))
                  clear HEH
                  go_wp2_with fail
                  go_roundw
                  case rel => exact HST.out _ _ c hi HCL2.out.symm HEL2.out.symm HEH2.out.symm HRF.out HBF.out
                  case measure => exact HJM.out _ rfl
                · have HEH2 : Hid (hi' = c) := hidden HEH.out
                  have HRF := hidden ((HR5.out.hi HQ.out.1 HQ.out.2.1 HQ.out.2.2 c).some HQ.out.1 HQ.out.2.1 HQ.out.2.2)
                  have HBF := hidden ((set3 HB5.out (Nat.le_of_lt (Nat.lt_trans (Nat.lt_trans HQ.out.1 HQ.out.2.1) HQ.out.2.2)) (.int .u8 (c.1 : Int)) (.int .i64 c.2.1) (.string (bytesT c.2.2))).setCell (p := ⟨q1, 2, none⟩) (Nat.le_of_lt HQ.out.1) (.bool true))
                  clear HEH
                  go_wp2_with fail
                  go_roundw
                  case rel => exact HST.out _ _ c c HCL2.out.symm HEL2.out.symm HEH2.out.symm HRF.out HBF.out
                  case measure => exact HJM.out _ rfl
        · have HCL2 : Hid (cl' = cl) := hidden (by
            have : ¬ c.1 = 3 := fun h => by rw [h] at h3; simp at h3
            rw [HCK.out]
            simp [this])
          have HR3 := HR2
          have HB3 := HB2
          have HCN3 := HCN
          clear HR2 HB2 HCN
          cases so
          · have HEL : Hid (lo' = c) := hidden (by rw [HLE.out, if_pos (Or.inl rfl)])
            have HEH : Hid (hi' = c) := hidden (by rw [HMO.out, if_pos (Or.inl rfl)])
            have HRF := hidden (((HR3.out.lo HQ.out.1 HQ.out.2.1 HQ.out.2.2 c).hi HQ.out.1 HQ.out.2.1 HQ.out.2.2 c).some HQ.out.1 HQ.out.2.1 HQ.out.2.2)
            have HBF := hidden ((set3 (set3 HB3.out (Nat.le_of_lt (Nat.lt_trans HQ.out.1 HQ.out.2.1)) (.int .u8 (c.1 : Int)) (.int .i64 c.2.1) (.string (bytesT c.2.2))) (Nat.le_of_lt (Nat.lt_trans (Nat.lt_trans HQ.out.1 HQ.out.2.1) HQ.out.2.2)) (.int .u8 (c.1 : Int)) (.int .i64 c.2.1) (.string (bytesT c.2.2))).setCell (p := ⟨q1, 2, none⟩) (Nat.le_of_lt HQ.out.1) (.bool true))
            clear HLE HMO
            go_wp2_with fail
            go_roundw
            case rel => exact HST.out _ _ c c HCL2.out.symm HEL.out.symm HEH.out.symm HRF.out HBF.out
            case measure => exact HJM.out _ rfl
          · have HEL : Hid (lo' = if decide (cmpC c lo < 0) = true then c else lo) := hidden (by rw [HLE.out]; simp)
            have HEH : Hid (hi' = if decide (cmpC hi c < 0) = true then c else hi) := hidden (by rw [HMO.out]; simp)
            clear HLE HMO
            generalize decide (cmpC c lo < 0) = b1 at *
            generalize decide (cmpC hi c < 0) = b2 at *
            go_wp2_with fail
            refine (HL1.out _).mono ?_
            rintro e w4 ⟨rfl, hb4⟩
            have HR4 := hidden (HR3.out.kept hb4)
            have HB4 := hidden (below_then HB3.out hb4)
            have HCN4 := hidden (HCN3.out.kept hb4)
            clear hb4 HR3 HB3 HCN3 d0 d1 d2 r1 r2 l0 l1 l2 m0 m1 m2 fq0 fq1 fq2 fq3
            obtain ⟨⟨d0, d1, d2⟩, _, _⟩ := HCN4.out.facts
            obtain ⟨⟨r1, r2, _⟩, ⟨l0, l1, l2⟩, ⟨m0, m1, m2⟩, fq0, fq1, fq2, fq3⟩ := HR4.out.facts
            simp only at r1 r2
            cases b1
            · have HEL2 : Hid (lo' = lo) := hidden HEL.out
              clear HEL
              go_wp2_with fail
              refine (HL2.out _).mono ?_
              rintro e w5 ⟨rfl, hb5⟩
              have HR5 := hidden (HR4.out.kept hb5)
              have HB5 := hidden (below_then HB4.out hb5)
              have HCN5 := hidden (HCN4.out.kept hb5)
              clear hb5 HR4 HB4 HCN4 d0 d1 d2 r1 r2 l0 l1 l2 m0 m1 m2 fq0 fq1 fq2 fq3
              obtain ⟨⟨d0, d1, d2⟩, _, _⟩ := HCN5.out.facts
              obtain ⟨⟨r1, r2, _⟩, ⟨l0, l1, l2⟩, ⟨m0, m1, m2⟩, fq0, fq1, fq2, fq3⟩ := HR5.out.facts
              simp only at r1 r2
              cases b2
              · have HEH2 : Hid (hi' = hi) := hidden HEH.out
                have HRF := hidden (HR5.out.some HQ.out.1 HQ.out.2.1 HQ.out.2.2)
                have HBF := hidden (HB5.out.setCell (p := ⟨q1, 2, none⟩) (Nat.le_of_lt HQ.out.1) (.bool true))
                clear HEH
                go_wp2_with fail
                go_roundw
                case rel => exact HST.out _ _ lo hi HCL2.out.symm HEL2.out.symm HEH2.out.symm HRF.out HBF.out
                case measure => exact HJM.out _ rfl
              · have HEH2 : Hid (hi' = c) := hidden HEH.out
                have HRF := hidden ((HR5.out.hi HQ.out.1 HQ.out.2.1 HQ.out.2.2 c).some HQ.out.1 HQ.out.2.1 HQ.out.2.2)
                have HBF := hidden ((set3 HB5.out (Nat.le_of_lt (Nat.lt_trans (Nat.lt_trans HQ.out.1 HQ.out.2.1) HQ.out.2.2)) (.int .u8 (c.1 : Int)) (.int .i64 c.2.1) (.string (bytesT c.2.2))).setCell (p := ⟨q1, 2, none⟩) (Nat.le_of_lt HQ.out.1) (.bool true))
                clear HEH
                go_wp2_with fail
                go_roundw
                case rel => exact HST.out _ _ lo c HCL2.out.symm HEL2.out.symm HEH2.out.symm HRF.out HBF.out
                case measure => exact HJM.out _ rfl
            · have HEL2 : Hid (lo' = c) := hidden HEL.out
              clear HEL
              go_wp2_with fail
              have HR4' := hidden (HR4.out.lo HQ.out.1 HQ.out.2.1 HQ.out.2.2 c)
              have HB4' := hidden (set3 HB4.out (Nat.le_of_lt (Nat.lt_trans HQ.out.1 HQ.out.2.1)) (.int .u8 (c.1 : Int)) (.int .i64 c.2.1) (.string (bytesT c.2.2)))
              have HCN4' := hidden (((HCN4.out.other n14 0 (.int .u8 (c.1 : Int))).other n14 1 (.int .i64 c.2.1)).other n14 2 (.string (bytesT c.2.2)))
              refine (HL2.out _).mono ?_
              rintro e w5 ⟨rfl, hb5⟩
              have HR5 := hidden (HR4'.out.kept hb5)
              have HB5 := hidden (below_then HB4'.out hb5)
              have HCN5 := hidden (HCN4'.out.kept hb5)
              clear hb5 HR4 HB4 HCN4 HR4' HB4' HCN4' d0 d1 d2 r1 r2 l0 l1 l2 m0 m1 m2 fq0 fq1 fq2 fq3
              obtain ⟨⟨d0, d1, d2⟩, _, _⟩ := HCN5.out.facts
              obtain ⟨⟨r1, r2, _⟩, ⟨l0, l1, l2⟩, ⟨m0, m1, m2⟩, fq0, fq1, fq2, fq3⟩ := HR5.out.facts
              simp only at r1 r2
              cases b2
              · have HEH2 : Hid (hi' = hi) := hidden HEH.out
                have HRF := hidden (HR5.out.some HQ.out.1 HQ.out.2.1 HQ.out.2.2)
                have HBF := hidden (HB5.out.setCell (p := ⟨q1, 2, none⟩) (Nat.le_of_lt HQ.out.1) (.bool true))
                clear HEH
                go_wp2_with fail
                go_roundw
                case rel => exact HST.out _ _ c hi HCL2.out.symm HEL2.out.symm HEH2.out.symm HRF.out HBF.out
                case measure => exact HJM.out _ rfl
              · have HEH2 : Hid (hi' = c) := hidden HEH.out
                have HRF := hidden ((HR5.out.hi HQ.out.1 HQ.out.2.1 HQ.out.2.2 c).some HQ.out.1 HQ.out.2.1 HQ.out.2.2)
                have HBF := hidden ((set3 HB5.out (Nat.le_of_lt (Nat.lt_trans (Nat.lt_trans HQ.out.1 HQ.out.2.1) HQ.out.2.2)) (.int .u8 (c.1 : Int)) (.int .i64 c.2.1) (.string (bytesT c.2.2))).setCell (p := ⟨q1, 2, none⟩) (Nat.le_of_lt HQ.out.1) (.bool true))
                clear HEH
                go_wp2_with fail
                go_roundw
                case rel => exact HST.out _ _ c c HCL2.out.symm HEL2.out.symm HEH2.out.symm HRF.out HBF.out
                case measure => exact HJM.out _ rfl
    · obtain rfl : j = cs.length := by omega
      rw [List.take_length] at HR ⊢
      have hge : ¬ ((cs.length : Nat) : Int) < (cs.length : Int) := by omega
      have HNL : Hid ((nonN cs).length ≤ cs.length) := hidden (List.length_filter_le _ _)
      have HDF : Hid (refStatM cs = if soM (nonN cs) = false then ⟨cs.length, (cs.length : Int) - ((nonN cs).length : Nat), false, false, nul, nul⟩
        else if (leM (nonN cs)).1 = 3 then (if ckM (nonN cs) = false then ⟨cs.length, (cs.length : Int) - ((nonN cs).length : Nat), true, false, ((leM (nonN cs)).1, (leM (nonN cs)).2.1, []), nul⟩
          else match refAboveL (lb (bytesT (moM (nonN cs)).2.2)) 4 with
            | none => ⟨cs.length, (cs.length : Int) - ((nonN cs).length : Nat), true, false, ((leM (nonN cs)).1, (leM (nonN cs)).2.1, nb (firstL (lb (bytesT (leM (nonN cs)).2.2)) 4)), nul⟩
            | some a => ⟨cs.length, (cs.length : Int) - ((nonN cs).length : Nat), true, true, ((leM (nonN cs)).1, (leM (nonN cs)).2.1, nb (firstL (lb (bytesT (leM (nonN cs)).2.2)) 4)), ((moM (nonN cs)).1, (moM (nonN cs)).2.1, nb a)⟩)
        else ⟨cs.length, (cs.length : Int) - ((nonN cs).length : Nat), true, true, leM (nonN cs), moM (nonN cs)⟩) := hidden rfl
      have HFN : Hid (∀ c ∈ nonN cs, Fine c) := hidden (fun c hc => HF.out c (by unfold nonN at hc; exact (List.mem_filter.1 hc).1))
      have HFL : Hid (Fine (leM (nonN cs))) := hidden (by
        have := HFN.out
        cases hn : nonN cs with
        | nil => exact Or.inl rfl
        | cons x r => rw [hn] at this; exact minC_mem (this x (by simp)) (fun c hc => this c (by simp [hc])))
      have HFM : Hid (Fine (moM (nonN cs))) := hidden (by
        have := HFN.out
        cases hn : nonN cs with
        | nil => exact Or.inl rfl
        | cons x r => rw [hn] at this; exact maxC_mem (this x (by simp)) (fun c hc => this c (by simp [hc])))
      generalize ckM (nonN cs) = ck at *
      generalize soM (nonN cs) = so at *
      generalize leM (nonN cs) = lo at *
      generalize moM (nonN cs) = hi at *
      generalize (cs.length : Int) - ((nonN cs).length : Nat) = mm at *
      obtain ⟨n1, n2, n3, n4, n5, n6, n7, n8, n9, n10, n11, n12⟩ := HNE.out
      cases so
      · have HD2 : Hid (refStatM cs = ⟨cs.length, mm, false, false, nul, nul⟩) := hidden (by rw [HDF.out, if_pos rfl])
        obtain ⟨_, ⟨r0, r1, r2, r3⟩, ⟨r4, r5, r6⟩, r7, r8, r9⟩ := HR.out.2.1.at
        obtain ⟨_, ⟨z0, z1, z2, z3⟩, ⟨z4, z5, z6⟩, z7, z8, z9⟩ := HR.out.1.at
        obtain ⟨_, _, _, fq0, fq1, fq2, fq3⟩ := HR.out.facts
        simp only [Nat.zero_add] at r0 r1 r2 r3 r4 r5 r6 r7 r8 r9 z0 z1 z2 z3 z4 z5 z6 z7 z8 z9
        clear HDF
        go_wp2_with fail
        refine bodyPost_ret (v := .agg #[.int .i64 (cs.length : Int), .int .i64 mm, .bool false, .bool false, .int .u8 0, .int .i64 0, .string ⟨#[]⟩, .int .u8 0, .int .i64 0, .string ⟨#[]⟩]) (by simp [results, Try.results10, go_sem, nul, bytesT_nil, z0, z1, z2, z3, z4, z5, z6, z7, z8, z9]) rfl ⟨?_, ?_⟩
        · rw [HD2.out]
          rfl
        · have := HQ.out
          repeat refine setB' ?_ (by omega) _ _
          exact HB.out
      · by_cases h3 : lo.1 = 3
        · have h3' : ((lo.1 : Int) == 3) = true := by rw [h3]; rfl
          have HFI := hidden (refFirst_any (bytesT lo.2.2) 4 (by have := HFL.out.short; omega))
          have HAB := hidden (refAbove_any (bytesT hi.2.2) 4 (by have := HFM.out.short; omega))
          have HD2 : Hid (refStatM cs = if ck = false then ⟨cs.length, mm, true, false, (lo.1, lo.2.1, []), nul⟩ else match refAboveL (lb (bytesT hi.2.2)) 4 with
            | none => ⟨cs.length, mm, true, false, (lo.1, lo.2.1, nb (firstL (lb (bytesT lo.2.2)) 4)), nul⟩
            | some a => ⟨cs.length, mm, true, true, (lo.1, lo.2.1, nb (firstL (lb (bytesT lo.2.2)) 4)), (hi.1, hi.2.1, nb a)⟩) := hidden (by rw [HDF.out, if_neg (by simp), if_pos h3])
          obtain ⟨⟨r1, r2, r3⟩, ⟨l0, l1, l2⟩, _, fq0, fq1, fq2, fq3⟩ := HR.out.facts
          simp only at r1 r2 r3
          clear h3 HDF
          go_wp2_with fail
          have HR' := hidden (HR.out.high HQ.out.1 HQ.out.2.1 HQ.out.2.2 true)
          have HB' := hidden (HB.out.setCell (p := ⟨q1, 3, none⟩) (Nat.le_of_lt HQ.out.1) (.bool true))
          refine (HFI.out _).mono ?_
          rintro e w3 ⟨⟨t, rfl, ht⟩, hb3⟩
          have HR3 := hidden (HR'.out.kept hb3)
          have HB3 := hidden (below_then HB'.out hb3)
          have HTB := hidden (nb_of ht)
          clear hb3 ht HR HB HR' HB' r1 r2 r3 l0 l1 l2 fq0 fq1 fq2 fq3
          cases ck
          · have HD3 : Hid (refStatM cs = ⟨cs.length, mm, true, false, (lo.1, lo.2.1, []), nul⟩) := hidden (by rw [HD2.out, if_pos rfl])
            clear HD2
            obtain ⟨_, ⟨r0, r1, r2, r3⟩, ⟨r4, r5, r6⟩, r7, r8, r9⟩ := HR3.out.2.1.at
            obtain ⟨_, ⟨z0, z1, z2, z3⟩, ⟨z4, z5, z6⟩, z7, z8, z9⟩ := HR3.out.1.at
            obtain ⟨_, ⟨l0, l1, l2⟩, ⟨m0, m1, m2⟩, fq0, fq1, fq2, fq3⟩ := HR3.out.facts
            simp only [Nat.zero_add] at r0 r1 r2 r3 r4 r5 r6 r7 r8 r9 z0 z1 z2 z3 z4 z5 z6 z7 z8 z9 l0 l1 l2 m0 m1 m2
            go_wp2_with fail
            refine bodyPost_ret (v := .agg #[.int .i64 (cs.length : Int), .int .i64 mm, .bool true, .bool false, .int .u8 (lo.1 : Int), .int .i64 lo.2.1, .string ⟨#[]⟩, .int .u8 0, .int .i64 0, .string ⟨#[]⟩]) (by simp [results, Try.results10, go_sem, nul, bytesT_nil, z0, z1, z2, z3, z4, z5, z6, z7, z8, z9, n1, n2, n3, n4, n5, n6, n7, n8, n9, n10, n11, n12]) rfl ⟨?_, ?_⟩
            · rw [HD3.out]
              rfl
            · have := HQ.out
              repeat refine setB' ?_ (by omega) _ _
              exact HB3.out
          · have HD3 : Hid (refStatM cs = match refAboveL (lb (bytesT hi.2.2)) 4 with
              | none => ⟨cs.length, mm, true, false, (lo.1, lo.2.1, nb (firstL (lb (bytesT lo.2.2)) 4)), nul⟩
              | some a => ⟨cs.length, mm, true, true, (lo.1, lo.2.1, nb (firstL (lb (bytesT lo.2.2)) 4)), (hi.1, hi.2.1, nb a)⟩) := hidden (by rw [HD2.out, if_neg (by simp)])
            clear HD2
            rw [HTB.out]
            generalize nb (firstL (lb (bytesT lo.2.2)) 4) = fl at *
            obtain ⟨⟨r1, r2, r3⟩, ⟨l0, l1, l2⟩, ⟨m0, m1, m2⟩, fq0, fq1, fq2, fq3⟩ := HR3.out.facts
            simp only at r1 r2 r3
            clear HTB
            go_wp2_with fail
            have HR3' := hidden (HR3.out.loS HQ.out.1 HQ.out.2.1 HQ.out.2.2 fl)
            have HB3' := hidden (HB3.out.setCell (p := ⟨q2, 2, none⟩) (Nat.le_of_lt (Nat.lt_trans HQ.out.1 HQ.out.2.1)) (.string (bytesT fl)))
            refine (HAB.out _).mono ?_
            rintro e w4 ⟨⟨t2, o, rfl, ho, ht2⟩, hb4⟩
            have HR4 := hidden (HR3'.out.kept hb4)
            have HB4 := hidden (below_then HB3'.out hb4)
            clear hb4 HR3 HB3 HR3' HB3' r1 r2 r3 l0 l1 l2 m0 m1 m2 fq0 fq1 fq2 fq3
            cases hab : refAboveL (lb (bytesT hi.2.2)) 4 with
            | none =>
              rw [hab] at HD3 ho
              have ho' : o = false := ho
              subst ho'
              have HD4 : Hid (refStatM cs = ⟨cs.length, mm, true, false, (lo.1, lo.2.1, fl), nul⟩) := hidden HD3.out
              clear hab ho ht2 HD3
              obtain ⟨_, ⟨r0, r1, r2, r3⟩, ⟨r4, r5, r6⟩, r7, r8, r9⟩ := HR4.out.2.1.at
              obtain ⟨_, ⟨z0, z1, z2, z3⟩, ⟨z4, z5, z6⟩, z7, z8, z9⟩ := HR4.out.1.at
              obtain ⟨_, ⟨l0, l1, l2⟩, ⟨m0, m1, m2⟩, fq0, fq1, fq2, fq3⟩ := HR4.out.facts
              simp only [Nat.zero_add] at r0 r1 r2 r3 r4 r5 r6 r7 r8 r9 z0 z1 z2 z3 z4 z5 z6 z7 z8 z9 l0 l1 l2 m0 m1 m2
              go_wp2_with fail
              refine bodyPost_ret (v := .agg #[.int .i64 (cs.length : Int), .int .i64 mm, .bool true, .bool false, .int .u8 (lo.1 : Int), .int .i64 lo.2.1, .string (bytesT fl), .int .u8 0, .int .i64 0, .string ⟨#[]⟩]) (by simp [results, Try.results10, go_sem, nul, bytesT_nil, z0, z1, z2, z3, z4, z5, z6, z7, z8, z9, n1, n2, n3, n4, n5, n6, n7, n8, n9, n10, n11, n12]) rfl ⟨?_, ?_⟩
              · rw [HD4.out]
                rfl
              · have := HQ.out
                repeat refine setB' ?_ (by omega) _ _
                exact HB4.out
            | some av =>
              rw [hab] at HD3 ho ht2
              have ho' : o = true := ho
              subst ho'
              have HD4 : Hid (refStatM cs = ⟨cs.length, mm, true, true, (lo.1, lo.2.1, fl), (hi.1, hi.2.1, nb av)⟩) := hidden HD3.out
              have HTB := hidden (nb_of (show lb t2 = av from ht2))
              clear hab ho ht2 HD3
              obtain ⟨_, ⟨r0, r1, r2, r3⟩, ⟨r4, r5, r6⟩, r7, r8, r9⟩ := HR4.out.2.1.at
              obtain ⟨_, ⟨z0, z1, z2, z3⟩, ⟨z4, z5, z6⟩, z7, z8, z9⟩ := HR4.out.1.at
              obtain ⟨_, ⟨l0, l1, l2⟩, ⟨m0, m1, m2⟩, fq0, fq1, fq2, fq3⟩ := HR4.out.facts
              simp only [Nat.zero_add] at r0 r1 r2 r3 r4 r5 r6 r7 r8 r9 z0 z1 z2 z3 z4 z5 z6 z7 z8 z9 l0 l1 l2 m0 m1 m2
              go_wp2_with fail
              refine bodyPost_ret (v := .agg #[.int .i64 (cs.length : Int), .int .i64 mm, .bool true, .bool true, .int .u8 (lo.1 : Int), .int .i64 lo.2.1, .string (bytesT fl), .int .u8 (hi.1 : Int), .int .i64 hi.2.1, .string t2]) (by simp [results, Try.results10, go_sem, nul, bytesT_nil, z0, z1, z2, z3, z4, z5, z6, z7, z8, z9, n1, n2, n3, n4, n5, n6, n7, n8, n9, n10, n11, n12]) rfl ⟨?_, ?_⟩
              · rw [HD4.out, HTB.out]
                rfl
              · have := HQ.out
                repeat refine setB' ?_ (by omega) _ _
                exact HB4.out
        · have h3' : ((lo.1 : Int) == 3) = false := beq_eq_false_iff_ne.2 (by omega)
          have HD2 : Hid (refStatM cs = ⟨cs.length, mm, true, true, lo, hi⟩) := hidden (by rw [HDF.out, if_neg (by simp), if_neg h3])
          clear h3 HDF
          obtain ⟨_, ⟨r0, r1, r2, r3⟩, ⟨r4, r5, r6⟩, r7, r8, r9⟩ := HR.out.2.1.at
          obtain ⟨_, ⟨z0, z1, z2, z3⟩, ⟨z4, z5, z6⟩, z7, z8, z9⟩ := HR.out.1.at
          obtain ⟨_, ⟨l0, l1, l2⟩, ⟨m0, m1, m2⟩, fq0, fq1, fq2, fq3⟩ := HR.out.facts
          simp only [Nat.zero_add] at r0 r1 r2 r3 r4 r5 r6 r7 r8 r9 z0 z1 z2 z3 z4 z5 z6 z7 z8 z9 l0 l1 l2 m0 m1 m2
          go_wp2_with fail
          refine bodyPost_ret (v := .agg #[.int .i64 (cs.length : Int), .int .i64 mm, .bool true, .bool true, .int .u8 (lo.1 : Int), .int .i64 lo.2.1, .string (bytesT lo.2.2), .int .u8 (hi.1 : Int), .int .i64 hi.2.1, .string (bytesT hi.2.2)]) (by simp [results, Try.results10, go_sem, nul, bytesT_nil, z0, z1, z2, z3, z4, z5, z6, z7, z8, z9, n1, n2, n3, n4, n5, n6, n7, n8, n9, n10, n11, n12]) rfl ⟨?_, ?_⟩
          · rw [HD2.out]
            rfl
          · have := HQ.out
            repeat refine setB' ?_ (by omega) _ _
            exact HB.out
end Go.Proofs.Ytfcnoeehfhncjaa
