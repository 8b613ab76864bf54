/- What a predicate answers of a row: Eval. -/
import Derived.Test.YtfcnoeehfhncjaaPl
set_option linter.unusedVariables false
set_option linter.unusedSimpArgs false
namespace Go.Proofs.Ytfcnoeehfhncjaa
open Go.RowKit Go.Lib

/-- A row of a schema in memory, as Eval has it. -/
def RowOf (W : World) (q si : Nat) (fv rv : Value) (l : List Fd) (r : List Cl) : Prop :=
  q < W.heap.size ∧ W.cell? ⟨q, 0, none⟩ = some (.int .u32 (si : Int)) ∧ W.cell? ⟨q, 1, none⟩ = some fv ∧ W.cell? ⟨q, 2, none⟩ = some rv ∧ Sf W fv l ∧ Sv W rv (vvals r)
theorem RowOf.kept {W W' : World} {q si : Nat} {fv rv : Value} {l : List Fd} {r : List Cl} (h : RowOf W q si fv rv l r) (hb : Below W.heap.size W W') : RowOf W' q si fv rv l r := by
  obtain ⟨h0, h1, h2, h3, h4, h5⟩ := h
  have e : ∀ o, W'.cell? ⟨q, o, none⟩ = W.cell? ⟨q, o, none⟩ := fun o => (bcell hb).1 q o h0
  exact ⟨Nat.lt_of_lt_of_le h0 hb.size, by rw [e]; exact h1, by rw [e]; exact h2, by rw [e]; exact h3, h4.kept hb, h5.kept hb⟩
theorem Sv.at2 {W : World} {a : Option Addr} {n cap : Nat} {xs : List Value} (h : Sv W (.slice a n cap) xs) : n = xs.length ∧ n ≤ cap ∧ cap ≤ maxLen := by
  obtain ⟨a', cap', e, h1, h2, _⟩ := h
  simp only [Value.slice.injEq] at e
  obtain ⟨_, rfl, rfl⟩ := e
  exact ⟨rfl, h1, h2⟩

theorem leafM_none {l : List Fd} {r : List Cl} {op f : Nat} {c : Cl} (h : place l f = none) : leafM l r op f c = 1 := by unfold leafM; rw [h]
theorem leafM_past {l : List Fd} {r : List Cl} {op f j : Nat} {c : Cl} (h : place l f = some j) (hj : ¬ j < r.length) : leafM l r op f c = 1 := by
  unfold leafM; rw [h]; simp only; rw [List.getElem?_eq_none (by omega)]
theorem leafM_at {l : List Fd} {r : List Cl} {op f j : Nat} {c : Cl} (h : place l f = some j) (hj : j < r.length) : leafM l r op f c = leafX op c r[j] := by
  unfold leafM; rw [h]; simp only; rw [List.getElem?_eq_getElem hj]

set_option maxRecDepth 100000 in
set_option maxHeartbeats 4000000 in
theorem answerOfField_any {w : World} {q si b off op f : Nat} {c : Cl} {kv fv rv : Value} {l : List Fd} {r : List Cl} (hr : RowOf w q si fv rv l r) (hn : NodeAt w b off op f c kv) (hok : Okc c) (hl : c.2.2.length ≤ 300) (hfr : ∀ x ∈ r, Fine x) :
    Calls Try.prog 64 #[.pointer (some ⟨q, 0, none⟩), .pointer (some ⟨b, off, none⟩)] w fun e w' => e = .returned (.int .u8 (leafM l r op f c : Int)) ∧ Below w.heap.size w w' := by
  have HR := hidden hr
  have HN := hidden hn
  have HO := hidden hok
  have HL := hidden hl
  have HFR := hidden hfr
  have HPL := hidden (fun (U : World) (hU : Below w.heap.size w U) => place_any (hr.2.2.2.2.1.kept hU) si f)
  have HA0 := hidden (fun h => leafM_none (l := l) (r := r) (op := op) (f := f) (c := c) h)
  have HA1 := hidden (fun (j : Nat) h hj => leafM_past (l := l) (r := r) (op := op) (f := f) (c := c) (j := j) h hj)
  have HA2 := hidden (fun (j : Nat) h hj => leafM_at (l := l) (r := r) (op := op) (f := f) (c := c) (j := j) h hj)
  generalize leafM l r op f c = R at *
  obtain ⟨hq0, y0, y1, y2, hsf, hsv⟩ := hr
  obtain ⟨hb0, x0, x1, x2, x3, x4, x5⟩ := hn
  obtain ⟨fa, fcap, rfl, hfc, hfm⟩ := hsf.form
  obtain ⟨ra, rcap, rfl, hrc, hrm⟩ := hsv.form1
  rw [vvals_length] at *
  clear hsf hsv hok hl hfr
  have hr0 : ∀ s : SubW (fun x => Below w.heap.size w x), s.w.cell? ⟨q, 0, none⟩ = some (.int .u32 (si : Int)) := fun s => (s.ok.cell (p := ⟨q, 0, none⟩) hq0).trans y0
  have hr1 : ∀ s : SubW (fun x => Below w.heap.size w x), s.w.cell? ⟨q, 1, none⟩ = some (.slice fa l.length fcap) := fun s => (s.ok.cell (p := ⟨q, 1, none⟩) hq0).trans y1
  have hr2 : ∀ s : SubW (fun x => Below w.heap.size w x), s.w.cell? ⟨b, off + 1, none⟩ = some (.int .u32 (f : Int)) := fun s => (s.ok.cell (p := ⟨b, off + 1, none⟩) hb0).trans x1
  haveI : Nonempty (SubW (fun x => Below w.heap.size w x)) := ⟨SubW.mk w (Below.refl _ _)⟩
  go_enter Try.func64, Try.ntmps64
  go_wp2_with fail
  refine wp_region_still (S := fun x => Below w.heap.size w x) (by kernel_rfl) (by kernel_rfl) (Below.refl _ _).drew ?_
  repeat (go_big_quiet_step ((go_at_call 75; exact (HPL.out _ (SubW.ok _)).mono (fun e w' h => ⟨h.1, SubW.mk w' (below_then (SubW.ok _) h.2), rfl⟩))))
  refine wpQuiet_nil ?_
  rintro _ ⟨s2, rfl⟩
  obtain ⟨w2, hw2⟩ : ∃ x, x = s2.w := ⟨_, rfl⟩
  have hb2 := s2.ok
  rw [← hw2] at hb2 ⊢
  have HB2 := hidden hb2
  have HR2 := hidden (HR.out.kept hb2)
  have HN2 := hidden (HN.out.kept hb2)
  have hz2 := hb2.size
  clear hw2 hb2 hr0 hr1 hr2 x0 x1 x2 x3 x4 x5 y0 y1 y2 HR HN
  cases hp : place l f with
  | none =>
    have HA := hidden (HA0.out hp)
    simp only [Option.isSome_none, Option.getD_none]
    clear hp HA0 HA1 HA2
    go_wp2_with fail
    go_ret
    rw [HA.out]
    exact ⟨rfl, HB2.out⟩
  | some j =>
    simp only [Option.isSome_some, Option.getD_some]
    by_cases hj : j < r.length
    · have HA := hidden (HA2.out j hp hj)
      obtain ⟨_, y0, y1, y2, _, hsv⟩ := HR2.out
      have hj' : ¬ (j : Int) ≥ (r.length : Int) := by omega
      have hj2 : (j : Int) < (r.length : Int) := by omega
      obtain ⟨rb, roff, rfl, hrb, z⟩ := hsv.at1 (vvals_get hj)
      have HF := hidden (HFR.out r[j] (List.getElem_mem hj))
      generalize r[j] = x at *
      have HSV := hidden hsv
      clear hsv hp HA0 HA1 HA2 HFR
      go_wp2_with fail
      refine (KindOfC HF.out _).mono ?_
      rintro e w3 ⟨rfl, rfl⟩
      have HNK := HN2.out
      obtain ⟨hb0', x0, x1, x2, x3, x4, x5⟩ := HNK
      by_cases h5 : op = 5
      · subst h5
        go_wp2_with fail
        refine (isN_any _ _).mono ?_
        rintro e w4 ⟨rfl, rfl⟩
        go_wp2_with fail
        go_ret
        refine ⟨?_, HB2.out⟩
        rw [HA.out]
        unfold leafX
        rw [if_pos rfl]
        have e1 : ((x.1 : Int) == 0) = decide (x.1 = 0) := by rw [Bool.eq_iff_iff]; simp
        rw [e1]
        rfl
      · have n5 : ((op : Int) == 5) = false := beq_eq_false_iff_ne.2 (by omega)
        by_cases hx : x.1 = 0
        · have hx' : ((x.1 : Int) == 0) = true := by rw [hx]; rfl
          have HA' : Hid (R = 1) := hidden (by rw [HA.out]; unfold leafX; rw [if_neg h5, if_pos hx])
          clear h5 hx
          go_wp2_with fail
          go_ret
          rw [HA'.out]
          exact ⟨rfl, HB2.out⟩
        · have hx' : ((x.1 : Int) == 0) = false := beq_eq_false_iff_ne.2 (by omega)
          have HA' : Hid (R = heldM op c x) := hidden (by rw [HA.out]; unfold leafX; rw [if_neg h5, if_neg hx])
          clear h5 hx
          go_wp2_with fail
          refine (held_any HN2.out HO.out HL.out HF.out).mono ?_
          rintro e w4 ⟨rfl, hb4⟩
          have HB4 := hidden hb4
          clear hb4
          go_wp2_with fail
          go_ret
          rw [HA'.out]
          exact ⟨rfl, below_then HB2.out HB4.out⟩
    · have HA := hidden (HA1.out j hp hj)
      obtain ⟨_, y0, y1, y2, _, hsv⟩ := HR2.out
      have hj' : (j : Int) ≥ (r.length : Int) := by omega
      clear hp HA0 HA1 HA2 hsv
      go_wp2_with fail
      go_ret
      rw [HA.out]
      exact ⟨rfl, HB2.out⟩

theorem andN {a b : Nat} (ha : a ≤ 2) (hb : b ≤ 2) (w : World) : Calls Try.prog 59 #[.int .u8 (a : Int), .int .u8 (b : Int)] w fun e w' => e = .returned (.int .u8 ((min a b : Nat) : Int)) ∧ w' = w := by
  refine (and_any _ _ w).mono ?_
  rintro e w1 ⟨rfl, rfl⟩
  refine ⟨?_, rfl⟩
  have h1 : tm (a : Int) = (a : Int) := by unfold tm; rw [if_neg (by omega)]
  have h2 : tm (b : Int) = (b : Int) := by unfold tm; rw [if_neg (by omega)]
  rw [h1, h2]
  exact ret_int (by omega)
theorem orN {a b : Nat} (ha : a ≤ 2) (hb : b ≤ 2) (w : World) : Calls Try.prog 60 #[.int .u8 (a : Int), .int .u8 (b : Int)] w fun e w' => e = .returned (.int .u8 ((max a b : Nat) : Int)) ∧ w' = w := by
  refine (or_three_any _ _ w).mono ?_
  rintro e w1 ⟨rfl, rfl⟩
  refine ⟨?_, rfl⟩
  have h1 : tm (a : Int) = (a : Int) := by unfold tm; rw [if_neg (by omega)]
  have h2 : tm (b : Int) = (b : Int) := by unfold tm; rw [if_neg (by omega)]
  rw [h1, h2]
  exact ret_int (by omega)
theorem notN {a : Nat} (ha : a ≤ 2) (w : World) : Calls Try.prog 63 #[.int .u8 (a : Int)] w fun e w' => e = .returned (.int .u8 ((2 - a : Nat) : Int)) ∧ w' = w := by
  refine (not_any _ (by omega) w).mono ?_
  rintro e w1 ⟨rfl, rfl⟩
  refine ⟨?_, rfl⟩
  have h1 : tm (a : Int) = (a : Int) := by unfold tm; rw [if_neg (by omega)]
  rw [h1]
  exact ret_int (by omega)

set_option maxRecDepth 100000 in
set_option maxHeartbeats 4000000 in
theorem answer_any {q si : Nat} {fv rv : Value} {l : List Fd} {r : List Cl} (hfr : ∀ x ∈ r, Fine x) (t : PT) : Okp t → Len t → ∀ (w : World) (b off : Nat), RowOf w q si fv rv l r → Lies w b off t →
    Calls Try.prog 41 #[.pointer (some ⟨q, 0, none⟩), .pointer (some ⟨b, off, none⟩)] w fun e w' => e = .returned (.int .u8 (evalM l r t : Int)) ∧ Below w.heap.size w w' := by
  refine PT.ind (P := fun t => Okp t → Len t → ∀ (w : World) (b off : Nat), RowOf w q si fv rv l r → Lies w b off t → Calls Try.prog 41 #[.pointer (some ⟨q, 0, none⟩), .pointer (some ⟨b, off, none⟩)] w fun e w' => e = .returned (.int .u8 (evalM l r t : Int)) ∧ Below w.heap.size w w') (fun op f c ks ih hok hlen w b off hr hlies => ?_) t
  have HIH := hidden ih
  have HFR := hidden hfr
  have HR := hidden hr
  simp only [Okp] at hok
  simp only [Len] at hlen
  obtain ⟨_, _, hoc, hoks⟩ := hok
  obtain ⟨hl, hlks⟩ := hlen
  have HOC := hidden hoc
  have HOK := hidden hoks.get
  have HL := hidden hl
  have HLK := hidden hlks.get
  obtain ⟨a, cap, hnode, hkids⟩ := hlies.open
  have HN := hidden hnode
  have HK := hidden hkids
  have hkf := hkids.form
  obtain ⟨_, _, hke, hkc, hkm⟩ := hkf
  simp only [Value.slice.injEq] at hke
  obtain ⟨rfl, _, rfl⟩ := hke
  have hkm' : ks.length ≤ 9223372036854775807 := by unfold maxLen at hkm; omega
  obtain ⟨hb0, x0, x1, x2, x3, x4, x5⟩ := hnode
  clear hr hlies hkids hoc hoks hl hlks hfr ih hkm
  have HD : Hid (evalM l r (.node op f c ks) = if op = 6 then evalAnd l r ks 2 else if op = 7 then evalOr l r ks 0 else if op = 8 then evalNot l r ks else leafM l r op f c) := hidden (by simp only [evalM])
  generalize evalM l r (.node op f c ks) = R at *
  by_cases h6 : op = 6
  · subst h6
    rw [if_pos rfl] at HD
    have HD' : Hid (R = evalAnd l r (ks.drop 0) 2) := HD
    clear HD
    go_enter Try.func41, Try.ntmps41
    go_wp2_with fail
    go_loopw [5, 20] (fun s i wr => ∃ k acc : Nat, k ≤ ks.length ∧ i = .int .i64 (k : Int) ∧ s = .int .u8 (acc : Int) ∧ acc ≤ 2 ∧ R = evalAnd l r (ks.drop k) acc ∧ Below w.heap.size w wr) (fun _ i _ => ks.length - (intOf i).toNat)
    case atStart => exact ⟨0, 2, by omega, rfl, rfl, by omega, HD'.out, Below.refl _ _⟩
    case round =>
      obtain ⟨k, acc, hk, rfl, rfl, hacc, hfe, hbel⟩ := hrel
      have HF := hidden hfe
      have HB := hidden hbel
      have HACC := hidden hacc
      have hzr := hbel.size
      clear hfe hbel HD' hacc x0 x1 x2 x3 x4 x5
      by_cases hlt : k < ks.length
      · obtain ⟨g, o, rfl, hlk⟩ := (HK.out.kept HB.out).at hlt
        have hlt' : (k : Int) < (ks.length : Int) := by omega
        have HLK2 := hidden hlk
        obtain ⟨hb1, x0, x1, x2, x3, x4, x5⟩ := HN.out.kept HB.out
        have HT := hidden (HF.out.trans (evalAnd_step hlt acc))
        have HE2 := hidden (evalM_le l r ks[k])
        have HC := hidden (fun (U : World) (hU : Below wr.heap.size wr U) => HIH.out ks[k] (List.getElem_mem hlt) (HOK.out _ (List.getElem_mem hlt)) (HLK.out _ (List.getElem_mem hlt)) U g (o + k * 6) ((HR.out.kept HB.out).kept hU) (Lies.kept hU _ _ _ hlk))
        generalize evalM l r ks[k] = ev at *
        clear hlk HF
        go_wp2_with fail
        refine (HC.out _ (Below.refl _ _)).mono ?_
        rintro e w2 ⟨rfl, hb2⟩
        have HB2 := hidden (HB.out.trans (hb2.mono hzr))
        clear hb2
        go_wp2_with fail
        refine (andN HACC.out HE2.out _).mono ?_
        rintro e w3 ⟨rfl, rfl⟩
        go_wp2_with fail
        go_roundw
        case rel => exact ⟨k + 1, min acc ev, by omega, by go_num, rfl, by have := HACC.out; omega, HT.out, HB2.out⟩
        case measure => simp [intOf]; omega
      · obtain rfl : k = ks.length := by omega
        have hge : ¬ ((ks.length : Nat) : Int) < (ks.length : Int) := by omega
        have HT := hidden (HF.out.trans (evalAnd_end acc))
        clear HF
        go_wp2_with fail
        go_ret
        rw [HT.out]
        exact ⟨rfl, HB.out⟩
  have n6 : ((op : Int) == 6) = false := beq_eq_false_iff_ne.2 (by omega)
  by_cases h7 : op = 7
  · subst h7
    rw [if_neg (by omega), if_pos rfl] at HD
    have HD' : Hid (R = evalOr l r (ks.drop 0) 0) := HD
    clear HD
    go_enter Try.func41, Try.ntmps41
    go_wp2_with fail
    go_loopw [7, 42] (fun s i wr => ∃ k acc : Nat, k ≤ ks.length ∧ i = .int .i64 (k : Int) ∧ s = .int .u8 (acc : Int) ∧ acc ≤ 2 ∧ R = evalOr l r (ks.drop k) acc ∧ Below w.heap.size w wr) (fun _ i _ => ks.length - (intOf i).toNat)
    case atStart => exact ⟨0, 0, by omega, rfl, rfl, by omega, HD'.out, Below.refl _ _⟩
    case round =>
      obtain ⟨k, acc, hk, rfl, rfl, hacc, hfe, hbel⟩ := hrel
      have HF := hidden hfe
      have HB := hidden hbel
      have HACC := hidden hacc
      have hzr := hbel.size
      clear hfe hbel HD' hacc x0 x1 x2 x3 x4 x5
      by_cases hlt : k < ks.length
      · obtain ⟨g, o, rfl, hlk⟩ := (HK.out.kept HB.out).at hlt
        have hlt' : (k : Int) < (ks.length : Int) := by omega
        have HLK2 := hidden hlk
        obtain ⟨hb1, x0, x1, x2, x3, x4, x5⟩ := HN.out.kept HB.out
        have HT := hidden (HF.out.trans (evalOr_step hlt acc))
        have HE2 := hidden (evalM_le l r ks[k])
        have HC := hidden (fun (U : World) (hU : Below wr.heap.size wr U) => HIH.out ks[k] (List.getElem_mem hlt) (HOK.out _ (List.getElem_mem hlt)) (HLK.out _ (List.getElem_mem hlt)) U g (o + k * 6) ((HR.out.kept HB.out).kept hU) (Lies.kept hU _ _ _ hlk))
        generalize evalM l r ks[k] = ev at *
        clear hlk HF
        go_wp2_with fail
        refine (HC.out _ (Below.refl _ _)).mono ?_
        rintro e w2 ⟨rfl, hb2⟩
        have HB2 := hidden (HB.out.trans (hb2.mono hzr))
        clear hb2
        go_wp2_with fail
        refine (orN HACC.out HE2.out _).mono ?_
        rintro e w3 ⟨rfl, rfl⟩
        go_wp2_with fail
        go_roundw
        case rel => exact ⟨k + 1, max acc ev, by omega, by go_num, rfl, by have := HACC.out; have := HE2.out; omega, HT.out, HB2.out⟩
        case measure => simp [intOf]; omega
      · obtain rfl : k = ks.length := by omega
        have hge : ¬ ((ks.length : Nat) : Int) < (ks.length : Int) := by omega
        have HT := hidden (HF.out.trans (evalOr_end acc))
        clear HF
        go_wp2_with fail
        go_ret
        rw [HT.out]
        exact ⟨rfl, HB.out⟩
  have n7 : ((op : Int) == 7) = false := beq_eq_false_iff_ne.2 (by omega)
  rw [if_neg h6, if_neg h7] at HD
  by_cases h8 : op = 8
  · subst h8
    rw [if_pos rfl] at HD
    cases ks with
    | nil =>
      have HD' : Hid (R = 1) := hidden (by rw [HD.out]; simp only [evalNot])
      clear HD
      simp only [List.length_nil] at *
      go_enter Try.func41, Try.ntmps41
      go_wp2_with fail
      go_ret
      rw [HD'.out]
      exact ⟨rfl, Below.refl _ _⟩
    | cons k0 ks0 =>
      have HD' : Hid (R = 2 - evalM l r k0) := hidden (by rw [HD.out]; simp only [evalNot])
      obtain ⟨g, o, rfl, hlk⟩ := HK.out.at (i := 0) (by simp)
      have hlt' : (0 : Int) < ((k0 :: ks0).length : Int) := by simp only [List.length_cons]; omega
      have hz : (((k0 :: ks0).length : Int) == 0) = false := beq_eq_false_iff_ne.2 (by omega)
      have hgt : ((k0 :: ks0).length : Int) ≠ 0 := by omega
      have HC := hidden (HIH.out k0 (by simp) (HOK.out _ (by simp)) (HLK.out _ (by simp)) w g (o + 0 * 6) HR.out (by simpa using hlk))
      rw [Nat.zero_mul, Nat.add_zero] at HC
      have HE2 := hidden (evalM_le l r k0)
      generalize evalM l r k0 = ev at *
      clear hlk HD
      generalize (k0 :: ks0).length = n at *
      go_enter Try.func41, Try.ntmps41
      go_wp2_with fail
      refine HC.out.mono ?_
      rintro e w2 ⟨rfl, hb2⟩
      have HB2 := hidden hb2
      clear hb2
      go_wp2_with fail
      refine (notN HE2.out _).mono ?_
      rintro e w3 ⟨rfl, rfl⟩
      go_wp2_with fail
      go_ret
      rw [HD'.out]
      exact ⟨rfl, HB2.out⟩
  · have n8 : ((op : Int) == 8) = false := beq_eq_false_iff_ne.2 (by omega)
    rw [if_neg h8] at HD
    clear h6 h7 h8
    go_enter Try.func41, Try.ntmps41
    go_wp2_with fail
    refine (answerOfField_any HR.out HN.out HOC.out HL.out HFR.out).mono ?_
    rintro e w2 ⟨rfl, hb2⟩
    have HB2 := hidden hb2
    clear hb2
    go_wp2_with fail
    go_ret
    rw [HD.out]
    exact ⟨rfl, HB2.out⟩

/-- A predicate as a value. -/
def predV (op f : Nat) (c : Cl) (kv : Value) : Value := .agg #[.int .u8 (op : Int), .int .u32 (f : Int), .int .u8 (c.1 : Int), .int .i64 c.2.1, .string (bytesT c.2.2), kv]
theorem cell_new6 (w : World) (x0 x1 x2 x3 x4 x5 : Value) (t : Nat) : (w.alloc (.cells #[x0, x1, x2, x3, x4, x5] t)).cell? ⟨w.heap.size, 0, none⟩ = some x0 ∧ (w.alloc (.cells #[x0, x1, x2, x3, x4, x5] t)).cell? ⟨w.heap.size, 1, none⟩ = some x1 ∧ (w.alloc (.cells #[x0, x1, x2, x3, x4, x5] t)).cell? ⟨w.heap.size, 2, none⟩ = some x2 ∧ (w.alloc (.cells #[x0, x1, x2, x3, x4, x5] t)).cell? ⟨w.heap.size, 3, none⟩ = some x3 ∧ (w.alloc (.cells #[x0, x1, x2, x3, x4, x5] t)).cell? ⟨w.heap.size, 4, none⟩ = some x4 ∧ (w.alloc (.cells #[x0, x1, x2, x3, x4, x5] t)).cell? ⟨w.heap.size, 5, none⟩ = some x5 := by
  refine ⟨?_, ?_, ?_, ?_, ?_, ?_⟩ <;> simp [go_sem]
theorem node_new (w : World) (op f : Nat) (c : Cl) (kv : Value) : NodeAt (w.alloc (.cells #[.int .u8 (op : Int), .int .u32 (f : Int), .int .u8 (c.1 : Int), .int .i64 c.2.1, .string (bytesT c.2.2), kv] 39)) w.heap.size 0 op f c kv := by
  obtain ⟨h0, h1, h2, h3, h4, h5⟩ := cell_new6 w (.int .u8 (op : Int)) (.int .u32 (f : Int)) (.int .u8 (c.1 : Int)) (.int .i64 c.2.1) (.string (bytesT c.2.2)) kv 39
  exact ⟨by rw [World.size_alloc]; omega, h0, h1, h2, h3, h4, h5⟩

set_option maxRecDepth 100000 in
set_option maxHeartbeats 4000000 in
theorem eval_any {w : World} {op f si : Nat} {c : Cl} {ks : List PT} {kv fv rv : Value} {l : List Fd} {r : List Cl} (hk : Kids w kv ks) (hok : Okp (.node op f c ks)) (hlen : Len (.node op f c ks)) (hs : Sf w fv l) (hv : Sv w rv (vvals r)) (hfr : ∀ x ∈ r, Fine x) :
    Calls Try.prog 18 #[.agg #[.int .u8 (op : Int), .int .u32 (f : Int), .int .u8 (c.1 : Int), .int .i64 c.2.1, .string (bytesT c.2.2), kv], .agg #[.int .u32 (si : Int), fv], rv] w fun e w' => e = .returned (.int .u8 (evalM l r (.node op f c ks) : Int)) ∧ Below w.heap.size w w' := by
  have HC := hidden (fun (U : World) (b off q : Nat) hr hl => answer_any (q := q) (si := si) (fv := fv) (rv := rv) (l := l) hfr (.node op f c ks) hok hlen U b off hr hl)
  have HK := hidden hk
  have HS := hidden hs
  have HV := hidden hv
  generalize evalM l r (.node op f c ks) = R at *
  obtain ⟨ka, kcap, rfl, _, _⟩ := hk.form
  obtain ⟨fa, fcap, rfl, _, _⟩ := hs.form
  obtain ⟨ra, rcap, rfl, _, _⟩ := hv.form1
  clear hk hs hv hok hlen hfr
  have hn := node_new w op f c (.slice ka ks.length kcap)
  have hb1 := below_one w (.cells #[.int .u8 (op : Int), .int .u32 (f : Int), .int .u8 (c.1 : Int), .int .i64 c.2.1, .string (bytesT c.2.2), .slice ka ks.length kcap] 39)
  generalize hA : w.alloc (.cells #[.int .u8 (op : Int), .int .u32 (f : Int), .int .u8 (c.1 : Int), .int .i64 c.2.1, .string (bytesT c.2.2), .slice ka ks.length kcap] 39) = A at *
  have hb2 := below_one A (.cells #[.int .u32 (si : Int), .slice fa l.length fcap] 42)
  obtain ⟨e0, e1⟩ := cell_new2 A (.int .u32 (si : Int)) (.slice fa l.length fcap) 42
  generalize hB : A.alloc (.cells #[.int .u32 (si : Int), .slice fa l.length fcap] 42) = B at *
  have hb3 := below_one B (.cells #[.int .u32 (si : Int), .slice fa l.length fcap, .slice ra (vvals r).length rcap] 88)
  obtain ⟨g0, g1, g2⟩ := cell_new3 B (.int .u32 (si : Int)) (.slice fa l.length fcap) (.slice ra (vvals r).length rcap) 88
  have hz : B.heap.size < (B.alloc (.cells #[.int .u32 (si : Int), .slice fa l.length fcap, .slice ra (vvals r).length rcap] 88)).heap.size := by rw [World.size_alloc]; omega
  generalize hC : B.alloc (.cells #[.int .u32 (si : Int), .slice fa l.length fcap, .slice ra (vvals r).length rcap] 88) = C at *
  have hbw : Below w.heap.size w C := below_then (below_then hb1 hb2) hb3
  have HRO : Hid (RowOf C B.heap.size si (.slice fa l.length fcap) (.slice ra (vvals r).length rcap) l r) := hidden ⟨hz, g0, g1, g2, HS.out.kept hbw, HV.out.kept hbw⟩
  have HLI : Hid (Lies C w.heap.size 0 (.node op f c ks)) := hidden (Lies.shut ((hn.kept hb2).kept hb3) (HK.out.kept hbw))
  have HBW := hidden hbw
  clear hn hb1 hb2 hb3 hbw g0 g1 g2 hz
  go_enter Try.func18, Try.ntmps18
  go_wp2_with fail
  refine (HC.out _ _ _ _ HRO.out HLI.out).mono ?_
  rintro e w2 ⟨rfl, hb2⟩
  have HB2 := hidden hb2
  clear hb2
  go_wp2_with fail
  go_ret
  exact ⟨rfl, below_then HBW.out HB2.out⟩
end Go.Proofs.Ytfcnoeehfhncjaa
