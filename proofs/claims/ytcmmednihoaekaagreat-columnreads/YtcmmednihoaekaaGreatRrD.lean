/- Contracts of the document's layer 6, reading: cut, strings, words; the mathematics of its Read. -/
import Derived.Test.YtcmmednihoaekaaGreatRwD
import Derived.BigQuiet
set_option linter.unusedVariables false
set_option linter.unusedSimpArgs false
namespace Go.Proofs.YtcmmednihoaekaaGreat
open Go.RowKit Go.Lib

theorem vals_drop' (k : IntKind) (l : List Nat) (c : Nat) : (vals k l).drop c = vals k (l.drop c) := by simp [vals, List.map_drop]

theorem Sv.dropA {W : World} {a : Option Addr} {n cap : Nat} {b : List Nat} (h : Sv W (.slice a n cap) (vals .u8 b)) {k : Nat} (hk : k ≤ b.length) :
    ∃ A, (if cap = k then a else a.map fun x => x.add k) = A ∧ Sv W (.slice A (b.length - k) (cap - k)) (vals .u8 (b.drop k)) := by
  have := h.dropG (k := k) (by rw [vals_length]; exact hk)
  rw [vals_drop', vals_length] at this
  exact ⟨_, rfl, this⟩
theorem Sv.takeA {W : World} {a : Option Addr} {n cap : Nat} {b : List Nat} (h : Sv W (.slice a n cap) (vals .u8 b)) {k : Nat} (hk : k ≤ b.length) : Sv W (.slice a k cap) (vals .u8 (b.take k)) := by
  have := h.take (k := k) (by rw [vals_length]; omega)
  rwa [← vals_take] at this

/-- What cut tells. -/
def CutPost (r : Option (List Int × List Nat)) (w : World) (e : Ending) (w' : World) : Prop :=
  ∃ (v1 v2 : Value), e = .returned (.tuple #[v1, v2, .bool r.isSome]) ∧ (∀ l q, r = some (l, q) → OwnI w' w.heap.size v1 l ∧ Sv w' v2 (vals .u8 q)) ∧ Below w.heap.size w w'

set_option maxRecDepth 100000 in
set_option maxHeartbeats 4000000 in
theorem refCut_any {w : World} {v : Value} {b : List Nat} (hb : Sv w v (vals .u8 b)) (h8 : Bs b) (n : Int) : Calls Tryz.prog 62 #[v, .int .i64 n] w (CutPost (cutM b n) w) := by
  have HS := hidden hb
  have H8 := hidden h8
  obtain ⟨a, cap, rfl, hcap, hcm, hq1, hq2⟩ := id hb
  clear hq1 hq2
  rw [vals_length] at *
  have hcm' : cap ≤ 9223372036854775807 := by unfold maxLen at hcm; omega
  have HG := hidden (refGet_sv h8 hb)
  obtain ⟨g1, g2, g3, g4⟩ := gt_form b
  have HC : Hid (cutM b n = if (gt b).2.2 = 0 ∧ (gt b).1 ≤ b.length - (gt b).2.1 then
    (if (readM ((b.drop (gt b).2.1).take (gt b).1) n).2 = 0 then some ((readM ((b.drop (gt b).2.1).take (gt b).1) n).1, b.drop ((gt b).2.1 + (gt b).1)) else none)
    else none) := hidden rfl
  clear hb h8 hcm g4
  generalize cutM b n = CM at *
  generalize gt b = x at *
  obtain ⟨s, u, c⟩ := x
  simp only at *
  unfold tell at *
  go_enter Tryz.func62, Tryz.ntmps62
  go_wp2_with fail
  refine HG.out.mono ?_
  rintro e w1 ⟨rfl, hb1⟩
  have HB1 := hidden hb1
  have hz1 := hb1.size
  clear hb1
  by_cases hc : c = 0
  · subst hc
    have hsub : IntKind.i64.wrap ((b.length : Int) - (u : Int)) = ((b.length - u : Nat) : Int) := by rw [IntKind.wrap_i64]; omega
    have hcvu : IntKind.u64.wrap ((b.length - u : Nat) : Int) = ((b.length - u : Nat) : Int) := by rw [IntKind.wrap_u64]; omega
    by_cases hs : s ≤ b.length - u
    · have hs' : ¬ (s : Int) > ((b.length - u : Nat) : Int) := by omega
      have hcvs : IntKind.i64.wrap (s : Int) = (s : Int) := by rw [IntKind.wrap_i64]; omega
      have hadd : IntKind.i64.wrap ((u : Int) + (s : Int)) = ((u + s : Nat) : Int) := by rw [IntKind.wrap_i64]; omega
      obtain ⟨A, hA, hSA⟩ := HS.out.dropA (k := u) (by omega)
      have hSA2 := HS.out.dropG (k := u + s) (by rw [vals_length]; omega)
      rw [vals_drop', vals_length] at hSA2
      have hST := (hSA.kept HB1.out).takeA (k := s) (by rw [List.length_drop]; omega)
      have HR := hidden (refRead_any hST ((H8.out.drop u).take s) n)
      have HSA2 := hidden hSA2
      rw [if_pos ⟨rfl, hs⟩] at HC
      have hsl : u + s - u = s := by omega
      have hle1 : u ≤ u + s := by omega
      have hle2 : u + s ≤ cap := by omega
      have hle3 : u + s ≤ b.length := by omega
      clear hSA hSA2 hST
      generalize readM ((b.drop u).take s) n = RM at *
      obtain ⟨l, f⟩ := RM
      simp only at *
      go_wp2_with fail
      refine HR.out.mono ?_
      rintro e w2 ⟨⟨v2, rfl, ho2⟩, hb2⟩
      have HO2 := hidden (ho2.low hz1)
      have HB2 := hidden (HB1.out.trans (hb2.mono hz1))
      clear ho2 hb2
      by_cases hf : f = 0
      · subst hf
        rw [if_pos rfl] at HC
        go_wp2_with fail
        go_quiet (fail)
        go_wp2_with fail
        all_goals go_ret3
        all_goals rw [HC.out]
        all_goals refine ⟨_, _, rfl, fun l' q' e => ?_, below_drewN HB2.out _⟩
        all_goals cases e
        all_goals refine ⟨HO2.out.kept (below_drewN (Below.refl _ _) _), ?_⟩
        all_goals have hh := HSA2.out.kept (below_drewN HB2.out nq)
        · have h1 : cap = u + s := by assumption
          rw [if_pos h1, h1, Nat.sub_self] at hh
          exact hh
        · rw [if_neg (by assumption)] at hh
          exact hh
      · have hf' : ((f : Int) == 0) = false := beq_eq_false_iff_ne.2 (by omega)
        rw [if_neg hf] at HC
        clear hf
        go_wp2_with fail
        go_quiet (fail)
        go_wp2_with fail
        all_goals go_ret3
        all_goals rw [HC.out]
        all_goals exact ⟨_, _, rfl, fun l' q' e => (by cases e), below_drewN HB2.out _⟩
    · have hs' : (s : Int) > ((b.length - u : Nat) : Int) := by omega
      rw [if_neg (fun h => hs h.2)] at HC
      clear hs
      go_wp2_with fail
      go_ret3
      rw [HC.out]
      exact ⟨_, _, rfl, fun l' q' e => (by cases e), HB1.out⟩
  · have hc' : ((c : Int) != 0) = true := by simp; omega
    rw [if_neg (fun h => hc h.1)] at HC
    clear hc
    go_wp2_with fail
    go_ret3
    rw [HC.out]
    exact ⟨_, _, rfl, fun l' q' e => (by cases e), HB1.out⟩

/-- What strings tells. -/
def StrPost (r : Option (List (List Nat) × List Nat)) (w : World) (e : Ending) (w' : World) : Prop :=
  ∃ (v1 v2 : Value), e = .returned (.tuple #[v1, v2, .bool r.isSome]) ∧ (∀ l q, r = some (l, q) → OwnS w' w.heap.size v1 l ∧ Sv w' v2 (vals .u8 q)) ∧ Below w.heap.size w w'

/-- The texts so far, and what is left. -/
def StrAt (b : List Nat) (sz : List Int) (j : Nat) (pre : List (List Nat)) (q : List Nat) : Prop :=
  strM b sz = (strM q (sz.drop j)).map fun p => (pre ++ p.1, p.2)

theorem StrAt.zero (b : List Nat) (sz : List Int) : StrAt b sz 0 [] b := by
  unfold StrAt
  simp
theorem StrAt.bad {b q : List Nat} {sz : List Int} {j : Nat} {pre : List (List Nat)} (h : StrAt b sz j pre q) (hj : j < sz.length) (hs : sz[j] < 0 ∨ (q.length : Int) < sz[j]) : strM b sz = none := by
  unfold StrAt at h
  rw [h, List.drop_eq_getElem_cons hj, strM, if_pos hs]
  rfl
theorem StrAt.step {b q : List Nat} {sz : List Int} {j : Nat} {pre : List (List Nat)} (h : StrAt b sz j pre q) (hj : j < sz.length) {s : Nat} (e : sz[j] = (s : Int)) (hs : s ≤ q.length) : StrAt b sz (j + 1) (pre ++ [q.take s]) (q.drop s) := by
  unfold StrAt at h ⊢
  rw [h, List.drop_eq_getElem_cons hj, strM, if_neg (by omega), e, Int.toNat_natCast, Option.map_map]
  congr 1
  funext p
  simp
theorem StrAt.last {b q : List Nat} {sz : List Int} {pre : List (List Nat)} (h : StrAt b sz sz.length pre q) : strM b sz = some (pre, q) := by
  unfold StrAt at h
  rw [h, List.drop_length, strM]
  simp

set_option maxRecDepth 100000 in
set_option maxHeartbeats 4000000 in
theorem refStrings_any {w : World} {v vs : Value} {b : List Nat} {sz : List Int} (hb : Sv w v (vals .u8 b)) (h8 : Bs b) (hs : Sv w vs (ivals sz)) (hl : sz.length ≤ 256) : Calls Tryz.prog 63 #[v, vs] w (StrPost (strM b sz) w) := by
  have HSB := hidden hb
  have H8 := hidden h8
  have HS := hidden hs
  obtain ⟨asz, cs, rfl, hcs, hcsm⟩ := hs.form
  have hcm' : cs ≤ 9223372036854775807 := by unfold maxLen at hcsm; omega
  have HZ := hidden (StrAt.zero b sz)
  have HBAD := hidden (fun q j pre => StrAt.bad (b := b) (sz := sz) (q := q) (j := j) (pre := pre))
  have HST := hidden (fun q j pre => StrAt.step (b := b) (sz := sz) (q := q) (j := j) (pre := pre))
  have HLA := hidden (fun q pre => StrAt.last (b := b) (sz := sz) (q := q) (pre := pre))
  clear hb h8 hs hcsm
  generalize strM b sz = SM at *
  go_enter Tryz.func63, Tryz.ntmps63
  go_wp2_with fail
  go_loopw [0, 7, 8] (fun vq vo i wr => ∃ (j : Nat) (pre : List (List Nat)) (q : List Nat), j ≤ sz.length ∧ i = .int .i64 (j : Int) ∧ pre.length = j ∧ Sv w vq (vals .u8 q) ∧ Bs q ∧ StrAt b sz j pre q ∧ OwnS wr w.heap.size vo pre ∧ Below w.heap.size w wr) (fun _ _ i _ => sz.length - (intOf i).toNat)
  case atStart => exact ⟨0, [], b, by omega, rfl, rfl, HSB.out, H8.out, HZ.out, OwnS.nil _ _, Below.refl _ _⟩
  case round =>
    obtain ⟨j, pre, q, hj, rfl, hpl, hsq, hq8, hat, how, hbel⟩ := hrel
    have HSQ := hidden hsq
    have HQ8 := hidden hq8
    have HAT := hidden hat
    have HO := hidden how
    have HB := hidden hbel
    have hzr := hbel.size
    obtain ⟨aq, cq, rfl, hcq, hcqm, hq1, hq2⟩ := id hsq
    rw [vals_length] at *
    have hcqm' : cq ≤ 9223372036854775807 := by unfold maxLen at hcqm; omega
    clear hsq hq8 hat how hbel hq1 hq2 hcqm
    by_cases hlt : j < sz.length
    · have hlt3 : (j : Int) < (sz.length : Int) := by omega
      obtain ⟨g, off, rfl, hg, hcell0⟩ := HS.out.at hlt
      have HBAD2 := hidden (HBAD.out q j pre HAT.out hlt)
      have HST2 := hidden (fun s => HST.out q j pre HAT.out hlt (s := s))
      by_cases hbad : sz[j] < 0 ∨ (q.length : Int) < sz[j]
      · have hcell := (HB.out.cell (p := ⟨g, off + j, none⟩) hg).trans hcell0
        clear hcell0
        have HN := hidden (HBAD2.out hbad)
        clear HST2
        generalize sz[j] = s at *
        by_cases hs0 : s < 0
        · clear hbad
          go_wp2_with fail
          go_ret3
          rw [HN.out]
          exact ⟨_, _, rfl, fun l' q' e => (by cases e), HB.out⟩
        · have hs1 : s > (q.length : Int) := by omega
          clear hbad
          go_wp2_with fail
          go_ret3
          rw [HN.out]
          exact ⟨_, _, rfl, fun l' q' e => (by cases e), HB.out⟩
      · obtain ⟨s, hse⟩ : ∃ s : Nat, sz[j] = (s : Int) := ⟨(sz[j]).toNat, by omega⟩
        have hsl : s ≤ q.length := by omega
        have HAT2 := hidden (HST2.out s hse hsl)
        clear HST2 HBAD2
        rw [hse] at hcell0 hbad
        have HCE := hidden hcell0
        have hcell := (HB.out.cell (p := ⟨g, off + j, none⟩) hg).trans hcell0
        clear hcell0
        have hs0 : ¬ (s : Int) < 0 := by omega
        have hs1 : ¬ (s : Int) > (q.length : Int) := by omega
        have hs2 : s ≤ cq := by omega
        clear hbad hse
        have hcv := ((HSQ.out.kept HB.out).takeA hsl).conv (HQ8.out.take s)
        rw [txt_eq] at hcv
        obtain ⟨A, hA, hSA⟩ := HSQ.out.dropA hsl
        have HSA := hidden hSA
        have HD8 := hidden (HQ8.out.drop s)
        clear hSA
        generalize q.take s = T at *
        go_wp2_with (first | (at_builtin; refine wpList_append_s rfl _ _ rfl w.heap.size _ _ T pre rfl (HO.out.kept (below_alloc' _ _)) rfl (cell_new _ _ _) ?c2 ?c3 ?_))
        case c2 => omega
        case c3 => first | omega | (rw [World.size_alloc]; omega)
        intro v7 w7 o7 b7
        have HO7 := hidden o7
        have HB7 := hidden ((HB.out.alloc hzr _).trans b7)
        have hcell7 := (HB7.out.cell (p := ⟨g, off + j, none⟩) hg).trans HCE.out
        clear hcell hcv o7 b7
        go_wp2_with fail
        go_roundw
        case rel => exact ⟨j + 1, _, q.drop s, by omega, by go_num, by simp; omega, HSA.out, HD8.out, HAT2.out, HO7.out, HB7.out⟩
        case measure => simp [intOf]; omega
    · obtain rfl : j = sz.length := by omega
      have hlt3 : ¬ (sz.length : Int) < (sz.length : Int) := by omega
      have HE := hidden (HLA.out q pre HAT.out)
      go_wp2_with fail
      go_ret3
      rw [HE.out]
      refine ⟨_, _, rfl, fun l' q' e => ?_, HB.out⟩
      cases e
      exact ⟨HO.out, HSQ.out.kept HB.out⟩

/-- What words tells. -/
def WordsPost (r : Option (List (List Nat))) (w : World) (e : Ending) (w' : World) : Prop :=
  ∃ v1 : Value, e = .returned (.tuple #[v1, .bool r.isSome]) ∧ (∀ l, r = some l → OwnS w' w.heap.size v1 l) ∧ Below w.heap.size w w'

theorem strM_len {s : List Int} {b r : List Nat} {l : List (List Nat)} (hb : Bs b) (h : strM b s = some (l, r)) : l.length = s.length ∧ Bs r := ⟨(strM_inv hb h).1, (strM_inv hb h).2.2⟩

def PickAt (u : List (List Nat)) (p : List Int) (j : Nat) (pre : List (List Nat)) : Prop := (∀ q ∈ p.take j, 0 ≤ q ∧ q < (u.length : Int)) ∧ pre = (p.take j).map fun q => u.getD q.toNat []
theorem PickAt.zero (u : List (List Nat)) (p : List Int) : PickAt u p 0 [] := ⟨fun q hq => by simp at hq, rfl⟩
theorem PickAt.step {u pre : List (List Nat)} {p : List Int} {j s : Nat} (h : PickAt u p j pre) (hj : j < p.length) (e : p[j] = (s : Int)) (hs : s < u.length) : PickAt u p (j + 1) (pre ++ [u[s]]) := by
  obtain ⟨h1, h2⟩ := h
  refine ⟨fun q hq => ?_, ?_⟩
  · rw [List.take_succ_eq_append_getElem hj] at hq
    rcases List.mem_append.1 hq with hq | hq
    · exact h1 q hq
    · have : q = p[j] := by simpa using hq
      omega
  · rw [List.take_succ_eq_append_getElem hj, List.map_append, h2, e]
    simp [hs]
theorem PickAt.bad {u : List (List Nat)} {p : List Int} {j : Nat} (hj : j < p.length) (h : p[j] < 0 ∨ p[j] ≥ (u.length : Int)) : pickT u p = none := by
  unfold pickT
  rw [if_neg (fun h2 => by have := h2 _ (List.getElem_mem hj); omega)]
theorem PickAt.last {u pre : List (List Nat)} {p : List Int} (h : PickAt u p p.length pre) : pickT u p = some pre := by
  obtain ⟨h1, h2⟩ := h
  rw [List.take_length] at h1 h2
  unfold pickT
  rw [if_pos h1, h2]
theorem PickAt.len {u pre : List (List Nat)} {p : List Int} {j : Nat} (h : PickAt u p j pre) : pre.length ≤ p.length := by
  rw [h.2, List.length_map, List.length_take]
  omega

set_option maxRecDepth 100000 in
set_option maxHeartbeats 4000000 in
theorem refWords_zero {w : World} {v : Value} {t : List Nat} (hb : Sv w v (vals .u8 (0 :: t))) (h8 : Bs (0 :: t)) (n : Nat) (hn : n ≤ 256) : Calls Tryz.prog 43 #[v, .int .i64 (n : Int)] w (WordsPost (wordsM (0 :: t) n) w) := by
  obtain ⟨g, off, cap, rfl, h1, h2, h3, h4, h4b, A, hA, hSA⟩ := hb.uncons
  have hcm' : cap ≤ 9223372036854775807 := by unfold maxLen at h2; omega
  have HBT : Hid (Bs t) := fun x hx => h8 x (by simp [hx])
  have HC : Hid (wordsM (0 :: t) n = ((cutM t n).bind fun p => strM p.2 p.1).map (·.1)) := hidden rfl
  have HCut := hidden (refCut_any hSA HBT.out (n : Int))
  have HCI := hidden (fun l r => cutM_inv (b := t) (r := r) (n := (n : Int)) (l := l) HBT.out)
  have hlen : (((t.length + 1 : Nat) : Int) == 0) = false := beq_eq_false_iff_ne.2 (by omega)
  have hw1 : IntKind.u64.wrap (n : Int) = (n : Int) := by rw [IntKind.wrap_u64]; omega
  have hw2 : IntKind.i64.wrap (n : Int) = (n : Int) := by rw [IntKind.wrap_i64]; omega
  clear hb h8 h4b hSA h2
  generalize wordsM (0 :: t) n = WM at *
  generalize cutM t (n : Int) = CM at *
  go_enter Tryz.func43, Tryz.ntmps43
  go_wp2_with fail
  refine HCut.out.mono ?_
  rintro e w1 ⟨v1, v2, rfl, hcp, hb1⟩
  have HB1 := hidden hb1
  have hz1 := hb1.size
  clear hb1
  cases CM with
  | none =>
    have HN : Hid (WM = none) := hidden HC.out
    clear hcp
    simp only [Option.isSome_none]
    go_wp2_with fail
    go_ret2
    rw [HN.out]
    exact ⟨_, rfl, fun l e => (by cases e), HB1.out⟩
  | some p =>
    obtain ⟨sz, q⟩ := p
    obtain ⟨ho, hs⟩ := hcp sz q rfl
    obtain ⟨c1, c2, c3⟩ := HCI.out sz q rfl
    have HStr := hidden (refStrings_any hs c3 ho.sv (by omega))
    have HE : Hid (WM = (strM q sz).map (·.1)) := hidden HC.out
    clear ho hs hcp c2 c3
    generalize strM q sz = SM at *
    simp only [Option.isSome_some]
    go_wp2_with fail
    refine HStr.out.mono ?_
    rintro e w2 ⟨v3, v4, rfl, hst, hb2⟩
    have HB2 := hidden (HB1.out.trans (hb2.mono hz1))
    clear hb2
    cases SM with
    | none =>
      have HN : Hid (WM = none) := hidden HE.out
      clear hst
      simp only [Option.isSome_none]
      go_wp2_with fail
      go_ret2
      rw [HN.out]
      exact ⟨_, rfl, fun l e => (by cases e), HB2.out⟩
    | some p =>
      obtain ⟨l, r⟩ := p
      have HN : Hid (WM = some l) := hidden HE.out
      have HL := hidden (hst l r rfl)
      clear hst
      simp only [Option.isSome_some]
      go_wp2_with fail
      go_ret2
      rw [HN.out]
      refine ⟨_, rfl, fun l' e => ?_, HB2.out⟩
      cases e
      exact own_low HL.out.1 hz1

set_option maxRecDepth 100000 in
set_option maxHeartbeats 8000000 in
theorem refWords_one {w : World} {v : Value} {t : List Nat} (hb : Sv w v (vals .u8 (1 :: t))) (h8 : Bs (1 :: t)) (n : Nat) (hn : n ≤ 256) : Calls Tryz.prog 43 #[v, .int .i64 (n : Int)] w (WordsPost (wordsM (1 :: t) n) w) := by
  obtain ⟨g, off, cap, rfl, h1, h2, h3, h4, h4b, A, hA, hSA⟩ := hb.uncons
  have hcm' : cap ≤ 9223372036854775807 := by unfold maxLen at h2; omega
  have HBT : Hid (Bs t) := fun x hx => h8 x (by simp [hx])
  have HC : Hid (wordsM (1 :: t) n = if (gt t).2.2 = 0 ∧ (gt t).1 ≤ n then
        (cutM (t.drop (gt t).2.1) (gt t).1).bind fun p => (strM p.2 p.1).bind fun q => if (readM q.2 n).2 = 0 then pickT q.1 (readM q.2 n).1 else none
      else none) := hidden rfl
  have HG := hidden (refGet_sv HBT.out hSA)
  obtain ⟨g1, g2, g3, g4⟩ := gt_form t
  have HSA := hidden hSA
  have hlen : (((t.length + 1 : Nat) : Int) == 0) = false := beq_eq_false_iff_ne.2 (by omega)
  have hw1 : IntKind.u64.wrap (n : Int) = (n : Int) := by rw [IntKind.wrap_u64]; omega
  clear hb h8 h4b hSA h2 g4
  generalize wordsM (1 :: t) n = WM at *
  generalize gt t = x at *
  obtain ⟨k, u, c⟩ := x
  simp only at *
  unfold tell at *
  go_enter Tryz.func43, Tryz.ntmps43
  go_wp2_with fail
  refine HG.out.mono ?_
  rintro e w1 ⟨rfl, hb1⟩
  have HB1 := hidden hb1
  have hz1 := hb1.size
  clear hb1
  by_cases hc : c = 0
  · subst hc
    by_cases hk : k ≤ n
    · have hk' : ¬ (k : Int) > (n : Int) := by omega
      have hkn : ¬ n < k := by omega
      have hw2 : IntKind.i64.wrap (k : Int) = (k : Int) := by rw [IntKind.wrap_i64]; omega
      rw [if_pos ⟨rfl, hk⟩] at HC
      obtain ⟨A2, hA2, hSA2⟩ := HSA.out.dropA (k := u) (by omega)
      have HCut := hidden (refCut_any (hSA2.kept HB1.out) (HBT.out.drop u) (k : Int))
      have HCI := hidden (fun l r => cutM_inv (b := t.drop u) (r := r) (n := (k : Int)) (l := l) (HBT.out.drop u))
      have hu1 : u ≤ cap - 1 := by omega
      clear hSA2
      generalize cutM (t.drop u) (k : Int) = CM at *
      go_wp2_with fail
      refine HCut.out.mono ?_
      rintro e w2 ⟨v1, v2, rfl, hcp, hb2⟩
      have HB2 := hidden (HB1.out.trans (hb2.mono hz1))
      have hz2 := HB2.out.size
      clear hb2
      cases CM with
      | none =>
        have HN : Hid (WM = none) := hidden HC.out
        clear hcp
        simp only [Option.isSome_none]
        go_wp2_with fail
        go_ret2
        rw [HN.out]
        exact ⟨_, rfl, fun l e => (by cases e), HB2.out⟩
      | some p =>
        obtain ⟨sz, q⟩ := p
        obtain ⟨ho, hs⟩ := hcp sz q rfl
        obtain ⟨c1, c2, c3⟩ := HCI.out sz q rfl
        have HStr := hidden (refStrings_any hs c3 ho.sv (by omega))
        have HE : Hid (WM = (strM q sz).bind fun q => if (readM q.2 n).2 = 0 then pickT q.1 (readM q.2 n).1 else none) := hidden HC.out
        have HSI := hidden (fun l r => strM_len (s := sz) (b := q) (r := r) (l := l) c3)
        clear ho hs hcp c1 c2 c3
        generalize strM q sz = SM at *
        simp only [Option.isSome_some]
        go_wp2_with fail
        refine HStr.out.mono ?_
        rintro e w3 ⟨v3, v4, rfl, hst, hb3⟩
        have HB3 := hidden (HB2.out.trans (hb3.mono hz2))
        have hz3 := HB3.out.size
        clear hb3
        cases SM with
        | none =>
          have HN : Hid (WM = none) := hidden HE.out
          clear hst
          simp only [Option.isSome_none]
          go_wp2_with fail
          go_ret2
          rw [HN.out]
          exact ⟨_, rfl, fun l e => (by cases e), HB3.out⟩
        | some p =>
          obtain ⟨l, r⟩ := p
          have HN : Hid (WM = if (readM r n).2 = 0 then pickT l (readM r n).1 else none) := hidden HE.out
          obtain ⟨hol, hsr⟩ := hst l r rfl
          obtain ⟨d1, d2⟩ := HSI.out l r rfl
          have HOL := hidden hol
          have HR := hidden (refRead_any hsr d2 (n : Int))
          have hpl : (readM r (n : Int)).1.length ≤ 256 := by
            by_cases he : (readM r (n : Int)).2 = 0
            · have := (readM_len d2 he).1; omega
            · rw [readM_none he]; simp
          clear hst hol hsr d1 d2
          generalize readM r (n : Int) = RM at *
          obtain ⟨p, f⟩ := RM
          simp only [Option.isSome_some] at *
          go_wp2_with fail
          refine HR.out.mono ?_
          rintro e w4 ⟨⟨v5, rfl, ho5⟩, hb5⟩
          have HB4 := hidden (HB3.out.trans (hb5.mono hz3))
          have HL4 := hidden (HOL.out.sv.kept hb5)
          have hz4 := HB4.out.size
          have HP4 := hidden ho5.sv
          obtain ⟨ap, cp, rfl⟩ := ho5.len
          obtain ⟨al, cl, rfl, hcl, hclm⟩ := own_slice HOL.out
          clear ho5 hb5
          simp only at *
          generalize w4 = W4 at *
          go_wp2_with fail
          go_loopw [16, 17] (fun vo i wr => ∃ (j : Nat) (pre : List (List Nat)), j ≤ p.length ∧ i = .int .i64 (j : Int) ∧ PickAt l p j pre ∧ OwnS wr W4.heap.size vo pre ∧ Below W4.heap.size W4 wr) (fun _ i _ => p.length - (intOf i).toNat)
          case atStart => exact ⟨0, [], by omega, rfl, PickAt.zero _ _, OwnS.nil _ _, Below.refl _ _⟩
          case round =>
            obtain ⟨j, pre, hj, rfl, hat, how, hbel⟩ := hrel
            have HAT := hidden hat
            have HO := hidden how
            have HB := hidden hbel
            have hzr := hbel.size
            have hprl := hat.len
            clear hat how hbel
            by_cases hlt : j < p.length
            · have hlt3 : (j : Int) < (p.length : Int) := by omega
              obtain ⟨gp, offp, rfl, hgp, hcp0⟩ := HP4.out.at hlt
              by_cases hbad : p[j] < 0 ∨ p[j] ≥ (l.length : Int)
              · have HN2 : Hid (WM = none) := hidden (by
                  rw [HN.out, PickAt.bad hlt hbad]
                  split <;> rfl)
                have hcell := (HB.out.cell (p := ⟨gp, offp + j, none⟩) hgp).trans hcp0
                clear hcp0 HAT
                generalize p[j] = s at *
                by_cases hs0 : s < 0
                · clear hbad
                  go_wp2_with fail
                  go_ret2
                  rw [HN2.out]
                  exact ⟨_, rfl, fun l' e => (by cases e), HB4.out.trans (HB.out.mono hz4)⟩
                · have hs1 : s ≥ (l.length : Int) := by omega
                  clear hbad
                  go_wp2_with fail
                  go_ret2
                  rw [HN2.out]
                  exact ⟨_, rfl, fun l' e => (by cases e), HB4.out.trans (HB.out.mono hz4)⟩
              · obtain ⟨s, hse⟩ : ∃ s : Nat, p[j] = (s : Int) := ⟨(p[j]).toNat, by omega⟩
                have hsl : s < l.length := by omega
                have HAT2 := hidden (HAT.out.step hlt hse hsl)
                rw [hse] at hcp0 hbad
                have hcell := (HB.out.cell (p := ⟨gp, offp + j, none⟩) hgp).trans hcp0
                have hs0 : ¬ (s : Int) < 0 := by omega
                have hs1 : ¬ (s : Int) ≥ (l.length : Int) := by omega
                have hs3 : (s : Int) < (l.length : Int) := by omega
                clear hbad hse hcp0
                obtain ⟨gl, offl, rfl, hgl, hcl0⟩ := HL4.out.at1 (svals_get hsl)
                rw [txt_eq] at hcl0
                have hcell2 := (HB.out.cell (p := ⟨gl, offl + s, none⟩) hgl).trans hcl0
                clear hcl0
                generalize l[s] = T at *
                go_wp2_with (first | (at_builtin; refine wpList_append_s rfl _ _ rfl W4.heap.size _ _ T pre rfl (HO.out.kept (below_alloc' _ _)) rfl (cell_new _ _ _) ?c2 ?c3 ?_))
                case c2 => omega
                case c3 => first | omega | (rw [World.size_alloc]; omega)
                intro v7 w7 o7 b7
                have HO7 := hidden o7
                have HB7 := hidden ((HB.out.alloc hzr _).trans b7)
                clear hcell hcell2 o7 b7
                go_wp2_with fail
                go_roundw
                case rel => exact ⟨j + 1, _, by omega, by go_num, HAT2.out, HO7.out, HB7.out⟩
                case measure => simp [intOf]; omega
            · obtain rfl : j = p.length := by omega
              have hlt3 : ¬ (p.length : Int) < (p.length : Int) := by omega
              have HE2 := hidden HAT.out.last
              by_cases hf : f = 0
              · subst hf
                rw [if_pos rfl, HE2.out] at HN
                go_wp2_with fail
                go_ret2
                rw [HN.out]
                refine ⟨_, rfl, fun l' e => ?_, HB4.out.trans (HB.out.mono hz4)⟩
                cases e
                exact own_low HO.out hz4
              · have hf' : ((f : Int) == 0) = false := beq_eq_false_iff_ne.2 (by omega)
                rw [if_neg hf] at HN
                clear hf
                go_wp2_with fail
                go_ret2
                rw [HN.out]
                exact ⟨_, rfl, fun l' e => (by cases e), HB4.out.trans (HB.out.mono hz4)⟩
    · have hk' : (k : Int) > (n : Int) := by omega
      rw [if_neg (fun h => hk h.2)] at HC
      clear hk
      go_wp2_with fail
      go_ret2
      rw [HC.out]
      exact ⟨_, rfl, fun l' e => (by cases e), HB1.out⟩
  · have hc' : ((c : Int) != 0) = true := by simp; omega
    rw [if_neg (fun h => hc h.1)] at HC
    clear hc
    go_wp2_with fail
    go_ret2
    rw [HC.out]
    exact ⟨_, rfl, fun l' e => (by cases e), HB1.out⟩

set_option maxRecDepth 100000 in
set_option maxHeartbeats 4000000 in
theorem refWords_any {w : World} {v : Value} {b : List Nat} (hb : Sv w v (vals .u8 b)) (h8 : Bs b) (n : Nat) (hn : n ≤ 256) : Calls Tryz.prog 43 #[v, .int .i64 (n : Int)] w (WordsPost (wordsM b n) w) := by
  cases b with
  | nil =>
    obtain ⟨a, cap, rfl, _⟩ := hb
    have HN : Hid (wordsM [] n = none) := hidden rfl
    clear h8
    go_enter Tryz.func43, Tryz.ntmps43
    go_wp2_with fail
    go_ret2
    rw [HN.out]
    exact ⟨_, rfl, fun l' e => (by cases e), Below.refl _ _⟩
  | cons x t =>
    by_cases hx : x ≤ 1
    · obtain rfl | rfl : x = 0 ∨ x = 1 := by omega
      · exact refWords_zero hb h8 n hn
      · exact refWords_one hb h8 n hn
    · obtain ⟨g, off, cap, rfl, h1, h2, h3, h4, h4b, A, hA, hSA⟩ := hb.uncons
      have hcm' : cap ≤ 9223372036854775807 := by unfold maxLen at h2; omega
      have hlen : (((t.length + 1 : Nat) : Int) == 0) = false := beq_eq_false_iff_ne.2 (by omega)
      have HN : Hid (wordsM (x :: t) n = none) := hidden (by
        unfold wordsM
        simp only
        rw [if_neg (by omega), if_neg (by omega)])
      have hx' : (x : Int) > 1 := by omega
      clear hb h8 h4b hSA h2 hx
      go_enter Tryz.func43, Tryz.ntmps43
      go_wp2_with fail
      go_ret2
      rw [HN.out]
      exact ⟨_, rfl, fun l' e => (by cases e), Below.refl _ _⟩

set_option maxRecDepth 100000 in
set_option maxHeartbeats 4000000 in
theorem refUnpack_bits {w : World} {v : Value} {b : List Nat} (hs : Sv w v (vals .u8 b)) (h8 : Bs b) (N : Nat) (hN : N ≤ 256) :
    Calls Tryz.prog 41 #[v, .int .i64 (N : Int), .int .i64 1] w fun e w' => ∃ v', e = .returned (.tuple #[v', .int .i64 (unE b N 1 : Int)]) ∧ OwnU w' w.heap.size v' (unR b N 1) ∧ Below w.heap.size w w' := by
  by_cases hlen : b.length = by8 (N * 1)
  · exact refUnpack_yes hs.sx h8 N 1 hN (by omega) hlen
  · have hE := unE_form (b := b) (N := N) (ww := 1) hN (by omega) (fun h => hlen h.1)
    have hE' : unE b N 1 = 40 := hE
    rw [hE', unR_no (by rw [hE']; omega)]
    rw [Nat.mul_one] at hlen
    have hw : IntKind.i64.wrap ((N : Int) * 1) = (N : Int) := by rw [IntKind.wrap_i64]; omega
    have hne : ((b.length : Int) != ((N : Int) + 7) / 8) = true := by
      rw [bne_iff_ne]
      intro h
      exact hlen (by unfold by8; omega)
    obtain ⟨a, cap, rfl, hm, hcl⟩ := hs.sx
    have hm2 : b.length ≤ 9223372036854775807 := by unfold maxLen at hm; omega
    clear hcl h8 hlen hm hE hE' hs
    go_enter Tryz.func41, Tryz.ntmps41
    go_wp2_with fail
    go_ret2
    exact ⟨_, rfl, OwnU.nil _ _, Below.refl _ _⟩

/-- What is left to see when the values lie there. -/
def finC (k : Nat) (b th : List Nat) (o : List (Nat × Int × List Nat)) : Option (List (Nat × Int × List Nat)) :=
  if (∀ c ∈ fillC th o, c.2.2.length ≤ 64) ∧ colM k (fillC th o) = b then some (fillC th o) else none

theorem readC_head {k n : Nat} {b th r : List Nat} (h : headM b n = some (th, r)) : readC k b n = (ownM k r th.sum).bind (finC k b th) := by
  unfold readC parC
  rw [h, Option.bind_some]
  simp only
  cases ownM k r th.sum with
  | none => rfl
  | some o => rfl
theorem readC_nohead {k n : Nat} {b : List Nat} (h : headM b n = none) : readC k b n = none := by
  unfold readC parC
  rw [h]
  rfl
theorem head_zero {t : List Nat} {n : Nat} : headM (0 :: t) n = some (List.replicate n 1, t) := by
  unfold headM
  simp only
  rw [if_pos trivial]
theorem head_one {t : List Nat} {n : Nat} : headM (1 :: t) n = if by8 n ≤ t.length ∧ unE (t.take (by8 n)) n 1 = 0 then some (unR (t.take (by8 n)) n 1, t.drop (by8 n)) else none := by
  unfold headM
  simp only
  rw [if_neg (by omega), if_pos trivial]
theorem head_other {x : Nat} {t : List Nat} {n : Nat} (h : 1 < x) : headM (x :: t) n = none := by
  unfold headM
  simp only
  rw [if_neg (by omega), if_neg (by omega)]

theorem fin_write {k : Nat} {b th : List Nat} {o : List (Nat × Int × List Nat)} (hk : 1 ≤ k ∧ k ≤ 3) (hl : th.length ≤ 256) (ho : ∀ c ∈ o, Cellw k c) :
    (writeC k (fillC th o)).2 = 0 ∧ (writeC k (fillC th o)).1 = b ∧ finC k b th o = some (fillC th o) ∨ ((writeC k (fillC th o)).2 ≠ 0 ∨ (writeC k (fillC th o)).1 ≠ b) ∧ finC k b th o = none := by
  obtain ⟨f1, f2⟩ := fillC_inv (P := Cellw k) (Or.inl rfl) (th := th) ho
  have hkind : 1 ≤ k ∧ k ≤ 3 ∧ ∀ c ∈ fillC th o, c.1 = 0 ∨ c.1 = k := ⟨hk.1, hk.2, fun c hc => by
    rcases f2 c hc with rfl | ⟨rfl, n, rfl, _⟩ | ⟨rfl, n, rfl, _⟩ | ⟨rfl, s, rfl, _⟩
    · exact Or.inl rfl
    · exact Or.inr rfl
    · exact Or.inr rfl
    · exact Or.inr rfl⟩
  by_cases h : ∀ c ∈ fillC th o, c.2.2.length ≤ 64
  · have hw : writeC k (fillC th o) = (colM k (fillC th o), 0) := by
      unfold writeC
      rw [if_pos hkind, if_pos ⟨by omega, h⟩]
    rw [hw]
    simp only
    by_cases hb : colM k (fillC th o) = b
    · refine Or.inl ⟨trivial, hb, ?_⟩
      unfold finC
      rw [if_pos ⟨h, hb⟩]
    · refine Or.inr ⟨Or.inr hb, ?_⟩
      unfold finC
      rw [if_neg (fun h2 => hb h2.2)]
  · have hw := writeC_long (k := k) (l := fillC th o) hkind (fun h2 => h h2.2)
    rw [hw]
    refine Or.inr ⟨Or.inl (by simp), ?_⟩
    unfold finC
    rw [if_neg (fun h2 => h h2.1)]

/-- The values filled in so far. -/
def FillAt (th : List Nat) (o : List (Nat × Int × List Nat)) (j q : Nat) (pre : List (Nat × Int × List Nat)) : Prop :=
  fillC th o = pre ++ fillC (th.drop j) (o.drop q) ∧ (th.drop j).sum = o.length - q ∧ q ≤ o.length ∧ pre.length = j
theorem FillAt.zero {th : List Nat} {o : List (Nat × Int × List Nat)} (h : o.length = th.sum) : FillAt th o 0 0 [] := ⟨rfl, by simp [h], by omega, rfl⟩
theorem FillAt.null {th : List Nat} {o : List (Nat × Int × List Nat)} {j q : Nat} {pre : List (Nat × Int × List Nat)} (h : FillAt th o j q pre) (hj : j < th.length) (h0 : th[j] = 0) : FillAt th o (j + 1) q (pre ++ [nul]) := by
  obtain ⟨h1, h2, h3, h4⟩ := h
  rw [List.drop_eq_getElem_cons hj, h0] at h1 h2
  refine ⟨?_, by simpa using h2, h3, by simp [h4]⟩
  rw [h1, fillC, if_pos rfl]
  simp
theorem FillAt.some {th : List Nat} {o : List (Nat × Int × List Nat)} {j q : Nat} {pre : List (Nat × Int × List Nat)} (h : FillAt th o j q pre) (hj : j < th.length) (h0 : th[j] = 1) : ∃ hq : q < o.length, FillAt th o (j + 1) (q + 1) (pre ++ [o[q]]) := by
  obtain ⟨h1, h2, h3, h4⟩ := h
  rw [List.drop_eq_getElem_cons hj, h0] at h1 h2
  have hq : q < o.length := by
    rw [List.sum_cons] at h2
    omega
  rw [List.sum_cons] at h2
  refine ⟨hq, ?_, by omega, by omega, by simp [h4]⟩
  rw [h1, List.drop_eq_getElem_cons hq, fillC, if_neg (by omega)]
  simp [hq]
theorem FillAt.last {th : List Nat} {o : List (Nat × Int × List Nat)} {q : Nat} {pre : List (Nat × Int × List Nat)} (h : FillAt th o th.length q pre) : fillC th o = pre := by
  obtain ⟨h1, _⟩ := h
  rw [List.drop_length, fillC] at h1
  simpa using h1

theorem sum_take_le {l : List Nat} (h2 : ∀ x ∈ l, x < 2) (j : Nat) : (List.take j l).sum ≤ l.length := by
  have := sum_two (l := l.take j) fun x hx => h2 x (List.mem_of_mem_take hx)
  rw [List.length_take] at this
  omega

theorem writeC_bytes {k : Nat} {l : List (Nat × Int × List Nat)} (h : ∀ c ∈ l, Finew c) : Bs (writeC k l).1 := by
  unfold writeC
  split
  · next h1 =>
    split
    · next h2 => exact (col_size (k := k) (l := l) ⟨⟨h1.1, h1.2.1⟩, h2.1, fun c hc => ((h c hc).fine (h2.2 c hc)).cellk (h1.2.2 c hc)⟩).2
    · exact fun x hx => by simp at hx
  · exact fun x hx => by simp at hx

/-- What the document's Read tells. -/
def RefPost (r : Option (List (Nat × Int × List Nat))) (w : World) (e : Ending) (w' : World) : Prop :=
  ∃ v1 : Value, e = .returned (.tuple #[v1, .bool r.isSome]) ∧ (∀ l, r = some l → OwnC w' w.heap.size v1 l) ∧ Below w.heap.size w w'
end Go.Proofs.YtcmmednihoaekaaGreat
