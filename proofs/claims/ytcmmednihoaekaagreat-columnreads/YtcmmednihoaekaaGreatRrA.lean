/- Contracts of the document's layer 6, reading: cut, strings. -/
import Derived.Test.YtcmmednihoaekaaGreatRwD
import Derived.BigQuiet
set_option linter.unusedVariables false
set_option linter.unusedSimpArgs false
namespace Go.Proofs.YtcmmednihoaekaaGreat
open Go.RowKit Go.Lib

theorem vals_drop' (k : IntKind) (l : List Nat) (c : Nat) : (vals k l).drop c = vals k (l.drop c) := by simp [vals, List.map_drop]

theorem Sv.dropA {W : World} {a : Option Addr} {n cap : Nat} {b : List Nat} (h : Sv W (.slice a n cap) (vals .u8 b)) {k : Nat} (hk : k ≤ b.length) :
    ∃ A, (if cap = k then a else a.map fun x => x.add k) = A ∧ Sv W (.slice A (b.length - k) (cap - k)) (vals .u8 (b.drop k)) := by
  have := h.dropG (k := k) (by rw [vals_length]; exact hk)
  rw [vals_drop', vals_length] at this
  exact ⟨_, rfl, this⟩
theorem Sv.takeA {W : World} {a : Option Addr} {n cap : Nat} {b : List Nat} (h : Sv W (.slice a n cap) (vals .u8 b)) {k : Nat} (hk : k ≤ b.length) : Sv W (.slice a k cap) (vals .u8 (b.take k)) := by
  have := h.take (k := k) (by rw [vals_length]; omega)
  rwa [← vals_take] at this

/-- What cut tells. -/
def CutPost (r : Option (List Int × List Nat)) (w : World) (e : Ending) (w' : World) : Prop :=
  ∃ (v1 v2 : Value), e = .returned (.tuple #[v1, v2, .bool r.isSome]) ∧ (∀ l q, r = some (l, q) → OwnI w' w.heap.size v1 l ∧ Sv w' v2 (vals .u8 q)) ∧ Below w.heap.size w w'

set_option maxRecDepth 100000 in
set_option maxHeartbeats 4000000 in
theorem refCut_any {w : World} {v : Value} {b : List Nat} (hb : Sv w v (vals .u8 b)) (h8 : Bs b) (n : Int) : Calls Tryz.prog 62 #[v, .int .i64 n] w (CutPost (cutM b n) w) := by
  have HS := hidden hb
  have H8 := hidden h8
  obtain ⟨a, cap, rfl, hcap, hcm, hq1, hq2⟩ := id hb
  clear hq1 hq2
  rw [vals_length] at *
  have hcm' : cap ≤ 9223372036854775807 := by unfold maxLen at hcm; omega
  have HG := hidden (refGet_sv h8 hb)
  obtain ⟨g1, g2, g3, g4⟩ := gt_form b
  have HC : Hid (cutM b n = if (gt b).2.2 = 0 ∧ (gt b).1 ≤ b.length - (gt b).2.1 then
    (if (readM ((b.drop (gt b).2.1).take (gt b).1) n).2 = 0 then some ((readM ((b.drop (gt b).2.1).take (gt b).1) n).1, b.drop ((gt b).2.1 + (gt b).1)) else none)
    else none) := hidden rfl
  clear hb h8 hcm g4
  generalize cutM b n = CM at *
  generalize gt b = x at *
  obtain ⟨s, u, c⟩ := x
  simp only at *
  unfold tell at *
  go_enter Tryz.func62, Tryz.ntmps62
  go_wp2_with fail
  refine HG.out.mono ?_
  rintro e w1 ⟨rfl, hb1⟩
  have HB1 := hidden hb1
  have hz1 := hb1.size
  clear hb1
  by_cases hc : c = 0
  · subst hc
    have hsub : IntKind.i64.wrap ((b.length : Int) - (u : Int)) = ((b.length - u : Nat) : Int) := by rw [IntKind.wrap_i64]; omega
    have hcvu : IntKind.u64.wrap ((b.length - u : Nat) : Int) = ((b.length - u : Nat) : Int) := by rw [IntKind.wrap_u64]; omega
    by_cases hs : s ≤ b.length - u
    · have hs' : ¬ (s : Int) > ((b.length - u : Nat) : Int) := by omega
      have hcvs : IntKind.i64.wrap (s : Int) = (s : Int) := by rw [IntKind.wrap_i64]; omega
      have hadd : IntKind.i64.wrap ((u : Int) + (s : Int)) = ((u + s : Nat) : Int) := by rw [IntKind.wrap_i64]; omega
      obtain ⟨A, hA, hSA⟩ := HS.out.dropA (k := u) (by omega)
      have hSA2 := HS.out.dropG (k := u + s) (by rw [vals_length]; omega)
      rw [vals_drop', vals_length] at hSA2
      have hST := (hSA.kept HB1.out).takeA (k := s) (by rw [List.length_drop]; omega)
      have HR := hidden (refRead_any hST ((H8.out.drop u).take s) n)
      have HSA2 := hidden hSA2
      rw [if_pos ⟨rfl, hs⟩] at HC
      have hsl : u + s - u = s := by omega
      have hle1 : u ≤ u + s := by omega
      have hle2 : u + s ≤ cap := by omega
      have hle3 : u + s ≤ b.length := by omega
      clear hSA hSA2 hST
      generalize readM ((b.drop u).take s) n = RM at *
      obtain ⟨l, f⟩ := RM
      simp only at *
      go_wp2_with fail
      refine HR.out.mono ?_
      rintro e w2 ⟨⟨v2, rfl, ho2⟩, hb2⟩
      have HO2 := hidden (ho2.low hz1)
      have HB2 := hidden (HB1.out.trans (hb2.mono hz1))
      clear ho2 hb2
      by_cases hf : f = 0
      · subst hf
        rw [if_pos rfl] at HC
        go_wp2_with fail
        go_quiet (fail)
        go_wp2_with fail
        all_goals go_ret3
        all_goals rw [HC.out]
        all_goals refine ⟨_, _, rfl, fun l' q' e => ?_, below_drewN HB2.out _⟩
        all_goals cases e
        all_goals refine ⟨HO2.out.kept (below_drewN (Below.refl _ _) _), ?_⟩
        all_goals have hh := HSA2.out.kept (below_drewN HB2.out nq)
        · have h1 : cap = u + s := by assumption
          rw [if_pos h1, h1, Nat.sub_self] at hh
          exact hh
        · rw [if_neg (by assumption)] at hh
          exact hh
      · have hf' : ((f : Int) == 0) = false := beq_eq_false_iff_ne.2 (by omega)
        rw [if_neg hf] at HC
        clear hf
        go_wp2_with fail
        go_quiet (fail)
        go_wp2_with fail
        all_goals go_ret3
        all_goals rw [HC.out]
        all_goals exact ⟨_, _, rfl, fun l' q' e => (by cases e), below_drewN HB2.out _⟩
    · have hs' : (s : Int) > ((b.length - u : Nat) : Int) := by omega
      rw [if_neg (fun h => hs h.2)] at HC
      clear hs
      go_wp2_with fail
      go_ret3
      rw [HC.out]
      exact ⟨_, _, rfl, fun l' q' e => (by cases e), HB1.out⟩
  · have hc' : ((c : Int) != 0) = true := by simp; omega
    rw [if_neg (fun h => hc h.1)] at HC
    clear hc
    go_wp2_with fail
    go_ret3
    rw [HC.out]
    exact ⟨_, _, rfl, fun l' q' e => (by cases e), HB1.out⟩

/-- What strings tells. -/
def StrPost (r : Option (List (List Nat) × List Nat)) (w : World) (e : Ending) (w' : World) : Prop :=
  ∃ (v1 v2 : Value), e = .returned (.tuple #[v1, v2, .bool r.isSome]) ∧ (∀ l q, r = some (l, q) → OwnS w' w.heap.size v1 l ∧ Sv w' v2 (vals .u8 q)) ∧ Below w.heap.size w w'

/-- The texts so far, and what is left. -/
def StrAt (b : List Nat) (sz : List Int) (j : Nat) (pre : List (List Nat)) (q : List Nat) : Prop :=
  strM b sz = (strM q (sz.drop j)).map fun p => (pre ++ p.1, p.2)

theorem StrAt.zero (b : List Nat) (sz : List Int) : StrAt b sz 0 [] b := by
  unfold StrAt
  simp
theorem StrAt.bad {b q : List Nat} {sz : List Int} {j : Nat} {pre : List (List Nat)} (h : StrAt b sz j pre q) (hj : j < sz.length) (hs : sz[j] < 0 ∨ (q.length : Int) < sz[j]) : strM b sz = none := by
  unfold StrAt at h
  rw [h, List.drop_eq_getElem_cons hj, strM, if_pos hs]
  rfl
theorem StrAt.step {b q : List Nat} {sz : List Int} {j : Nat} {pre : List (List Nat)} (h : StrAt b sz j pre q) (hj : j < sz.length) {s : Nat} (e : sz[j] = (s : Int)) (hs : s ≤ q.length) : StrAt b sz (j + 1) (pre ++ [q.take s]) (q.drop s) := by
  unfold StrAt at h ⊢
  rw [h, List.drop_eq_getElem_cons hj, strM, if_neg (by omega), e, Int.toNat_natCast, Option.map_map]
  congr 1
  funext p
  simp
theorem StrAt.last {b q : List Nat} {sz : List Int} {pre : List (List Nat)} (h : StrAt b sz sz.length pre q) : strM b sz = some (pre, q) := by
  unfold StrAt at h
  rw [h, List.drop_length, strM]
  simp

set_option maxRecDepth 100000 in
set_option maxHeartbeats 4000000 in
theorem refStrings_any {w : World} {v vs : Value} {b : List Nat} {sz : List Int} (hb : Sv w v (vals .u8 b)) (h8 : Bs b) (hs : Sv w vs (ivals sz)) (hl : sz.length ≤ 256) : Calls Tryz.prog 63 #[v, vs] w (StrPost (strM b sz) w) := by
  have HSB := hidden hb
  have H8 := hidden h8
  have HS := hidden hs
  obtain ⟨asz, cs, rfl, hcs, hcsm⟩ := hs.form
  have hcm' : cs ≤ 9223372036854775807 := by unfold maxLen at hcsm; omega
  have HZ := hidden (StrAt.zero b sz)
  have HBAD := hidden (fun q j pre => StrAt.bad (b := b) (sz := sz) (q := q) (j := j) (pre := pre))
  have HST := hidden (fun q j pre => StrAt.step (b := b) (sz := sz) (q := q) (j := j) (pre := pre))
  have HLA := hidden (fun q pre => StrAt.last (b := b) (sz := sz) (q := q) (pre := pre))
  clear hb h8 hs hcsm
  generalize strM b sz = SM at *
  go_enter Tryz.func63, Tryz.ntmps63
  go_wp2_with fail
  go_loopw [0, 7, 8] (fun vq vo i wr => ∃ (j : Nat) (pre : List (List Nat)) (q : List Nat), j ≤ sz.length ∧ i = .int .i64 (j : Int) ∧ pre.length = j ∧ Sv w vq (vals .u8 q) ∧ Bs q ∧ StrAt b sz j pre q ∧ OwnS wr w.heap.size vo pre ∧ Below w.heap.size w wr) (fun _ _ i _ => sz.length - (intOf i).toNat)
  case atStart => exact ⟨0, [], b, by omega, rfl, rfl, HSB.out, H8.out, HZ.out, OwnS.nil _ _, Below.refl _ _⟩
  case round =>
    obtain ⟨j, pre, q, hj, rfl, hpl, hsq, hq8, hat, how, hbel⟩ := hrel
    have HSQ := hidden hsq
    have HQ8 := hidden hq8
    have HAT := hidden hat
    have HO := hidden how
    have HB := hidden hbel
    have hzr := hbel.size
    obtain ⟨aq, cq, rfl, hcq, hcqm, hq1, hq2⟩ := id hsq
    rw [vals_length] at *
    have hcqm' : cq ≤ 9223372036854775807 := by unfold maxLen at hcqm; omega
    clear hsq hq8 hat how hbel hq1 hq2 hcqm
    by_cases hlt : j < sz.length
    · have hlt3 : (j : Int) < (sz.length : Int) := by omega
      obtain ⟨g, off, rfl, hg, hcell0⟩ := HS.out.at hlt
      have HBAD2 := hidden (HBAD.out q j pre HAT.out hlt)
      have HST2 := hidden (fun s => HST.out q j pre HAT.out hlt (s := s))
      by_cases hbad : sz[j] < 0 ∨ (q.length : Int) < sz[j]
      · have hcell := (HB.out.cell (p := ⟨g, off + j, none⟩) hg).trans hcell0
        clear hcell0
        have HN := hidden (HBAD2.out hbad)
        clear HST2
        generalize sz[j] = s at *
        by_cases hs0 : s < 0
        · clear hbad
          go_wp2_with fail
          go_ret3
          rw [HN.out]
          exact ⟨_, _, rfl, fun l' q' e => (by cases e), HB.out⟩
        · have hs1 : s > (q.length : Int) := by omega
          clear hbad
          go_wp2_with fail
          go_ret3
          rw [HN.out]
          exact ⟨_, _, rfl, fun l' q' e => (by cases e), HB.out⟩
      · obtain ⟨s, hse⟩ : ∃ s : Nat, sz[j] = (s : Int) := ⟨(sz[j]).toNat, by omega⟩
        have hsl : s ≤ q.length := by omega
        have HAT2 := hidden (HST2.out s hse hsl)
        clear HST2 HBAD2
        rw [hse] at hcell0 hbad
        have HCE := hidden hcell0
        have hcell := (HB.out.cell (p := ⟨g, off + j, none⟩) hg).trans hcell0
        clear hcell0
        have hs0 : ¬ (s : Int) < 0 := by omega
        have hs1 : ¬ (s : Int) > (q.length : Int) := by omega
        have hs2 : s ≤ cq := by omega
        clear hbad hse
        have hcv := ((HSQ.out.kept HB.out).takeA hsl).conv (HQ8.out.take s)
        rw [txt_eq] at hcv
        obtain ⟨A, hA, hSA⟩ := HSQ.out.dropA hsl
        have HSA := hidden hSA
        have HD8 := hidden (HQ8.out.drop s)
        clear hSA
        generalize q.take s = T at *
        go_wp2_with (first | (at_builtin; refine wpList_append_s rfl _ _ rfl w.heap.size _ _ T pre rfl (HO.out.kept (below_alloc' _ _)) rfl (cell_new _ _ _) ?c2 ?c3 ?_))
        case c2 => omega
        case c3 => first | omega | (rw [World.size_alloc]; omega)
        intro v7 w7 o7 b7
        have HO7 := hidden o7
        have HB7 := hidden ((HB.out.alloc hzr _).trans b7)
        have hcell7 := (HB7.out.cell (p := ⟨g, off + j, none⟩) hg).trans HCE.out
        clear hcell hcv o7 b7
        go_wp2_with fail
        go_roundw
        case rel => exact ⟨j + 1, _, q.drop s, by omega, by go_num, by simp; omega, HSA.out, HD8.out, HAT2.out, HO7.out, HB7.out⟩
        case measure => simp [intOf]; omega
    · obtain rfl : j = sz.length := by omega
      have hlt3 : ¬ (sz.length : Int) < (sz.length : Int) := by omega
      have HE := hidden (HLA.out q pre HAT.out)
      go_wp2_with fail
      go_ret3
      rw [HE.out]
      refine ⟨_, _, rfl, fun l' q' e => ?_, HB.out⟩
      cases e
      exact ⟨HO.out, HSQ.out.kept HB.out⟩
end Go.Proofs.YtcmmednihoaekaaGreat
