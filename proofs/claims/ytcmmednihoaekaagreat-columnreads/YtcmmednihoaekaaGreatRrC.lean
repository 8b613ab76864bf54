/- Contracts of the document's layer 6, reading: words that are listed. -/
import Derived.Test.YtcmmednihoaekaaGreatRrB
set_option linter.unusedVariables false
set_option linter.unusedSimpArgs false
namespace Go.Proofs.YtcmmednihoaekaaGreat
open Go.RowKit Go.Lib

set_option maxRecDepth 100000 in
set_option maxHeartbeats 8000000 in
theorem refWords_one {w : World} {v : Value} {t : List Nat} (hb : Sv w v (vals .u8 (1 :: t))) (h8 : Bs (1 :: t)) (n : Nat) (hn : n ≤ 256) : Calls Tryz.prog 43 #[v, .int .i64 (n : Int)] w (WordsPost (wordsM (1 :: t) n) w) := by
  obtain ⟨g, off, cap, rfl, h1, h2, h3, h4, h4b, A, hA, hSA⟩ := hb.uncons
  have hcm' : cap ≤ 9223372036854775807 := by unfold maxLen at h2; omega
  have HBT : Hid (Bs t) := fun x hx => h8 x (by simp [hx])
  have HC : Hid (wordsM (1 :: t) n = if (gt t).2.2 = 0 ∧ (gt t).1 ≤ n then
        (cutM (t.drop (gt t).2.1) (gt t).1).bind fun p => (strM p.2 p.1).bind fun q => if (readM q.2 n).2 = 0 then pickT q.1 (readM q.2 n).1 else none
      else none) := hidden rfl
  have HG := hidden (refGet_sv HBT.out hSA)
  obtain ⟨g1, g2, g3, g4⟩ := gt_form t
  have HSA := hidden hSA
  have hlen : (((t.length + 1 : Nat) : Int) == 0) = false := beq_eq_false_iff_ne.2 (by omega)
  have hw1 : IntKind.u64.wrap (n : Int) = (n : Int) := by rw [IntKind.wrap_u64]; omega
  clear hb h8 h4b hSA h2 g4
  generalize wordsM (1 :: t) n = WM at *
  generalize gt t = x at *
  obtain ⟨k, u, c⟩ := x
  simp only at *
  unfold tell at *
  go_enter Tryz.func43, Tryz.ntmps43
  go_wp2_with fail
  refine HG.out.mono ?_
  rintro e w1 ⟨rfl, hb1⟩
  have HB1 := hidden hb1
  have hz1 := hb1.size
  clear hb1
  by_cases hc : c = 0
  · subst hc
    by_cases hk : k ≤ n
    · have hk' : ¬ (k : Int) > (n : Int) := by omega
      have hkn : ¬ n < k := by omega
      have hw2 : IntKind.i64.wrap (k : Int) = (k : Int) := by rw [IntKind.wrap_i64]; omega
      rw [if_pos ⟨rfl, hk⟩] at HC
      obtain ⟨A2, hA2, hSA2⟩ := HSA.out.dropA (k := u) (by omega)
      have HCut := hidden (refCut_any (hSA2.kept HB1.out) (HBT.out.drop u) (k : Int))
      have HCI := hidden (fun l r => cutM_inv (b := t.drop u) (r := r) (n := (k : Int)) (l := l) (HBT.out.drop u))
      have hu1 : u ≤ cap - 1 := by omega
      clear hSA2
      generalize cutM (t.drop u) (k : Int) = CM at *
      go_wp2_with fail
      refine HCut.out.mono ?_
      rintro e w2 ⟨v1, v2, rfl, hcp, hb2⟩
      have HB2 := hidden (HB1.out.trans (hb2.mono hz1))
      have hz2 := HB2.out.size
      clear hb2
      cases CM with
      | none =>
        have HN : Hid (WM = none) := hidden HC.out
        clear hcp
        simp only [Option.isSome_none]
        go_wp2_with fail
        go_ret2
        rw [HN.out]
        exact ⟨_, rfl, fun l e => (by cases e), HB2.out⟩
      | some p =>
        obtain ⟨sz, q⟩ := p
        obtain ⟨ho, hs⟩ := hcp sz q rfl
        obtain ⟨c1, c2, c3⟩ := HCI.out sz q rfl
        have HStr := hidden (refStrings_any hs c3 ho.sv (by omega))
        have HE : Hid (WM = (strM q sz).bind fun q => if (readM q.2 n).2 = 0 then pickT q.1 (readM q.2 n).1 else none) := hidden HC.out
        have HSI := hidden (fun l r => strM_len (s := sz) (b := q) (r := r) (l := l) c3)
        clear ho hs hcp c1 c2 c3
        generalize strM q sz = SM at *
        simp only [Option.isSome_some]
        go_wp2_with fail
        refine HStr.out.mono ?_
        rintro e w3 ⟨v3, v4, rfl, hst, hb3⟩
        have HB3 := hidden (HB2.out.trans (hb3.mono hz2))
        have hz3 := HB3.out.size
        clear hb3
        cases SM with
        | none =>
          have HN : Hid (WM = none) := hidden HE.out
          clear hst
          simp only [Option.isSome_none]
          go_wp2_with fail
          go_ret2
          rw [HN.out]
          exact ⟨_, rfl, fun l e => (by cases e), HB3.out⟩
        | some p =>
          obtain ⟨l, r⟩ := p
          have HN : Hid (WM = if (readM r n).2 = 0 then pickT l (readM r n).1 else none) := hidden HE.out
          obtain ⟨hol, hsr⟩ := hst l r rfl
          obtain ⟨d1, d2⟩ := HSI.out l r rfl
          have HOL := hidden hol
          have HR := hidden (refRead_any hsr d2 (n : Int))
          have hpl : (readM r (n : Int)).1.length ≤ 256 := by
            by_cases he : (readM r (n : Int)).2 = 0
            · have := (readM_len d2 he).1; omega
            · rw [readM_none he]; simp
          clear hst hol hsr d1 d2
          generalize readM r (n : Int) = RM at *
          obtain ⟨p, f⟩ := RM
          simp only [Option.isSome_some] at *
          go_wp2_with fail
          refine HR.out.mono ?_
          rintro e w4 ⟨⟨v5, rfl, ho5⟩, hb5⟩
          have HB4 := hidden (HB3.out.trans (hb5.mono hz3))
          have HL4 := hidden (HOL.out.sv.kept hb5)
          have hz4 := HB4.out.size
          have HP4 := hidden ho5.sv
          obtain ⟨ap, cp, rfl⟩ := ho5.len
          obtain ⟨al, cl, rfl, hcl, hclm⟩ := own_slice HOL.out
          clear ho5 hb5
          simp only at *
          generalize w4 = W4 at *
          go_wp2_with fail
          go_loopw [16, 17] (fun vo i wr => ∃ (j : Nat) (pre : List (List Nat)), j ≤ p.length ∧ i = .int .i64 (j : Int) ∧ PickAt l p j pre ∧ OwnS wr W4.heap.size vo pre ∧ Below W4.heap.size W4 wr) (fun _ i _ => p.length - (intOf i).toNat)
          case atStart => exact ⟨0, [], by omega, rfl, PickAt.zero _ _, OwnS.nil _ _, Below.refl _ _⟩
          case round =>
            obtain ⟨j, pre, hj, rfl, hat, how, hbel⟩ := hrel
            have HAT := hidden hat
            have HO := hidden how
            have HB := hidden hbel
            have hzr := hbel.size
            have hprl := hat.len
            clear hat how hbel
            by_cases hlt : j < p.length
            · have hlt3 : (j : Int) < (p.length : Int) := by omega
              obtain ⟨gp, offp, rfl, hgp, hcp0⟩ := HP4.out.at hlt
              by_cases hbad : p[j] < 0 ∨ p[j] ≥ (l.length : Int)
              · have HN2 : Hid (WM = none) := hidden (by
                  rw [HN.out, PickAt.bad hlt hbad]
                  split <;> rfl)
                have hcell := (HB.out.cell (p := ⟨gp, offp + j, none⟩) hgp).trans hcp0
                clear hcp0 HAT
                generalize p[j] = s at *
                by_cases hs0 : s < 0
                · clear hbad
                  go_wp2_with fail
                  go_ret2
                  rw [HN2.out]
                  exact ⟨_, rfl, fun l' e => (by cases e), HB4.out.trans (HB.out.mono hz4)⟩
                · have hs1 : s ≥ (l.length : Int) := by omega
                  clear hbad
                  go_wp2_with fail
                  go_ret2
                  rw [HN2.out]
                  exact ⟨_, rfl, fun l' e => (by cases e), HB4.out.trans (HB.out.mono hz4)⟩
              · obtain ⟨s, hse⟩ : ∃ s : Nat, p[j] = (s : Int) := ⟨(p[j]).toNat, by omega⟩
                have hsl : s < l.length := by omega
                have HAT2 := hidden (HAT.out.step hlt hse hsl)
                rw [hse] at hcp0 hbad
                have hcell := (HB.out.cell (p := ⟨gp, offp + j, none⟩) hgp).trans hcp0
                have hs0 : ¬ (s : Int) < 0 := by omega
                have hs1 : ¬ (s : Int) ≥ (l.length : Int) := by omega
                have hs3 : (s : Int) < (l.length : Int) := by omega
                clear hbad hse hcp0
                obtain ⟨gl, offl, rfl, hgl, hcl0⟩ := HL4.out.at1 (svals_get hsl)
                rw [txt_eq] at hcl0
                have hcell2 := (HB.out.cell (p := ⟨gl, offl + s, none⟩) hgl).trans hcl0
                clear hcl0
                generalize l[s] = T at *
                go_wp2_with (first | (at_builtin; refine wpList_append_s rfl _ _ rfl W4.heap.size _ _ T pre rfl (HO.out.kept (below_alloc' _ _)) rfl (cell_new _ _ _) ?c2 ?c3 ?_))
                case c2 => omega
                case c3 => first | omega | (rw [World.size_alloc]; omega)
                intro v7 w7 o7 b7
                have HO7 := hidden o7
                have HB7 := hidden ((HB.out.alloc hzr _).trans b7)
                clear hcell hcell2 o7 b7
                go_wp2_with fail
                go_roundw
                case rel => exact ⟨j + 1, _, by omega, by go_num, HAT2.out, HO7.out, HB7.out⟩
                case measure => simp [intOf]; omega
            · obtain rfl : j = p.length := by omega
              have hlt3 : ¬ (p.length : Int) < (p.length : Int) := by omega
              have HE2 := hidden HAT.out.last
              by_cases hf : f = 0
              · subst hf
                rw [if_pos rfl, HE2.out] at HN
                go_wp2_with fail
                go_ret2
                rw [HN.out]
                refine ⟨_, rfl, fun l' e => ?_, HB4.out.trans (HB.out.mono hz4)⟩
                cases e
                exact own_low HO.out hz4
              · have hf' : ((f : Int) == 0) = false := beq_eq_false_iff_ne.2 (by omega)
                rw [if_neg hf] at HN
                clear hf
                go_wp2_with fail
                go_ret2
                rw [HN.out]
                exact ⟨_, rfl, fun l' e => (by cases e), HB4.out.trans (HB.out.mono hz4)⟩
    · have hk' : (k : Int) > (n : Int) := by omega
      rw [if_neg (fun h => hk h.2)] at HC
      clear hk
      go_wp2_with fail
      go_ret2
      rw [HC.out]
      exact ⟨_, rfl, fun l' e => (by cases e), HB1.out⟩
  · have hc' : ((c : Int) != 0) = true := by simp; omega
    rw [if_neg (fun h => hc h.1)] at HC
    clear hc
    go_wp2_with fail
    go_ret2
    rw [HC.out]
    exact ⟨_, rfl, fun l' e => (by cases e), HB1.out⟩

set_option maxRecDepth 100000 in
set_option maxHeartbeats 4000000 in
theorem refWords_any {w : World} {v : Value} {b : List Nat} (hb : Sv w v (vals .u8 b)) (h8 : Bs b) (n : Nat) (hn : n ≤ 256) : Calls Tryz.prog 43 #[v, .int .i64 (n : Int)] w (WordsPost (wordsM b n) w) := by
  cases b with
  | nil =>
    obtain ⟨a, cap, rfl, _⟩ := hb
    have HN : Hid (wordsM [] n = none) := hidden rfl
    clear h8
    go_enter Tryz.func43, Tryz.ntmps43
    go_wp2_with fail
    go_ret2
    rw [HN.out]
    exact ⟨_, rfl, fun l' e => (by cases e), Below.refl _ _⟩
  | cons x t =>
    by_cases hx : x ≤ 1
    · obtain rfl | rfl : x = 0 ∨ x = 1 := by omega
      · exact refWords_zero hb h8 n hn
      · exact refWords_one hb h8 n hn
    · obtain ⟨g, off, cap, rfl, h1, h2, h3, h4, h4b, A, hA, hSA⟩ := hb.uncons
      have hcm' : cap ≤ 9223372036854775807 := by unfold maxLen at h2; omega
      have hlen : (((t.length + 1 : Nat) : Int) == 0) = false := beq_eq_false_iff_ne.2 (by omega)
      have HN : Hid (wordsM (x :: t) n = none) := hidden (by
        unfold wordsM
        simp only
        rw [if_neg (by omega), if_neg (by omega)])
      have hx' : (x : Int) > 1 := by omega
      clear hb h8 h4b hSA h2 hx
      go_enter Tryz.func43, Tryz.ntmps43
      go_wp2_with fail
      go_ret2
      rw [HN.out]
      exact ⟨_, rfl, fun l' e => (by cases e), Below.refl _ _⟩
end Go.Proofs.YtcmmednihoaekaaGreat
