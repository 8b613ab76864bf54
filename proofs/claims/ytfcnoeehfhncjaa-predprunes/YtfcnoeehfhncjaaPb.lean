/- What statistics leave of a predicate: May. -/
import Derived.Test.YtfcnoeehfhncjaaPa
import Derived.Test.YtfcnoeehfhncjaaPya
import Derived.Test.YtfcnoeehfhncjaaPyo
set_option linter.unusedVariables false
set_option linter.unusedSimpArgs false
namespace Go.Proofs.Ytfcnoeehfhncjaa
open Go.RowKit Go.Lib

theorem Flg.put {W : World} {p : Nat} {o : B3} (h : Flg W p o) (a b c : Bool) : Flg (((W.setCell ⟨p, 0, none⟩ (.bool a)).setCell ⟨p, 1, none⟩ (.bool b)).setCell ⟨p, 2, none⟩ (.bool c)) p (a, b, c) := by
  unfold Flg at *
  rw [heap_set (heap_set (heap_set h 0 (.bool a)) 1 (.bool b)) 2 (.bool c)]
  rfl
theorem Flg.other {W : World} {p q : Nat} {o : B3} (h : Flg W q o) (hn : q ≠ p) (a b c : Value) : Flg (((W.setCell ⟨p, 0, none⟩ a).setCell ⟨p, 1, none⟩ b).setCell ⟨p, 2, none⟩ c) q o := by
  unfold Flg at *
  rw [heap_setCell_other _ ⟨p, 2, none⟩ q _ hn, heap_setCell_other _ ⟨p, 1, none⟩ q _ hn, heap_setCell_other _ ⟨p, 0, none⟩ q _ hn]
  exact h
/-- What the loops of answers keep. -/
def Acc (w wr : World) (p : Nat) (o : B3) : Prop := Below w.heap.size w wr ∧ Flg wr p o ∧ Flg wr w.heap.size (false, false, false) ∧ w.heap.size < p
theorem Acc.kept {w wr w' : World} {p : Nat} {o : B3} (h : Acc w wr p o) (hb : Below wr.heap.size wr w') : Acc w w' p o := ⟨below_then h.1 hb, h.2.1.kept hb, h.2.2.1.kept hb, h.2.2.2⟩
theorem Acc.put {w wr : World} {p : Nat} {o : B3} (h : Acc w wr p o) (n : B3) : Acc w (((wr.setCell ⟨p, 0, none⟩ (.bool n.1)).setCell ⟨p, 1, none⟩ (.bool n.2.1)).setCell ⟨p, 2, none⟩ (.bool n.2.2)) p n :=
  ⟨set3 h.1 (Nat.le_of_lt h.2.2.2) _ _ _, h.2.1.put _ _ _, h.2.2.1.other (Nat.ne_of_lt h.2.2.2) _ _ _, h.2.2.2⟩

set_option maxRecDepth 100000 in
set_option maxHeartbeats 8000000 in
theorem answers_any {q si : Nat} {fv rv : Value} {l : List Fd} {r : List Stt} (hfr : ∀ x ∈ r, Oks x) (t : PT) : Okp t → ∀ (w : World) (b off : Nat), RowsOf w q si fv rv l r → Lies w b off t →
    Calls Try.prog 40 #[.pointer (some ⟨q, 0, none⟩), .pointer (some ⟨b, off, none⟩)] w fun e w' => e = .returned (b3V (mayM l r t)) ∧ Below w.heap.size w w' := by
  refine PT.ind (P := fun t => Okp t → ∀ (w : World) (b off : Nat), RowsOf w q si fv rv l r → Lies w b off t → Calls Try.prog 40 #[.pointer (some ⟨q, 0, none⟩), .pointer (some ⟨b, off, none⟩)] w fun e w' => e = .returned (b3V (mayM l r t)) ∧ Below w.heap.size w w') (fun op f c ks ih hok w b off hr hlies => ?_) t
  have HIH := hidden ih
  have HFR := hidden hfr
  simp only [Okp] at hok
  obtain ⟨_, _, hoc, hoks⟩ := hok
  have HOC := hidden hoc
  have HOK := hidden hoks.get
  have HR0 := hidden hr
  obtain ⟨a, cap, hnode0, hkids0⟩ := hlies.open
  have HN0 := hidden hnode0
  have HK0 := hidden hkids0
  have hf1 := Flg.new w (false, false, false)
  have hb1 := below_one w (.cells #[.bool false, .bool false, .bool false] 51)
  simp only at hf1
  have sA : (w.alloc (.cells #[.bool false, .bool false, .bool false] 51)).heap.size = w.heap.size + 1 := World.size_alloc _ _
  have HSA := hidden sA
  generalize hA : w.alloc (.cells #[.bool false, .bool false, .bool false] 51) = A at *
  have HF1 := hidden hf1
  have HB1 := hidden hb1
  have hnode := hnode0.kept hb1
  obtain ⟨_, _, hke, hkc, hkm⟩ := hkids0.form
  simp only [Value.slice.injEq] at hke
  obtain ⟨rfl, _, rfl⟩ := hke
  have hkm' : ks.length ≤ 9223372036854775807 := by unfold maxLen at hkm; omega
  obtain ⟨hb0, x0, x1, x2, x3, x4, x5⟩ := hnode
  clear hr hlies hnode0 hkids0 hoc hoks hfr ih hkm hf1 hb1 sA
  have HD : Hid (mayM l r (.node op f c ks) = if op = 6 then mayAnd l r ks (false, false, true) else if op = 7 then mayOr l r ks (true, false, false) else if op = 8 then mayNot l r ks else mleafM l r op f c) := hidden (by simp only [mayM])
  generalize mayM l r (.node op f c ks) = R at *
  by_cases h6 : op = 6
  · subst h6
    rw [if_pos rfl] at HD
    have HD' : Hid (R = mayAnd l r (ks.drop 0) (false, false, true)) := HD
    clear HD
    go_enter Try.func40, Try.ntmps40
    go_wp2_with fail
    clear hA
    refine (only3_any 2 (by omega) _).mono ?_
    rintro e w1 ⟨rfl, hbw1⟩
    have hz1 : w.heap.size < w1.heap.size := by have := hbw1.size; have := HSA.out; omega
    have hfD := Flg.new w1 (false, false, true)
    have hbD := below_one w1 (.cells #[.bool false, .bool false, .bool true] 51)
    simp only at hfD
    have HACC : Hid (Acc w (w1.alloc (.cells #[.bool false, .bool false, .bool true] 51)) w1.heap.size (false, false, true)) := hidden ⟨below_then (below_then HB1.out hbw1) hbD, hfD, (HF1.out.kept hbw1).kept hbD, hz1⟩
    have hnD := ((HN0.out.kept HB1.out).kept hbw1).kept hbD
    obtain ⟨hb0', x0', x1', x2', x3', x4', x5'⟩ := hnD
    clear x0 x1 x2 x3 x4 x5 hb0 hbw1 hfD hbD
    rw [show (decide (2 = 0)) = false from rfl, show (decide (2 = 1)) = false from rfl, show (decide (2 = 2)) = true from rfl]
    go_wp2_with fail
    generalize w1.heap.size = p5 at *
    go_loopw [21] (fun i wr => ∃ (k : Nat) (acc : B3), k ≤ ks.length ∧ i = .int .i64 (k : Int) ∧ R = mayAnd l r (ks.drop k) acc ∧ Acc w wr p5 acc) (fun i _ => ks.length - (intOf i).toNat)
    case atStart => exact ⟨0, _, by omega, rfl, HD'.out, HACC.out⟩
    case round =>
      obtain ⟨k, acc, hk, rfl, hfe, hacc⟩ := hrel
      have HF := hidden hfe
      have HA := hidden hacc
      clear hfe hacc HD' x0' x1' x2' x3' x4' x5'
      obtain ⟨⟨p0, p1, p2⟩, ⟨t0, t1, t2⟩, hpz⟩ := HA.out.2.1.facts
      by_cases hlt : k < ks.length
      · obtain ⟨g, o, rfl, hlk⟩ := (HK0.out.kept HA.out.1).at hlt
        have hlt' : (k : Int) < (ks.length : Int) := by omega
        obtain ⟨hbn, x0, x1, x2, x3, x4, x5⟩ := HN0.out.kept HA.out.1
        have HT := hidden (HF.out.trans (mayAnd_step hlt acc))
        have HS : Hid (∀ U, Below wr.heap.size wr U → U.cell? ⟨p5, 0, none⟩ = some (.bool acc.1) ∧ U.cell? ⟨p5, 1, none⟩ = some (.bool acc.2.1) ∧ U.cell? ⟨p5, 2, none⟩ = some (.bool acc.2.2) ∧ U.cell? ⟨b, off + 5, none⟩ = some (.slice (some ⟨g, o, none⟩) ks.length cap)) := hidden (fun U hU => by
          obtain ⟨⟨q0, q1, q2⟩, _, _⟩ := (HA.out.2.1.kept hU).facts
          obtain ⟨_, _, _, _, _, _, q5⟩ := (HN0.out.kept HA.out.1).kept hU
          exact ⟨q0, q1, q2, q5⟩)
        have HC : Hid (∀ U, Below wr.heap.size wr U → Calls Try.prog 40 #[.pointer (some ⟨q, 0, none⟩), .pointer (some ⟨g, o + k * 6, none⟩)] U fun e w' => e = .returned (.agg #[.bool (mayM l r ks[k]).1, .bool (mayM l r ks[k]).2.1, .bool (mayM l r ks[k]).2.2]) ∧ Below wr.heap.size wr w' ∧ w'.cell? ⟨p5, 0, none⟩ = some (.bool acc.1) ∧ w'.cell? ⟨p5, 1, none⟩ = some (.bool acc.2.1) ∧ w'.cell? ⟨p5, 2, none⟩ = some (.bool acc.2.2) ∧ w'.cell? ⟨b, off + 5, none⟩ = some (.slice (some ⟨g, o, none⟩) ks.length cap)) := hidden (fun U hU => by
          refine (HIH.out ks[k] (List.getElem_mem hlt) (HOK.out _ (List.getElem_mem hlt)) U g (o + k * 6) ((HR0.out.kept HA.out.1).kept hU) (Lies.kept hU _ _ _ hlk)).mono ?_
          rintro e w6 ⟨rfl, hb6⟩
          have h7 := below_then hU hb6
          exact ⟨rfl, h7, HS.out _ h7⟩)
        have HTG : Hid (∀ U, Below wr.heap.size wr U → Calls Try.prog 58 #[.agg #[.bool acc.1, .bool acc.2.1, .bool acc.2.2], .agg #[.bool (mayM l r ks[k]).1, .bool (mayM l r ks[k]).2.1, .bool (mayM l r ks[k]).2.2], .func (.func 59) #[] #[]] U fun e w' => e = .returned (.agg #[.bool (togA acc (mayM l r ks[k])).1, .bool (togA acc (mayM l r ks[k])).2.1, .bool (togA acc (mayM l r ks[k])).2.2]) ∧ Below wr.heap.size wr w' ∧ (w'.cell? ⟨p5, 0, none⟩ = some (.bool acc.1) ∧ w'.cell? ⟨p5, 1, none⟩ = some (.bool acc.2.1) ∧ w'.cell? ⟨p5, 2, none⟩ = some (.bool acc.2.2) ∧ w'.cell? ⟨b, off + 5, none⟩ = some (.slice (some ⟨g, o, none⟩) ks.length cap)) ∧ (w'.frozen? ⟨p5, 0, none⟩ = false ∧ w'.frozen? ⟨p5, 1, none⟩ = false ∧ w'.frozen? ⟨p5, 2, none⟩ = false)) := hidden (fun U hU => by
          refine (togA_any acc (mayM l r ks[k]) U).mono ?_
          rintro e w6 ⟨rfl, hb6⟩
          have h7 := below_then hU hb6
          exact ⟨rfl, h7, HS.out _ h7, (HA.out.2.1.kept h7).facts.2.1⟩)
        generalize mayM l r ks[k] = ev at *
        generalize togA acc ev = NV at *
        obtain ⟨ac0, ac1, ac2⟩ := acc
        obtain ⟨ev0, ev1, ev2⟩ := ev
        obtain ⟨nv0, nv1, nv2⟩ := NV
        clear hlk HF x0 x1 x2 x3 x4 HS
        go_wp2_with fail
        go_region_with (first
          | (go_at_call 40; refine (HC.out _ ?_).mono ?_; (first | exact (Below.refl _ _).drew | exact below_drewN (Below.refl _ _) _); rintro e w6 ⟨rfl, hb6, hkk⟩; have HB6 := hidden hb6; clear hb6)
          | (go_at_call 58; refine (HTG.out _ ?_).mono ?_; (first | exact HB6.out | exact HB6.out.drew | exact below_drewN HB6.out _); rintro e w7 ⟨rfl, hb7, hkk7, hfz⟩; have HB7 := hidden hb7; clear hb7))
        all_goals clear hkk hkk7 hfz p0 p1 p2 t0 t1 t2 x5 HC HTG
        all_goals go_wp2_with fail
        all_goals go_roundw
        all_goals first | (case rel => exact ⟨k + 1, (nv0, nv1, nv2), by omega, by go_num, HT.out, (HA.out.kept HB7.out).put (nv0, nv1, nv2)⟩) | (case measure => simp [intOf]; omega)
      · obtain rfl : k = ks.length := by omega
        have hge : ¬ ((ks.length : Nat) : Int) < (ks.length : Int) := by omega
        have HT := hidden (HF.out.trans (mayAnd_end acc))
        obtain ⟨⟨r0, r1, r2⟩, ⟨s0, s1, s2⟩, _⟩ := HA.out.2.2.1.facts
        have hne : ¬ p5 = w.heap.size := by have := HA.out.2.2.2; omega
        have hne2 : ¬ w.heap.size = p5 := by have := HA.out.2.2.2; omega
        clear HF
        go_wp2_with fail
        refine bodyPost_ret (v := .agg #[.bool acc.1, .bool acc.2.1, .bool acc.2.2]) (by simp [results, Try.results40, go_sem, r0, r1, r2, hne, hne2]) rfl ⟨?_, set3 HA.out.1 (Nat.le_refl _) _ _ _⟩
        rw [HT.out]
        rfl
  have n6 : ((op : Int) == 6) = false := beq_eq_false_iff_ne.2 (by omega)
  by_cases h7 : op = 7
  · subst h7
    rw [if_neg (by omega), if_pos rfl] at HD
    have HD' : Hid (R = mayOr l r (ks.drop 0) (true, false, false)) := HD
    clear HD
    go_enter Try.func40, Try.ntmps40
    go_wp2_with fail
    clear hA
    refine (only3_any 0 (by omega) _).mono ?_
    rintro e w1 ⟨rfl, hbw1⟩
    have hz1 : w.heap.size < w1.heap.size := by have := hbw1.size; have := HSA.out; omega
    have hfD := Flg.new w1 (true, false, false)
    have hbD := below_one w1 (.cells #[.bool true, .bool false, .bool false] 51)
    simp only at hfD
    have HACC : Hid (Acc w (w1.alloc (.cells #[.bool true, .bool false, .bool false] 51)) w1.heap.size (true, false, false)) := hidden ⟨below_then (below_then HB1.out hbw1) hbD, hfD, (HF1.out.kept hbw1).kept hbD, hz1⟩
    have hnD := ((HN0.out.kept HB1.out).kept hbw1).kept hbD
    obtain ⟨hb0', x0', x1', x2', x3', x4', x5'⟩ := hnD
    clear x0 x1 x2 x3 x4 x5 hb0 hbw1 hfD hbD
    rw [show (decide (0 = 0)) = true from rfl, show (decide (0 = 1)) = false from rfl, show (decide (0 = 2)) = false from rfl]
    go_wp2_with fail
    generalize w1.heap.size = p5 at *
    go_loopw [44] (fun i wr => ∃ (k : Nat) (acc : B3), k ≤ ks.length ∧ i = .int .i64 (k : Int) ∧ R = mayOr l r (ks.drop k) acc ∧ Acc w wr p5 acc) (fun i _ => ks.length - (intOf i).toNat)
    case atStart => exact ⟨0, _, by omega, rfl, HD'.out, HACC.out⟩
    case round =>
      obtain ⟨k, acc, hk, rfl, hfe, hacc⟩ := hrel
      have HF := hidden hfe
      have HA := hidden hacc
      clear hfe hacc HD' x0' x1' x2' x3' x4' x5'
      obtain ⟨⟨p0, p1, p2⟩, ⟨t0, t1, t2⟩, hpz⟩ := HA.out.2.1.facts
      by_cases hlt : k < ks.length
      · obtain ⟨g, o, rfl, hlk⟩ := (HK0.out.kept HA.out.1).at hlt
        have hlt' : (k : Int) < (ks.length : Int) := by omega
        obtain ⟨hbn, x0, x1, x2, x3, x4, x5⟩ := HN0.out.kept HA.out.1
        have HT := hidden (HF.out.trans (mayOr_step hlt acc))
        have HS : Hid (∀ U, Below wr.heap.size wr U → U.cell? ⟨p5, 0, none⟩ = some (.bool acc.1) ∧ U.cell? ⟨p5, 1, none⟩ = some (.bool acc.2.1) ∧ U.cell? ⟨p5, 2, none⟩ = some (.bool acc.2.2) ∧ U.cell? ⟨b, off + 5, none⟩ = some (.slice (some ⟨g, o, none⟩) ks.length cap)) := hidden (fun U hU => by
          obtain ⟨⟨q0, q1, q2⟩, _, _⟩ := (HA.out.2.1.kept hU).facts
          obtain ⟨_, _, _, _, _, _, q5⟩ := (HN0.out.kept HA.out.1).kept hU
          exact ⟨q0, q1, q2, q5⟩)
        have HC : Hid (∀ U, Below wr.heap.size wr U → Calls Try.prog 40 #[.pointer (some ⟨q, 0, none⟩), .pointer (some ⟨g, o + k * 6, none⟩)] U fun e w' => e = .returned (.agg #[.bool (mayM l r ks[k]).1, .bool (mayM l r ks[k]).2.1, .bool (mayM l r ks[k]).2.2]) ∧ Below wr.heap.size wr w' ∧ w'.cell? ⟨p5, 0, none⟩ = some (.bool acc.1) ∧ w'.cell? ⟨p5, 1, none⟩ = some (.bool acc.2.1) ∧ w'.cell? ⟨p5, 2, none⟩ = some (.bool acc.2.2) ∧ w'.cell? ⟨b, off + 5, none⟩ = some (.slice (some ⟨g, o, none⟩) ks.length cap)) := hidden (fun U hU => by
          refine (HIH.out ks[k] (List.getElem_mem hlt) (HOK.out _ (List.getElem_mem hlt)) U g (o + k * 6) ((HR0.out.kept HA.out.1).kept hU) (Lies.kept hU _ _ _ hlk)).mono ?_
          rintro e w6 ⟨rfl, hb6⟩
          have h7 := below_then hU hb6
          exact ⟨rfl, h7, HS.out _ h7⟩)
        have HTG : Hid (∀ U, Below wr.heap.size wr U → Calls Try.prog 58 #[.agg #[.bool acc.1, .bool acc.2.1, .bool acc.2.2], .agg #[.bool (mayM l r ks[k]).1, .bool (mayM l r ks[k]).2.1, .bool (mayM l r ks[k]).2.2], .func (.func 60) #[] #[]] U fun e w' => e = .returned (.agg #[.bool (togO acc (mayM l r ks[k])).1, .bool (togO acc (mayM l r ks[k])).2.1, .bool (togO acc (mayM l r ks[k])).2.2]) ∧ Below wr.heap.size wr w' ∧ (w'.cell? ⟨p5, 0, none⟩ = some (.bool acc.1) ∧ w'.cell? ⟨p5, 1, none⟩ = some (.bool acc.2.1) ∧ w'.cell? ⟨p5, 2, none⟩ = some (.bool acc.2.2) ∧ w'.cell? ⟨b, off + 5, none⟩ = some (.slice (some ⟨g, o, none⟩) ks.length cap)) ∧ (w'.frozen? ⟨p5, 0, none⟩ = false ∧ w'.frozen? ⟨p5, 1, none⟩ = false ∧ w'.frozen? ⟨p5, 2, none⟩ = false)) := hidden (fun U hU => by
          refine (togO_any acc (mayM l r ks[k]) U).mono ?_
          rintro e w6 ⟨rfl, hb6⟩
          have h7 := below_then hU hb6
          exact ⟨rfl, h7, HS.out _ h7, (HA.out.2.1.kept h7).facts.2.1⟩)
        generalize mayM l r ks[k] = ev at *
        generalize togO acc ev = NV at *
        obtain ⟨ac0, ac1, ac2⟩ := acc
        obtain ⟨ev0, ev1, ev2⟩ := ev
        obtain ⟨nv0, nv1, nv2⟩ := NV
        clear hlk HF x0 x1 x2 x3 x4 HS
        go_wp2_with fail
        go_region_with (first
          | (go_at_call 40; refine (HC.out _ ?_).mono ?_; (first | exact (Below.refl _ _).drew | exact below_drewN (Below.refl _ _) _); rintro e w6 ⟨rfl, hb6, hkk⟩; have HB6 := hidden hb6; clear hb6)
          | (go_at_call 58; refine (HTG.out _ ?_).mono ?_; (first | exact HB6.out | exact HB6.out.drew | exact below_drewN HB6.out _); rintro e w7 ⟨rfl, hb7, hkk7, hfz⟩; have HB7 := hidden hb7; clear hb7))
        all_goals clear hkk hkk7 hfz p0 p1 p2 t0 t1 t2 x5 HC HTG
        all_goals go_wp2_with fail
        all_goals go_roundw
        all_goals first | (case rel => exact ⟨k + 1, (nv0, nv1, nv2), by omega, by go_num, HT.out, (HA.out.kept HB7.out).put (nv0, nv1, nv2)⟩) | (case measure => simp [intOf]; omega)
      · obtain rfl : k = ks.length := by omega
        have hge : ¬ ((ks.length : Nat) : Int) < (ks.length : Int) := by omega
        have HT := hidden (HF.out.trans (mayOr_end acc))
        obtain ⟨⟨r0, r1, r2⟩, ⟨s0, s1, s2⟩, _⟩ := HA.out.2.2.1.facts
        have hne : ¬ p5 = w.heap.size := by have := HA.out.2.2.2; omega
        have hne2 : ¬ w.heap.size = p5 := by have := HA.out.2.2.2; omega
        clear HF
        go_wp2_with fail
        refine bodyPost_ret (v := .agg #[.bool acc.1, .bool acc.2.1, .bool acc.2.2]) (by simp [results, Try.results40, go_sem, r0, r1, r2, hne, hne2]) rfl ⟨?_, set3 HA.out.1 (Nat.le_refl _) _ _ _⟩
        rw [HT.out]
        rfl
  have n7 : ((op : Int) == 7) = false := beq_eq_false_iff_ne.2 (by omega)
  rw [if_neg h6, if_neg h7] at HD
  obtain ⟨⟨p0, p1, p2⟩, ⟨t0, t1, t2⟩, hpz⟩ := HF1.out.facts
  by_cases h8 : op = 8
  · subst h8
    rw [if_pos rfl] at HD
    cases ks with
    | nil =>
      have HD' : Hid (R = (false, true, false)) := hidden (by rw [HD.out]; simp only [mayNot])
      clear HD
      simp only [List.length_nil] at *
      go_enter Try.func40, Try.ntmps40
      go_wp2_with fail
      refine (only3_any 1 (by omega) _).mono ?_
      rintro e w1 ⟨rfl, hbw1⟩
      rw [show (decide (1 = 0)) = false from rfl, show (decide (1 = 1)) = true from rfl, show (decide (1 = 2)) = false from rfl]
      obtain ⟨⟨r0, r1, r2⟩, ⟨s0, s1, s2⟩, _⟩ := (HF1.out.kept hbw1).facts
      have HB2 := hidden (below_then HB1.out hbw1)
      clear hbw1 p0 p1 p2 t0 t1 t2 hA
      go_wp2_with fail
      refine bodyPost_ret (v := .agg #[.bool false, .bool true, .bool false]) (by simp [results, Try.results40, go_sem, r0, r1, r2]) rfl ⟨?_, set3 HB2.out (Nat.le_refl _) _ _ _⟩
      rw [HD'.out]
      rfl
    | cons k0 ks0 =>
      have HD' : Hid (R = conM (mayM l r k0)) := hidden (by rw [HD.out]; simp only [mayNot])
      obtain ⟨g, o, rfl, hlk⟩ := (HK0.out.kept HB1.out).at (i := 0) (by simp)
      have hlt' : (0 : Int) < ((k0 :: ks0).length : Int) := by simp only [List.length_cons]; omega
      have hz : (((k0 :: ks0).length : Int) == 0) = false := beq_eq_false_iff_ne.2 (by omega)
      have HC := hidden (HIH.out k0 (by simp) (HOK.out _ (by simp)) A g (o + 0 * 6) (HR0.out.kept HB1.out) (by simpa using hlk))
      rw [Nat.zero_mul, Nat.add_zero] at HC
      generalize mayM l r k0 = ev at *
      obtain ⟨ev0, ev1, ev2⟩ := ev
      clear hlk HD
      generalize (k0 :: ks0).length = n at *
      go_enter Try.func40, Try.ntmps40
      go_wp2_with fail
      refine HC.out.mono ?_
      rintro e w2 ⟨rfl, hb2⟩
      have HB2 := hidden (below_then HB1.out hb2)
      have HF2 := hidden (HF1.out.kept hb2)
      clear hb2 p0 p1 p2 t0 t1 t2 hA
      unfold b3V
      go_wp2_with fail
      refine (contr_any ev0 ev1 ev2 _).mono ?_
      rintro e w3 ⟨rfl, hb3⟩
      obtain ⟨⟨r0, r1, r2⟩, ⟨s0, s1, s2⟩, _⟩ := (HF2.out.kept hb3).facts
      have HB3 := hidden (below_then HB2.out hb3)
      clear hb3
      go_wp2_with fail
      refine bodyPost_ret (v := .agg #[.bool ev2, .bool ev1, .bool ev0]) (by simp [results, Try.results40, go_sem, r0, r1, r2]) rfl ⟨?_, set3 HB3.out (Nat.le_refl _) _ _ _⟩
      rw [HD'.out]
      rfl
  · have n8 : ((op : Int) == 8) = false := beq_eq_false_iff_ne.2 (by omega)
    rw [if_neg h8] at HD
    clear h6 h7 h8
    have HC := hidden (answersOfField_any (HR0.out.kept HB1.out) (HN0.out.kept HB1.out) HOC.out HFR.out)
    generalize mleafM l r op f c = ev at *
    obtain ⟨ev0, ev1, ev2⟩ := ev
    go_enter Try.func40, Try.ntmps40
    go_wp2_with fail
    refine HC.out.mono ?_
    rintro e w2 ⟨rfl, hb2⟩
    have HB2 := hidden (below_then HB1.out hb2)
    have HF2 := hidden (HF1.out.kept hb2)
    obtain ⟨⟨r0, r1, r2⟩, ⟨s0, s1, s2⟩, _⟩ := HF2.out.facts
    clear hb2 p0 p1 p2 t0 t1 t2 hA
    unfold b3V
    go_wp2_with fail
    refine bodyPost_ret (v := .agg #[.bool ev0, .bool ev1, .bool ev2]) (by simp [results, Try.results40, go_sem, r0, r1, r2]) rfl ⟨?_, set3 HB2.out (Nat.le_refl _) _ _ _⟩
    rw [HD.out]
    rfl
end Go.Proofs.Ytfcnoeehfhncjaa
