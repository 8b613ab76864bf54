/- Contracts: the document's Add. -/
import Derived.Test.YtkohejjkpofmgaaRefChk
import Derived.Test.YtkohejjkpofmgaaAdd
set_option linter.unusedVariables false
set_option linter.unusedSimpArgs false
namespace Go.Proofs.Ytkohejjkpofmgaa
open Go.RowKit Go.Lib

theorem size_setCell (w : World) (a : Addr) (v : Value) : w.heap.size ≤ (w.setCell a v).heap.size := ((Below.refl 0 w).setCell (p := a) (Nat.zero_le _) v).size
theorem le_trans' {a b c : Nat} (h : a ≤ b) (h2 : b ≤ c) : a ≤ c := Nat.le_trans h h2

set_option maxRecDepth 100000 in
set_option maxHeartbeats 4000000 in
theorem refAdd_any {w : World} {v : Value} {l : List Fd} (hs : Sf w v l) (id : Nat) (hid : id < 4294967296) (hol : ∀ f ∈ l, Okf f) (n : ByteArray) (k : Nat) (hk : k < 256) :
    Calls Try.prog 12 #[.agg #[.int .u32 (id : Int), v], .string n, .int .i64 (k : Int)] w (AddPost w (addM id l n k)) := by
  obtain ⟨a, cap, rfl, hcap, hcm⟩ := hs.form
  have hbW : Below w.heap.size w ((w.alloc (.cells #[.int .u32 (id : Int), .slice a l.length cap] 25)).alloc (.cells #[.int .u32 0, .slice none 0 0] 25)) := ((Below.refl _ _).alloc (Nat.le_refl _) _).alloc (by rw [World.size_alloc]; omega) _
  have HS := hidden (hs.kept hbW)
  have HBW := hidden hbW
  obtain ⟨c0, c1⟩ := cell_new2 w (.int .u32 (id : Int)) (.slice a l.length cap) 25
  have hz0 : (w.alloc (.cells #[.int .u32 (id : Int), .slice a l.length cap] 25)).heap.size = w.heap.size + 1 := World.size_alloc _ _
  have hz : ((w.alloc (.cells #[.int .u32 (id : Int), .slice a l.length cap] 25)).alloc (.cells #[.int .u32 0, .slice none 0 0] 25)).heap.size = w.heap.size + 2 := by rw [World.size_alloc, World.size_alloc]
  have hb1 := below_one (w.alloc (.cells #[.int .u32 (id : Int), .slice a l.length cap] 25)) (.cells #[.int .u32 0, .slice none 0 0] 25)
  have d0 := (hb1.cell (p := ⟨w.heap.size, 0, none⟩) (show w.heap.size < _ by omega)).trans c0
  have d1 := (hb1.cell (p := ⟨w.heap.size, 1, none⟩) (show w.heap.size < _ by omega)).trans c1
  have hh := heap_alloc_new (w.alloc (.cells #[.int .u32 (id : Int), .slice a l.length cap] 25)) (.cells #[.int .u32 0, .slice none 0 0] 25)
  rw [hz0] at hh
  clear hb1 c0 c1
  generalize hW : (w.alloc (.cells #[.int .u32 (id : Int), .slice a l.length cap] 25)).alloc (.cells #[.int .u32 0, .slice none 0 0] 25) = W at *
  have HD : Hid (∀ w1, Below W.heap.size W w1 → (w1.cell? ⟨w.heap.size, 0, none⟩ = some (.int .u32 (id : Int)) ∧ w1.cell? ⟨w.heap.size, 1, none⟩ = some (.slice a l.length cap)) ∧ (w1.cell? ⟨w.heap.size + 1, 0, none⟩ = some (.int .u32 0) ∧ w1.cell? ⟨w.heap.size + 1, 1, none⟩ = some (.slice none 0 0)) ∧ w1.frozen? ⟨w.heap.size + 1, 0, none⟩ = false ∧ w1.frozen? ⟨w.heap.size + 1, 1, none⟩ = false) := hidden (fun w1 h => by
    have hh1 : w1.heap[w.heap.size + 1]? = some (.cells #[.int .u32 0, .slice none 0 0] 25) := (h.block (w.heap.size + 1) (by omega)).trans hh
    exact ⟨⟨(h.cell (p := ⟨w.heap.size, 0, none⟩) (show w.heap.size < _ by omega)).trans d0, (h.cell (p := ⟨w.heap.size, 1, none⟩) (show w.heap.size < _ by omega)).trans d1⟩, ⟨by rw [cell_block hh1]; rfl, by rw [cell_block hh1]; rfl⟩, by simp [World.frozen?, hh1], by simp [World.frozen?, hh1]⟩)
  have HC := hidden (refCheck_any HS.out id)
  have HAM : Hid (addM id l n k = if chk id l ≠ 0 then (0, [], chk id l) else if fullB id l = true then (0, [], 4) else if free l n = false then (0, [], 80) else if kindB k = false then (0, [], 10) else (id + 1, l ++ [(lastI l + 1, n, k, false)], 0)) := hidden rfl
  generalize addM id l n k = R at *
  generalize hcid : chk id l = cc at *
  clear hs hbW hh
  have HNA := hidden (named_any n)
  have HHA := hidden (fun w1 (h : Below W.heap.size W w1) => has_any (HS.out.kept h) n)
  have hsz0 : w.heap.size ≤ w.heap.size + 1 := by omega
  have HFREE : Hid (free l n = (named n && !hasN l n)) := hidden rfl
  go_enter Try.func12, Try.ntmps12
  go_wp2_with fail
  try rw [hW]
  clear hW
  refine HC.out.mono ?_
  rintro e w1 ⟨rfl, hb1⟩
  obtain ⟨⟨e0, e1⟩, ⟨r0, r1⟩, f0, f1⟩ := HD.out _ hb1
  have HB1 := hidden hb1
  clear d0 d1 hb1
  by_cases h0 : cc = 0
  · subst h0
    have hr := chk_rise hcid
    have hl8 : l.length ≤ 8 := hr.2.2.1
    have hl0 : 0 < l.length := hr.2.1
    clear hcid hr
    rw [if_neg (by omega)] at HAM
    obtain ⟨b, off, rfl, hb, x0, x1, x2, x3⟩ := (HS.out.kept HB1.out).at (k := l.length - 1) (by omega)
    have HLG := hidden (lastI_get hl0)
    have hlalt : lastI l < 4294967296 := by
      have h2 := lastI_get hl0
      have h3 := (hol _ (List.getElem_mem (show l.length - 1 < l.length by omega))).1
      omega
    obtain ⟨m, hm⟩ : ∃ m, l.length = m + 1 := ⟨l.length - 1, by omega⟩
    have e1m : l.length - 1 = m := by omega
    have hq : ((l.length : Int) - 1) = (m : Int) := by omega
    have hml : (m : Int) < (l.length : Int) := by omega
    rw [← HLG.out] at x0
    rw [e1m] at x0
    generalize hla : lastI l = la at *
    have HLA := hidden hla
    clear x1 x2 x3 e1m hla
    have HFU : Hid (fullB id l = decide (l.length = 8 ∨ id = 4294967295 ∨ la = 4294967295)) := hidden (by unfold fullB; rw [HLA.out])
    by_cases hfd : l.length = 8 ∨ id = 4294967295 ∨ la = 4294967295
    · rw [if_pos (by rw [HFU.out]; exact decide_eq_true hfd)] at HAM
      by_cases p1 : l.length = 8
      · have p1' : ((l.length : Int) == 8) = true := by rw [p1]; rfl
        clear hfd p1 hm
        go_wp2_with fail
        refine bodyPost_ret (v := .tuple #[.agg #[.int .u32 0, .slice none 0 0], .int .i64 4]) (by simp [results, Try.results12, go_sem, r0, r1]) rfl ?_
        rw [HAM.out]
        exact ⟨⟨_, rfl, OwnF.nil _ _⟩, below_set2 (below_then HBW.out HB1.out) hsz0 _ _⟩
      · have p1' : ((l.length : Int) == 8) = false := beq_eq_false_iff_ne.2 (by omega)
        by_cases p2 : la = 4294967295
        · have p2' : ((la : Int) == 4294967295) = true := by rw [p2]; rfl
          clear hfd p1 hm p2
          go_wp2_with fail
          refine bodyPost_ret (v := .tuple #[.agg #[.int .u32 0, .slice none 0 0], .int .i64 4]) (by simp [results, Try.results12, go_sem, r0, r1]) rfl ?_
          rw [HAM.out]
          exact ⟨⟨_, rfl, OwnF.nil _ _⟩, below_set2 (below_then HBW.out HB1.out) hsz0 _ _⟩
        · have p2' : ((la : Int) == 4294967295) = false := beq_eq_false_iff_ne.2 (by omega)
          have p3' : ((id : Int) == 4294967295) = true := by rw [show id = 4294967295 by omega]; rfl
          clear hfd p1 hm p2
          go_wp2_with fail
          refine bodyPost_ret (v := .tuple #[.agg #[.int .u32 0, .slice none 0 0], .int .i64 4]) (by simp [results, Try.results12, go_sem, r0, r1]) rfl ?_
          rw [HAM.out]
          exact ⟨⟨_, rfl, OwnF.nil _ _⟩, below_set2 (below_then HBW.out HB1.out) hsz0 _ _⟩
    · rw [if_neg (by rw [HFU.out, decide_eq_false hfd]; simp)] at HAM
      have p1' : ((l.length : Int) == 8) = false := beq_eq_false_iff_ne.2 (by omega)
      have p2' : ((la : Int) == 4294967295) = false := beq_eq_false_iff_ne.2 (by omega)
      have p3' : ((id : Int) == 4294967295) = false := beq_eq_false_iff_ne.2 (by omega)
      have hla1 : la + 1 < 4294967296 := by omega
      have hid1 : id + 1 < 4294967296 := by omega
      clear hfd hm
      go_wp2_with fail
      refine (HNA.out _).mono ?_
      rintro e w2 ⟨rfl, hb2⟩
      have HB2 := hidden (below_then HB1.out hb2)
      clear e0 e1 r0 r1 f0 f1 hb2 x0 hq hml
      obtain ⟨⟨e0, e1⟩, ⟨r0, r1⟩, f0, f1⟩ := HD.out _ HB2.out
      cases hnm : named n with
      | false =>
        rw [hnm] at HFREE
        rw [if_pos (by rw [HFREE.out]; rfl)] at HAM
        clear hnm
        go_wp2_with fail
        refine bodyPost_ret (v := .tuple #[.agg #[.int .u32 0, .slice none 0 0], .int .i64 80]) (by simp [results, Try.results12, go_sem, r0, r1]) rfl ?_
        rw [HAM.out]
        exact ⟨⟨_, rfl, OwnF.nil _ _⟩, below_set2 (below_then HBW.out HB2.out) hsz0 _ _⟩
      | true =>
        rw [hnm] at HFREE
        clear hnm
        go_wp2_with fail
        refine (HHA.out _ HB2.out).mono ?_
        rintro e w3 ⟨rfl, rfl⟩
        cases hha : hasN l n with
        | true =>
          rw [hha] at HFREE
          rw [if_pos (by rw [HFREE.out]; rfl)] at HAM
          clear hha
          go_wp2_with fail
          refine bodyPost_ret (v := .tuple #[.agg #[.int .u32 0, .slice none 0 0], .int .i64 80]) (by simp [results, Try.results12, go_sem, r0, r1]) rfl ?_
          rw [HAM.out]
          exact ⟨⟨_, rfl, OwnF.nil _ _⟩, below_set2 (below_then HBW.out HB2.out) hsz0 _ _⟩
        | false =>
          rw [hha] at HFREE
          rw [if_neg (by rw [HFREE.out]; simp)] at HAM
          clear hha
          by_cases hkd : kindB k = false
          · rw [if_pos hkd] at HAM
            have hkd' : k = 0 ∨ 3 < k := by
              unfold kindB at hkd
              have := of_decide_eq_false hkd
              omega
            clear hkd
            rcases hkd' with q | q
            · have q1 : (k : Int) < 1 := by omega
              clear q
              go_wp2_with fail
              refine bodyPost_ret (v := .tuple #[.agg #[.int .u32 0, .slice none 0 0], .int .i64 10]) (by simp [results, Try.results12, go_sem, r0, r1]) rfl ?_
              rw [HAM.out]
              exact ⟨⟨_, rfl, OwnF.nil _ _⟩, below_set2 (below_then HBW.out HB2.out) hsz0 _ _⟩
            · have q1 : ¬ (k : Int) < 1 := by omega
              have q2 : (k : Int) > 3 := by omega
              clear q
              go_wp2_with fail
              refine bodyPost_ret (v := .tuple #[.agg #[.int .u32 0, .slice none 0 0], .int .i64 10]) (by simp [results, Try.results12, go_sem, r0, r1]) rfl ?_
              rw [HAM.out]
              exact ⟨⟨_, rfl, OwnF.nil _ _⟩, below_set2 (below_then HBW.out HB2.out) hsz0 _ _⟩
          · rw [if_neg hkd] at HAM
            have hkd' : 1 ≤ k ∧ k ≤ 3 := by
              unfold kindB at hkd
              simpa using hkd
            have q1 : ¬ (k : Int) < 1 := by omega
            have q2 : ¬ (k : Int) > 3 := by omega
            clear hkd
            have hw1 : IntKind.u32.wrap ((la : Int) + 1) = ((la + 1 : Nat) : Int) := by rw [IntKind.wrap_u32]; omega
            have hw2 : IntKind.u32.wrap ((id : Int) + 1) = ((id + 1 : Nat) : Int) := by rw [IntKind.wrap_u32]; omega
            have hw3 : IntKind.u8.wrap (k : Int) = (k : Int) := by rw [IntKind.wrap_u8]; omega
            generalize la + 1 = la1 at *
            generalize id + 1 = id1 at *
            have hb3 := below_one w3 (.cells #[.int .u32 (id1 : Int), .slice none 0 0] 25)
            have HS3 := hidden ((HS.out.kept HB2.out).kept hb3)
            have HB3 := hidden (below_then HB2.out hb3)
            have hsz3 : (w3.alloc (.cells #[.int .u32 (id1 : Int), .slice none 0 0] 25)).heap.size = w3.heap.size + 1 := World.size_alloc _ _
            have hw3s := HB2.out.size
            have hh3 := heap_alloc_new w3 (.cells #[.int .u32 (id1 : Int), .slice none 0 0] 25)
            have hpB : w3.heap.size < (w3.heap.size + 1) := by omega
            have hWp : W.heap.size ≤ w3.heap.size := hw3s
            obtain ⟨⟨s0, s1⟩, _⟩ := HD.out _ HB3.out
            have HH3 := hidden hh3
            have hh3' := hh3
            clear hh3
            have hz0 : (w3.alloc (.cells #[.int .u32 (id1 : Int), .slice none 0 0] 25)).cell? ⟨w3.heap.size, 0, none⟩ = some (.int .u32 (id1 : Int)) := by rw [cell_block hh3']; rfl
            have hz1 : (w3.alloc (.cells #[.int .u32 (id1 : Int), .slice none 0 0] 25)).cell? ⟨w3.heap.size, 1, none⟩ = some (.slice none 0 0) := by rw [cell_block hh3']; rfl
            have HVB := hidden (Nat.le_refl (w3.heap.size + 1))
            have HSZ3 := hidden hsz3
            have hltw : w.heap.size < w3.heap.size := by omega
            have hltq : w.heap.size + 1 < w3.heap.size := by omega
            clear hsz3 hb3 hh3' s0 s1 hz0 hz1
            go_wp2_with (first | (at_builtin; refine wpList_append_fs rfl _ _ rfl (w3.heap.size + 1) _ _ [] l rfl ?q1 rfl ?q2 ?c1 ?c2 ?_))
            case q1 => exact OwnF.nil _ _
            case q2 => exact HS3.out
            case c1 => simp; omega
            case c2 => first | exact HVB.out | (rw [World.size_alloc]; exact HVB.out) | omega
            intro v4 w4 o4 hb4
            try rw [List.nil_append] at o4
            obtain ⟨a4, cap4, rfl, _, _⟩ := own_slice o4
            have hh4 : w4.heap[w3.heap.size]? = some (.cells #[.int .u32 (id1 : Int), .slice none 0 0] 25) := (hb4.block _ hpB).trans HH3.out
            have y0 : w4.cell? ⟨w3.heap.size, 0, none⟩ = some (.int .u32 (id1 : Int)) := by rw [cell_block hh4]; rfl
            have y1 : w4.cell? ⟨w3.heap.size, 1, none⟩ = some (.slice none 0 0) := by rw [cell_block hh4]; rfl
            have z1 : w4.frozen? ⟨w3.heap.size, 1, none⟩ = false := by simp [World.frozen?, hh4]
            have HB4 := hidden (HB3.out.trans (hb4.mono (Nat.le_succ_of_le hWp)))
            have ho4' : OwnF (w4.setCell ⟨w3.heap.size, 1, none⟩ (.slice a4 l.length cap4)) (w3.heap.size + 1) (.slice a4 l.length cap4) l := Fr.own ((Fr.refl w3.heap.size w4.heap.size w4).set 1 (.slice a4 l.length cap4)) o4 hpB
            have HO4 := hidden (ho4'.kept (below_one _ (.cells #[.int .u32 (la1 : Int), .string n, .int .u8 (k : Int), .bool false] 67)))
            clear ho4'
            have HL4 := hidden ((lit_one (w4.setCell ⟨w3.heap.size, 1, none⟩ (.slice a4 l.length cap4)) (la1, n, k, false)).sf)
            have hh5 := heap_set hh4 1 (.slice a4 l.length cap4)
            have HBU := hidden ((HB4.out.setCell (p := ⟨w3.heap.size, 1, none⟩) hWp (.slice a4 l.length cap4)).alloc (le_trans' HB4.out.size (size_setCell _ _ _)) (.cells #[.int .u32 (la1 : Int), .string n, .int .u8 (k : Int), .bool false] 67))
            have hsz4 : w3.heap.size + 1 ≤ w4.heap.size := by have := hb4.size; rw [World.size_alloc] at this; exact this
            have hszU : (w3.heap.size + 1) ≤ (w4.setCell ⟨w3.heap.size, 1, none⟩ (.slice a4 l.length cap4)).heap.size := Nat.le_trans hsz4 (size_setCell _ _ _)
            have HU5 : Hid (∀ w5 v5, OwnF w5 (w3.heap.size + 1) v5 (l ++ [(la1, n, k, false)]) → Below (w3.heap.size + 1) ((w4.setCell ⟨w3.heap.size, 1, none⟩ (.slice a4 l.length cap4)).alloc (.cells #[.int .u32 (la1 : Int), .string n, .int .u8 (k : Int), .bool false] 67)) w5 → ∃ a5 cap5, v5 = .slice a5 (l.length + 1) cap5 ∧ (w5.cell? ⟨w3.heap.size, 0, none⟩ = some (.int .u32 (id1 : Int)) ∧ w5.cell? ⟨w3.heap.size, 1, none⟩ = some (.slice a4 l.length cap4)) ∧ w5.frozen? ⟨w3.heap.size, 1, none⟩ = false ∧ Below W.heap.size W w5) := hidden (fun w5 v5 o5 hb5 => by
              obtain ⟨a5, cap5, hv, _, _⟩ := own_slice o5
              rw [List.length_append, List.length_singleton] at hv
              have hh6 : w5.heap[w3.heap.size]? = some (.cells #[.int .u32 (id1 : Int), .slice a4 l.length cap4] 25) := by
                rw [hb5.block _ hpB, (below_one _ _).block _ (Nat.lt_of_lt_of_le hpB hszU), hh5]
                rfl
              exact ⟨a5, cap5, hv, ⟨by rw [cell_block hh6]; rfl, by rw [cell_block hh6]; rfl⟩, by simp [World.frozen?, hh6], HBU.out.trans (hb5.mono (Nat.le_succ_of_le hWp))⟩)
            have HSZ4 := hidden hsz4
            have hne1 : ¬ w3.heap.size = w.heap.size + 1 := by omega
            have hne2 : ¬ w.heap.size + 1 = w3.heap.size := by omega
            have hln : l.length + [(la1, n, k, false)].length ≤ 100000 := by rw [List.length_singleton]; omega
            clear hh4 hh5 o4 hb4 e0 e1 r0 r1 f0 f1 hsz4
            go_wp2_with (first | (at_builtin; refine wpList_append_fs rfl _ _ rfl (w3.heap.size + 1) _ _ l [(la1, n, k, false)] rfl ?q3 rfl ?q4 ?c3 ?c4 ?_))
            case q3 => exact HO4.out
            case q4 =>
              have hl4 := HL4.out
              first | exact hl4 | simpa using hl4
            case c3 => first | exact hln | omega
            case c4 => first | exact le_alloc hszU _ | (have := HSZ4.out; omega)
            intro v5 w5 o5 hb5
            obtain ⟨a5, cap5, rfl, ⟨y5, y6⟩, z5, hbW5⟩ := HU5.out _ _ o5 hb5
            obtain ⟨_, ⟨r0, r1⟩, f0, f1⟩ := HD.out _ hbW5
            have HO5 := hidden o5
            have HB5 := hidden hbW5
            clear o5 hb5 hbW5 y0 y1 z1
            go_wp2_with fail
            refine bodyPost_ret (v := .tuple #[.agg #[.int .u32 (id1 : Int), .slice a5 (l.length + 1) cap5], .int .i64 0]) (by simp [results, Try.results12, go_sem, r0, r1, hne1, hne2]) rfl ?_
            rw [HAM.out]
            refine ⟨⟨_, rfl, ?_⟩, below_set2 (below_then HBW.out (HB5.out.setCell (p := ⟨w3.heap.size, 1, none⟩) hWp _)) hsz0 _ _⟩
            have hpq : w.heap.size + 1 < (w3.heap.size + 1) := by have := HSZ3.out; omega
            refine (own_set2 (B := (w3.heap.size + 1)) ?_ hpq _ _).low (by have := HSZ3.out; omega)
            have h5 : OwnF (w5.setCell ⟨w3.heap.size, 1, none⟩ (.slice a5 (l.length + 1) cap5)) (w3.heap.size + 1) (.slice a5 (l.length + 1) cap5) (l ++ [(la1, n, k, false)]) := Fr.own ((Fr.refl w3.heap.size w5.heap.size w5).set 1 _) HO5.out hpB
            exact h5
  · clear hcid
    have h0' : ((cc : Int) != 0) = true := by simp [h0]
    rw [if_pos h0] at HAM
    clear h0 e0 e1
    go_wp2_with fail
    refine bodyPost_ret (v := .tuple #[.agg #[.int .u32 0, .slice none 0 0], .int .i64 (cc : Int)]) (by simp [results, Try.results12, go_sem, r0, r1]) rfl ?_
    rw [HAM.out]
    exact ⟨⟨_, rfl, OwnF.nil _ _⟩, below_set2 (below_then HBW.out HB1.out) hsz0 _ _⟩
end Go.Proofs.Ytkohejjkpofmgaa
