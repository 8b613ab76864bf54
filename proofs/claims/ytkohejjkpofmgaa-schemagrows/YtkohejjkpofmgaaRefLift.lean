/- Contracts: the document's Lift. -/
import Derived.Test.YtkohejjkpofmgaaFit
import Derived.Test.YtkohejjkpofmgaaStill
set_option linter.unusedVariables false
set_option linter.unusedSimpArgs false
namespace Go.Proofs.Ytkohejjkpofmgaa
open Go.RowKit Go.Lib

theorem liftM_length (frm to : List Fd) (row : List Cl) : (liftM frm to row).length = to.length := by unfold liftM; simp
theorem liftM_take {frm to : List Fd} {row : List Cl} {k : Nat} (h : k < to.length) : liftM frm (to.take (k + 1)) row = liftM frm (to.take k) row ++ [atM frm row to[k]] := by
  unfold liftM
  rw [List.take_succ_eq_append_getElem h, List.map_append]
  rfl
theorem atM_none {frm : List Fd} {row : List Cl} {f : Fd} (h : place frm f.1 = none) : atM frm row f = nul := by unfold atM; rw [h]
theorem atM_past {frm : List Fd} {row : List Cl} {f : Fd} {k : Nat} (h : place frm f.1 = some k) (hk : ¬ k < row.length) : atM frm row f = nul := by
  unfold atM; rw [h]
  simp only
  rw [List.getD_eq_getElem?_getD, List.getElem?_eq_none (by omega)]
  rfl
theorem atM_at {frm : List Fd} {row : List Cl} {f : Fd} {k : Nat} (h : place frm f.1 = some k) (hk : k < row.length) : atM frm row f = row[k] := by
  unfold atM; rw [h]
  simp only
  rw [List.getD_eq_getElem?_getD, List.getElem?_eq_getElem hk]
  rfl

set_option maxRecDepth 100000 in
set_option maxHeartbeats 4000000 in
theorem refLift_any {w : World} {v1 v2 rv : Value} {l m : List Fd} {r : List Cl} (h1 : Sf w v1 l) (h2 : Sf w v2 m) (hr : Sc w rv r) (hm : m.length ≤ 100) (i1 i2 : Nat) :
    Calls Try.prog 25 #[.agg #[.int .u32 (i1 : Int), v1], .agg #[.int .u32 (i2 : Int), v2], rv] w fun e w' => (∃ v', e = .returned v' ∧ OwnC w' w.heap.size v' (liftM l m r)) ∧ Below w.heap.size w w' := by
  obtain ⟨a, cap, rfl, hcap, hcm⟩ := h1.form
  obtain ⟨a2, cap2, rfl, hcap2, hcm2⟩ := h2.form
  obtain ⟨ra, rcap, rfl, hrcap, hrcm⟩ := hr.form
  have hrcm' : rcap ≤ 9223372036854775807 := by unfold maxLen at hrcm; omega
  have hbW : Below w.heap.size w ((w.alloc (.cells #[.int .u32 (i1 : Int), .slice a l.length cap] 25)).alloc (.cells #[.int .u32 (i2 : Int), .slice a2 m.length cap2] 25)) := ((Below.refl _ _).alloc (Nat.le_refl _) _).alloc (by rw [World.size_alloc]; omega) _
  have HBW := hidden hbW
  have HS1 := hidden (h1.kept hbW)
  have HS2 := hidden (h2.kept hbW)
  have HR := hidden (hr.kept hbW)
  obtain ⟨c0, c1⟩ := cell_new2 w (.int .u32 (i1 : Int)) (.slice a l.length cap) 25
  have hz0 : (w.alloc (.cells #[.int .u32 (i1 : Int), .slice a l.length cap] 25)).heap.size = w.heap.size + 1 := World.size_alloc _ _
  have hb1 := below_one (w.alloc (.cells #[.int .u32 (i1 : Int), .slice a l.length cap] 25)) (.cells #[.int .u32 (i2 : Int), .slice a2 m.length cap2] 25)
  have p0 := (hb1.cell (p := ⟨w.heap.size, 0, none⟩) (show w.heap.size < _ by omega)).trans c0
  have p1 := (hb1.cell (p := ⟨w.heap.size, 1, none⟩) (show w.heap.size < _ by omega)).trans c1
  obtain ⟨e0, e1⟩ := cell_new2 (w.alloc (.cells #[.int .u32 (i1 : Int), .slice a l.length cap] 25)) (.int .u32 (i2 : Int)) (.slice a2 m.length cap2) 25
  rw [hz0] at e0 e1
  have hzW : w.heap.size + 1 < ((w.alloc (.cells #[.int .u32 (i1 : Int), .slice a l.length cap] 25)).alloc (.cells #[.int .u32 (i2 : Int), .slice a2 m.length cap2] 25)).heap.size := by rw [World.size_alloc, World.size_alloc]; omega
  clear h1 h2 hr hb1 c0 c1 hbW
  generalize hW : (w.alloc (.cells #[.int .u32 (i1 : Int), .slice a l.length cap] 25)).alloc (.cells #[.int .u32 (i2 : Int), .slice a2 m.length cap2] 25) = W at *
  go_enter Try.func25, Try.ntmps25
  go_wp2_with fail
  try rw [hW]
  clear hW
  go_loopw [7, 8] (fun o i wr => ∃ k : Nat, k ≤ m.length ∧ i = .int .i64 (k : Int) ∧ OwnC wr W.heap.size o (liftM l (m.take k) r) ∧ Below W.heap.size W wr) (fun _ i _ => m.length - (intOf i).toNat)
  case atStart => exact ⟨0, by omega, rfl, OwnC.nil _ _, Below.refl _ _⟩
  case round =>
    obtain ⟨k, hk, rfl, hown, hbel⟩ := hrel
    have HO := hidden hown
    have HB := hidden hbel
    have hzr := hbel.size
    have q0 := (hbel.cell (p := ⟨w.heap.size, 0, none⟩) (show w.heap.size < _ by omega)).trans p0
    have q1 := (hbel.cell (p := ⟨w.heap.size, 1, none⟩) (show w.heap.size < _ by omega)).trans p1
    have q2 := (hbel.cell (p := ⟨w.heap.size + 1, 1, none⟩) hzW).trans e1
    clear hown hbel
    by_cases hlt : k < m.length
    · obtain ⟨b, off, rfl, hb, x0, x1, x2, x3⟩ := (HS2.out.kept HB.out).at hlt
      have hlt' : (k : Int) < (m.length : Int) := by omega
      have hknn : (0 : Int) ≤ (k : Int) := by omega
      have HLT := hidden (liftM_take (frm := l) (row := r) hlt)
      have hlen : (liftM l (m.take k) r).length ≤ 100000 := by rw [liftM_length, List.length_take]; omega
      have HAN := hidden (atM_none (frm := l) (row := r) (f := m[k]))
      have HAP := hidden (fun j => atM_past (frm := l) (row := r) (f := m[k]) (k := j))
      have HAA := hidden (fun j => atM_at (frm := l) (row := r) (f := m[k]) (k := j))
      have HPL := hidden (fun (U : World) (hU : Below wr.heap.size wr U) => refPlace_any ((HS1.out.kept HB.out).kept hU) i1 m[k].1)
      generalize atM l r m[k] = AT at *
      generalize m[k].1 = fid at *
      generalize liftM l (m.take k) r = LL at *
      have hr0 : ∀ s : SubW (fun x => Below wr.heap.size wr x), s.w.cell? ⟨w.heap.size, 0, none⟩ = some (.int .u32 (i1 : Int)) := fun s => (s.ok.cell (p := ⟨w.heap.size, 0, none⟩) (show w.heap.size < _ by omega)).trans q0
      have hr1 : ∀ s : SubW (fun x => Below wr.heap.size wr x), s.w.cell? ⟨w.heap.size, 1, none⟩ = some (.slice a l.length cap) := fun s => (s.ok.cell (p := ⟨w.heap.size, 1, none⟩) (show w.heap.size < _ by omega)).trans q1
      have hr2 : ∀ s : SubW (fun x => Below wr.heap.size wr x), s.w.cell? ⟨w.heap.size + 1, 1, none⟩ = some (.slice (some ⟨b, off, none⟩) m.length cap2) := fun s => (s.ok.cell (p := ⟨w.heap.size + 1, 1, none⟩) (show w.heap.size + 1 < _ by omega)).trans q2
      have hr3 : ∀ s : SubW (fun x => Below wr.heap.size wr x), s.w.cell? ⟨b, off + k * 4, none⟩ = some (.int .u32 (fid : Int)) := fun s => (s.ok.cell (p := ⟨b, off + k * 4, none⟩) hb).trans x0
      haveI : Nonempty (SubW (fun x => Below wr.heap.size wr x)) := ⟨SubW.mk wr (Below.refl _ _)⟩
      go_wp2_with fail
      refine wp_region_still (S := fun x => Below wr.heap.size wr x) (by kernel_rfl) (by kernel_rfl) (Below.refl _ _).drew ?_
      repeat (go_big_quiet_step ((go_at_call 17; exact (HPL.out _ (SubW.ok _)).mono (fun e w' h => ⟨h.1, SubW.mk w' (below_then (SubW.ok _) h.2), rfl⟩))))
      refine wpQuiet_nil ?_
      rintro _ ⟨s2, rfl⟩
      obtain ⟨w2, hw2⟩ : ∃ x, x = s2.w := ⟨_, rfl⟩
      have hb2 := s2.ok
      rw [← hw2] at hb2 ⊢
      have HB2 := hidden (HB.out.trans (hb2.mono hzr))
      have HO2 := hidden (HO.out.kept hb2)
      have HR2 := hidden ((HR.out.kept HB.out).kept hb2)
      have hz2 := hb2.size
      clear hw2 hb2 hr0 hr1 hr2 hr3 x0 x1 x2 x3 q0 q1 q2
      cases hp : place l fid with
      | none =>
        have HA := hidden (HAN.out hp)
        have hpz : plz (none : Option Nat) = -1 := rfl
        rw [hpz]
        have HCN := hidden (cell_new3 w2 (.int .u8 0) (.int .i64 0) (.string ⟨#[]⟩) 78)
        clear hp HAN HAP HAA hpz
        go_wp2_with (first | (at_builtin; refine wpList_append_c rfl _ _ rfl W.heap.size _ _ nul LL rfl (HO2.out.kept (below_one _ _)) rfl HCN.out.1 HCN.out.2.1 HCN.out.2.2 hlen ?c2 ?_))
        case c2 => first | omega | (rw [World.size_alloc]; omega)
        intro v' w5 o5 b5
        have HO5 := hidden o5
        have HB5 := hidden ((HB2.out.alloc HB2.out.size _).trans b5)
        clear o5 b5
        go_wp2_with fail
        go_roundw
        case rel => exact ⟨k + 1, by omega, by go_num, by rw [HLT.out, HA.out]; exact HO5.out, HB5.out⟩
        case measure => simp [intOf]; omega
      | some j =>
        have hpz : plz (some j) = (j : Int) := rfl
        rw [hpz]
        have hj0 : ¬ (j : Int) < 0 := by omega
        by_cases hjr : j < r.length
        · have HA := hidden (HAA.out j hp hjr)
          obtain ⟨rb, roff, rfl, hrb, y0, y1, y2⟩ := HR2.out.at hjr
          have hj1 : ¬ (j : Int) ≥ (r.length : Int) := by omega
          have hj2 : (j : Int) < (r.length : Int) := by omega
          have HCN := hidden (fun x y z => cell_new3 w2 x y z 78)
          rw [txt_eq] at y2
          clear hp HAN HAP HAA hpz
          generalize r[j] = cc at *
          obtain ⟨ck, cn, cs⟩ := cc
          simp only at *
          generalize hbs : bytesT cs = S at *
          have HCN' := hidden (HCN.out (.int .u8 (ck : Int)) (.int .i64 cn) (.string S))
          have HTX : Hid (txt cs = .string S) := hidden (by rw [txt_eq, hbs])
          clear hbs HCN
          go_wp2_with (first | (at_builtin; refine wpList_append_c rfl _ _ rfl W.heap.size _ _ (ck, cn, cs) LL rfl ?d0 rfl ?d1 ?d2 ?d3 hlen ?c2 ?_))
          case d0 => exact HO2.out.kept (below_one _ _)
          case d3 => first | (rw [HTX.out]; done) | (rw [HTX.out]; exact HCN'.out.2.2)
          case c2 => first | omega | (rw [World.size_alloc]; omega)
          intro v' w5 o5 b5
          have HO5 := hidden o5
          have HB5 := hidden ((HB2.out.alloc HB2.out.size _).trans b5)
          clear o5 b5
          go_wp2_with fail
          go_roundw
          case rel => exact ⟨k + 1, by omega, by go_num, by rw [HLT.out, HA.out]; exact HO5.out, HB5.out⟩
          case measure => simp [intOf]; omega
        · have HA := hidden (HAP.out j hp hjr)
          have hj1 : (j : Int) ≥ (r.length : Int) := by omega
          have hj1n : r.length ≤ j := by omega
          have hj1d : decide ((r.length : Int) ≤ (j : Int)) = true := decide_eq_true (by omega)
          have HCN := hidden (cell_new3 w2 (.int .u8 0) (.int .i64 0) (.string ⟨#[]⟩) 78)
          clear hp HAN HAP HAA hpz hjr
          go_wp2_with (first | (at_builtin; refine wpList_append_c rfl _ _ rfl W.heap.size _ _ nul LL rfl (HO2.out.kept (below_one _ _)) rfl HCN.out.1 HCN.out.2.1 HCN.out.2.2 hlen ?c2 ?_))
          case c2 => first | omega | (rw [World.size_alloc]; omega)
          intro v' w5 o5 b5
          have HO5 := hidden o5
          have HB5 := hidden ((HB2.out.alloc HB2.out.size _).trans b5)
          clear o5 b5
          go_wp2_with fail
          go_roundw
          case rel => exact ⟨k + 1, by omega, by go_num, by rw [HLT.out, HA.out]; exact HO5.out, HB5.out⟩
          case measure => simp [intOf]; omega
    · obtain rfl : k = m.length := by omega
      rw [List.take_length] at HO
      have hge : ¬ ((m.length : Nat) : Int) < (m.length : Int) := by omega
      go_wp2_with fail
      go_ret
      exact ⟨⟨_, rfl, own_low HO.out HBW.out.size⟩, below_then HBW.out HB.out⟩
end Go.Proofs.Ytkohejjkpofmgaa
