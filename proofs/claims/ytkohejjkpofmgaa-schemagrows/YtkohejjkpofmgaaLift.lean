/- Contracts: Lift. -/
import Derived.Test.YtkohejjkpofmgaaRefLift
import Derived.Deep.AppendLies
set_option linter.unusedVariables false
set_option linter.unusedSimpArgs false
namespace Go.Proofs.Ytkohejjkpofmgaa
open Go.RowKit Go.Lib

/-- A row of values as it is filled: what is there up to k, then nulls. -/
def fillV (x : List Cl) (n k : Nat) : List Cl := x.take k ++ List.replicate (n - k) nul
theorem vvals_nuls (n : Nat) : vvals (List.replicate n nul) = List.replicate n .nilIface := by simp [vvals, valC, nul]

theorem vvals_set (l : List Cl) (j : Nat) (c : Cl) : (vvals l).set j (valC c) = vvals (l.set j c) := by simp [vvals, List.map_set]
theorem fill_set {x : List Cl} {n k : Nat} (h : k < n) (hx : x.length = n) : (fillV x n k).set k (x[k]'(by omega)) = fillV x n (k + 1) := by
  unfold fillV
  have hl : (x.take k).length = k := by rw [List.length_take]; omega
  rw [List.set_append_right _ _ (by omega), hl, Nat.sub_self, show n - k = (n - (k + 1)) + 1 by omega, List.replicate_succ, List.set_cons_zero, List.take_succ_eq_append_getElem (by omega), List.append_assoc]
  rfl
theorem fill_nul {x : List Cl} {n k : Nat} (h : k < n) (hx : x.length = n) (hn : x[k]'(by omega) = nul) : fillV x n k = fillV x n (k + 1) := by
  unfold fillV
  rw [show n - k = (n - (k + 1)) + 1 by omega, List.replicate_succ, List.take_succ_eq_append_getElem (by omega), List.append_assoc, hn]
  rfl
theorem fill_length {x : List Cl} {n k : Nat} (h : k ≤ n) (hx : x.length = n) : (fillV x n k).length = n := by
  unfold fillV
  rw [List.length_append, List.length_take, List.length_replicate]
  omega
theorem OwnV.stored {W : World} {B g n cap : Nat} {l : List Cl} (h : OwnV W B (.slice (some ⟨g, 0, none⟩) n cap) l) (j : Nat) (c : Cl) : OwnV (W.setCell ⟨g, j, none⟩ (valC c)) B (.slice (some ⟨g, 0, none⟩) n cap) (l.set j c) := by
  have hn : n = l.length := by
    obtain ⟨a, cap, h1, _⟩ := own_slice h
    simp only [Value.slice.injEq] at h1
    exact h1.2.1
  subst hn
  unfold OwnV at *
  have := (h.stored j (valC c)).1
  rw [vvals_set] at this
  rw [List.length_set]
  exact this
theorem OwnV.at {W : World} {B g n cap : Nat} {l : List Cl} (h : OwnV W B (.slice (some ⟨g, 0, none⟩) n cap) l) {j : Nat} (hj : j < l.length) : W.cell? ⟨g, j, none⟩ = some (valC l[j]) ∧ W.frozen? ⟨g, j, none⟩ = false := by
  have hn : n = l.length := by
    obtain ⟨a, cap, h1, _⟩ := own_slice h
    simp only [Value.slice.injEq] at h1
    exact h1.2.1
  subst hn
  unfold OwnV at h
  exact ⟨(h.cellAt j (by omega)).trans (vvals_get hj), h.frozenAt j⟩
theorem OwnV.head {W : World} {B : Nat} {v : Value} {l : List Cl} (h : OwnV W B v l) (hp : 0 < l.length) : ∃ g cap, v = .slice (some ⟨g, 0, none⟩) l.length cap ∧ B ≤ g ∧ g < W.heap.size := by
  unfold OwnV at h
  exact World.ownsRow.form h hp

set_option maxRecDepth 100000 in
set_option maxHeartbeats 4000000 in
theorem lift_any {w : World} {v1 v2 rv : Value} {l m : List Fd} {r : List Cl} (h1 : Sf w v1 l) (h2 : Sf w v2 m) (hr : Sv w rv (vvals r)) (hm : m.length ≤ 100) (i1 i2 : Nat) :
    Calls Try.prog 24 #[.agg #[.int .u32 (i1 : Int), v1], .agg #[.int .u32 (i2 : Int), v2], rv] w fun e w' => (∃ v', e = .returned v' ∧ OwnV w' w.heap.size v' (liftM l m r)) ∧ Below w.heap.size w w' := by
  obtain ⟨a, cap, rfl, hcap, hcm⟩ := h1.form
  obtain ⟨a2, cap2, rfl, hcap2, hcm2⟩ := h2.form
  obtain ⟨ra, rcap, rfl, hrcap, hrcm⟩ := hr.form1
  rw [vvals_length] at *
  have hrcm' : rcap ≤ 9223372036854775807 := by unfold maxLen at hrcm; omega
  have hbW : Below w.heap.size w ((w.alloc (.cells #[.int .u32 (i1 : Int), .slice a l.length cap] 25)).alloc (.cells #[.int .u32 (i2 : Int), .slice a2 m.length cap2] 25)) := ((Below.refl _ _).alloc (Nat.le_refl _) _).alloc (by rw [World.size_alloc]; omega) _
  have HBW := hidden hbW
  have HS1 := hidden (h1.kept hbW)
  have HS2 := hidden (h2.kept hbW)
  have HR := hidden (hr.kept hbW)
  obtain ⟨c0, c1⟩ := cell_new2 w (.int .u32 (i1 : Int)) (.slice a l.length cap) 25
  have hz0 : (w.alloc (.cells #[.int .u32 (i1 : Int), .slice a l.length cap] 25)).heap.size = w.heap.size + 1 := World.size_alloc _ _
  have hb1 := below_one (w.alloc (.cells #[.int .u32 (i1 : Int), .slice a l.length cap] 25)) (.cells #[.int .u32 (i2 : Int), .slice a2 m.length cap2] 25)
  have p0 := (hb1.cell (p := ⟨w.heap.size, 0, none⟩) (show w.heap.size < _ by omega)).trans c0
  have p1 := (hb1.cell (p := ⟨w.heap.size, 1, none⟩) (show w.heap.size < _ by omega)).trans c1
  obtain ⟨e0, e1⟩ := cell_new2 (w.alloc (.cells #[.int .u32 (i1 : Int), .slice a l.length cap] 25)) (.int .u32 (i2 : Int)) (.slice a2 m.length cap2) 25
  rw [hz0] at e0 e1
  have hzW : w.heap.size + 1 < ((w.alloc (.cells #[.int .u32 (i1 : Int), .slice a l.length cap] 25)).alloc (.cells #[.int .u32 (i2 : Int), .slice a2 m.length cap2] 25)).heap.size := by rw [World.size_alloc, World.size_alloc]; omega
  clear h1 h2 hr hb1 c0 c1 hbW hrcm
  generalize hW : (w.alloc (.cells #[.int .u32 (i1 : Int), .slice a l.length cap] 25)).alloc (.cells #[.int .u32 (i2 : Int), .slice a2 m.length cap2] 25) = W at *
  obtain ⟨i0, hi, hzz0, hzz1, hzz2⟩ := info_parts info68
  have HX : Hid ((liftM l m r).length = m.length) := hidden (liftM_length l m r)
  have HXA : Hid (∀ k (h : k < m.length), (liftM l m r)[k]'(by rw [liftM_length]; exact h) = atM l r m[k]) := hidden (fun k h => by simp [liftM])
  go_enter Try.func24, Try.ntmps24
  go_wp2_with (first | (refine wpList_make_full _ rfl _ _ 43 rfl W.heap.size 68 i0 .nilIface 1 Try.underlying43 hi hzz0 hzz1 .i64 .i64 _ _ m.length rfl rfl ?m1 ?m2 ?m3 ?m4 ?m5 ?_))
  case m1 => first | rfl | omega
  case m2 => first | rfl | omega
  case m3 => rw [hzz2]; omega
  case m4 => unfold maxLen; omega
  case m5 => first | exact Nat.le_refl _ | (rw [hW]; exact Nat.le_refl _)
  try rw [hW]
  clear hW
  intro w1 ho1 hg1
  have hb1 : Below W.heap.size W w1 := (Below.refl _ _).grown hg1 (Nat.le_refl _) (fun k hk => by cases hk)
  have ho1' : OwnV w1 W.heap.size (.slice (some ⟨W.heap.size, 0, none⟩) m.length m.length) (fillV (liftM l m r) m.length 0) := by
    unfold OwnV
    rw [fill_length (Nat.zero_le _) HX.out]
    have e : vvals (fillV (liftM l m r) m.length 0) = (madeCells (Value.cells .nilIface) (m.length * 1)).toList := by
      rw [show Value.cells .nilIface = #[.nilIface] from rfl, toList_madeCells_one, Nat.mul_one]
      unfold fillV
      rw [List.take_zero, List.nil_append, Nat.sub_zero, vvals_nuls]
    rw [e]
    first | exact ho1 | (rw [Nat.mul_one]; exact ho1) | simpa using ho1
  have HO1 := hidden ho1'
  have HB1 := hidden hb1
  have s1 := (hb1.cell (p := ⟨w.heap.size + 1, 1, none⟩) hzW).trans e1
  clear ho1 hg1 ho1' hb1
  go_wp2_with fail
  go_loopw [19] (fun i wr => ∃ k : Nat, k ≤ m.length ∧ i = .int .i64 (k : Int) ∧ OwnV wr W.heap.size (.slice (some ⟨W.heap.size, 0, none⟩) m.length m.length) (fillV (liftM l m r) m.length k) ∧ Below W.heap.size W wr) (fun i _ => m.length - (intOf i).toNat)
  case atStart => exact ⟨0, by omega, rfl, HO1.out, HB1.out⟩
  case round =>
    obtain ⟨k, hk, rfl, hown, hbel⟩ := hrel
    have HO := hidden hown
    have HB := hidden hbel
    have hzr := hbel.size
    have q0 := (hbel.cell (p := ⟨w.heap.size, 0, none⟩) (show w.heap.size < _ by omega)).trans p0
    have q1 := (hbel.cell (p := ⟨w.heap.size, 1, none⟩) (show w.heap.size < _ by omega)).trans p1
    clear hown hbel s1
    by_cases hlt : k < m.length
    · obtain ⟨b, off, rfl, hb, x0, x1, x2, x3⟩ := (HS2.out.kept HB.out).at hlt
      have hlt' : (k : Int) < (m.length : Int) := by omega
      have HXK := hidden (HXA.out k hlt)
      have HFS := hidden (fill_set (x := liftM l m r) (n := m.length) (k := k) hlt HX.out)
      have HFN := hidden (fill_nul (x := liftM l m r) (n := m.length) (k := k) hlt HX.out)
      rw [HXK.out] at HFS HFN
      have HFL := hidden (fill_length (x := liftM l m r) (n := m.length) (k := k) hk HX.out)
      have HAN := hidden (atM_none (frm := l) (row := r) (f := m[k]))
      have HAP := hidden (fun j => atM_past (frm := l) (row := r) (f := m[k]) (k := j))
      have HAA := hidden (fun j => atM_at (frm := l) (row := r) (f := m[k]) (k := j))
      have HPL := hidden (fun (U : World) (hU : Below wr.heap.size wr U) => place_any ((HS1.out.kept HB.out).kept hU) i1 m[k].1)
      generalize atM l r m[k] = AT at *
      generalize fillV (liftM l m r) m.length k = F0 at *
      generalize m[k] = f at *
      obtain ⟨f0, f1, f2, f3⟩ := f
      simp only at *
      have hbn := below_one wr (.cells #[.int .u32 (f0 : Int), .string f1, .int .u8 (f2 : Int), .bool f3] 67)
      have hww : w.heap.size < wr.heap.size := by omega
      clear HXK
      go_wp2_with fail
      refine (HPL.out _ hbn).mono ?_
      rintro e w2 ⟨rfl, hb2⟩
      have hbT := below_then hbn hb2
      have HB2 := hidden (HB.out.trans (hbT.mono hzr))
      have HO2 := hidden (HO.out.kept hbT)
      have HR2 := hidden ((HR.out.kept HB.out).kept hbT)
      clear hb2 hbn hbT x0 x1 x2 x3 q0 q1
      cases hp : place l f0 with
      | none =>
        have HA := hidden (HFN.out (HAN.out hp))
        clear hp HAN HAP HAA
        simp only [Option.getD_none, Option.isSome_none]
        go_wp2_with fail
        go_roundw
        case rel => exact ⟨k + 1, by omega, by go_num, by rw [← HA.out]; exact HO2.out, HB2.out⟩
        case measure => simp [intOf]; omega
      | some j =>
        simp only [Option.getD_some, Option.isSome_some]
        by_cases hjr : j < r.length
        · have HA := hidden (HAA.out j hp hjr)
          obtain ⟨rb, roff, rfl, hrb, hrc⟩ := HR2.out.at1 (vvals_get hjr)
          have hj2 : (j : Int) < (r.length : Int) := by omega
          have hsf := HO2.out.at (j := k) (by rw [HFL.out]; exact hlt)
          obtain ⟨old, hst⟩ : ∃ old, w2.cell? ⟨W.heap.size, k, none⟩ = some old := ⟨_, hsf.1⟩
          have hfr := hsf.2
          clear hsf
          have HST := hidden (HO2.out.stored k r[j])
          have HBS := hidden (HB2.out.setCell (p := ⟨W.heap.size, k, none⟩) (Nat.le_refl _) (valC r[j]))
          rw [← HA.out] at HST HBS hrc
          clear hp HAN HAP
          generalize hvr : valC AT = vr at *
          have hvf : vr = .nilIface ∨ ∃ t u, vr = .iface t u := by
            rw [← hvr]
            by_cases h0 : AT.1 = 0
            · exact Or.inl (valC_null _ h0)
            · exact Or.inr (valC_form _ h0)
          clear hvr HAA HA
          rcases hvf with rfl | ⟨vt, vu, rfl⟩
          all_goals
            go_wp2_with fail
            go_roundw
            case rel => exact ⟨k + 1, by omega, by go_num, by rw [← HFS.out]; exact HST.out, HBS.out⟩
            case measure => simp [intOf]; omega
        · have HA := hidden (HFN.out (HAP.out j hp hjr))
          have hj2 : ¬ (j : Int) < (r.length : Int) := by omega
          clear hp HAN HAP HAA hjr
          go_wp2_with fail
          go_roundw
          case rel => exact ⟨k + 1, by omega, by go_num, by rw [← HA.out]; exact HO2.out, HB2.out⟩
          case measure => simp [intOf]; omega
    · obtain rfl : k = m.length := by omega
      have HE : Hid (fillV (liftM l m r) m.length m.length = liftM l m r) := hidden (by
        unfold fillV
        rw [Nat.sub_self, List.replicate_zero, List.append_nil, ← HX.out, List.take_length])
      rw [HE.out] at HO
      have hge : ¬ ((m.length : Nat) : Int) < (m.length : Int) := by omega
      go_wp2_with fail
      go_ret
      exact ⟨⟨_, rfl, own_low HO.out HBW.out.size⟩, below_then HBW.out HB.out⟩
end Go.Proofs.Ytkohejjkpofmgaa
