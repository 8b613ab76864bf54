/- Place, the document's Fit, Great. -/
import Derived.Test.YtfcnoeehfhncjaaFlds
import Derived.Test.YtfcnoeehfhncjaaStill
set_option linter.unusedVariables false
set_option linter.unusedSimpArgs false
namespace Go.Proofs.Ytfcnoeehfhncjaa
open Go.RowKit Go.Lib

theorem cell_new4 (w : World) (x y z u : Value) (t : Nat) : (w.alloc (.cells #[x, y, z, u] t)).cell? ⟨w.heap.size, 0, none⟩ = some x ∧ (w.alloc (.cells #[x, y, z, u] t)).cell? ⟨w.heap.size, 1, none⟩ = some y ∧ (w.alloc (.cells #[x, y, z, u] t)).cell? ⟨w.heap.size, 2, none⟩ = some z ∧ (w.alloc (.cells #[x, y, z, u] t)).cell? ⟨w.heap.size, 3, none⟩ = some u := by
  have h := heap_alloc_new w (.cells #[x, y, z, u] t)
  exact ⟨by rw [cell_block h]; rfl, by rw [cell_block h]; rfl, by rw [cell_block h]; rfl, by rw [cell_block h]; rfl⟩

theorem cell_new2 (w : World) (x y : Value) (t : Nat) : (w.alloc (.cells #[x, y] t)).cell? ⟨w.heap.size, 0, none⟩ = some x ∧ (w.alloc (.cells #[x, y] t)).cell? ⟨w.heap.size, 1, none⟩ = some y := by
  have h := heap_alloc_new w (.cells #[x, y] t)
  exact ⟨by rw [cell_block h]; rfl, by rw [cell_block h]; rfl⟩

theorem sf_drewN {W : World} {v : Value} {l : List Fd} (h : Sf W v l) (n : Nat) : Sf (W.drewN n) v l := h.kept (below_drewN (Below.refl _ _) n)

set_option maxRecDepth 100000 in
set_option maxHeartbeats 2000000 in
theorem place_any {w : World} {v : Value} {l : List Fd} (hs : Sf w v l) (si id : Nat) : Calls Try.prog 75 #[.agg #[.int .u32 (si : Int), v], .int .u32 (id : Int)] w fun e w' => e = .returned (.tuple #[.int .i64 (((place l id).getD 0 : Nat) : Int), .bool (place l id).isSome]) ∧ Below w.heap.size w w' := by
  obtain ⟨a, cap, rfl, hcap, hcm⟩ := hs.form
  have HB0 := hidden (below_one w (.cells #[.int .u32 (si : Int), .slice a l.length cap] 42))
  have HS := hidden (hs.kept (below_one w (.cells #[.int .u32 (si : Int), .slice a l.length cap] 42)))
  have HP : Hid (place l id = placeF id 0 (l.drop 0)) := hidden rfl
  generalize place l id = P at *
  clear hs
  generalize hW : w.alloc (.cells #[.int .u32 (si : Int), .slice a l.length cap] 42) = W at *
  have hW' := hW
  obtain ⟨c0, c1⟩ := cell_new2 w (.int .u32 (si : Int)) (.slice a l.length cap) 42
  rw [hW] at c0 c1
  go_enter Try.func75, Try.ntmps75
  go_wp2_with fail
  try rw [hW]
  clear hW hW' c0 c1
  go_loopw [11] (fun i wr => ∃ k : Nat, k ≤ l.length ∧ i = .int .i64 (k : Int) ∧ P = placeF id k (l.drop k) ∧ Below W.heap.size W wr) (fun i _ => l.length - (intOf i).toNat)
  case atStart => exact ⟨0, by omega, rfl, HP.out, Below.refl _ _⟩
  case round =>
    obtain ⟨k, hk, rfl, hfe, hbel⟩ := hrel
    have HF := hidden hfe
    have HB := hidden hbel
    have hzr := hbel.size
    clear hfe hbel HP
    by_cases hlt : k < l.length
    · obtain ⟨b, off, rfl, hb, x0, x1, x2, x3⟩ := (HS.out.kept HB.out).at hlt
      have HT := hidden (HF.out.trans (placeF_step hlt))
      have hlt' : (k : Int) < (l.length : Int) := by omega
      generalize l[k] = f at *
      obtain ⟨f0, f1, f2, f3⟩ := f
      simp only at *
      have HB2 := hidden (HB.out.trans ((below_one wr (.cells #[.int .u32 (f0 : Int), .string f1, .int .u8 (f2 : Int), .bool f3] 80)).mono hzr))
      by_cases hq : f0 = id
      · rw [if_pos hq] at HT
        have hq' : ((f0 : Int) == (id : Int)) = true := by rw [hq]; simp
        subst hq
        go_wp2_with fail
        go_ret2
        rw [HT.out]
        exact ⟨rfl, below_then HB0.out HB2.out⟩
      · rw [if_neg hq] at HT
        have hq' : ((f0 : Int) == (id : Int)) = false := beq_eq_false_iff_ne.2 (by omega)
        clear hq
        go_wp2_with fail
        go_roundw
        case rel => exact ⟨k + 1, by omega, by go_num, HT.out, HB2.out⟩
        case measure => simp [intOf]; omega
    · obtain rfl : k = l.length := by omega
      have hge : ¬ ((l.length : Nat) : Int) < (l.length : Int) := by omega
      have HT := hidden (HF.out.trans (placeF_end l id))
      clear HF
      go_wp2_with fail
      go_ret2
      rw [HT.out]
      exact ⟨rfl, below_then HB0.out HB.out⟩

/-- What the document's Place tells. -/
def plz (p : Option Nat) : Int := match p with
  | none => -1
  | some k => (k : Int)

set_option maxRecDepth 100000 in
set_option maxHeartbeats 4000000 in
theorem refFit_any {w : World} {v rv : Value} {l : List Fd} {r : List Cl} (hs : Sf w v l) (hr : Sc w rv r) (si : Nat) : Calls Try.prog 16 #[.agg #[.int .u32 (si : Int), v], rv] w fun e w' => e = .returned (.int .i64 (fitM l r : Int)) ∧ Below w.heap.size w w' := by
  obtain ⟨a, cap, rfl, hcap, hcm⟩ := hs.form
  obtain ⟨ra, rcap, rfl, hrcap, hrcm⟩ := hr.form
  have hrcm' : rcap ≤ 9223372036854775807 := by unfold maxLen at hrcm; omega
  have hb0 := below_one w (.cells #[.int .u32 (si : Int), .slice a l.length cap] 42)
  have HB0 := hidden hb0
  have HS := hidden (hs.kept hb0)
  have HR := hidden (hr.kept hb0)
  obtain ⟨c0, c1⟩ := cell_new2 w (.int .u32 (si : Int)) (.slice a l.length cap) 42
  have hz : w.heap.size < (w.alloc (.cells #[.int .u32 (si : Int), .slice a l.length cap] 42)).heap.size := by rw [World.size_alloc]; omega
  clear hs hr hb0 hrcm
  generalize hW : w.alloc (.cells #[.int .u32 (si : Int), .slice a l.length cap] 42) = W at *
  by_cases hne : r.length ≠ l.length
  · have HM : Hid (fitM l r = 1) := hidden (if_pos hne)
    have hne' : ((r.length : Int) != (l.length : Int)) = true := by simp only [bne_iff_ne]; omega
    clear hne
    go_enter Try.func16, Try.ntmps16
    go_wp2_with fail
    go_ret
    rw [HM.out]
    refine ⟨rfl, ?_⟩
    first | exact HB0.out | (rw [hW]; exact HB0.out)
  · have hrl : r.length = l.length := by omega
    have HM : Hid (fitM l r = fitF (l.drop 0) (r.drop 0)) := hidden (if_neg hne)
    have HRL := hidden hrl
    rw [hrl] at hrcap HR ⊢
    generalize fitM l r = R at *
    clear hne hrl
    go_enter Try.func16, Try.ntmps16
    go_wp2_with fail
    try rw [hW]
    clear hW
    go_loopw [5] (fun i wr => ∃ k : Nat, k ≤ l.length ∧ i = .int .i64 (k : Int) ∧ R = fitF (l.drop k) (r.drop k) ∧ Below W.heap.size W wr) (fun i _ => l.length - (intOf i).toNat)
    case atStart => exact ⟨0, by omega, rfl, HM.out, Below.refl _ _⟩
    case round =>
      obtain ⟨k, hk, rfl, hfe, hbel⟩ := hrel
      have HF := hidden hfe
      have HB := hidden hbel
      have hzr := hbel.size
      have d1 := (hbel.cell (p := ⟨w.heap.size, 1, none⟩) hz).trans c1
      clear hfe hbel HM
      by_cases hlt : k < l.length
      · obtain ⟨b, off, rfl, hb, x0, x1, x2, x3⟩ := (HS.out.kept HB.out).at hlt
        have hltr : k < r.length := by have := HRL.out; omega
        obtain ⟨rb, roff, rfl, hrb, y0, y1, y2⟩ := (HR.out.kept HB.out).at hltr
        have HT := hidden (HF.out.trans (fitF_step hlt hltr))
        have hlt' : (k : Int) < (l.length : Int) := by omega
        have hknn : (0 : Int) ≤ (k : Int) := by omega
        have HQ : Hid (misM l[k] r[k] = if r[k].1 = 0 then (if l[k].2.2.2 = true then 82 else 0) else if r[k].1 ≠ l[k].2.2.1 then 10 else if 64 < r[k].2.2.length then 5 else 0) := hidden rfl
        generalize misM l[k] r[k] = Q at *
        rw [txt_eq] at y2
        have hS := bytesT_size r[k].2.2
        generalize bytesT r[k].2.2 = S at *
        generalize r[k].2.2.length = cl at *
        generalize r[k].2.1 = cn at *
        generalize r[k].1 = ck at *
        generalize l[k].2.2.1 = f2 at *
        generalize l[k].2.2.2 = f3 at *
        have hbn := below_one wr (.cells #[.int .u8 (ck : Int), .int .i64 cn, .string S] 27)
        have HB2 := hidden (HB.out.trans (hbn.mono hzr))
        have e1 := (hbn.cell (p := ⟨w.heap.size, 1, none⟩) (show w.heap.size < _ by omega)).trans d1
        have e2 := (hbn.cell (p := ⟨b, off + k * 4 + 2, none⟩) hb).trans x2
        have e3 := (hbn.cell (p := ⟨b, off + k * 4 + 3, none⟩) hb).trans x3
        have hww : w.heap.size < wr.heap.size := by omega
        clear hbn
        by_cases q0 : ck = 0
        · have q0' : ((ck : Int) == 0) = true := by rw [q0]; rfl
          rw [if_pos q0] at HQ
          clear q0
          cases f3
          · rw [if_neg (by simp)] at HQ
            rw [if_pos HQ.out] at HT
            go_wp2_with fail
            go_roundw
            case rel => exact ⟨k + 1, by omega, by go_num, HT.out, HB2.out⟩
            case measure => simp [intOf]; omega
          · rw [if_pos rfl] at HQ
            rw [HQ.out, if_neg (by omega)] at HT
            go_wp2_with fail
            go_ret
            rw [HT.out]
            exact ⟨rfl, below_then HB0.out HB2.out⟩
        · have q0' : ((ck : Int) == 0) = false := beq_eq_false_iff_ne.2 (by omega)
          rw [if_neg q0] at HQ
          clear q0
          by_cases q1 : ck = f2
          · rw [if_neg (by simpa using q1)] at HQ
            have q1' : ((ck : Int) != (f2 : Int)) = false := by simp [q1]
            clear q1
            by_cases q2 : 64 < cl
            · have q2' : (S.size : Int) > 64 := by omega
              rw [if_pos q2] at HQ
              rw [HQ.out, if_neg (by omega)] at HT
              clear q2
              go_wp2_with fail
              go_quiet (fail)
              go_wp2_with fail
              go_ret
              rw [HT.out]
              exact ⟨rfl, below_drewN (below_then HB0.out HB2.out) _⟩
            · have q2' : ¬ (S.size : Int) > 64 := by omega
              rw [if_neg q2] at HQ
              rw [if_pos HQ.out] at HT
              clear q2
              go_wp2_with fail
              go_quiet (fail)
              go_wp2_with fail
              go_roundw
              case rel => exact ⟨k + 1, by omega, by go_num, HT.out, below_drewN HB2.out _⟩
              case measure => simp [intOf]; omega
          · rw [if_pos q1] at HQ
            have q1' : ((ck : Int) != (f2 : Int)) = true := by simp only [bne_iff_ne]; omega
            rw [HQ.out, if_neg (by omega)] at HT
            clear q1
            go_wp2_with fail
            go_quiet (fail)
            go_wp2_with fail
            go_ret
            rw [HT.out]
            exact ⟨rfl, below_drewN (below_then HB0.out HB2.out) _⟩
      · obtain rfl : k = l.length := by omega
        have hge : ¬ ((l.length : Nat) : Int) < (l.length : Int) := by omega
        have HT := hidden (HF.out.trans (fitF_end l _))
        clear HF
        go_wp2_with fail
        go_ret
        rw [HT.out]
        exact ⟨rfl, below_then HB0.out HB.out⟩

theorem szs_min {l : List Fd} {i n : Nat} (h : i < l.length) (hn : n = szs (l.take i)) : szs (l.take (i + 1)) = n + l[i].2.1.size := by rw [szs_take_succ h, hn]

/-- What Great tells. -/
def GreatPost (w : World) (l : List Fd) (e : Ending) (w' : World) : Prop := (∃ g : Bool, e = .returned (.bool g) ∧ (g = false → l.length ≤ 100 ∧ szs l < 5000)) ∧ Below w.heap.size w w'

set_option maxRecDepth 100000 in
set_option maxHeartbeats 4000000 in
theorem great_any {w : World} {v : Value} {l : List Fd} (hs : Sf w v l) (id : Nat) : Calls Try.prog 13 #[.agg #[.int .u32 (id : Int), v]] w (GreatPost w l) := by
  obtain ⟨a, cap, rfl, hcap, hcm⟩ := hs.form
  have HB0 := hidden (below_one w (.cells #[.int .u32 (id : Int), .slice a l.length cap] 42))
  have HS := hidden (hs.kept (below_one w (.cells #[.int .u32 (id : Int), .slice a l.length cap] 42)))
  obtain ⟨c0, c1⟩ := cell_new2 w (.int .u32 (id : Int)) (.slice a l.length cap) 42
  clear hs
  generalize hW : w.alloc (.cells #[.int .u32 (id : Int), .slice a l.length cap] 42) = W at *
  go_enter Try.func13, Try.ntmps13
  go_wp2_with fail
  try rw [hW]
  clear hW
  go_loopw [3, 4] (fun n i wr => ∃ k s : Nat, wr = W ∧ k ≤ l.length ∧ k ≤ 100 ∧ i = .int .i64 (k : Int) ∧ n = .int .i64 (s : Int) ∧ s < 10000 ∧ (s < 5000 → s = szs (l.take k))) (fun _ i _ => l.length - (intOf i).toNat)
  case atStart => exact ⟨0, 0, rfl, by omega, by omega, rfl, rfl, by omega, fun _ => by simp [szs]⟩
  case round =>
    obtain ⟨k, s, rfl, hk, hk100, rfl, rfl, hs1, hs2⟩ := hrel
    have HS2 := hidden hs2
    clear hs2
    by_cases hlt : k < l.length
    · have hlt' : (k : Int) < (l.length : Int) := by omega
      by_cases hk1 : (k : Int) < 100
      · by_cases hs5 : (s : Int) < 5000
        · obtain ⟨b, off, rfl, hb, x0, x1, x2, x3⟩ := HS.out.at hlt
          have HSZ := hidden (szs_take_succ hlt)
          have HSE := hidden (HS2.out (by omega))
          generalize l[k].2.1 = nm at *
          have hmin : ∃ q : Nat, min (nm.size : Int) 5000 = (q : Int) ∧ q ≤ 5000 ∧ (q < 5000 → q = nm.size) := ⟨min nm.size 5000, by omega, by omega, by omega⟩
          obtain h | h | h : (nm.size : Int) < 5000 ∨ (nm.size : Int) = 5000 ∨ (5000 : Int) < (nm.size : Int) := by omega
          · have h2 : ¬ (5000 : Int) < (nm.size : Int) := by omega
            have h3 : ((nm.size : Int) == 5000) = false := beq_eq_false_iff_ne.2 (by omega)
            have h4 : (nm.size : Int) ≤ 5000 := by omega
            have h5 : ¬ (5000 : Int) ≤ (nm.size : Int) := by omega
            clear hmin
            go_wp2_with fail
            go_roundw
            case rel => exact ⟨k + 1, s + nm.size, trivial, by omega, by omega, by go_num, by go_num, by omega, fun _ => by rw [HSZ.out, HSE.out]⟩
            case measure => simp [intOf]; omega
          · clear hmin
            go_wp2_with fail
            go_roundw
            case rel => exact ⟨k + 1, s + 5000, trivial, by omega, by omega, by go_num, by go_num, by omega, fun h => by omega⟩
            case measure => simp [intOf]; omega
          · have h2 : ¬ (nm.size : Int) < 5000 := by omega
            have h3 : ((nm.size : Int) == 5000) = false := beq_eq_false_iff_ne.2 (by omega)
            have h4 : (5000 : Int) ≤ (nm.size : Int) := by omega
            have h5 : ¬ (nm.size : Int) ≤ 5000 := by omega
            clear hmin
            go_wp2_with fail
            go_roundw
            case rel => exact ⟨k + 1, s + 5000, trivial, by omega, by omega, by go_num, by go_num, by omega, fun h => by omega⟩
            case measure => simp [intOf]; omega
        · by_cases hl : (l.length : Int) > 100
          · go_wp2_with fail
            go_ret
            exact ⟨⟨true, rfl, fun h => by cases h⟩, HB0.out⟩
          · have hs6 : (s : Int) ≥ 5000 := by omega
            go_wp2_with fail
            go_ret
            exact ⟨⟨true, rfl, fun h => by cases h⟩, HB0.out⟩
      · have hl : (l.length : Int) > 100 := by omega
        go_wp2_with fail
        go_ret
        exact ⟨⟨true, rfl, fun h => by cases h⟩, HB0.out⟩
    · obtain rfl : k = l.length := by omega
      have hge : ¬ ((l.length : Nat) : Int) < (l.length : Int) := by omega
      have hl : ¬ (l.length : Int) > 100 := by omega
      by_cases hs6 : (s : Int) ≥ 5000
      · go_wp2_with fail
        go_ret
        exact ⟨⟨true, rfl, fun h => by cases h⟩, HB0.out⟩
      · have h2 := HS2.out
        rw [List.take_length] at h2
        have H2 := hidden (h2 (by omega))
        clear h2
        go_wp2_with fail
        go_ret
        exact ⟨⟨false, rfl, fun h => ⟨by omega, by rw [← H2.out]; omega⟩⟩, HB0.out⟩
end Go.Proofs.Ytfcnoeehfhncjaa
