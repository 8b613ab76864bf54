/- Contracts of layer column: placesAmong, the two ways of writing texts, bestTexts. -/
import Derived.Test.YtcmmednihoaekaaGreatColG
set_option linter.unusedVariables false
set_option linter.unusedSimpArgs false
namespace Go.Proofs.YtcmmednihoaekaaGreat
open Go.RowKit Go.Lib

set_option maxRecDepth 100000 in
set_option maxHeartbeats 2000000 in
theorem cplaces_any {w : World} {vu v : Value} {u l : List (List Nat)} (hu : Sv w vu (svals u)) (hs : Sv w v (svals l)) (hl : l.length ≤ 256) (hul : u.length ≤ 256) (hr : RisT u) (hub : ∀ s ∈ u, Bs s) (hm : ∀ x ∈ l, x ∈ u) :
    Calls Tryz.prog 77 #[vu, v] w fun e w' => (∃ v', e = .returned v' ∧ OwnI w' w.heap.size v' (l.map fun s => (plT u s : Int))) ∧ Below w.heap.size w w' := by
  obtain ⟨i0, hi, hz0, hz1', hz2⟩ := info_parts info2
  have HU := hidden hu
  have HS := hidden hs
  have HR := hidden hr
  have HM := hidden hm
  have HUB := hidden hub
  obtain ⟨a, cap, rfl, hcap, hcm⟩ := hs.form1
  rw [svals_length] at *
  have hcm' : cap ≤ 9223372036854775807 := by unfold maxLen at hcm; omega
  clear hs hu hcm hr hm hub
  obtain ⟨D, hD⟩ : ∃ D, (l.map fun s => (plT u s : Int)) = D := ⟨_, rfl⟩
  have hDl : D.length = l.length := by rw [← hD, List.length_map]
  have HDG : Hid (∀ k (h : k < l.length), (ivals D)[k]? = some (.int .i64 (plT u l[k] : Nat))) := hidden (fun k h => by rw [← hD]; simp [ivals, h])
  rw [hD]
  have HDL := hidden hDl
  clear hD hDl
  go_enter Tryz.func77, Tryz.ntmps77
  go_wp2_with (first | (refine wpList_make_full _ rfl _ _ 53 rfl w.heap.size 2 i0 (.int .i64 0) 1 Tryz.underlying53 hi hz0 hz1' .i64 .i64 _ _ l.length rfl rfl ?m1 ?m2 ?m3 ?m4 ?m5 ?_))
  case m1 => rfl
  case m2 => rfl
  case m3 => rw [hz2]; omega
  case m4 => unfold maxLen; omega
  case m5 => omega
  intro w4 ho4 hg4
  have hb4 : Below w.heap.size w w4 := (Below.refl _ _).grown hg4 (Nat.le_refl _) (fun k hk => by cases hk)
  have ho4' : w4.ownsRow w.heap.size 2 1 (.slice (some ⟨w.heap.size, 0, none⟩) l.length l.length) l.length (fillV (.int .i64 0) (ivals D) 0) := by
    rw [fillV_zero, ivals_length, HDL.out, ← toList_madeCells_one]
    simpa using ho4
  have HO4 := hidden ho4'
  have HB4 := hidden hb4
  clear ho4 hg4 hb4 ho4'
  go_wp2_with fail
  go_loopw [15] (fun i wr => ∃ k : Nat, i = .int .i64 (k : Int) ∧ k ≤ l.length ∧ wr.ownsRow w.heap.size 2 1 (.slice (some ⟨w.heap.size, 0, none⟩) l.length l.length) l.length (fillV (.int .i64 0) (ivals D) k) ∧ Below w.heap.size w wr) (fun i _ => l.length - (intOf i).toNat)
  case atStart => exact ⟨0, rfl, by omega, HO4.out, HB4.out⟩
  case round =>
    obtain ⟨k, rfl, hk, how, hbel⟩ := hrel
    have HB := hidden hbel
    have HO := hidden how
    have hzr := hbel.size
    clear hbel how
    by_cases hlt : k < l.length
    · have hkD : k < (ivals D).length := by rw [ivals_length, HDL.out]; exact hlt
      have hval : (ivals D)[k] = .int .i64 (plT u l[k] : Nat) := by
        have := HDG.out k hlt
        rw [List.getElem?_eq_getElem hkD] at this
        exact Option.some.inj this
      obtain ⟨b, off, rfl, hb, hck⟩ := (HS.out.kept HB.out).at1 (svals_get hlt)
      have hmem := HM.out l[k] (List.getElem_mem hlt)
      have HSr := hidden (searchS_any (HU.out.kept HB.out) hul HR.out HUB.out hmem)
      have hplt := (plT_get hmem).1
      have hfl : k < (fillV (.int .i64 0) (ivals D) k).length := by rw [fillV_length (by omega)]; exact hkD
      have HFS := hidden (fillV_set (z := .int .i64 0) hkD)
      rw [hval] at HFS
      rw [txt_eq] at hck
      clear hval hmem
      generalize bytesT l[k] = S at *
      generalize plT u l[k] = pz at *
      generalize hy : (fillV (.int .i64 0) (ivals D) k)[k] = y
      have hyy := List.getElem?_eq_getElem hfl
      rw [hy] at hyy
      clear hy
      go_wp2_with fail
      refine HSr.out.mono ?_
      rintro e w5 ⟨⟨r, rfl⟩, hb5⟩
      have ho5 := own_kept HO.out hb5
      have HB5 := hidden (HB.out.trans (hb5.mono hzr))
      have hck5 := (ho5.cellAt k (by omega)).trans hyy
      have hfr5 := ho5.frozenAt k
      have hST := ho5.stored k (.int .i64 (pz : Nat))
      rw [HFS.out] at hST
      have HST := hidden hST
      have hgz := (ho5.lt w.heap.size rfl).2
      clear hST hb5 ho5
      go_wp2_with fail
      go_roundw
      case rel => exact ⟨k + 1, by go_num, by omega, HST.out.1, below_set HB5.out (Nat.le_refl _) _⟩
      case measure => simp [intOf]; omega
    · obtain rfl : k = l.length := by omega
      have e : fillV (.int .i64 0) (ivals D) l.length = ivals D := by
        have := fillV_all (.int .i64 0) (ivals D)
        rwa [ivals_length, HDL.out] at this
      rw [e] at HO
      have HO' : Hid (OwnI wr w.heap.size (.slice (some ⟨w.heap.size, 0, none⟩) l.length l.length) D) := hidden (by
        unfold OwnI
        rw [HDL.out]
        exact HO.out)
      clear HO e
      go_wp2_with fail
      go_ret
      exact ⟨⟨_, rfl, HO'.out⟩, HB.out⟩

/-- One cell of a variable that closures share. -/
theorem kept_cell {W W' : World} {B p : Nat} {x : Value} (h : W.cell? ⟨p, 0, none⟩ = some x) (hb : Below B W W') (hp : p < B) : W'.cell? ⟨p, 0, none⟩ = some x := (hb.cell (p := ⟨p, 0, none⟩) hp).trans h

theorem txts_len {l : List (List Nat)} (ht : Ts l) (hl : l.length ≤ 256) : (txts l).length ≤ 21525 := (txts_size ht hl).1

set_option maxRecDepth 100000 in
set_option maxHeartbeats 2000000 in
theorem eachText1_any {w : World} {g p : Nat} {v vl : Value} {l : List (List Nat)} (hg : Gs w g v []) (hp : p < g) (hc : w.cell? ⟨p, 0, none⟩ = some vl) (hs : Sv w vl (svals l)) (hlow : ∀ k, vl.ownBlock = some k → k < g) (hl : l.length ≤ 256) (ht : Ts l) :
    Calls Tryz.prog 70 #[.func (.func 45) #[] #[.pointer (some ⟨g, 0, none⟩)], .pointer (some ⟨p, 0, none⟩)] w (PutsPost w g (plain l)) := by
  have HG := hidden hg
  have hglt := hg.lt
  have HC := hidden hc
  have HS := hidden hs
  have HLOW := hidden hlow
  have HT := hidden ht
  have HP1 := hidden (cput_any (hg.kept (below_one w (.cells #[.int .u8 0] 5))) (lit_own w 0).sv (by simp))
  have hz1 : (w.alloc (.cells #[.int .u8 0] 5)).heap.size = w.heap.size + 1 := World.size_alloc _ _
  clear hg hc hs hlow ht
  go_enter Tryz.func70, Tryz.ntmps70
  go_wp2_with fail
  refine HP1.out.mono ?_
  rintro e w1 ⟨rfl, ⟨v1, hg1⟩, hb1, _⟩
  have HB1 := hidden (((below_one w (.cells #[.int .u8 0] 5)).mono (Nat.le_of_lt hglt)).trans hb1)
  have hc1 := kept_cell HC.out HB1.out hp
  have HP2 := hidden (putLens_any hg1 (by simp) (HS.out.keptB HLOW.out HB1.out) HLOW.out hl HT.out)
  obtain ⟨a, cap, rfl, _, _⟩ := HS.out.form1
  clear hg1 hb1
  go_wp2_with fail
  refine HP2.out.mono ?_
  rintro e w2 ⟨rfl, ⟨v2, hg2⟩, hb2⟩
  have HG2 := hidden hg2
  have HB2 := hidden (HB1.out.trans hb2)
  clear hg2 hb2
  go_wp2_with fail
  go_end0
  exact ⟨rfl, ⟨_, HG2.out⟩, HB2.out⟩

set_option maxRecDepth 100000 in
set_option maxHeartbeats 2000000 in
theorem eachText_any {w : World} {vl : Value} {l : List (List Nat)} (hs : Sv w vl (svals l)) (hlow : ∀ k, vl.ownBlock = some k → k < w.heap.size) (hl : l.length ≤ 256) (ht : Ts l) :
    Calls Tryz.prog 49 #[vl] w (Told w (plain l)) := by
  obtain ⟨a, cap, rfl, _, _⟩ := hs.form1
  have HGA := hidden (gather70 (w := w.alloc (.cells #[.slice a (svals l).length cap] 59)) (p := .pointer (some ⟨w.heap.size, 0, none⟩)) (bs := plain l) (fun W hg hb => by
    have hz := World.size_alloc w (.cells #[.slice a (svals l).length cap] 59)
    refine eachText1_any hg (by omega) ?_ ((hs.kept (below_one w _)).kept hb) (fun k hk => by have := hlow k hk; omega) hl ht
    rw [hb.cell (p := ⟨w.heap.size, 0, none⟩) (by show w.heap.size < _; omega)]
    exact cell_new _ _ _))
  have HB := hidden (below_one w (.cells #[.slice a (svals l).length cap] 59))
  have hz := World.size_alloc w (.cells #[.slice a (svals l).length cap] 59)
  clear hs hlow ht
  generalize plain l = bs at *
  generalize (svals l).length = n at *
  go_enter Tryz.func49, Tryz.ntmps49
  go_wp2_with fail
  refine HGA.out.mono ?_
  rintro e w1 ⟨⟨v1, rfl, ho1⟩, hb1⟩
  have HO1 := hidden (ho1.low (B := w.heap.size) (by omega))
  have HB1 := hidden (HB.out.trans (hb1.mono (by omega)))
  clear ho1 hb1
  go_wp2_with fail
  go_ret
  exact ⟨⟨_, rfl, HO1.out⟩, HB1.out⟩
end Go.Proofs.YtcmmednihoaekaaGreat
