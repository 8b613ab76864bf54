/- Contracts: placesAmong, putPlaces, putHeights. -/
import Derived.Test.YtnlanilejhjkkaaPutRuns
set_option linter.unusedVariables false
set_option linter.unusedSimpArgs false
namespace Go.Proofs.Ytnlanilejhjkkaa
open Go.RowKit Go.Lib

theorem OwnB.low {W : World} {B B' : Nat} {v : Value} {bs : List Nat} (h : OwnB W B' v bs) (hb : B ≤ B') : OwnB W B v bs := by
  obtain ⟨h1, h2⟩ := h
  refine ⟨h1, ?_⟩
  rcases h2 with h | ⟨g, cap, cur, e1, e2, e3⟩
  · exact Or.inl h
  · exact Or.inr ⟨g, cap, cur, e1, Nat.le_trans hb e2, e3⟩

set_option maxRecDepth 100000 in
set_option maxHeartbeats 2000000 in
theorem placesAmong_any {w : World} {vu v : Value} {u l : List Int} (hu : Sv w vu (ivals u)) (hs : Sv w v (ivals l)) (hl : l.length ≤ 256) (hul : u.length ≤ 256) (hr : Rising u) (hm : ∀ x ∈ l, x ∈ u) :
    Calls Try.prog 51 #[vu, v] w fun e w' => (∃ v', e = .returned v' ∧ OwnU w' w.heap.size v' (l.map (pl u))) ∧ Below w.heap.size w w' := by
  obtain ⟨i0, hi, hz0, hz1', hz2⟩ := info_parts info44
  have HU := hidden hu
  have HS := hidden hs
  have HR := hidden hr
  have HM := hidden hm
  obtain ⟨a, cap, rfl, hcap, hcm⟩ := hs.form
  clear hs hu hcap hcm hr hm
  obtain ⟨D, hD⟩ : ∃ D, l.map (pl u) = D := ⟨_, rfl⟩
  have hDl : D.length = l.length := by rw [← hD, List.length_map]
  have HG : Hid (∀ k (h : k < l.length), D[k]? = some (pl u l[k])) := hidden (fun k h => by rw [← hD]; simp [h])
  rw [hD]
  have HDL := hidden hDl
  clear hD hDl
  go_enter Try.func51, Try.ntmps51
  go_wp2_with (first | (refine wpList_make_full _ rfl _ _ 47 rfl w.heap.size 44 i0 (.int .u64 0) 1 Try.underlying47 hi hz0 hz1' .i64 .i64 _ _ l.length rfl rfl ?m1 ?m2 ?m3 ?m4 ?m5 ?_))
  case m1 => rfl
  case m2 => rfl
  case m3 => rw [hz2]; omega
  case m4 => unfold maxLen; omega
  case m5 => omega
  intro w4 ho4 hg4
  have hb4 : Below w.heap.size w w4 := (Below.refl _ _).grown hg4 (Nat.le_refl _) (fun k hk => by cases hk)
  have ho4' : w4.ownsRow w.heap.size 44 1 (.slice (some ⟨w.heap.size, 0, none⟩) l.length l.length) l.length (vals .u64 (fill D 0)) := by
    rw [fill_zero, HDL.out, ← made_vals]
    simpa using ho4
  have HO4 := hidden ho4'
  have HB4 := hidden hb4
  clear ho4 hg4 hb4 ho4'
  go_wp2_with fail
  go_loopw [15] (fun i wr => ∃ k : Nat, i = .int .i64 (k : Int) ∧ k ≤ l.length ∧ wr.ownsRow w.heap.size 44 1 (.slice (some ⟨w.heap.size, 0, none⟩) l.length l.length) l.length (vals .u64 (fill D k)) ∧ Below w.heap.size w wr) (fun i _ => l.length - (intOf i).toNat)
  case atStart => exact ⟨0, rfl, by omega, HO4.out, HB4.out⟩
  case round =>
    obtain ⟨k, rfl, hk, how, hbel⟩ := hrel
    have HB := hidden hbel
    have HO := hidden how
    have hzr := hbel.size
    clear hbel how
    by_cases hlt : k < l.length
    · have hkD : k < D.length := by rw [HDL.out]; exact hlt
      have hval : D[k] = pl u l[k] := by
        have := HG.out k hlt
        rw [List.getElem?_eq_getElem hkD] at this
        exact Option.some.inj this
      obtain ⟨b, off, rfl, hb, hck⟩ := (HS.out.kept HB.out).at hlt
      have hmem := HM.out l[k] (List.getElem_mem hlt)
      have hSr := search_any (HU.out.kept HB.out) (List.length_pos_of_mem hmem) hul HR.out l[k]
      rw [countP_pl HR.out hmem, ← hval] at hSr
      have HSr := hidden hSr
      have hplt := (pl_get hmem).1
      rw [← hval] at hplt
      have hfl : k < (fill D k).length := by rw [fill_length (by omega)]; exact hkD
      have HFS := hidden (fill_set hkD)
      clear hSr hval hmem
      generalize l[k] = x at *
      generalize (fill D k)[k] = y at *
      generalize D[k] = z at *
      go_wp2_with fail
      refine HSr.out.mono ?_
      rintro e w5 ⟨⟨r, rfl⟩, hb5⟩
      have ho5 := own_kept HO.out hb5
      have HB5 := hidden (HB.out.trans (hb5.mono hzr))
      have hck5 := (ho5.cellAt k (by omega)).trans (vals_get hfl)
      have hfr5 := ho5.frozenAt k
      have hST := ho5.stored k (.int .u64 (z : Int))
      rw [vals_set, HFS.out] at hST
      have HST := hidden hST
      have hgz := (ho5.lt w.heap.size rfl).2
      clear hST hb5 ho5
      go_wp2_with fail
      go_roundw
      case rel => exact ⟨k + 1, by go_num, by omega, HST.out.1, below_set HB5.out (Nat.le_refl _) _⟩
      case measure => simp [intOf]; omega
    · obtain rfl : k = l.length := by omega
      have e : fill D l.length = D := by
        have := fill_all D
        rwa [HDL.out] at this
      have HO' : Hid (OwnU wr w.heap.size (.slice (some ⟨w.heap.size, 0, none⟩) l.length l.length) D) := by
        show OwnU _ _ _ _
        have := HO.out
        rw [e] at this
        unfold OwnU
        rw [HDL.out]
        exact this
      clear HO e
      go_wp2_with fail
      go_ret
      exact ⟨⟨_, rfl, HO'.out⟩, HB.out⟩
end Go.Proofs.Ytnlanilejhjkkaa
