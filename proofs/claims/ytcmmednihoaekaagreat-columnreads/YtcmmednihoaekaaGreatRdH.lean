/- The reader of layer column: spread, column; writtenSo; Read. -/
import Derived.Test.YtcmmednihoaekaaGreatRdG
set_option linter.unusedVariables false
set_option linter.unusedSimpArgs false
namespace Go.Proofs.YtcmmednihoaekaaGreat
open Go.RowKit Go.Lib

theorem fillC_length : ∀ (t : List Nat) (s : List (Nat × Int × List Nat)), (fillC t s).length = t.length
  | [], s => rfl
  | x :: t, s => by
    unfold fillC
    split
    · rw [List.length_cons, List.length_cons, fillC_length t s]
    · rw [List.length_cons, List.length_cons, fillC_length t s.tail]

theorem fillC_get : ∀ {t : List Nat} {s : List (Nat × Int × List Nat)} {j : Nat}, (∀ x ∈ t, x < 2) → (h : j < t.length) → (fillC t s)[j]? = some (if t[j] = 0 then nul else s.getD (t.take j).sum nul)
  | x :: t, s, 0, h2, h => by
    unfold fillC
    by_cases hx : x = 0
    · simp [hx]
    · cases s <;> simp [hx]
  | x :: t, s, j + 1, h2, h => by
    have ht : ∀ y ∈ t, y < 2 := fun y hy => h2 y (by simp [hy])
    unfold fillC
    by_cases hx : x = 0
    · have := fillC_get (s := s) ht (show j < t.length by simpa using h)
      simp [hx, this]
    · have hx1 : x = 1 := by have := h2 x (by simp); omega
      have := fillC_get (s := s.tail) ht (show j < t.length by simpa using h)
      rw [if_neg hx, List.getElem?_cons_succ, this]
      have e : s.tail.getD (t.take j).sum nul = s.getD (1 + (t.take j).sum) nul := by
        cases s with
        | nil => simp
        | cons c s => simp [List.getD_eq_getElem?_getD, Nat.add_comm 1]
      simp only [e, hx1, List.getElem_cons_succ, List.take_succ_cons, List.sum_cons]

theorem fillV_same {z : Value} {l : List Value} {i : Nat} (h : i < l.length) (he : l[i] = z) : fillV z l (i + 1) = fillV z l i := by
  rw [← fillV_set h, he]
  have hg : (fillV z l i)[i]? = some z := by
    unfold fillV
    rw [List.getElem?_append_right (by rw [List.length_take]; omega), List.length_take, Nat.min_eq_left (by omega), Nat.sub_self, List.getElem?_replicate, if_pos (by omega)]
  apply List.ext_getElem?
  intro k
  rw [List.getElem?_set]
  by_cases hk : i = k
  · subst hk
    rw [if_pos rfl, hg, if_pos (by rw [fillV_length (by omega)]; exact h)]
  · rw [if_neg hk]

set_option maxRecDepth 100000 in
set_option maxHeartbeats 4000000 in
theorem spread_any {w : World} {vt vs : Value} {t : List Nat} {s : List (Nat × Int × List Nat)} (ht : Sv w vt (vals .u64 t)) (h2 : ∀ x ∈ t, x < 2) (hl : t.length ≤ 256) (hs : Sv w vs (vvals s)) (hsum : s.length = t.sum) (hnz : ∀ c ∈ s, c.1 ≠ 0) :
    Calls Tryz.prog 58 #[vt, vs] w fun e w' => (∃ v', e = .returned v' ∧ OwnV w' w.heap.size v' (fillC t s)) ∧ Below w.heap.size w w' := by
  obtain ⟨i0, hi, hz0, hz1', hz2⟩ := info_parts info47
  have HT := hidden ht
  have HS := hidden hs
  have H2 := hidden h2
  have HNZ := hidden hnz
  obtain ⟨a, cap, rfl, hcap, hcm⟩ := ht.form1
  obtain ⟨a2, cap2, rfl, hcap2, hcm2⟩ := hs.form1
  rw [vals_length] at *
  rw [vvals_length] at *
  have hcm' : cap ≤ 9223372036854775807 := by unfold maxLen at hcm; omega
  have hcm2' : cap2 ≤ 9223372036854775807 := by unfold maxLen at hcm2; omega
  have HST2 := hidden (sum_two h2)
  obtain ⟨D, hD⟩ : ∃ D, fillC t s = D := ⟨_, rfl⟩
  have hDl : D.length = t.length := by rw [← hD, fillC_length]
  have HDG : Hid (∀ k (h : k < t.length), (vvals D)[k]? = some (valC (if t[k] = 0 then nul else s.getD (t.take k).sum nul))) := hidden (fun k h => by
    have := fillC_get (s := s) h2 h
    rw [hD] at this
    simp [vvals, this])
  rw [hD]
  have HDL := hidden hDl
  have HSUM := hidden hsum
  clear ht hs hcm hcm2 hD hDl h2 hnz
  go_enter Tryz.func58, Tryz.ntmps58
  go_wp2_with (first | (refine wpList_make_full _ rfl _ _ 29 rfl w.heap.size 47 i0 .nilIface 1 Tryz.underlying29 hi hz0 hz1' .i64 .i64 _ _ t.length rfl rfl ?m1 ?m2 ?m3 ?m4 ?m5 ?_))
  case m1 => rfl
  case m2 => rfl
  case m3 => rw [hz2]; omega
  case m4 => unfold maxLen; omega
  case m5 => omega
  intro w4 ho4 hg4
  have hb4 : Below w.heap.size w w4 := (Below.refl _ _).grown hg4 (Nat.le_refl _) (fun k hk => by cases hk)
  have ho4' : w4.ownsRow w.heap.size 47 1 (.slice (some ⟨w.heap.size, 0, none⟩) t.length t.length) t.length (fillV .nilIface (vvals D) 0) := by
    rw [fillV_zero, vvals_length, HDL.out, ← toList_madeCells_one]
    simpa using ho4
  have HO4 := hidden ho4'
  have HB4 := hidden hb4
  clear ho4 hg4 hb4 ho4'
  go_wp2_with fail
  go_loopw [6, 14] (fun o i wr => ∃ k : Nat, o = .int .i64 ((t.take k).sum : Int) ∧ i = .int .i64 (k : Int) ∧ k ≤ t.length ∧ wr.ownsRow w.heap.size 47 1 (.slice (some ⟨w.heap.size, 0, none⟩) t.length t.length) t.length (fillV .nilIface (vvals D) k) ∧ Below w.heap.size w wr) (fun _ i _ => t.length - (intOf i).toNat)
  case atStart => exact ⟨0, rfl, rfl, by omega, HO4.out, HB4.out⟩
  case round =>
    obtain ⟨k, rfl, rfl, hk, how, hbel⟩ := hrel
    have HB := hidden hbel
    have HO := hidden how
    have hzr := hbel.size
    clear hbel how
    by_cases hlt : k < t.length
    · have hkD : k < (vvals D).length := by rw [vvals_length, HDL.out]; exact hlt
      have hval : (vvals D)[k] = valC (if t[k] = 0 then nul else s.getD (t.take k).sum nul) := by
        have := HDG.out k hlt
        rw [List.getElem?_eq_getElem hkD] at this
        exact Option.some.inj this
      obtain ⟨b, off, rfl, hb, hck⟩ := (HT.out.kept HB.out).at1 (vals_get hlt)
      have hx2 := H2.out t[k] (List.getElem_mem hlt)
      have HTS := hidden (sum_take_succ hlt)
      have hlt' : (k : Int) < (t.length : Int) := by omega
      have hsk : (t.take k).sum ≤ 256 := by
        have := sum_two (l := t.take k) fun x hx => H2.out x (List.mem_of_mem_take hx)
        rw [List.length_take] at this
        omega
      by_cases hx : t[k] = 0
      · rw [if_pos hx] at hval
        have HFS := hidden (fillV_same (z := .nilIface) hkD hval)
        rw [hx] at hck HTS
        clear hval hx hx2
        generalize (t.take k).sum = sm at *
        go_wp2_with fail
        go_roundw
        case rel => exact ⟨k + 1, by rw [HTS.out, Nat.add_zero], by go_num, by omega, by rw [HFS.out]; exact HO.out, HB.out⟩
        case measure => simp [intOf]; omega
      · have hx1 : t[k] = 1 := by omega
        rw [if_neg hx] at hval
        have hsl : (t.take k).sum < s.length := by
          have h1 : (t.take (k + 1)).sum ≤ t.sum := by
            conv => rhs; rw [← List.take_append_drop (k + 1) t, List.sum_append]
            omega
          rw [HTS.out, hx1] at h1
          rw [HSUM.out]
          omega
        have hgd : s.getD (t.take k).sum nul = s[(t.take k).sum] := by rw [List.getD_eq_getElem?_getD, List.getElem?_eq_getElem hsl]; rfl
        rw [hgd] at hval
        obtain ⟨b2, off2, rfl, hb2, hcs⟩ := (HS.out.kept HB.out).at1 (vvals_get hsl)
        obtain ⟨tt, uu, hvv⟩ := valC_form s[(t.take k).sum] (HNZ.out _ (List.getElem_mem hsl))
        rw [hvv] at hcs hval
        rw [hx1] at hck HTS
        have hfl : k < (fillV .nilIface (vvals D) k).length := by rw [fillV_length (by omega)]; exact hkD
        have HFS := hidden (fillV_set (z := .nilIface) hkD)
        rw [hval] at HFS
        have ho5 := HO.out
        have hck5 := (ho5.cellAt k (by omega)).trans (List.getElem?_eq_getElem hfl)
        have hfr5 := ho5.frozenAt k
        have hST := ho5.stored k (.iface tt uu)
        rw [HFS.out] at hST
        have HST := hidden hST
        have hgz := (ho5.lt w.heap.size rfl).2
        clear hST ho5 hval hvv hgd hx hx1 hx2
        generalize (fillV .nilIface (vvals D) k)[k] = y at *
        generalize (t.take k).sum = sm at *
        have hsl' : (sm : Int) < (s.length : Int) := by omega
        go_wp2_with fail
        go_roundw
        case rel => exact ⟨k + 1, by rw [HTS.out]; go_num, by go_num, by omega, HST.out.1, below_set HB.out (Nat.le_refl _) _⟩
        case measure => simp [intOf]; omega
    · obtain rfl : k = t.length := by omega
      have e : fillV .nilIface (vvals D) t.length = vvals D := by
        have := fillV_all .nilIface (vvals D)
        rwa [vvals_length, HDL.out] at this
      rw [e] at HO
      have HO' : Hid (OwnV wr w.heap.size (.slice (some ⟨w.heap.size, 0, none⟩) t.length t.length) D) := hidden (by
        unfold OwnV
        rw [HDL.out]
        exact HO.out)
      have hge : ¬ ((t.length : Nat) : Int) < (t.length : Int) := by omega
      clear HO e
      go_wp2_with fail
      go_ret
      exact ⟨⟨_, rfl, HO'.out⟩, HB.out⟩
end Go.Proofs.YtcmmednihoaekaaGreat
