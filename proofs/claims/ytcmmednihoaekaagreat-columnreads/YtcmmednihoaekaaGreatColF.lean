/- Contracts of layer column: putLengthsAndBytes. -/
import Derived.Test.YtcmmednihoaekaaGreatColE
set_option linter.unusedVariables false
set_option linter.unusedSimpArgs false
namespace Go.Proofs.YtcmmednihoaekaaGreat
open Go.RowKit Go.Lib

theorem flatten_take_succ {l : List (List Nat)} {k : Nat} (h : k < l.length) : (l.take (k + 1)).flatten = (l.take k).flatten ++ l[k] := by
  rw [List.take_succ_eq_append_getElem h, List.flatten_append]
  simp

theorem flatten_take_len {l : List (List Nat)} (ht : Ts l) (hl : l.length ≤ 256) (k : Nat) : (l.take k).flatten.length ≤ 16384 := by
  have h := (sum_sizes (l := l.take k) fun s hs => ht s (List.mem_of_mem_take hs)).1
  rw [List.length_take] at h
  omega

set_option maxRecDepth 100000 in
set_option maxHeartbeats 4000000 in
theorem putLens_any {w : World} {g : Nat} {v vl : Value} {bs : List Nat} {l : List (List Nat)} (hg : Gs w g v bs) (hbs : bs.length ≤ 100000) (hs : Sv w vl (svals l)) (hlow : ∀ k, vl.ownBlock = some k → k < g) (hl : l.length ≤ 256) (ht : Ts l) :
    Calls Tryz.prog 71 #[.func (.func 45) #[] #[.pointer (some ⟨g, 0, none⟩)], vl] w (PutsPost w g (bs ++ txts l)) := by
  obtain ⟨i0, hi, hz0, hz1', hz2⟩ := info_parts info2
  have HG := hidden hg
  have hglt := hg.lt
  have HS := hidden hs
  have HT := hidden ht
  have HLOW := hidden hlow
  obtain ⟨a, cap, rfl, hcap, hcm⟩ := hs.form1
  rw [svals_length] at *
  have hcm' : cap ≤ 9223372036854775807 := by unfold maxLen at hcm; omega
  have HTX : Hid (txts l = cnt (sizes l) ++ l.flatten) := rfl
  have HFL := hidden (fun k => flatten_take_len ht hl k)
  obtain ⟨D, hD⟩ : ∃ D, sizes l = D := ⟨_, rfl⟩
  have hDl : D.length = l.length := by rw [← hD, sizes_length]
  have HDI : Hid (Is D) := hidden (hD ▸ sizes_i64 ht)
  have HDG : Hid (∀ k (h : k < l.length), (ivals D)[k]? = some (.int .i64 ((bytesT l[k]).size : Int))) := hidden (fun k h => by rw [← hD]; simp [sizes, ivals, h, bytesT_size])
  rw [hD] at HTX
  have HDL := hidden hDl
  have hcl : (cnt D).length ≤ 5141 := by
    have h1 := bstC_len HDI.out (by omega)
    have h2 := uv_ten (n := (bstC D).length) (by omega)
    unfold cnt
    rw [List.length_append]
    omega
  clear hs hcm hD hDl hg ht hlow
  go_enter Tryz.func71, Tryz.ntmps71
  go_wp2_with (first | (refine wpList_make_full _ rfl _ _ 53 rfl w.heap.size 2 i0 (.int .i64 0) 1 Tryz.underlying53 hi hz0 hz1' .i64 .i64 _ _ l.length rfl rfl ?m1 ?m2 ?m3 ?m4 ?m5 ?_))
  case m1 => rfl
  case m2 => rfl
  case m3 => rw [hz2]; omega
  case m4 => unfold maxLen; omega
  case m5 => omega
  intro w4 ho4 hg4
  have hb4 : Below w.heap.size w w4 := (Below.refl _ _).grown hg4 (Nat.le_refl _) (fun k hk => by cases hk)
  have ho4' : w4.ownsRow w.heap.size 2 1 (.slice (some ⟨w.heap.size, 0, none⟩) l.length l.length) l.length (fillV (.int .i64 0) (ivals D) 0) := by
    rw [fillV_zero, ivals_length, HDL.out, ← toList_madeCells_one]
    simpa using ho4
  have HO4 := hidden ho4'
  have HB4 := hidden hb4
  clear ho4 hg4 hb4 ho4'
  go_wp2_with fail
  go_loopw [14] (fun i wr => ∃ k : Nat, i = .int .i64 (k : Int) ∧ k ≤ l.length ∧ wr.ownsRow w.heap.size 2 1 (.slice (some ⟨w.heap.size, 0, none⟩) l.length l.length) l.length (fillV (.int .i64 0) (ivals D) k) ∧ Below w.heap.size w wr) (fun i _ => l.length - (intOf i).toNat)
  case atStart => exact ⟨0, rfl, by omega, HO4.out, HB4.out⟩
  case round =>
    obtain ⟨k, rfl, hk, how, hbel⟩ := hrel
    have HB := hidden hbel
    have HO := hidden how
    have hzr := hbel.size
    clear hbel how
    by_cases hlt : k < l.length
    · have hkD : k < (ivals D).length := by rw [ivals_length, HDL.out]; exact hlt
      have hval : (ivals D)[k] = .int .i64 ((bytesT l[k]).size : Int) := by
        have := HDG.out k hlt
        rw [List.getElem?_eq_getElem hkD] at this
        exact Option.some.inj this
      obtain ⟨b, off, rfl, hb, hck⟩ := (HS.out.kept HB.out).at1 (svals_get hlt)
      have hfl : k < (fillV (.int .i64 0) (ivals D) k).length := by rw [fillV_length (by omega)]; exact hkD
      have HFS := hidden (fillV_set (z := .int .i64 0) hkD)
      have ho5 := HO.out
      have hck5 := (ho5.cellAt k (by omega)).trans (List.getElem?_eq_getElem hfl)
      have hfr5 := ho5.frozenAt k
      have hST := ho5.stored k (.int .i64 ((bytesT l[k]).size : Int))
      rw [← hval, HFS.out] at hST
      rw [hval] at hST
      have HST := hidden hST
      have hgz := (ho5.lt w.heap.size rfl).2
      have hsz : (bytesT l[k]).size ≤ 64 := by rw [bytesT_size]; exact (HT.out _ (List.getElem_mem hlt)).1
      rw [txt_eq] at hck
      clear hST ho5 hval
      generalize (fillV (.int .i64 0) (ivals D) k)[k] = y at *
      generalize bytesT l[k] = S at *
      go_wp2_with fail
      go_roundw
      case rel => exact ⟨k + 1, by go_num, by omega, HST.out.1, below_set HB.out (Nat.le_refl _) _⟩
      case measure => simp [intOf]; omega
    · obtain rfl : k = l.length := by omega
      have e : fillV (.int .i64 0) (ivals D) l.length = ivals D := by
        have := fillV_all (.int .i64 0) (ivals D)
        rwa [ivals_length, HDL.out] at this
      rw [e] at HO
      have ho' : OwnI wr w.heap.size (.slice (some ⟨w.heap.size, 0, none⟩) l.length l.length) D := by
        unfold OwnI
        rw [HDL.out]
        exact HO.out
      have HCT := hidden (counted_any ho'.sv (by rw [HDL.out]; exact hl) HDI.out)
      have HGr := hidden (HG.out.kept HB.out)
      clear e ho' HO
      go_wp2_with fail
      refine HCT.out.mono ?_
      rintro e w6 ⟨⟨v6, rfl, ho6⟩, hb6⟩
      have HP6 := hidden (cput_any (HGr.out.kept hb6) ho6.sv (by omega))
      have HB6 := hidden (HB.out.trans (hb6.mono hzr))
      have hz6 := hb6.size
      clear ho6 hb6
      go_wp2_with fail
      refine HP6.out.mono ?_
      rintro e w7 ⟨rfl, ⟨v7, hg7⟩, hb7, _⟩
      have HG7 := hidden hg7
      have HB7 := hidden ((HB6.out.mono (Nat.le_of_lt hglt)).trans hb7)
      clear hg7 hb7
      go_wp2_with fail
      go_loopw [31] (fun i wr => ∃ k : Nat, i = .int .i64 (k : Int) ∧ k ≤ l.length ∧ (∃ v', Gs wr g v' (bs ++ cnt D ++ (l.take k).flatten)) ∧ Below g w wr) (fun i _ => l.length - (intOf i).toNat)
      case atStart => exact ⟨0, rfl, by omega, ⟨v7, by simpa using HG7.out⟩, HB7.out⟩
      case round =>
        obtain ⟨k, rfl, hk, ⟨vq, hgq⟩, hbq⟩ := hrel
        have HGQ := hidden hgq
        have HBQ := hidden hbq
        have hzq := hbq.size
        clear hgq hbq
        by_cases hlt : k < l.length
        · obtain ⟨b, off, rfl, hb, hck⟩ := (HS.out.keptB HLOW.out HBQ.out).at1 (svals_get hlt)
          obtain ⟨hts, htb⟩ := HT.out _ (List.getElem_mem hlt)
          obtain ⟨gc, cc, wc, hcv, hsc, hbc, hzc⟩ := conv_bytes htb (by omega) wr
          rw [txt_eq] at hck
          have HFT := hidden (flatten_take_succ hlt)
          have hfl := HFL.out k
          have HPQ := hidden (cput_any (HGQ.out.kept hbc) hsc (by simp only [List.length_append]; omega))
          have HBC := hidden (HBQ.out.trans (hbc.mono (Nat.le_trans (Nat.le_of_lt HGQ.out.lt) (Nat.le_refl _))))
          have hbl : g < wr.heap.size := HGQ.out.lt
          clear hsc hbc htb hts
          generalize bytesT l[k] = S at *
          generalize l[k] = x at *
          go_wp2_with fail
          refine HPQ.out.mono ?_
          rintro e w8 ⟨rfl, ⟨v8, hg8⟩, hb8, _⟩
          rw [List.append_assoc, ← HFT.out] at hg8
          have HG8 := hidden hg8
          have HB8 := hidden (HBC.out.trans hb8)
          clear hg8 hb8
          go_wp2_with fail
          go_roundw
          case rel => exact ⟨k + 1, by go_num, by omega, ⟨_, HG8.out⟩, HB8.out⟩
          case measure => simp [intOf]; omega
        · obtain rfl : k = l.length := by omega
          rw [List.take_length, List.append_assoc, ← HTX.out] at HGQ
          go_wp2_with fail
          go_end0
          exact ⟨rfl, ⟨_, HGQ.out⟩, HBQ.out⟩
end Go.Proofs.YtcmmednihoaekaaGreat
