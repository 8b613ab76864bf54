/- Contracts: the document's Encode by codec 3. -/
import Derived.Test.YtcmmednihoaekaaGreatRefEnc
set_option linter.unusedVariables false
set_option linter.unusedSimpArgs false
namespace Go.Proofs.YtcmmednihoaekaaGreat
open Go.RowKit Go.Lib

set_option maxRecDepth 100000 in
set_option maxHeartbeats 8000000 in
theorem refEncode_3 {w : World} {v : Value} {l : List Int} (hs : Sv w v (ivals l)) (hl : l.length ≤ 256) (hi : Is l) :
    Calls Tryz.prog 52 #[.int .i64 3, v] w (EncPost (enc3 l) w) := by
  have HI : Hid (Is (uniq l)) := uniq_i64 hi
  have HS := hidden hs
  have HUN := hidden (unlike_any hs hl)
  have HF : Hid (enc3 l = uv (uniq l).length ++ (encU (uniq l) ++ packR (l.map (pl (uniq l))) (wd (l.map (pl (uniq l))) : Int))) := rfl
  have HUR := hidden (uniq_rising l)
  have HMEM : Hid (∀ x ∈ l, x ∈ uniq l) := fun x hx => mem_uniq.2 hx
  have HP64 : Hid (∀ x ∈ l.map (pl (uniq l)), x < 18446744073709551616) := places_u64 hl
  have hul := uniq_length l
  have hps := packR_size' (p := l.map (pl (uniq l))) (x := (wd (l.map (pl (uniq l))) : Int)) (by rw [List.length_map]; omega)
  have HSU := hidden (encU_size (uniq_i64 hi)).1
  obtain ⟨a, cap, rfl, hcap, hcm⟩ := hs.form
  have hgt : ¬ (l.length : Int) > 256 := by omega
  clear hs hi hcap hcm
  generalize uniq l = u at *
  have HP := hidden hps
  clear hps
  go_enter Tryz.func52, Tryz.ntmps52
  go_wp2_with fail
  refine HUN.out.mono ?_
  rintro e w1 ⟨⟨vu, rfl, ou⟩, hb1⟩
  have HU1 := hidden ou
  have HB1 := hidden hb1
  have hz1 := hb1.size
  obtain ⟨au, cu, rfl⟩ := ou.len
  clear ou hb1
  have hu256 : u.length ≤ 256 := by omega
  go_wp2_with fail
  refine (refPut_told u.length (by omega) _).mono ?_
  rintro e w2 ⟨⟨v2, rfl, o2⟩, hb2⟩
  have HO2 := hidden o2
  have HB2 := hidden hb2
  clear o2 hb2
  have h10 := uv_ten (n := u.length) (by omega)
  generalize uv u.length = un at *
  go_wp2_with fail
  go_loopw [6, 13] (fun b i wr => ∃ k : Nat, k ≤ u.length ∧ i = .int .i64 (k : Int) ∧ OwnB wr w1.heap.size b (un ++ encU (u.take k)) ∧ Below w1.heap.size w1 wr) (fun _ i _ => u.length - (intOf i).toNat)
  case atStart => exact ⟨0, by omega, rfl, by rw [List.take_zero, encU, List.append_nil]; exact HO2.out, HB2.out⟩
  case round =>
    obtain ⟨k, hk, rfl, hown, hbel⟩ := hrel
    have HO := hidden hown
    have HB := hidden hbel
    have hzr := hbel.size
    clear hown hbel
    by_cases hlt : k < u.length
    · have hlt3 : (k : Int) < (u.length : Int) := by omega
      obtain ⟨b, off, hbo, hb, hck0⟩ := HU1.out.sv.at hlt
      cases hbo
      have hck := (HB.out.cell (p := ⟨b, off + k, none⟩) hb).trans hck0
      clear hck0
      have HX := hidden (HI.out.get hlt)
      have hsz := (encU_size (HI.out.take k)).1
      rw [List.length_take] at hsz
      have hten := wv_ten (HI.out.get hlt)
      cases k with
      | zero =>
        have HT := hidden (encU_one hlt)
        rw [Nat.add_zero] at hck
        generalize encU (u.take 0) = acc at *
        generalize u[0] = x at *
        go_wp2_with fail
        refine (refPutInt_told HX.out _).mono ?_
        rintro e w3 ⟨⟨v3, rfl, hown3⟩, hb3⟩
        have HO3 := hidden hown3
        have HOk := hidden (HO.out.kept hb3)
        have HB3 := hidden (HB.out.trans (hb3.mono hzr))
        have hz3 := HB3.out.size
        clear hown3 hb3
        go_wp2_with (first | (at_builtin; refine wpList_append_sv rfl _ _ rfl w1.heap.size _ _ (un ++ acc) (wv x) rfl HOk.out rfl HO3.out.sv ?c1 ?c2 ?_))
        case c1 => simp; omega
        case c2 => omega
        intro v4 w4 o4 b4
        have o4' : OwnB w4 w1.heap.size v4 (un ++ encU (u.take 1)) := by rw [HT.out, ← List.append_assoc]; simpa using o4
        have HO4 := hidden o4'
        have HB4 := hidden (HB3.out.trans b4)
        clear o4 o4' b4
        go_wp2_with fail
        go_roundw
        case rel => exact ⟨1, by omega, by go_num, HO4.out, HB4.out⟩
        case measure => simp [intOf]; omega
      | succ k =>
        obtain ⟨b', off', hbo, _, hck20⟩ := HU1.out.sv.at (show k < u.length by omega)
        cases hbo
        have hck2 := (HB.out.cell (p := ⟨b, off + k, none⟩) hb).trans hck20
        clear hck20
        have HX2 := hidden (HI.out.get (show k < u.length by omega))
        have hlt2 : u[k] < u[k + 1] := List.pairwise_iff_getElem.1 HUR.out k (k + 1) (by omega) hlt (by omega)
        have HT := hidden (encU_succ hlt)
        have h1 := HX.out
        have h2 := HX2.out
        unfold I64 at h1 h2
        have hd : (u[k + 1] - u[k]).toNat < 18446744073709551616 := by omega
        have hten2 := uv_ten hd
        have hpos := uv_pos (u[k + 1] - u[k]).toNat
        have hk0 : (((k + 1 : Nat) : Int) == 0) = false := beq_eq_false_iff_ne.2 (by omega)
        have hj1 : (0 : Int) ≤ (k : Int) + 1 := by omega
        have hj2 : (k : Int) + 1 < (u.length : Int) := by omega
        have hj3 : ((k : Int) + 1).toNat = k + 1 := by omega
        have hj4 : (0 : Int) ≤ (k : Int) := by omega
        have hj5 : (k : Int) < (u.length : Int) := by omega
        have hj6 : IntKind.i64.wrap ((k : Int) + 1 - 1) = (k : Int) := by rw [IntKind.wrap_i64]; omega
        have hj7 : (k : Int) + 1 - 1 = (k : Int) := by omega
        have hj8 : IntKind.i64.wrap (k : Int) = (k : Int) := by rw [IntKind.wrap_i64]; omega
        obtain ⟨X, hX⟩ : ∃ X, IntKind.u64.wrap u[k + 1] = X := ⟨_, rfl⟩
        obtain ⟨Y, hY⟩ : ∃ Y, IntKind.u64.wrap u[k] = Y := ⟨_, rfl⟩
        have hD : IntKind.u64.wrap (X - Y) = (((u[k + 1] - u[k]).toNat : Nat) : Int) := by
          rw [← hX, ← hY, IntKind.wrap_u64, IntKind.wrap_u64, IntKind.wrap_u64]
          omega
        have HDL := hidden hd
        clear h1 h2 hd hlt2
        generalize u[k + 1] = x at *
        generalize u[k] = y at *
        generalize encU (u.take (k + 1)) = acc at *
        generalize (x - y).toNat = d at *
        have HKEEP : Hid (∀ n W', Below wr.heap.size (wr.drewN n) W' → W'.cell? ⟨b, off + (k + 1), none⟩ = some (.int .i64 x) ∧ W'.cell? ⟨b, off + k, none⟩ = some (.int .i64 y) ∧ OwnB W' w1.heap.size u6 (un ++ acc) ∧ Below w1.heap.size w1 W' ∧ w1.heap.size ≤ W'.heap.size) := hidden (fun n W' h => by
          have hb' : Below wr.heap.size wr W' := (below_drewN (Below.refl _ _) n).trans h
          have hbw := HB.out.trans (hb'.mono hzr)
          exact ⟨(hb'.cell (p := ⟨b, off + (k + 1), none⟩) (Nat.lt_of_lt_of_le hb hzr)).trans hck, (hb'.cell (p := ⟨b, off + k, none⟩) (Nat.lt_of_lt_of_le hb hzr)).trans hck2, HO.out.kept hb', hbw, hbw.size⟩)
        have hlen : (un ++ acc).length + (uv d).length ≤ 100000 := by simp; omega
        go_wp2_with fail
        go_region_held3 (fun w' => w'.cell? ⟨b, off + (k + 1), none⟩ = some (.int .i64 x) ∧ w'.cell? ⟨b, off + k, none⟩ = some (.int .i64 y)) (go_keep) (first
          | (go_at_call 35; refine (refPut_told d HDL.out _).mono ?_; rintro e w2 ⟨⟨v2, rfl, hown2⟩, hb2⟩; obtain ⟨hm1, hm2, hm3, hm4, hm5⟩ := HKEEP.out _ _ hb2; have HM3 := hidden hm3; have HM4 := hidden hm4; have HO2 := hidden hown2; clear hb2 hm3 hm4 hown2)
          | (refine step_append_b (by rfl) _ _ (by rfl) w1.heap.size _ _ _ (un ++ acc) (uv d) (by rfl) HM3.out (by rfl) HO2.out hpos hlen hm5 ?_; intro v3 w3 o3 b3; have hq1 := (b3.cell (p := ⟨b, off + (k + 1), none⟩) hb).trans hm1; have hq2 := (b3.cell (p := ⟨b, off + k, none⟩) hb).trans hm2; have HO3 := hidden o3; have HB3 := hidden (HM4.out.trans b3); clear o3 b3))
        all_goals go_wp2_with fail
        all_goals go_roundw
        case rel => exact ⟨k + 1 + 1, by omega, by go_num, by rw [HT.out, ← List.append_assoc]; simpa using HO3.out, HB3.out⟩
        case measure => simp [intOf]; omega
    · obtain rfl : k = u.length := by omega
      have hlt3 : ¬ (u.length : Int) < (u.length : Int) := by omega
      rw [List.take_length] at HO
      have HUZ := hidden (HU1.out.kept HB.out)
      have HSZ := hidden (HS.out.kept (HB1.out.trans (HB.out.mono hz1)))
      generalize wr = W5 at *
      go_wp2_with fail
      go_loopw [12, 14] (fun vp i wr => ∃ k : Nat, k ≤ l.length ∧ i = .int .i64 (k : Int) ∧ OwnU wr W5.heap.size vp ((l.take k).map (pl u)) ∧ Below W5.heap.size W5 wr) (fun _ i _ => l.length - (intOf i).toNat)
      case atStart => exact ⟨0, by omega, rfl, OwnU.nil _ _, Below.refl _ _⟩
      case round =>
        obtain ⟨k, hk, rfl, hoP, hbP⟩ := hrel
        have HOP := hidden hoP
        have HBP := hidden hbP
        have hzP := hbP.size
        clear hoP hbP
        by_cases hlk : k < l.length
        · have hlk3 : (k : Int) < (l.length : Int) := by omega
          obtain ⟨bl, offl, rfl, hbl, hcl⟩ := (HSZ.out.kept HBP.out).at hlk
          have HPLC := hidden (place_any (HUZ.out.kept HBP.out).sv hu256 l[k] (HMEM.out _ (List.getElem_mem hlk)))
          have HTK := hidden (List.take_succ_eq_append_getElem hlk)
          obtain ⟨ys, hys⟩ : ∃ ys, (l.take k).map (pl u) = ys := ⟨_, rfl⟩
          have hyl : ys.length ≤ 256 := by rw [← hys, List.length_map, List.length_take]; omega
          rw [hys] at HOP
          have HYS := hidden hys
          clear hys
          obtain ⟨q, hq⟩ : ∃ q, pl u l[k] = q := ⟨_, rfl⟩
          rw [hq] at HPLC
          have HQ := hidden hq
          clear hq
          generalize l[k] = x at *
          have HOA := hidden (HOP.out.kept (below_alloc' wr (.cells #[.int .u64 (q : Int)] 63)))
          have HBA := hidden (HBP.out.alloc hzP (.cells #[.int .u64 (q : Int)] 63))
          go_wp2_with fail
          refine HPLC.out.mono ?_
          rintro e w8 ⟨rfl, rfl⟩
          go_wp2_with (first | (at_builtin; refine wpList_append_u rfl _ _ rfl W5.heap.size _ _ q ys rfl HOA.out rfl (cell_new _ _ _) ?c2 ?c3 ?_))
          case c2 => omega
          case c3 => first | omega | (rw [World.size_alloc]; omega)
          intro v7 w7 o7 b7
          have HO7 := hidden o7
          have HB7 := hidden (HBA.out.trans b7)
          clear o7 b7
          go_wp2_with fail
          go_roundw
          case rel =>
            refine ⟨k + 1, by omega, by go_num, ?_, HB7.out⟩
            rw [HTK.out, List.map_append, HYS.out, List.map_singleton, HQ.out]
            exact HO7.out
          case measure => simp [intOf]; omega
        · obtain rfl : k = l.length := by omega
          have hlk3 : ¬ (l.length : Int) < (l.length : Int) := by omega
          rw [List.take_length] at HOP
          obtain ⟨P, hP⟩ : ∃ P, l.map (pl u) = P := ⟨_, rfl⟩
          rw [hP] at HOP HP64 HF HP
          have HOZ := hidden (HO.out.kept HBP.out)
          have HWD := hidden (refWidth_any HOP.out.sv.sx HP64.out)
          have hps := HP.out
          have hsu := HSU.out
          clear hP
          go_wp2_with fail
          refine HWD.out.mono ?_
          rintro e w8 ⟨rfl, rfl⟩
          go_wp2_with fail
          refine (refPack_any HOP.out.sv.sx HP64.out _).mono ?_
          rintro e w9 ⟨v9, rfl, o9, hb9⟩
          have HO9 : Hid (OwnB w9 w8.heap.size v9 (packR P (wd P : Int))) := o9
          have HO19 := hidden (HOZ.out.kept hb9)
          have HB9 := hidden (HB.out.trans ((HBP.out.trans (hb9.mono hzP)).mono hzr))
          have hz9 := HB9.out.size
          clear o9 hb9
          generalize packR P (wd P : Int) = PK at *
          go_wp2_with (first | (at_builtin; refine wpList_append_sv rfl _ _ rfl w1.heap.size _ _ (un ++ encU u) PK rfl HO19.out rfl HO9.out.sv ?d1 ?d2 ?_))
          case d1 => simp; omega
          case d2 => omega
          intro vA wA oA bA
          have HOA : Hid (OwnB wA w.heap.size vA (enc3 l)) := hidden (by
            rw [HF.out]
            have := oA.low hz1
            simpa using this)
          have HBA := hidden (HB1.out.trans ((HB9.out.trans bA).mono hz1))
          clear oA bA
          go_wp2_with fail
          go_ret2
          exact ⟨⟨_, rfl, HOA.out⟩, HBA.out⟩
end Go.Proofs.YtcmmednihoaekaaGreat
