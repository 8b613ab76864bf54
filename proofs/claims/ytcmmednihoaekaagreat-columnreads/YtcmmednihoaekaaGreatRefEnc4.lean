/- Contracts: the document's Encode by codec 4, and by any; the document's Best. Contracts: the document's Best. -/
import Derived.Test.YtcmmednihoaekaaGreatRefEnc3
import Derived.Test.YtcmmednihoaekaaGreatBest
set_option linter.unusedVariables false
set_option linter.unusedSimpArgs false
namespace Go.Proofs.YtcmmednihoaekaaGreat
open Go.RowKit Go.Lib

set_option maxRecDepth 100000 in
set_option maxHeartbeats 2000000 in
theorem refEncode_4n {w : World} {v : Value} (hs : Sv w v (ivals [])) : Calls Tryz.prog 52 #[.int .i64 4, v] w (EncPost (enc4 []) w) := by
  obtain ⟨a, cap, rfl, hcap, hcm⟩ := hs.form
  clear hs hcap hcm
  go_enter Tryz.func52, Tryz.ntmps52
  go_wp2_with fail
  go_ret2
  exact ⟨⟨_, rfl, OwnB.nil _ _⟩, Below.refl _ _⟩

theorem least_first {l : List Int} (h : 0 < (uniq l).length) : (uniq l)[0] = least l := by
  unfold least
  revert h
  generalize uniq l = u
  intro h
  cases u with
  | nil => simp at h
  | cons y t => rfl

set_option maxRecDepth 100000 in
set_option maxHeartbeats 8000000 in
theorem refEncode_4s {w : World} {v : Value} {l : List Int} (hs : Sv w v (ivals l)) (hl : l.length ≤ 256) (hi : Is l) (hp : 0 < l.length) :
    Calls Tryz.prog 52 #[.int .i64 4, v] w (EncPost (enc4 l) w) := by
  have HI := hidden hi
  have HS := hidden hs
  have HUN := hidden (unlike_any hs hl)
  have hup := uniq_pos hp
  have HLF := hidden (least_first hup)
  have HE := hidden (mores_cases hp)
  have HLI := hidden (hi _ (least_mem hp))
  have HLE := hidden (least_le (l := l))
  have H64 := hidden (mores_lt hi)
  have h10 := wv_ten (hi _ (least_mem hp))
  have hwd := wd64 (mores_lt hi)
  have hps := packR_size' (p := mores l) (x := (wd (mores l) : Int)) (by rw [mores_length]; omega)
  have HDL := hidden (mores_length l)
  have HG : Hid (∀ k (h : k < l.length) (h2 : k < (mores l).length), (mores l)[k] = (l[k] - least l).toNat) := hidden (fun k h h2 => by simp [mores])
  have HUW : Hid (uv (wd (mores l)) = [wd (mores l)]) := uv_small (by omega)
  obtain ⟨a, cap, rfl, hcap, hcm⟩ := hs.form
  have hgt : ¬ (l.length : Int) > 256 := by omega
  have hlen0 : ((l.length : Int) == 0) = false := beq_eq_false_iff_ne.2 (by omega)
  clear hs hi hcap hcm
  obtain ⟨D, hD⟩ : ∃ D, mores l = D := ⟨_, rfl⟩
  rw [hD] at HE H64 hwd hps HDL HG HUW
  obtain ⟨lo, hlo⟩ : ∃ lo, least l = lo := ⟨_, rfl⟩
  rw [hlo] at HE HLI HLE HLF HG h10
  clear hD hlo
  go_enter Tryz.func52, Tryz.ntmps52
  go_wp2_with fail
  refine HUN.out.mono ?_
  rintro e w1 ⟨⟨vu, rfl, ou⟩, hb1⟩
  have HB1 := hidden hb1
  have hz1 := hb1.size
  obtain ⟨gu, cu, rfl, _, _⟩ := own_form ou hup
  obtain ⟨b', off', hbo, _, hcu⟩ := ou.sv.at hup
  cases hbo
  rw [HLF.out, Nat.add_zero] at hcu
  clear ou hb1
  have hup3 : (0 : Int) < ((uniq l).length : Int) := by omega
  go_wp2_with fail
  go_loopw [18, 19] (fun vm i wr => ∃ k : Nat, k ≤ l.length ∧ i = .int .i64 (k : Int) ∧ OwnU wr w1.heap.size vm (D.take k) ∧ Below w1.heap.size w1 wr) (fun _ i _ => l.length - (intOf i).toNat)
  case atStart => exact ⟨0, by omega, rfl, OwnU.nil _ _, Below.refl _ _⟩
  case round =>
    obtain ⟨k, hk, rfl, hoP, hbP⟩ := hrel
    have HOP := hidden hoP
    have HBP := hidden hbP
    have hzP := hbP.size
    clear hoP hbP hcu
    by_cases hlk : k < l.length
    · have hlk3 : (k : Int) < (l.length : Int) := by omega
      have hkD : k < D.length := by rw [HDL.out]; exact hlk
      obtain ⟨bl, offl, rfl, hbl, hcl⟩ := (HS.out.kept (HB1.out.trans (HBP.out.mono hz1))).at hlk
      have HTK := hidden (List.take_succ_eq_append_getElem hkD)
      have hval := HG.out k hlk hkD
      have h1 := HI.out.get hlk
      have h2 := HLI.out
      have h3 := HLE.out _ (List.getElem_mem hlk)
      unfold I64 at h1 h2
      obtain ⟨X, hX⟩ : ∃ X, IntKind.u64.wrap l[k] = X := ⟨_, rfl⟩
      obtain ⟨Y, hY⟩ : ∃ Y, IntKind.u64.wrap lo = Y := ⟨_, rfl⟩
      have hXY : IntKind.u64.wrap (X - Y) = ((D[k] : Nat) : Int) := by
        rw [← hX, ← hY, hval, IntKind.wrap_u64, IntKind.wrap_u64, IntKind.wrap_u64]
        omega
      have hyl : (D.take k).length ≤ 256 := by rw [List.length_take]; omega
      clear hval h1 h2 h3
      generalize l[k] = x at *
      generalize D[k] = q at *
      generalize D.take k = ys at *
      have HOA := hidden (HOP.out.kept (below_alloc' wr (.cells #[.int .u64 (q : Int)] 63)))
      have HBA := hidden (HBP.out.alloc hzP (.cells #[.int .u64 (q : Int)] 63))
      go_wp2_with (first | (at_builtin; refine wpList_append_u rfl _ _ rfl w1.heap.size _ _ q ys rfl HOA.out rfl (cell_new _ _ _) ?c2 ?c3 ?_))
      case c2 => omega
      case c3 => first | omega | (rw [World.size_alloc]; omega)
      intro v7 w7 o7 b7
      have HO7 := hidden o7
      have HB7 := hidden (HBA.out.trans b7)
      clear o7 b7
      go_wp2_with fail
      go_roundw
      case rel => exact ⟨k + 1, by omega, by go_num, by rw [HTK.out]; exact HO7.out, HB7.out⟩
      case measure => simp [intOf]; omega
    · obtain rfl : k = l.length := by omega
      have hlk3 : ¬ (l.length : Int) < (l.length : Int) := by omega
      rw [← HDL.out, List.take_length] at HOP
      have HWD := hidden (refWidth_any HOP.out.sv.sx H64.out)
      have HPK := hidden (fun x => refPack_any HOP.out.sv.sx H64.out x)
      generalize wd D = W at *
      go_wp2_with fail
      refine HWD.out.mono ?_
      rintro e w8 ⟨rfl, rfl⟩
      go_wp2_with fail
      refine (HPK.out _).mono ?_
      rintro e w9 ⟨v9, rfl, o9, hb9⟩
      have HO9 : Hid (OwnB w9 w8.heap.size v9 (packR D (W : Int))) := o9
      have HB9 := hidden (HB1.out.trans ((HBP.out.trans (hb9.mono hzP)).mono hz1))
      have hz9 := HB9.out.size
      clear o9 hb9
      generalize packR D (W : Int) = PK at *
      go_wp2_with fail
      refine (refPutInt_told HLI.out _).mono ?_
      rintro e w10 ⟨⟨v10, rfl, o10⟩, hb10⟩
      have HO10 := hidden o10
      have HB910 := hidden hb10
      have HB10 := hidden (HB9.out.trans (hb10.mono hz9))
      have hz10 := hb10.size
      clear o10 hb10
      have HLT := hidden (lit_own w10 W)
      have HBL := hidden (below_alloc' w10 (.cells #[.int .u8 (W : Int)] 5))
      have HO11 := hidden (HO10.out.kept HBL.out)
      go_wp2_with (first | (at_builtin; refine wpList_append_sv rfl _ _ rfl w9.heap.size _ _ (wv lo) [W] rfl HO11.out rfl HLT.out.sv ?d1 ?d2 ?_))
      case d1 => simp; omega
      case d2 => first | omega | (rw [World.size_alloc]; omega)
      intro vA wA oA bA
      have HOA := hidden oA
      have HB10A := hidden ((HBL.out.mono hz10).trans bA)
      have HB9A := hidden (HB910.out.trans HB10A.out)
      have HPA := hidden (HO9.out.kept HB9A.out)
      have HBA := hidden (HB9.out.trans (HB9A.out.mono hz9))
      have hzA := HB9A.out.size
      clear oA bA
      go_wp2_with (first | (at_builtin; refine wpList_append_sv rfl _ _ rfl w9.heap.size _ _ (wv lo ++ [W]) PK rfl HOA.out rfl HPA.out.sv ?e1 ?e2 ?_))
      case e1 => simp; omega
      case e2 => omega
      intro vB wB oB bB
      have HOB : Hid (OwnB wB w.heap.size vB (enc4 l)) := hidden (by
        rw [HE.out, HUW.out]
        have := oB.low hz9
        simpa using this)
      have HBB := hidden (HBA.out.trans (bB.mono hz9))
      clear oB bB
      go_wp2_with fail
      go_ret2
      exact ⟨⟨_, rfl, HOB.out⟩, HBB.out⟩

theorem refEncode_4 {w : World} {v : Value} {l : List Int} (hs : Sv w v (ivals l)) (hl : l.length ≤ 256) (hi : Is l) : Calls Tryz.prog 52 #[.int .i64 4, v] w (EncPost (enc4 l) w) := by
  rcases Nat.eq_zero_or_pos l.length with h0 | h0
  · obtain rfl : l = [] := List.eq_nil_of_length_eq_zero h0
    exact refEncode_4n hs
  · exact refEncode_4s hs hl hi h0

set_option maxRecDepth 100000 in
set_option maxHeartbeats 2000000 in
theorem refEncode_no {w : World} {v : Value} {l : List Int} (hs : Sv w v (ivals l)) (c : Nat) (hno : ¬ (c ≤ 4 ∧ l.length ≤ 256)) :
    Calls Tryz.prog 52 #[.int .i64 (c : Int), v] w fun e w' => (∃ v', e = .returned (.tuple #[v', .bool false]) ∧ OwnB w' w.heap.size v' []) ∧ Below w.heap.size w w' := by
  obtain ⟨a, cap, rfl, hcap, hcm⟩ := hs.form
  have hm : l.length ≤ 9223372036854775807 := by unfold maxLen at hcm; omega
  clear hs hcap hcm
  by_cases h5 : (c : Int) > 4
  · go_enter Tryz.func52, Tryz.ntmps52
    go_wp2_with fail
    go_ret2
    exact ⟨⟨_, rfl, OwnB.nil _ _⟩, Below.refl _ _⟩
  · have hgt : (l.length : Int) > 256 := by omega
    go_enter Tryz.func52, Tryz.ntmps52
    go_wp2_with fail
    go_ret2
    exact ⟨⟨_, rfl, OwnB.nil _ _⟩, Below.refl _ _⟩

theorem refEncode_any {w : World} {v : Value} {l : List Int} (hs : Sv w v (ivals l)) (hi : Is l) (c : Nat) :
    Calls Tryz.prog 52 #[.int .i64 (c : Int), v] w fun e w' => (∃ v', e = .returned (.tuple #[v', .bool (decide (c ≤ 4 ∧ l.length ≤ 256))]) ∧ OwnB w' w.heap.size v' (encM c l)) ∧ Below w.heap.size w w' := by
  by_cases h : c ≤ 4 ∧ l.length ≤ 256
  · rw [decide_eq_true h]
    unfold encM
    rw [if_pos h]
    obtain ⟨h4, hl⟩ := h
    obtain rfl | rfl | rfl | rfl | rfl : c = 0 ∨ c = 1 ∨ c = 2 ∨ c = 3 ∨ c = 4 := by omega
    · exact refEncode_0 hs hl hi
    · exact refEncode_1 hs hl hi
    · exact refEncode_2 hs hl hi
    · exact refEncode_3 hs hl hi
    · exact refEncode_4 hs hl hi
  · rw [decide_eq_false h]
    unfold encM
    rw [if_neg h]
    exact refEncode_no hs c h
end Go.Proofs.YtcmmednihoaekaaGreat
set_option linter.unusedVariables false
set_option linter.unusedSimpArgs false
namespace Go.Proofs.YtcmmednihoaekaaGreat
open Go.RowKit Go.Lib

theorem bst_next (l : List Int) (k : Nat) : bst l (k + 1) = if k = 0 then [k] ++ encC k l else if (encC k l).length + 1 < (bst l k).length then [k] ++ encC k l else bst l k := by
  cases k with
  | zero => rfl
  | succ k => rw [if_neg (by omega)]; rfl

set_option maxRecDepth 100000 in
set_option maxHeartbeats 4000000 in
theorem refBest_yes {w : World} {v : Value} {l : List Int} (hs : Sv w v (ivals l)) (hl : l.length ≤ 256) (hi : Is l) :
    Calls Tryz.prog 32 #[v] w fun e w' => (∃ v', e = .returned (.tuple #[v', .bool true]) ∧ OwnB w' w.heap.size v' (bestUp l 4)) ∧ Below w.heap.size w w' := by
  have HS := hidden hs
  obtain ⟨a, cap, rfl, hcap, hcm⟩ := hs.form
  have HSZ : Hid (∀ k, (bst l k).length ≤ 5131) := by
    intro k
    cases k with
    | zero => simp [bst]
    | succ k =>
      obtain ⟨c, _, e⟩ := bestUp_form l k
      rw [bst, e]
      have := (encC_size c hi hl).1
      simp
      omega
  have HESZ : Hid (∀ k, (encC k l).length ≤ 5130) := fun k => (encC_size k hi hl).1
  have HEN : Hid (∀ W (k : Nat), k ≤ 4 → Sv W (.slice a l.length cap) (ivals l) → Calls Tryz.prog 52 #[.int .i64 (k : Int), .slice a l.length cap] W fun e w' => (∃ v', e = .returned (.tuple #[v', .bool true]) ∧ OwnB w' W.heap.size v' (encC k l)) ∧ Below W.heap.size W w') := hidden (fun W k hk h => by
    have := refEncode_any h hi k
    rwa [decide_eq_true (⟨hk, hl⟩ : k ≤ 4 ∧ l.length ≤ 256), show encM k l = encC k l from if_pos ⟨hk, hl⟩] at this)
  clear hs hcap hcm hi
  go_enter Tryz.func32, Tryz.ntmps32
  go_wp2_with fail
  go_loopw [4, 5] (fun b i wr => ∃ k : Nat, k ≤ 5 ∧ i = .int .i64 (k : Int) ∧ OwnB wr w.heap.size b (bst l k) ∧ Below w.heap.size w wr) (fun _ i _ => 5 - (intOf i).toNat)
  case atStart => exact ⟨0, by omega, rfl, OwnB.nil _ _, Below.refl _ _⟩
  case round =>
    obtain ⟨k, hk, rfl, hown, hbel⟩ := hrel
    have HO := hidden hown
    have HB := hidden hbel
    have hzr := hbel.size
    obtain ⟨ab, cb, rfl⟩ := hown.len
    have hbl := HSZ.out k
    have hel := HESZ.out k
    have HT := hidden (bst_next l k)
    clear hown hbel
    by_cases hk5 : (k : Int) < 5
    · have HENk := hidden (HEN.out wr k (by omega) (HS.out.kept HB.out))
      generalize bst l k = B0 at *
      generalize encC k l = EC at *
      go_wp2_with fail
      refine HENk.out.mono ?_
      rintro e w3 ⟨⟨v3, rfl, ho3⟩, hb3⟩
      have HO3 := hidden ho3
      have HB3 := hidden (HB.out.trans (hb3.mono hzr))
      have HOB := hidden (HO.out.kept hb3)
      have hz3 := HB3.out.size
      obtain ⟨a3, c3, rfl⟩ := ho3.len
      clear ho3 hb3
      have HLIT := hidden (lit_own w3 k)
      have HBA := hidden (below_alloc' w3 (.cells #[.int .u8 (k : Int)] 5))
      have HE4 := hidden (HO3.out.kept HBA.out)
      by_cases hk0 : ((k : Int) == 0) = true
      · have hk0' : k = 0 := by simpa using hk0
        have HT2 : Hid (bst l (k + 1) = [k] ++ EC) := hidden (by rw [HT.out, if_pos hk0'])
        clear hk0'
        go_wp2_with (first | (at_builtin; refine wpList_append_sv rfl _ _ rfl w3.heap.size _ _ [k] EC rfl HLIT.out rfl HE4.out.sv ?c1 ?c2 ?_))
        case c1 => simp; omega
        case c2 => first | omega | (rw [World.size_alloc]; omega)
        intro v4 w4 o4 b4
        have HO4 := hidden (o4.low hz3)
        have HB4 := hidden (HB3.out.trans ((HBA.out.trans b4).mono hz3))
        clear o4 b4
        go_wp2_with fail
        go_roundw
        case rel => exact ⟨k + 1, by omega, by go_num, by rw [HT2.out]; exact HO4.out, HB4.out⟩
        case measure => simp [intOf]; omega
      · have hk0f : ((k : Int) == 0) = false := by simpa using hk0
        have hk0' : ¬ k = 0 := by simpa using hk0
        by_cases hlt : EC.length + 1 < B0.length
        · have HT2 : Hid (bst l (k + 1) = [k] ++ EC) := hidden (by rw [HT.out, if_neg hk0', if_pos hlt])
          have hcmp : (EC.length : Int) + 1 < (B0.length : Int) := by omega
          clear hk0' hk0 hlt
          go_wp2_with (first | (at_builtin; refine wpList_append_sv rfl _ _ rfl w3.heap.size _ _ [k] EC rfl HLIT.out rfl HE4.out.sv ?c1 ?c2 ?_))
          case c1 => simp; omega
          case c2 => first | omega | (rw [World.size_alloc]; omega)
          intro v4 w4 o4 b4
          have HO4 := hidden (o4.low hz3)
          have HB4 := hidden (HB3.out.trans ((HBA.out.trans b4).mono hz3))
          clear o4 b4
          go_wp2_with fail
          go_roundw
          case rel => exact ⟨k + 1, by omega, by go_num, by rw [HT2.out]; exact HO4.out, HB4.out⟩
          case measure => simp [intOf]; omega
        · have HT2 : Hid (bst l (k + 1) = B0) := hidden (by rw [HT.out, if_neg hk0', if_neg hlt])
          have hcmp : ¬ (EC.length : Int) + 1 < (B0.length : Int) := by omega
          clear hk0' hk0 hlt
          go_wp2_with fail
          go_roundw
          case rel => exact ⟨k + 1, by omega, by go_num, by rw [HT2.out]; exact HOB.out, HB3.out⟩
          case measure => simp [intOf]; omega
    · obtain rfl : k = 5 := by omega
      go_wp2_with fail
      go_ret2
      exact ⟨⟨_, rfl, HO.out⟩, HB.out⟩

set_option maxRecDepth 100000 in
set_option maxHeartbeats 2000000 in
theorem refBest_no {w : World} {v : Value} {l : List Int} (hs : Sv w v (ivals l)) (hi : Is l) (hl : ¬ l.length ≤ 256) :
    Calls Tryz.prog 32 #[v] w fun e w' => (∃ v', e = .returned (.tuple #[v', .bool false]) ∧ OwnB w' w.heap.size v' []) ∧ Below w.heap.size w w' := by
  have HEN := hidden (refEncode_no hs 0 (fun h => hl h.2))
  clear hs hi hl
  go_enter Tryz.func32, Tryz.ntmps32
  go_wp2_with fail
  refine wp_loop_rounds 1 ?_
  rw [rounds_succ]
  go_wp2_with fail
  refine HEN.out.mono ?_
  rintro e w3 ⟨⟨v3, rfl, ho3⟩, hb3⟩
  go_wp2_with fail
  go_ret2
  exact ⟨⟨_, rfl, OwnB.nil _ _⟩, hb3⟩

theorem refBest_any {w : World} {v : Value} {l : List Int} (hs : Sv w v (ivals l)) (hi : Is l) :
    Calls Tryz.prog 32 #[v] w fun e w' => (∃ v', e = .returned (.tuple #[v', .bool (decide (l.length ≤ 256))]) ∧ OwnB w' w.heap.size v' (bestM l)) ∧ Below w.heap.size w w' := by
  unfold bestM
  by_cases h : l.length ≤ 256
  · rw [decide_eq_true h, if_pos h]
    exact refBest_yes hs h hi
  · rw [decide_eq_false h, if_neg h]
    exact refBest_no hs hi h
end Go.Proofs.YtcmmednihoaekaaGreat
