/- Contracts: putPlaces, putHeights. -/
import Derived.Test.YtnlanilejhjkkaaPlaces
set_option linter.unusedVariables false
set_option linter.unusedSimpArgs false
namespace Go.Proofs.Ytnlanilejhjkkaa
open Go.RowKit Go.Lib

theorem OwnB.len {W : World} {B : Nat} {v : Value} {l : List Nat} (h : OwnB W B v l) : ∃ a cap, v = .slice a l.length cap := own_len h
theorem OwnI.len {W : World} {B : Nat} {v : Value} {l : List Int} (h : OwnI W B v l) : ∃ a cap, v = .slice a l.length cap := own_len h
theorem OwnU.len {W : World} {B : Nat} {v : Value} {l : List Nat} (h : OwnU W B v l) : ∃ a cap, v = .slice a l.length cap := own_len h

theorem places_u64 {l : List Int} (hl : l.length ≤ 256) : ∀ x ∈ places l, x < 18446744073709551616 := by
  intro x hx
  have := places_lt x hx
  have := uniq_length l
  omega

theorem enc3_form {l : List Int} (hl : l.length ≤ 256) : enc3 l = uv (uniq l).length ++ encU (uniq l) ++ packR (places l) (blen ((uniq l).length - 1) : Int) := by
  unfold enc3
  rw [List.append_assoc]
  rcases Nat.eq_zero_or_pos l.length with h0 | h0
  · obtain rfl : l = [] := List.eq_nil_of_length_eq_zero h0
    rfl
  · rw [places_wd h0]

theorem packR_size' {p : List Nat} {x : Int} (hl : p.length ≤ 256) : (packR p x).length ≤ 2048 := by
  unfold packR
  split
  · next h =>
    unfold can at h
    simp only [decide_eq_true_eq] at h
    rw [dig_length]
    have : p.length * x.toNat ≤ 256 * 64 := Nat.mul_le_mul hl (by omega)
    unfold by8
    omega
  · simp

set_option maxRecDepth 100000 in
set_option maxHeartbeats 2000000 in
theorem putPlaces_any {w : World} {v : Value} {l : List Int} (hs : Sv w v (ivals l)) (hl : l.length ≤ 256) (hi : Is l) :
    Calls Try.prog 32 #[v] w (Told w (enc3 l)) := by
  have HI := hidden (uniq_i64 hi)
  have HS := hidden hs
  have HC := hidden (clone_any hs hl)
  have HF := hidden (enc3_form hl)
  have HUR := hidden (uniq_rising l)
  have HSU := hidden (encU_size (uniq_i64 hi)).1
  have HCS := hidden (compact_srt l)
  have HMEM : Hid (∀ x ∈ l, x ∈ uniq l) := fun x hx => mem_uniq.2 hx
  have HP64 := hidden (places_u64 hl)
  have HPL : Hid (l.map (pl (uniq l)) = places l) := rfl
  have hpl := places_length l
  have hul := uniq_length l
  have hsl := srt_length l
  have hps := packR_size' (p := places l) (x := (blen ((uniq l).length - 1) : Int)) (by omega)
  obtain ⟨a, cap, rfl, hcap, hcm⟩ := hs.form
  clear hs hi hcap hcm
  generalize places l = P at *
  generalize uniq l = u at *
  go_enter Try.func32, Try.ntmps32
  go_wp2_with fail
  refine HC.out.mono ?_
  rintro e w1 ⟨⟨v1, rfl, ho1⟩, hb1⟩
  have HO1 := hidden ho1
  have HB1 := hidden hb1
  have hz1 := hb1.size
  clear ho1 hb1
  go_wp2_with fail
  refine (sort_own HO1.out hl hz1).mono ?_
  rintro e w2 ⟨rfl, ho2, hb2⟩
  have HO2 := hidden ho2
  have HB2 := hidden (HB1.out.trans hb2)
  have hz2 := HB2.out.size
  clear ho2 hb2
  go_wp2_with fail
  refine (compact_own HO2.out (by omega) hz2).mono ?_
  rintro e w3 ⟨⟨v3, rfl, ho3⟩, hb3⟩
  rw [HCS.out] at ho3
  have HO3 := hidden ho3
  have HB3 := hidden (HB2.out.trans hb3)
  have hz3 := HB3.out.size
  obtain ⟨a3, c3, rfl⟩ := ho3.len
  clear ho3 hb3
  go_wp2_with fail
  refine (vput_told u.length (by omega) _).mono ?_
  rintro e w4 ⟨⟨v4, rfl, ho4⟩, hb4⟩
  have HO4 := hidden ho4
  have HB4 := hidden hb4
  have hz4 := hb4.size
  clear ho4 hb4
  go_wp2_with fail
  refine (putRising_any (HO3.out.sv.kept HB4.out) (by omega) HI.out HUR.out).mono ?_
  rintro e w5 ⟨⟨v5, rfl, ho5⟩, hb5⟩
  have HO5 := hidden ho5
  have HO45 := hidden (HO4.out.kept hb5)
  have HB5 := hidden (HB4.out.trans (hb5.mono hz4))
  have hz5 := hb5.size
  clear ho5 hb5
  have h10 := uv_ten (n := u.length) (by omega)
  have hsu := HSU.out
  go_wp2_with (first | (at_builtin; refine wpList_append_sv rfl _ _ rfl w3.heap.size _ _ (uv u.length) (encU u) rfl HO45.out rfl HO5.out.sv ?c1 ?c2 ?_))
  case c1 => omega
  case c2 => omega
  intro v6 w6 o6 b6
  have HO6 := hidden o6
  have HB6 := hidden (HB5.out.trans b6)
  have hz6 := HB6.out.size
  clear o6 b6
  go_wp2_with fail
  refine (placesAmong_any (HO3.out.sv.kept HB6.out) (HS.out.kept (HB3.out.trans (HB6.out.mono hz3))) hl (by omega) HUR.out HMEM.out).mono ?_
  rintro e w7 ⟨⟨v7, rfl, ho7⟩, hb7⟩
  rw [HPL.out] at ho7
  have HO7 := hidden ho7
  have HO67 := hidden (HO6.out.kept hb7)
  have HB7 := hidden (HB6.out.trans (hb7.mono hz6))
  have hz7 := hb7.size
  clear ho7 hb7
  go_wp2_with fail
  refine (placeWidth_any u.length (by omega) _).mono ?_
  rintro e w8 ⟨rfl, hb8⟩
  have HO78 := hidden (HO7.out.kept hb8)
  have HO68 := hidden (HO67.out.kept hb8)
  have HB8 := hidden (HB7.out.trans (hb8.mono (by omega)))
  have hz8 := hb8.size
  clear hb8
  go_wp2_with fail
  refine (packI_any HO78.out.sv.sx HP64.out _).mono ?_
  rintro e w9 ⟨⟨v9, rfl, ho9⟩, hb9⟩
  have HO9 := hidden ho9
  have HO69 := hidden (HO68.out.kept hb9)
  have HB9 := hidden (HB8.out.trans (hb9.mono (by omega)))
  have hz9 := hb9.size
  clear ho9 hb9
  go_wp2_with (first | (at_builtin; refine wpList_append_sv rfl _ _ rfl w3.heap.size _ _ (uv u.length ++ encU u) _ rfl HO69.out rfl HO9.out.sv ?c3 ?c4 ?_))
  case c3 => simp; omega
  case c4 => omega
  intro vA wA oA bA
  have HOA := hidden oA
  have HBA := hidden (HB3.out.trans ((HB9.out.trans bA).mono hz3))
  clear oA bA
  go_wp2_with fail
  go_ret
  refine ⟨⟨_, rfl, ?_⟩, HBA.out⟩
  rw [HF.out]
  have := HOA.out.low hz3
  simpa using this

theorem mores_cases {l : List Int} (h : 0 < l.length) : enc4 l = wv (least l) ++ uv (wd (mores l)) ++ packR (mores l) (wd (mores l) : Int) := by
  unfold enc4
  rw [if_neg (by omega), List.append_assoc]

set_option maxRecDepth 100000 in
set_option maxHeartbeats 2000000 in
theorem putHeights_none {w : World} {v : Value} (hs : Sv w v (ivals [])) : Calls Try.prog 33 #[v] w (Told w (enc4 [])) := by
  obtain ⟨a, cap, rfl, hcap, hcm⟩ := hs.form
  clear hs hcap hcm
  go_enter Try.func33, Try.ntmps33
  go_wp2_with fail
  go_ret
  exact ⟨⟨_, rfl, OwnB.nil _ _⟩, Below.refl _ _⟩

set_option maxRecDepth 100000 in
set_option maxHeartbeats 2000000 in
theorem putHeights_some {w : World} {v : Value} {l : List Int} (hs : Sv w v (ivals l)) (hl : l.length ≤ 256) (hi : Is l) (hp : 0 < l.length) :
    Calls Try.prog 33 #[v] w (Told w (enc4 l)) := by
  obtain ⟨i0, hin, hz0, hz1', hz2⟩ := info_parts info44
  have HS := hidden hs
  have HI := hidden hi
  have HMin := hidden (min_any hs hp hl)
  have HML := hidden (minOf_least hp)
  have HE := hidden (mores_cases hp)
  have HLI := hidden (hi _ (least_mem hp))
  have HLE := hidden (least_le (l := l))
  have H64 := hidden (mores_lt hi)
  have h10 := wv_ten (hi _ (least_mem hp))
  have hwd := wd64 (mores_lt hi)
  have hps := packR_size' (p := mores l) (x := (wd (mores l) : Int)) (by rw [mores_length]; omega)
  have hDl := mores_length l
  have HG : Hid (∀ k (h : k < l.length), (mores l)[k]? = some (l[k] - least l).toNat) := hidden (fun k h => by simp [mores, h])
  obtain ⟨a, cap, rfl, hcap, hcm⟩ := hs.form
  clear hs hi hcap hcm
  rw [HML.out] at HMin
  generalize mores l = D at *
  generalize least l = lo at *
  have hlen0 : ((l.length : Int) == 0) = false := beq_eq_false_iff_ne.2 (by omega)
  go_enter Try.func33, Try.ntmps33
  go_wp2_with fail
  refine HMin.out.mono ?_
  rintro e w1 ⟨rfl, rfl⟩
  go_wp2_with (first | (refine wpList_make_full _ rfl _ _ 47 rfl w1.heap.size 44 i0 (.int .u64 0) 1 Try.underlying47 hin hz0 hz1' .i64 .i64 _ _ l.length rfl rfl ?m1 ?m2 ?m3 ?m4 ?m5 ?_))
  case m1 => rfl
  case m2 => rfl
  case m3 => rw [hz2]; omega
  case m4 => unfold maxLen; omega
  case m5 => omega
  intro w4 ho4 hg4
  have hb4 : Below w1.heap.size w1 w4 := (Below.refl _ _).grown hg4 (Nat.le_refl _) (fun k hk => by cases hk)
  have ho4' : w4.ownsRow w1.heap.size 44 1 (.slice (some ⟨w1.heap.size, 0, none⟩) l.length l.length) l.length (vals .u64 (fill D 0)) := by
    rw [fill_zero, hDl, ← made_vals]
    simpa using ho4
  have HO4 := hidden ho4'
  have HB4 := hidden hb4
  have HDL := hidden hDl
  clear ho4 hg4 hb4 ho4' hDl
  go_wp2_with fail
  go_loopw [19] (fun i wr => ∃ k : Nat, i = .int .i64 (k : Int) ∧ k ≤ l.length ∧ wr.ownsRow w1.heap.size 44 1 (.slice (some ⟨w1.heap.size, 0, none⟩) l.length l.length) l.length (vals .u64 (fill D k)) ∧ Below w1.heap.size w1 wr) (fun i _ => l.length - (intOf i).toNat)
  case atStart => exact ⟨0, rfl, by omega, HO4.out, HB4.out⟩
  case round =>
    obtain ⟨k, rfl, hk, how, hbel⟩ := hrel
    have HB := hidden hbel
    have HO := hidden how
    have hzr := hbel.size
    clear hbel how
    by_cases hlt : k < l.length
    · have hkD : k < D.length := by rw [HDL.out]; exact hlt
      have hval : D[k] = (l[k] - lo).toNat := by
        have := HG.out k hlt
        rw [List.getElem?_eq_getElem hkD] at this
        exact Option.some.inj this
      obtain ⟨b, off, rfl, hb, hck⟩ := (HS.out.kept HB.out).at hlt
      have hd := fun W => distance_up (w := W) HLI.out (HI.out.get hlt) (HLE.out _ (List.getElem_mem hlt))
      rw [← hval] at hd
      have HD := hidden hd
      have hfl : k < (fill D k).length := by rw [fill_length (by omega)]; exact hkD
      have hck5 := (HO.out.cellAt k (by omega)).trans (vals_get hfl)
      have hfr5 := HO.out.frozenAt k
      have hST := HO.out.stored k (.int .u64 ((D[k] : Nat) : Int))
      rw [vals_set, fill_set hkD] at hST
      have HST := hidden hST
      have hgz := (HO.out.lt w1.heap.size rfl).2
      clear hd hval hST
      generalize l[k] = x at *
      generalize (fill D k)[k] = y at *
      generalize D[k] = z at *
      go_wp2_with fail
      refine (HD.out _).mono ?_
      rintro e w5 ⟨rfl, rfl⟩
      go_wp2_with fail
      go_roundw
      case rel => exact ⟨k + 1, by go_num, by omega, HST.out.1, below_set HB.out (Nat.le_refl _) _⟩
      case measure => simp [intOf]; omega
    · obtain rfl : k = l.length := by omega
      have e : fill D l.length = D := by
        have := fill_all D
        rwa [HDL.out] at this
      have HO' : Hid (OwnU wr w1.heap.size (.slice (some ⟨w1.heap.size, 0, none⟩) l.length l.length) D) := by
        show OwnU _ _ _ _
        have := HO.out
        rw [e] at this
        unfold OwnU
        rw [HDL.out]
        exact this
      have HWd := hidden (width_any HO'.out.sv.sx H64.out)
      clear HO e
      generalize wd D = wdt at *
      go_wp2_with fail
      refine HWd.out.mono ?_
      rintro e w5 ⟨rfl, rfl⟩
      go_wp2_with fail
      refine (putInt_told HLI.out _).mono ?_
      rintro e w6 ⟨⟨v6, rfl, ho6⟩, hb6⟩
      have HO6 := hidden ho6
      have HB6 := hidden hb6
      have hz6 := hb6.size
      clear ho6 hb6
      go_wp2_with fail
      refine (vput_told wdt (by omega) _).mono ?_
      rintro e w7 ⟨⟨v7, rfl, ho7⟩, hb7⟩
      have HO7 := hidden ho7
      have HO67 := hidden (HO6.out.kept hb7)
      have HB7 := hidden (HB6.out.trans (hb7.mono hz6))
      have hz7 := hb7.size
      have h102 := uv_ten (n := wdt) (by omega)
      clear ho7 hb7
      go_wp2_with (first | (at_builtin; refine wpList_append_sv rfl _ _ rfl w5.heap.size _ _ (wv lo) (uv wdt) rfl HO67.out rfl HO7.out.sv ?c1 ?c2 ?_))
      case c1 => omega
      case c2 => omega
      intro v8 w8 o8 b8
      have HO8 := hidden o8
      have HB8 := hidden (HB7.out.trans b8)
      have hz8 := HB8.out.size
      clear o8 b8
      have HOD := hidden (HO'.out.kept HB8.out)
      go_wp2_with fail
      refine (packI_any HOD.out.sv.sx H64.out _).mono ?_
      rintro e w9 ⟨⟨v9, rfl, ho9⟩, hb9⟩
      have HO9 := hidden ho9
      have HO89 := hidden (HO8.out.kept hb9)
      have HB9 := hidden (HB8.out.trans (hb9.mono hz8))
      have hz9 := hb9.size
      clear ho9 hb9
      go_wp2_with (first | (at_builtin; refine wpList_append_sv rfl _ _ rfl w5.heap.size _ _ (wv lo ++ uv wdt) _ rfl HO89.out rfl HO9.out.sv ?c3 ?c4 ?_))
      case c3 => simp; omega
      case c4 => omega
      intro vA wA oA bA
      have HOA := hidden oA
      have HBA := hidden (HB.out.trans ((HB9.out.trans bA).mono hzr))
      clear oA bA
      go_wp2_with fail
      go_ret
      refine ⟨⟨_, rfl, ?_⟩, HBA.out⟩
      rw [HE.out]
      have := HOA.out.low hzr
      simpa using this

theorem putHeights_any {w : World} {v : Value} {l : List Int} (hs : Sv w v (ivals l)) (hl : l.length ≤ 256) (hi : Is l) : Calls Try.prog 33 #[v] w (Told w (enc4 l)) := by
  rcases Nat.eq_zero_or_pos l.length with h0 | h0
  · obtain rfl : l = [] := List.eq_nil_of_length_eq_zero h0
    exact putHeights_none hs
  · exact putHeights_some hs hl hi h0
end Go.Proofs.Ytnlanilejhjkkaa
