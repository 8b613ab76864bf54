/- The reader of layer column: textsByPlaces, texts. -/
import Derived.Test.YtcmmednihoaekaaGreatRdD
set_option linter.unusedVariables false
set_option linter.unusedSimpArgs false
namespace Go.Proofs.YtcmmednihoaekaaGreat
open Go.RowKit Go.Lib

/-- Bytes of texts by their places, the first byte off. -/
def byP (b : List Nat) (l : List (List Nat)) (r : List Nat) : Prop := b = uv (tuq l).length ++ (txts (tuq l) ++ bstC (placesT l)) ∧ r = []

theorem byP_form {b r : List Nat} {y : List (List Nat)} {n : Nat} (hn : n ≤ 256) (hy : Nt n y) (hg : byP b y r) : gt b = ((tuq y).length, (uv (tuq y).length).length, 0) ∧ b.drop (uv (tuq y).length).length = txts (tuq y) ++ bstC (placesT y) ∧ (tuq y).length ≤ n := by
  have hl := tuq_length y
  have h1 := hy.1
  refine ⟨?_, ?_, by omega⟩
  · rw [hg.1]
    exact gt_put _ (by omega) _
  · rw [hg.1, List.drop_left]

theorem byP_many {b bz : List Nat} {f n : Nat} (hn : n ≤ 256) (hf : Er f) (h : n < (gt b).1) : RP (Nt n) (byP b) f [] bz (orf (orf f (gt b).2.2) 40) := by
  refine ⟨(hf.orf (gt_er b)).orf er40, fun h => absurd (orf_eq_zero h).2 (by omega), fun y r a1 a2 a3 => ?_⟩
  obtain ⟨h1, h2, h3⟩ := byP_form hn a2 a3
  rw [h1] at h
  exact absurd h (by simp only; omega)

theorem byP_read {b : List Nat} {f n : Nat} {u : List (List Nat)} {b2 : List Nat} {f2 : Nat} (hn : n ≤ 256) (hc : RP (Nt (gt b).1) (fun l r => b.drop (gt b).2.1 = txts l ++ r) (orf f (gt b).2.2) u b2 f2) {y : List (List Nat)} {r : List Nat} (h0 : f = 0) (hy : Nt n y) (hg : byP b y r) :
    f2 = 0 ∧ u = tuq y ∧ readM b2 n = (placesT y, 0) := by
  obtain ⟨h1, h2, h3⟩ := byP_form hn hy hg
  rw [h1] at hc
  simp only at hc
  rw [h2, h0] at hc
  obtain ⟨d1, d2, d3⟩ := hc.2.2 (tuq y) (bstC (placesT y)) rfl ⟨rfl, tuq_ts hy.2⟩ rfl
  have hb := bstC_back (placesT_i64 (l := y) (by have := hy.1; omega)) (by rw [placesT_length]; have := hy.1; omega)
  rw [placesT_length, hy.1] at hb
  exact ⟨d1, d2, by rw [d3]; exact hb⟩

theorem byP_bad {b bz : List Nat} {f n j : Nat} {u : List (List Nat)} {b2 : List Nat} {f2 : Nat} (hn : n ≤ 256) (hc : RP (Nt (gt b).1) (fun l r => b.drop (gt b).2.1 = txts l ++ r) (orf f (gt b).2.2) u b2 f2)
    (hj : j < (readM b2 n).1.length) (hw : (readM b2 n).1[j] < 0 ∨ (u.length : Int) ≤ (readM b2 n).1[j]) : RP (Nt n) (byP b) f [] bz (orf (orf f2 (readM b2 n).2) 40) := by
  refine ⟨(hc.1.orf (readM_er hn)).orf er40, fun h => absurd (orf_eq_zero h).2 (by omega), fun y r a1 a2 a3 => ?_⟩
  obtain ⟨h1, h2, h3⟩ := byP_read hn hc a1 a2 a3
  have hm : ∀ q ∈ (readM b2 n).1, q ∈ placesT y := fun q hq => by
    rw [h3] at hq
    exact hq
  have := placesT_lt _ (hm _ (List.getElem_mem hj))
  rw [← h2] at this
  omega

theorem byP_done {b : List Nat} {f n : Nat} {u : List (List Nat)} {b2 : List Nat} {f2 : Nat} (hn : n ≤ 256) (hb2 : Bs b2) (hu : Ts u) (hc : RP (Nt (gt b).1) (fun l r => b.drop (gt b).2.1 = txts l ++ r) (orf f (gt b).2.2) u b2 f2)
    (hall : ∀ q ∈ (readM b2 n).1, 0 ≤ q ∧ q < (u.length : Int)) : RP (Nt n) (byP b) f ((readM b2 n).1.map fun q => u.getD q.toNat []) [] (orf f2 (readM b2 n).2) := by
  refine ⟨hc.1.orf (readM_er hn), fun h => ?_, fun y r a1 a2 a3 => ?_⟩
  · obtain ⟨h1, h2⟩ := orf_eq_zero h
    obtain ⟨h3, h4⟩ := hc.2.1 h1
    obtain ⟨h5, h6⟩ := readM_len hb2 h2
    refine ⟨(orf_eq_zero h3).1, by rw [List.length_map]; omega, fun s hs => ?_⟩
    obtain ⟨q, hq, rfl⟩ := List.mem_map.1 hs
    have hq2 := hall q hq
    have hlt : q.toNat < u.length := by omega
    rw [List.getD_eq_getElem?_getD, List.getElem?_eq_getElem hlt]
    exact hu _ (List.getElem_mem hlt)
  · obtain ⟨h1, h2, h3⟩ := byP_read hn hc a1 a2 a3
    rw [h3, h1, h2]
    exact ⟨rfl, placesT_back y, a3.2.symm⟩

theorem getD_ts {u : List (List Nat)} (hu : Ts u) (q : Nat) : (u.getD q []).length ≤ 64 ∧ Bs (u.getD q []) := by
  rcases Nat.lt_or_ge q u.length with h | h
  · rw [List.getD_eq_getElem?_getD, List.getElem?_eq_getElem h]
    exact hu _ (List.getElem_mem h)
  · rw [List.getD_eq_getElem?_getD, List.getElem?_eq_none h]
    exact ⟨by simp, fun x hx => by simp at hx⟩

set_option maxRecDepth 100000 in
set_option maxHeartbeats 4000000 in
theorem textsByPlaces_any {w : World} {p f : Nat} {b : List Nat} (h : Rs w p b f) (hf : Er f) (n : Nat) (hn : n ≤ 256) :
    Calls Tryz.prog 105 #[.pointer (some ⟨p, 0, none⟩), .int .i64 (n : Int)] w (TPost n (byP b) p f w) := by
  have hlt := h.lt
  have HN := hidden (cnumber_any h)
  have g1 := (gt_form b).1
  have HMANY := hidden (fun bz h => byP_many (b := b) (bz := bz) (f := f) hn hf h)
  have HBAD := hidden (fun bz j u b2 f2 hc hj hw => byP_bad (b := b) (bz := bz) (f := f) (j := j) (u := u) (b2 := b2) (f2 := f2) hn hc hj hw)
  have HDONE := hidden (fun u b2 f2 hb2 hu hc hall => byP_done (b := b) (f := f) (u := u) (b2 := b2) (f2 := f2) hn hb2 hu hc hall)
  have HE1 := hidden (hf.orf (gt_er b))
  clear h
  generalize (gt b).1 = c at *
  generalize b.drop (gt b).2.1 = b1 at *
  generalize orf f (gt b).2.2 = f1 at *
  go_enter Tryz.func105, Tryz.ntmps105
  go_wp2_with fail
  refine HN.out.mono ?_
  rintro e w1 ⟨rfl, hs1, hf1⟩
  have HS1 := hidden hs1
  have HF1 := hidden hf1
  have hz1 := hf1.size
  clear hs1 hf1
  by_cases hmany : n < c
  · have hm' : (c : Int) > (n : Int) := by omega
    go_wp2_with fail
    refine (crefuse_any HS1.out 40).mono ?_
    rintro e w2 ⟨rfl, hs2, hf2⟩
    have HS2 := hidden hs2
    have HF2 := hidden (HF1.out.trans (hf2.mono hz1))
    clear hs2 hf2
    go_wp2_with fail
    go_ret
    exact ⟨[], _, _, ⟨_, rfl, OwnS.nil _ _⟩, fun s hs => by simp at hs, by simp, HS2.out, HMANY.out _ hmany, HF2.out⟩
  · have hm' : ¬ (c : Int) > (n : Int) := by omega
    have HL := hidden (lens_any HS1.out HE1.out c (by omega))
    go_wp2_with fail
    refine HL.out.mono ?_
    rintro e w2 ⟨u, b2, f2, ⟨v2, rfl, ho2⟩, hts, hul, hs2, hrp2, hf2⟩
    have HO2 := hidden ho2
    have HTS := hidden hts
    have HRP2 := hidden hrp2
    have HF2 := hidden (HF1.out.trans (hf2.mono hz1))
    have hz2 := hf2.size
    have HB2 := hidden hs2.bs
    have HLN := hidden (lastNumbers_any hs2 n)
    have HSF := hidden (readM_safe hs2.bs hn)
    have HU2 := hidden ho2.sv
    obtain ⟨au, cu, rfl, hcu, hcmu⟩ := own_slice ho2
    have hcmu' : cu ≤ 9223372036854775807 := by unfold maxLen at hcmu; omega
    have HUB : Hid (∀ k, (Value.slice au u.length cu).ownBlock = some k → k < w2.heap.size ∧ k ≠ p) := hidden (fun k hk => by
      have := ho2.lt k hk
      exact ⟨this.2, by omega⟩)
    clear ho2 hts hs2 hrp2 hf2 hcmu
    have HBAD2 := hidden (fun bz j hj hw => HBAD.out bz j u b2 f2 HRP2.out hj hw)
    have HDONE2 := hidden (fun hall => HDONE.out u b2 f2 HB2.out HTS.out HRP2.out hall)
    clear HBAD HDONE
    generalize (readM b2 n).1 = pl at *
    generalize orf f2 (readM b2 n).2 = f3 at *
    have hpll := HSF.out.2
    go_wp2_with fail
    refine HLN.out.mono ?_
    rintro e w3 ⟨⟨v3, rfl, ho3⟩, hs3, hf3⟩
    have HS3 := hidden hs3
    have HF3 := hidden (HF2.out.trans (hf3.mono (Nat.le_trans hz1 hz2)))
    have hz3 := hf3.size
    have HU3 := hidden (HU2.out.keptFr HUB.out hf3)
    have HV3 := hidden ho3.sv
    have HVB : Hid (∀ k, v3.ownBlock = some k → k < w3.heap.size) := hidden (fun k hk => (ho3.lt k hk).2)
    have HUB3 : Hid (∀ k, (Value.slice au u.length cu).ownBlock = some k → k < w3.heap.size) := hidden (fun k hk => by have := (HUB.out k hk).1; omega)
    obtain ⟨a3, c3, rfl, hc3, hcm3⟩ := own_slice ho3
    have hcm3' : c3 ≤ 9223372036854775807 := by unfold maxLen at hcm3; omega
    clear ho3 hs3 hf3 hcm3
    go_wp2_with fail
    go_loopw [7, 26] (fun o i wr => ∃ j : Nat, j ≤ pl.length ∧ i = .int .i64 (j : Int) ∧ OwnS wr w3.heap.size o ((pl.take j).map fun q => u.getD q.toNat []) ∧ (∀ q ∈ pl.take j, 0 ≤ q ∧ q < (u.length : Int)) ∧ Below w3.heap.size w3 wr) (fun _ i _ => pl.length - (intOf i).toNat)
    case atStart => exact ⟨0, by omega, rfl, OwnS.nil _ _, fun q hq => by simp at hq, Below.refl _ _⟩
    case round =>
      obtain ⟨j, hj, rfl, hown, hall, hbel⟩ := hrel
      have HO := hidden hown
      have HALL := hidden hall
      have HBE := hidden hbel
      have hzr := hbel.size
      have HSR := hidden (HS3.out.kept hbel HS3.out.lt)
      clear hown hall hbel
      by_cases hjl : j < pl.length
      · obtain ⟨g, off, rfl, hg, hcell⟩ := (HV3.out.keptB HVB.out HBE.out).at hjl
        have HBD := hidden (fun bz hw => HBAD2.out bz j hjl hw)
        have hjl' : (j : Int) < (pl.length : Int) := by omega
        have HTK : Hid (pl.take (j + 1) = pl.take j ++ [pl[j]]) := hidden (List.take_succ_eq_append_getElem hjl)
        generalize pl[j] = z at *
        by_cases hz0 : z < 0
        · go_wp2_with fail
          refine (crefuse_any HSR.out 40).mono ?_
          rintro e w4 ⟨rfl, hs4, hf4⟩
          have HS4 := hidden hs4
          have HF4 := hidden (HF3.out.trans ((Fr.of_below (HBE.out.mono (show w.heap.size ≤ w3.heap.size by omega))).trans (hf4.mono (by omega))))
          clear hs4 hf4
          go_wp2_with fail
          go_ret
          exact ⟨[], _, _, ⟨_, rfl, OwnS.nil _ _⟩, fun s hs => by simp at hs, by simp, HS4.out, HBD.out _ (Or.inl hz0), HF4.out⟩
        · by_cases hzu : z ≥ (u.length : Int)
          · go_wp2_with fail
            refine (crefuse_any HSR.out 40).mono ?_
            rintro e w4 ⟨rfl, hs4, hf4⟩
            have HS4 := hidden hs4
            have HF4 := hidden (HF3.out.trans ((Fr.of_below (HBE.out.mono (show w.heap.size ≤ w3.heap.size by omega))).trans (hf4.mono (by omega))))
            clear hs4 hf4
            go_wp2_with fail
            go_ret
            exact ⟨[], _, _, ⟨_, rfl, OwnS.nil _ _⟩, fun s hs => by simp at hs, by simp, HS4.out, HBD.out _ (Or.inr hzu), HF4.out⟩
          · obtain ⟨zn, rfl⟩ : ∃ zn : Nat, z = (zn : Int) := ⟨z.toNat, by omega⟩
            have hzn : zn < u.length := by omega
            obtain ⟨gu, offu, rfl, hgu, hcu2⟩ := (HU3.out.keptB HUB3.out HBE.out).at1 (svals_get hzn)
            have hgd : u.getD zn [] = u[zn] := by rw [List.getD_eq_getElem?_getD, List.getElem?_eq_getElem hzn]; rfl
            have HNX : Hid ((pl.take (j + 1)).map (fun q => u.getD q.toNat []) = ((pl.take j).map fun q => u.getD q.toNat []) ++ [u[zn]]) := hidden (by
              rw [HTK.out, List.map_append, List.map_cons, List.map_nil, Int.toNat_natCast, hgd])
            have HNA : Hid (∀ q ∈ pl.take (j + 1), 0 ≤ q ∧ q < (u.length : Int)) := hidden (fun q hq => by
              rw [HTK.out] at hq
              rcases List.mem_append.1 hq with hq | hq
              · exact HALL.out q hq
              · have : q = (zn : Int) := by simpa using hq
                omega)
            have hlen' : ((pl.take j).map fun q => u.getD q.toNat []).length ≤ 100000 := by rw [List.length_map, List.length_take]; omega
            rw [txt_eq] at hcu2
            clear HBD HTK hgd
            generalize ((pl.take j).map fun q => u.getD q.toNat []) = L at *
            generalize u[zn] = x at *
            go_wp2_with (first | (at_builtin; refine wpList_append_s rfl _ _ rfl w3.heap.size _ _ x L rfl (HO.out.kept (below_one _ _)) rfl (cell_new _ _ _) hlen' ?c2 ?_))
            case c2 => first | omega | (rw [World.size_alloc]; omega)
            intro v' w5 o5 b5
            have HO5 := hidden o5
            have HB5 := hidden ((HBE.out.alloc hzr (.cells #[txt x] 9)).trans b5)
            clear o5 b5
            go_wp2_with fail
            go_roundw
            case rel => exact ⟨j + 1, by omega, by go_num, by rw [HNX.out]; exact HO5.out, HNA.out, HB5.out⟩
            case measure => simp [intOf]; omega
      · have : j = pl.length := by omega
        subst this
        rw [List.take_length] at HO HALL
        have HDN := hidden (HDONE2.out HALL.out)
        have hge : ¬ ((pl.length : Nat) : Int) < (pl.length : Int) := by omega
        have HFA := hidden (HF3.out.trans (Fr.of_below (p := p) (HBE.out.mono (show w.heap.size ≤ w3.heap.size by omega))))
        have HTL : Hid (Ts (pl.map fun q => u.getD q.toNat [])) := hidden (fun s hs => by
          obtain ⟨q, _, rfl⟩ := List.mem_map.1 hs
          exact getD_ts HTS.out q.toNat)
        have hll : (pl.map fun q => u.getD q.toNat []).length ≤ n := by rw [List.length_map]; omega
        generalize (pl.map fun q => u.getD q.toNat []) = L at *
        go_wp2_with fail
        go_ret
        exact ⟨L, [], f3, ⟨_, rfl, own_low HO.out (by omega)⟩, HTL.out, hll, HSR.out, HDN.out, HFA.out⟩

/-- Bytes of texts. -/
def byW (b : List Nat) (l : List (List Nat)) (r : List Nat) : Prop := b = wordsB l ∧ r = []

set_option maxRecDepth 100000 in
set_option maxHeartbeats 2000000 in
theorem rtexts_any {w : World} {p f : Nat} {b : List Nat} (h : Rs w p b f) (hf : Er f) (n : Nat) (hn : n ≤ 256) :
    Calls Tryz.prog 86 #[.pointer (some ⟨p, 0, none⟩), .int .i64 (n : Int)] w (TPost n (byW b) p f w) := by
  have HC := hidden (choice_any h)
  have hef : Er (chF b f) := by
    unfold chF
    split
    · exact hf.orf er30
    · split
      · exact hf
      · exact hf.orf er40
  have HEF := hidden hef
  have hx2 : chX b ≤ 1 := by
    unfold chX
    split
    · omega
    · split <;> omega
  have HW1 : Hid (chX b = 1 → ∀ l b' f', RP (Nt n) (byP b.tail) (chF b f) l b' f' → RP (Nt n) (byW b) f l b' f') := hidden (fun hx l b' f' hr => by
    obtain ⟨r1, r2, r3⟩ := hr
    cases b with
    | nil => simp [chX] at hx
    | cons x t =>
      have hx1 : x = 1 := by
        unfold chX at hx
        simp only at hx
        split at hx <;> omega
      subst hx1
      have hcf : chF (1 :: t) f = f := by simp [chF]
      rw [hcf] at r2 r3
      refine ⟨r1, r2, fun y r a1 a2 a3 => r3 y r a1 a2 ⟨?_, a3.2⟩⟩
      have h3 := a3.1
      unfold wordsB at h3
      split at h3
      · unfold listed at h3
        simpa using h3
      · unfold plain at h3
        simp at h3)
  have HW0 : Hid (chX b ≠ 1 → ∀ l b' f', RP (Nt n) (fun l r => b.tail = txts l ++ r) (chF b f) l b' f' → RP (Nt n) (byW b) f l b' f') := hidden (fun hx l b' f' hr => by
    obtain ⟨r1, r2, r3⟩ := hr
    refine ⟨r1, fun h => ?_, fun y r a1 a2 a3 => ?_⟩
    · obtain ⟨e1, e2⟩ := r2 h
      refine ⟨?_, e2⟩
      unfold chF at e1
      split at e1
      · exact (orf_eq_zero e1).1
      · split at e1
        · exact e1
        · exact (orf_eq_zero e1).1
    · have h3 := a3.1
      unfold wordsB at h3
      split at h3
      · unfold listed at h3
        rw [h3] at hx
        exact absurd rfl hx
      · unfold plain at h3
        have hcf : chF b f = f := by rw [h3]; simp [chF]
        have ht : b.tail = txts y := by rw [h3]; rfl
        rw [hcf] at r3
        have := r3 y [] a1 a2 (by show b.tail = txts y ++ []; rw [ht, List.append_nil])
        rw [a3.2]
        exact this)
  clear h
  generalize chX b = x at *
  generalize chF b f = f1 at *
  by_cases hx : x = 1
  · have HW2 := hidden (HW1.out hx)
    clear HW1 HW0
    subst hx
    go_enter Tryz.func86, Tryz.ntmps86
    go_wp2_with fail
    refine HC.out.mono ?_
    rintro e w1 ⟨rfl, hs1, hf1⟩
    have HF1 := hidden hf1
    have hz1 := hf1.size
    have HT := hidden (textsByPlaces_any hs1 HEF.out n hn)
    clear hs1 hf1
    go_wp2_with fail
    refine HT.out.mono ?_
    rintro e w2 ⟨l, b2, f2, ⟨v2, rfl, ho2⟩, hts, hll, hs2, hrp, hf2⟩
    have HO2 := hidden (own_low ho2 hz1)
    have HTS := hidden hts
    have HS2 := hidden hs2
    have HRP := hidden (HW2.out l b2 f2 hrp)
    have HF2 := hidden (HF1.out.trans (hf2.mono hz1))
    clear ho2 hts hs2 hrp hf2
    go_wp2_with fail
    go_ret
    exact ⟨l, b2, f2, ⟨_, rfl, HO2.out⟩, HTS.out, hll, HS2.out, HRP.out, HF2.out⟩
  · have HW2 := hidden (HW0.out hx)
    clear HW1 HW0
    obtain rfl : x = 0 := by omega
    go_enter Tryz.func86, Tryz.ntmps86
    go_wp2_with fail
    refine HC.out.mono ?_
    rintro e w1 ⟨rfl, hs1, hf1⟩
    have HF1 := hidden hf1
    have hz1 := hf1.size
    have HT := hidden (lens_any hs1 HEF.out n hn)
    clear hs1 hf1
    go_wp2_with fail
    refine HT.out.mono ?_
    rintro e w2 ⟨l, b2, f2, ⟨v2, rfl, ho2⟩, hts, hll, hs2, hrp, hf2⟩
    have HO2 := hidden (own_low ho2 hz1)
    have HTS := hidden hts
    have HS2 := hidden hs2
    have HRP := hidden (HW2.out l b2 f2 hrp)
    have HF2 := hidden (HF1.out.trans (hf2.mono hz1))
    clear ho2 hts hs2 hrp hf2
    go_wp2_with fail
    go_ret
    exact ⟨l, b2, f2, ⟨_, rfl, HO2.out⟩, HTS.out, hll, HS2.out, HRP.out, HF2.out⟩
end Go.Proofs.YtcmmednihoaekaaGreat
