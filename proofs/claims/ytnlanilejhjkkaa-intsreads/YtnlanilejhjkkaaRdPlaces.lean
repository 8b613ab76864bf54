/- Contracts: places. -/
import Derived.Test.YtnlanilejhjkkaaRdRise
set_option linter.unusedVariables false
set_option linter.unusedSimpArgs false
namespace Go.Proofs.Ytnlanilejhjkkaa
open Go.RowKit Go.Lib

theorem rdU_length : ∀ {q : Nat} {last : Int} {b r : List Nat} {u : List Int}, rdU q last b = .ok (u, r) → u.length = q
  | 0, last, b, r, u, h => by
    simp only [rdU, Except.ok.injEq, Prod.mk.injEq] at h
    rw [← h.1]
    rfl
  | q + 1, last, b, r, u, h => by
    rw [rdU] at h
    obtain ⟨d, q1, h1, h2⟩ := bindR_inv h
    split at h2
    · simp at h2
    · obtain ⟨m, q2, h3, h4⟩ := bindR_inv h2
      simp only [Except.ok.injEq, Prod.mk.injEq] at h4
      rw [← h4.1, List.length_cons, rdU_length h3]

/-- What goes on behind the rising numbers. -/
def G3 (n : Nat) (G : List Int → List Nat → Except Nat (List Int × List Nat)) (u : List Int) : List Nat → Except Nat (List Int × List Nat) := if n = 0 then G [] else bindR (pkd n (blen (u.length - 1))) (fun p => bindR (picked u p) G)

theorem rd3_num (n : Nat) (G : List Int → List Nat → Except Nat (List Int × List Nat)) : bindR (rd3 n) G = bindR num (fun many => if n < many ∨ many = 0 ∧ 0 < n then (fun _ => .error 40) else
    if n = 0 then G [] else bindR wh (fun x => bindR (rdU (many - 1) x) (fun u => bindR (pkd n (blen (many - 1))) (fun p => bindR (picked (x :: u) p) G)))) := by
  have : rd3 n = bindR num (fun many => if n < many ∨ many = 0 ∧ 0 < n then (fun _ => .error 40) else if n = 0 then (fun r => .ok ([], r)) else
    bindR wh (fun x => bindR (rdU (many - 1) x) (fun u => bindR (pkd n (blen (many - 1))) (fun p r => picked (x :: u) p r)))) := by
    funext b
    rfl
  rw [this, bindR_assoc]
  congr 1
  funext many
  split
  · rfl
  · split
    · rw [bindR_ok_left]
    · rw [bindR_assoc]
      congr 1
      funext x
      rw [bindR_assoc]
      congr 1
      funext u
      rw [bindR_assoc]

theorem rd3_rise (n : Nat) (G : List Int → List Nat → Except Nat (List Int × List Nat)) (many : Nat) (hm : 0 < many) (hn : n ≠ 0) : (bindR wh (fun x => bindR (rdU (many - 1) x) (fun u => bindR (pkd n (blen (many - 1))) (fun p => bindR (picked (x :: u) p) G)))) = riseK (G3 n G) many [] 0 := by
  unfold riseK
  rw [if_pos (show ([] : List Int).length = 0 from rfl), if_neg (by omega)]
  congr 1
  funext x b
  unfold bindR
  cases h : rdU (many - 1) x b with
  | error e => rfl
  | ok y =>
    obtain ⟨u, r⟩ := y
    have hl := rdU_length h
    simp only
    unfold G3
    rw [if_neg hn, List.length_cons, hl, Nat.add_sub_cancel]
    rfl

theorem unE_none (w : Nat) : unE [] 0 w = 0 ∨ 64 < w := by
  by_cases h : 64 < w
  · exact Or.inr h
  · left
    unfold unE
    rw [if_pos (by omega), if_pos (by simp [by8, pk])]

theorem Goes.none {D : Except Nat (List Int × List Nat)} {G : List Int → List Nat → Except Nat (List Int × List Nat)} (hG : ∀ r : List Nat, r.length ≠ 0 → G [] r = .error 32) {b : List Nat} {f w : Nat} (hw : w ≤ 64) (h : Goes D (G []) b f) : Goes D (G []) (pkB 0 w b) (pkF 0 w b f) := by
  obtain ⟨h1, h2⟩ := h
  have e0 : by8 (0 * w) = 0 := by simp [by8]
  have e1 : unE [] 0 w = 0 := by
    rcases unE_none w with h | h
    · exact h
    · omega
  unfold pkB pkF
  rw [e0, if_neg (by omega), if_neg (by omega), List.drop_zero, List.take_zero]
  rw [show unE [] ((0 : Nat) : Int) (w : Int) = 0 from e1]
  by_cases hf : f = 0
  · subst hf
    rw [orf_zero]
    by_cases hb : b.length = 0
    · rw [if_pos hb, orf_zero]
      exact ⟨fun _ => h1 rfl, fun e => absurd rfl e⟩
    · rw [if_neg hb, orf_keep (by omega)]
      refine ⟨fun e => by omega, fun _ => ?_⟩
      rw [h1 rfl]
      exact hG b hb
  · rw [orf_keep hf, orf_keep hf]
    exact ⟨fun e => absurd e hf, h2⟩

theorem pkL_none {w : Nat} {b : List Nat} : pkL 0 w b = [] := by
  have e0 : by8 (0 * w) = 0 := by simp [by8]
  unfold pkL
  rw [e0, if_neg (by omega), List.take_zero]
  unfold unR
  split
  · have := dig_length w 0 (pk 8 [])
    apply List.eq_nil_of_length_eq_zero
    simpa using this
  · rfl

theorem pkL_length {n w : Nat} {b : List Nat} : (pkL n w b).length ≤ n := by
  unfold pkL
  split
  · simp
  · unfold unR
    split
    · rw [dig_length]; simp
    · simp

theorem pkL_lt {n w : Nat} {b : List Nat} : ∀ x ∈ pkL n w b, x < 18446744073709551616 := by
  unfold pkL
  split
  · simp
  · exact unR_lt

/-- What packed leaves, whether there are numbers or not. -/
theorem Goes.places {D : Except Nat (List Int × List Nat)} {n : Nat} {G : List Int → List Nat → Except Nat (List Int × List Nat)} (hG : ∀ r : List Nat, r.length ≠ 0 → G [] r = .error 32) {u : List Int} {b : List Nat} {f : Nat} (hw : blen (u.length - 1) ≤ 64) (h : Goes D (G3 n G u) b f) :
    Goes D (bindR (picked u (pkL n (blen (u.length - 1)) b)) G) (pkB n (blen (u.length - 1)) b) (pkF n (blen (u.length - 1)) b f) := by
  unfold G3 at h
  by_cases hn : n = 0
  · subst hn
    rw [if_pos rfl] at h
    have := h.none hG hw
    have e : bindR (picked u (pkL 0 (blen (u.length - 1)) b)) G = G [] := by
      rw [pkL_none]
      funext r
      unfold bindR picked
      rw [if_pos (by simp)]
      rfl
    rw [e]
    exact this
  · rw [if_neg hn] at h
    exact h.pkd

theorem Goes.picks {D : Except Nat (List Int × List Nat)} {G : List Int → List Nat → Except Nat (List Int × List Nat)} {u : List Int} {P b : List Nat} {f : Nat} (h : Goes D (bindR (picked u P) G) b f) (hp : ∀ q ∈ P, q < u.length) : Goes D (G (P.map fun q => u.getD q 0)) b f := by
  have e : bindR (picked u P) G = G (P.map fun q => u.getD q 0) := by
    funext r
    unfold bindR picked
    rw [if_pos hp]
  rwa [e] at h

theorem Goes.strays {D : Except Nat (List Int × List Nat)} {G : List Int → List Nat → Except Nat (List Int × List Nat)} {u : List Int} {P b : List Nat} {f : Nat} {K : List Nat → Except Nat (List Int × List Nat)} (h : Goes D (bindR (picked u P) G) b f) (hp : ¬ ∀ q ∈ P, q < u.length) : Goes D K b (orf f 40) := by
  obtain ⟨h1, h2⟩ := h
  by_cases hf : f = 0
  · subst hf
    rw [orf_zero]
    refine ⟨fun e => by omega, fun _ => ?_⟩
    rw [h1 rfl]
    unfold bindR picked
    rw [if_neg hp]
  · rw [orf_keep hf]
    exact ⟨fun e => absurd e hf, h2⟩

theorem blen_small {n : Nat} (h : n ≤ 256) : blen (n - 1) ≤ 64 := blen_le.2 (by
  have : (256 : Nat) < 2 ^ 64 := by decide
  omega)

theorem Sv.atU {W : World} {a : Option Addr} {n cap : Nat} {l : List Nat} (h : Sv W (.slice a n cap) (vals .u64 l)) {k : Nat} (hk : k < l.length) :
    ∃ b off, a = some ⟨b, off, none⟩ ∧ b < W.heap.size ∧ W.cell? ⟨b, off + k, none⟩ = some (.int .u64 (l[k] : Int)) := by
  obtain ⟨a', c, h1, h2, h3, h4, h5⟩ := h
  simp only [Value.slice.injEq] at h1
  obtain ⟨rfl, _, rfl⟩ := h1
  obtain ⟨b, off, h6, h7, h8⟩ := h5 (by rw [vals_length]; omega)
  exact ⟨b, off, h6, h7, h8 k _ (vals_get hk)⟩

set_option maxRecDepth 100000 in
set_option maxHeartbeats 4000000 in
theorem places_any {D : Except Nat (List Int × List Nat)} {G : List Int → List Nat → Except Nat (List Int × List Nat)} (hG : ∀ r : List Nat, r.length ≠ 0 → G [] r = .error 32) {w : World} {p n f : Nat} {b : List Nat} (h : St 53 w p b f) (hn : n ≤ 256) (hg : Goes D (bindR (rd3 n) G) b f) :
    Calls Try.prog 37 #[.pointer (some ⟨p, 0, none⟩), .int .i64 (n : Int)] w (LPost D G p n w) := by
  have HS := hidden h
  have HHG := hidden hG
  have hlt := h.lt
  obtain ⟨fw, hfw⟩ : ∃ fw : Nat, min n 1 = fw := ⟨_, rfl⟩
  have hmin : min (n : Int) 1 = (fw : Int) := by omega
  rw [rd3_num] at hg
  have hgo := Goes.num (lo := fw) (hi := n) (fun v => by constructor <;> (intro h; omega)) hg
  have HN1 := hidden (number_any h fw n (by omega) (by omega))
  have hkle : within fw n (gt b).1 ≤ n := by
    unfold within
    split <;> omega
  have hgo2 : Goes D (riseK (G3 n G) (within fw n (gt b).1) [] 0) (b.drop (gt b).2.1) (withinF fw n (gt b).1 (orf f (gt b).2.2)) := by
    by_cases hn0 : n = 0
    · subst hn0
      rw [if_pos rfl] at hgo
      have h0 : within fw 0 (gt b).1 = 0 := by omega
      rw [h0]
      have e : riseK (G3 0 G) 0 [] 0 = G [] := by
        unfold riseK G3
        rfl
      rw [e]
      exact hgo
    · by_cases hc0 : within fw n (gt b).1 = 0
      · refine hgo.any ?_
        have : (gt b).1 < fw ∨ n < (gt b).1 := by
          unfold within at hc0
          split at hc0
          · assumption
          · omega
        exact withinF_bad this
      · rw [if_neg hn0, rd3_rise n G _ (by omega) hn0] at hgo
        exact hgo
  have HGO := hidden hgo2
  clear h hg hgo hgo2 hfw hG
  generalize within fw n (gt b).1 = cnt at *
  generalize withinF fw n (gt b).1 (orf f (gt b).2.2) = f1 at *
  generalize b.drop (gt b).2.1 = b1 at *
  go_enter Try.func37, Try.ntmps37
  go_wp2_with fail
  refine HN1.out.mono ?_
  rintro e w1 ⟨rfl, hs1, hf1⟩
  have HS1 := hidden hs1
  have HF1 := hidden hf1
  have hz1 := hf1.size
  have hlt1 := hs1.lt
  clear hs1 hf1
  go_wp2_with fail
  refine (rising_any HS1.out (by omega) HGO.out).mono ?_
  rintro e w2 ⟨us, b2, f2, ⟨v2, rfl, ho2⟩, hus, hul, hs2, hg2, hf2⟩
  subst hul
  have HO2 := hidden ho2
  have HUS := hidden hus
  have HS2 := hidden hs2
  have HG2 := hidden hg2
  have HF2 := hidden (HF1.out.trans (hf2.mono hz1))
  have hz2 := hf2.size
  have hlt2 := hs2.lt
  obtain ⟨a2, c2, rfl⟩ := ho2.len
  clear ho2 hus hs2 hg2 hf2 HGO
  have hbw := blen_small (n := us.length) (by omega)
  go_wp2_with fail
  refine (placeWidth_any us.length (by omega) _).mono ?_
  rintro e w3 ⟨rfl, hb3⟩
  have HO3 := hidden (HO2.out.kept hb3)
  have HS3 := hidden (HS2.out.kept hb3 hlt2)
  have HF3 := hidden (HF2.out.then (hb3.mono (by omega)))
  have hz3 := hb3.size
  clear hb3
  have HG3 := hidden (HG2.out.places HHG.out hbw)
  have HPL := hidden (pkL_length (n := n) (w := blen (us.length - 1)) (b := b2))
  have HPX := hidden (pkL_lt (n := n) (w := blen (us.length - 1)) (b := b2))
  have HPK := hidden (packed_any HS3.out n (blen (us.length - 1)) hn hbw)
  clear HG2 hbw
  generalize pkL n (blen (us.length - 1)) b2 = P at *
  generalize pkB n (blen (us.length - 1)) b2 = b3 at *
  generalize pkF n (blen (us.length - 1)) b2 f2 = f3 at *
  generalize blen (us.length - 1) = ww at *
  go_wp2_with fail
  refine HPK.out.mono ?_
  rintro e w4 ⟨⟨v4, rfl, ho4⟩, hs4, hf4⟩
  have HP4 := hidden ho4
  have HS4 := hidden hs4
  have HU4 := hidden (HO3.out.fr hf4 hlt1)
  have HF4 := hidden (HF3.out.trans (hf4.mono (by omega)))
  have hz4 := hf4.size
  have hlt4 := hs4.lt
  obtain ⟨a4, c4, rfl⟩ := ho4.len
  have hPl := HPL.out
  clear ho4 hs4 hf4
  go_wp2_with fail
  go_loopw [8, 30] (fun v i wr => ∃ k : Nat, k ≤ P.length ∧ i = .int .i64 (k : Int) ∧ (∀ q ∈ P.take k, q < us.length) ∧ OwnI wr w4.heap.size v ((P.take k).map fun q => us.getD q 0) ∧ Below w4.heap.size w4 wr) (fun _ i _ => P.length - (intOf i).toNat)
  case atStart => exact ⟨0, by omega, rfl, fun q hq => by simp at hq, OwnI.nil _ _, Below.refl _ _⟩
  case round =>
    obtain ⟨k, hk, rfl, hall, how, hbel⟩ := hrel
    have HAL := hidden hall
    have HO := hidden how
    have HB := hidden hbel
    have hzr := hbel.size
    obtain ⟨av, cv, rfl⟩ := how.len
    clear hall how hbel
    by_cases hlk : k < P.length
    · have hlk3 : (k : Int) < (P.length : Int) := by omega
      obtain ⟨bp, op, hbp, hbp2, hckp⟩ := (HP4.out.kept HB.out).sv.atU hlk
      cases hbp
      have hqx := HPX.out P[k] (List.getElem_mem hlk)
      have HTK := hidden (List.take_succ_eq_append_getElem hlk)
      have HMEM := hidden (List.getElem_mem hlk)
      by_cases hq : P[k] < us.length
      · have hq2 : ¬ ((P[k] : Nat) : Int) ≥ (us.length : Int) := by omega
        obtain ⟨bu, ou, hbu, hbu2, hcku⟩ := (HU4.out.kept HB.out).sv.at hq
        cases hbu
        have HGD : Hid (us.getD P[k] 0 = us[P[k]]) := hidden (by simp [List.getD_eq_getElem?_getD, hq])
        have hyl : ((P.take k).map fun q => us.getD q 0).length ≤ 256 := by rw [List.length_map, List.length_take]; omega
        generalize us[P[k]] = x at *
        generalize P[k] = q at *
        obtain ⟨ys, hys⟩ : ∃ ys, ((P.take k).map fun q => us.getD q 0) = ys := ⟨_, rfl⟩
        rw [hys] at HO hyl ⊢
        have HYS := hidden hys
        clear hys
        have HOA := hidden (HO.out.kept ((Below.refl _ _).alloc (Nat.le_refl _) (.cells #[.int .i64 x] 2)))
        have HBA := hidden (HB.out.alloc hzr (.cells #[.int .i64 x] 2))
        go_wp2_with (first | (at_builtin; refine wpList_append_i rfl _ _ rfl w4.heap.size _ _ x ys rfl HOA.out rfl ?c1 ?c2 ?c3 ?_))
        case c2 => omega
        case c3 => omega
        intro v7 w7 o7 b7
        have HO7 := hidden o7
        have HB7 := hidden (HBA.out.trans b7)
        clear o7 b7
        go_wp2_with fail
        go_roundw
        case rel =>
          refine ⟨k + 1, by omega, by go_num, ?_, ?_, HB7.out⟩
          · rw [HTK.out]
            intro q' hq'
            rcases List.mem_append.1 hq' with h | h
            · exact HAL.out q' h
            · rw [List.mem_singleton.1 h]
              exact hq
          · rw [HTK.out, List.map_append, HYS.out, List.map_singleton, HGD.out]
            exact HO7.out
        case measure => simp [intOf]; omega
      · have hq2 : ((P[k] : Nat) : Int) ≥ (us.length : Int) := by omega
        have HBAD : Hid (¬ ∀ q ∈ P, q < us.length) := hidden (fun h => hq (h _ HMEM.out))
        have HGE := hidden (HG3.out.strays (K := G []) HBAD.out)
        clear hq
        generalize P[k] = q at *
        go_wp2_with fail
        refine (refuse_any (HS4.out.kept HB.out hlt4) 40).mono ?_
        rintro e w8 ⟨rfl, hs8, hf8⟩
        have HS8 := hidden hs8
        have HF8 := hidden ((HF4.out.then (HB.out.mono (by omega))).trans (hf8.mono (by omega)))
        clear hs8 hf8
        go_wp2_with fail
        go_ret
        exact ⟨[], _, _, ⟨_, rfl, OwnI.nil _ _⟩, fun x hx => by simp at hx, by simp, HS8.out, HGE.out, HF8.out⟩
    · obtain rfl : k = P.length := by omega
      have hlk3 : ¬ (P.length : Int) < (P.length : Int) := by omega
      have hall := HAL.out
      rw [List.take_length] at hall HO
      have HGE := hidden (HG3.out.picks hall)
      have HFE := hidden (HF4.out.then (HB.out.mono (by omega)))
      have hoe := HO.out.low (show w.heap.size ≤ w4.heap.size by omega)
      rw [List.length_map] at hoe
      have HOE := hidden hoe
      clear hoe
      have HISE : Hid (Is (P.map fun q => us.getD q 0)) := hidden (fun y hy => by
        obtain ⟨q, hq, rfl⟩ := List.mem_map.1 hy
        have := hall q hq
        rw [List.getD_eq_getElem?_getD, List.getElem?_eq_getElem this]
        exact HUS.out _ (List.getElem_mem this))
      have HLE : Hid ((P.map fun q => us.getD q 0).length ≤ n) := hidden (by rw [List.length_map]; exact hPl)
      clear hall
      go_wp2_with fail
      go_ret
      exact ⟨_, _, _, ⟨_, rfl, HOE.out⟩, HISE.out, HLE.out, HS4.out.kept HB.out hlt4, HGE.out, HFE.out⟩
end Go.Proofs.Ytnlanilejhjkkaa
