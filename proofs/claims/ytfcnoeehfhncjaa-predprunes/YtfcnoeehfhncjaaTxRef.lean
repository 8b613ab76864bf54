/- The document's Above; that it is the program's; bounds. -/
import Derived.Test.YtfcnoeehfhncjaaTx
set_option linter.unusedVariables false
set_option linter.unusedSimpArgs false
namespace Go.Proofs.Ytfcnoeehfhncjaa
open Go.RowKit Go.Lib
open Go.Op (bytesLess)

theorem ownBytes {w : World} {B : Nat} {cs : Array Value} {l : List UInt8} (hB : B ≤ w.heap.size) (hl : l.length ≤ 4) (h : cs.toList = byteVals l) :
    (w.alloc (.cells cs 5)).ownsRow B 5 1 (.slice (some ⟨w.heap.size, 0, none⟩) l.length l.length) l.length (byteVals l) := by
  rw [← h]
  have hs : cs.size = l.length * 1 := by rw [← Array.length_toList, h]; simp [byteVals]
  exact World.ownsRow_lit w cs l.length hB (by unfold maxLen; omega) hs

set_option maxRecDepth 100000 in
theorem bytes_any (c : Nat) (h : c ≤ 1114111) (w : World) :
    Calls Try.prog 55 #[.int .i64 (c : Int)] w fun e w' => (∃ v, e = .returned v ∧ w'.ownsRow w.heap.size 5 1 v (encL c).length (byteVals (encL c))) ∧ Below w.heap.size w w' := by
  by_cases h1 : (c : Int) < 128
  · have he : encL c = [bt c] := by unfold encL; rw [if_pos (by omega)]
    rw [he]
    have e0 := bt_toNat (n := c) (by omega)
    have HE := hidden e0
    clear he e0
    go_enter Try.func55, Try.ntmps55
    go_wp2_with fail
    go_ret
    refine ⟨⟨_, rfl, ?_⟩, (Below.refl _ _).alloc (Nat.le_refl _) _⟩
    exact ownBytes (l := [bt c]) (Nat.le_refl _) (by simp) (by simp [byteVals, HE.out])
  · by_cases h2 : (c : Int) < 2048
    · have he : encL c = [bt (192 + c / 64), bt (128 + c % 64)] := by unfold encL; rw [if_neg (by omega), if_pos (by omega)]
      rw [he]
      have HE := hidden (And.intro (bt_toNat (n := 192 + c / 64) (by omega)) (bt_toNat (n := 128 + c % 64) (by omega)))
      clear he
      go_enter Try.func55, Try.ntmps55
      go_wp2_with fail
      go_ret
      refine ⟨⟨_, rfl, ?_⟩, (Below.refl _ _).alloc (Nat.le_refl _) _⟩
      refine ownBytes (l := [bt (192 + c / 64), bt (128 + c % 64)]) (Nat.le_refl _) (by simp) ?_
      simp [byteVals, HE.out.1, HE.out.2]
    · by_cases h3 : (c : Int) < 65536
      · have he : encL c = [bt (224 + c / 4096), bt (128 + c / 64 % 64), bt (128 + c % 64)] := by unfold encL; rw [if_neg (by omega), if_neg (by omega), if_pos (by omega)]
        rw [he]
        have HE := hidden (And.intro (bt_toNat (n := 224 + c / 4096) (by omega)) (And.intro (bt_toNat (n := 128 + c / 64 % 64) (by omega)) (bt_toNat (n := 128 + c % 64) (by omega))))
        clear he
        go_enter Try.func55, Try.ntmps55
        go_wp2_with fail
        go_ret
        refine ⟨⟨_, rfl, ?_⟩, (Below.refl _ _).alloc (Nat.le_refl _) _⟩
        refine ownBytes (l := [bt (224 + c / 4096), bt (128 + c / 64 % 64), bt (128 + c % 64)]) (Nat.le_refl _) (by simp) ?_
        simp [byteVals, HE.out.1, HE.out.2.1, HE.out.2.2]
      · have he : encL c = [bt (240 + c / 262144), bt (128 + c / 4096 % 64), bt (128 + c / 64 % 64), bt (128 + c % 64)] := by unfold encL; rw [if_neg (by omega), if_neg (by omega), if_neg (by omega)]
        rw [he]
        have HE := hidden (And.intro (bt_toNat (n := 240 + c / 262144) (by omega)) (And.intro (bt_toNat (n := 128 + c / 4096 % 64) (by omega)) (And.intro (bt_toNat (n := 128 + c / 64 % 64) (by omega)) (bt_toNat (n := 128 + c % 64) (by omega)))))
        clear he
        go_enter Try.func55, Try.ntmps55
        go_wp2_with fail
        go_ret
        refine ⟨⟨_, rfl, ?_⟩, (Below.refl _ _).alloc (Nat.le_refl _) _⟩
        refine ownBytes (l := [bt (240 + c / 262144), bt (128 + c / 4096 % 64), bt (128 + c / 64 % 64), bt (128 + c % 64)]) (Nat.le_refl _) (by simp) ?_
        simp [byteVals, HE.out.1, HE.out.2.1, HE.out.2.2.1, HE.out.2.2.2]

theorem conv_own {w : World} {B n : Nat} {v : Value} {l : List UInt8} (h : w.ownsRow B 5 1 v n (byteVals l)) (hn : 0 < l.length) : (convert 100 9 v).run Try.prog w = .ok (.string ⟨l.toArray⟩) w := by
  have hl : l.length = n := by have := h.1; simpa [byteVals] using this
  obtain ⟨g, cap, rfl, _, _, hc⟩ := (own_form h).2 (by omega)
  rw [← hl]
  refine run_convert_bytes_back w 100 9 5 ⟨g, 0, none⟩ cap l Try.underlying100 Try.underlying5 Try.underlying9 fun j hj => ?_
  have hadd : (⟨g, 0, none⟩ : Addr).add j = ⟨g, j, none⟩ := by unfold Addr.add; split <;> simp_all
  rw [hadd]
  exact hc j _ (by simp [byteVals, hj])

def refAboveL (l : List UInt8) (n : Int) : Option (List UInt8) :=
  if clean l = true then (if ((V l).length : Int) ≤ n then some l else if n < 1 then none else upL l n.toNat) else none

theorem nx_code (r : Nat) : (r + 1 = 55296 → nx r = 57344) ∧ (r + 1 ≠ 55296 → nx r = r + 1) := by
  unfold nx
  constructor
  · intro h; rw [if_pos (by omega)]
  · intro h; rw [if_neg (by omega)]

theorem keep1 {W w' : World} {g i : Nat} {x : Value} (h : W.cell? ⟨g, i, none⟩ = some x ∧ g < W.heap.size) (hb : Below W.heap.size W w') : w'.cell? ⟨g, i, none⟩ = some x ∧ g < w'.heap.size :=
  ⟨(hb.cell (p := ⟨g, i, none⟩) h.2).trans h.1, Nat.lt_of_lt_of_le h.2 hb.size⟩

set_option maxRecDepth 100000 in
set_option maxHeartbeats 2000000 in
theorem refAbove_any (s : ByteArray) (n : Int) (hs : s.size ≤ 100000) (w : World) :
    Calls Try.prog 36 #[.string s, .int .i64 n] w fun e w' => Tells e (refAboveL (lb s) n) ∧ Below w.heap.size w w' := by
  have hL := lb_size s
  have hV := V_le (lb s)
  have HX : Hid (refAboveL (lb s) n = if clean (lb s) = true then (if ((V (lb s)).length : Int) ≤ n then some (lb s) else if n < 1 then none else upL (lb s) n.toNat) else none) := rfl
  have HEx := hidden (lb_extract s)
  have HAp := hidden lb_append
  go_enter Try.func36, Try.ntmps36
  go_wp2_with fail
  refine (signs_any s hs _).mono ?_
  rintro e w1 ⟨⟨a, b, rfl, ha, hb⟩, hbel⟩
  have HB := hidden hbel
  have hz := hbel.size
  clear hbel
  obtain ⟨⟨ad, cap, rfl, _⟩, hca⟩ := own_form ha
  obtain ⟨⟨ad2, cap2, rfl, _⟩, hcb⟩ := own_form hb
  clear ha hb
  have HCA := hidden hca
  have HCB := hidden hcb
  clear hca hcb
  generalize hcl : clean (lb s) = cl at *
  cases cl with
  | false =>
    go_wp2_with fail
    go_ret2
    rw [HX.out]
    exact ⟨⟨_, _, rfl, rfl, rfl⟩, HB.out⟩
  | true =>
    by_cases h1 : ((V (lb s)).length : Int) ≤ n
    · rw [if_pos h1] at HX
      go_wp2_with fail
      go_ret2
      rw [HX.out]
      exact ⟨⟨_, _, rfl, rfl, rfl⟩, HB.out⟩
    · rw [if_neg h1] at HX
      by_cases h2 : n < 1
      · rw [if_pos h2] at HX
        go_wp2_with fail
        go_ret2
        rw [HX.out]
        exact ⟨⟨_, _, rfl, rfl, rfl⟩, HB.out⟩
      · rw [if_neg h2] at HX
        simp only [if_true] at HX
        clear hcl
        obtain ⟨m, rfl⟩ : ∃ m : Nat, n = (m : Int) := ⟨n.toNat, by omega⟩
        rw [Int.toNat_natCast] at HX
        obtain ⟨ga, ca, hsa, hga, _, hca⟩ := HCA.out (by omega)
        obtain ⟨gb, cb, hsb, hgb, _, hcb⟩ := HCB.out (by omega)
        simp only [Value.slice.injEq] at hsa hsb
        obtain ⟨rfl, _, rfl⟩ := hsa
        obtain ⟨rfl, _, rfl⟩ := hsb
        clear HCA HCB
        have HCA := hidden hca
        have HCB := hidden hcb
        clear hca hcb
        go_wp2_with fail
        go_loopw [9] (fun i w' => w' = w1 ∧ ∃ k : Nat, k ≤ m ∧ i = .int .i64 ((k : Int) - 1) ∧ lastG (V (lb s)) k = lastG (V (lb s)) m) (fun i _ => (intOf i + 1).toNat)
        case atStart => exact ⟨rfl, m, Nat.le_refl _, rfl, rfl⟩
        case round =>
          obtain ⟨rfl, k, hk, rfl, hlast⟩ := hrel
          have HL := hidden hlast
          clear hlast
          cases k with
          | zero =>
            go_wp2_with fail
            go_ret2
            rw [HX.out, upL, ← HL.out]
            exact ⟨⟨_, _, rfl, rfl, rfl⟩, HB.out⟩
          | succ i =>
            have hkl : i < (V (lb s)).length := by omega
            have e1 : (((i + 1 : Nat) : Int) - 1) = (i : Int) := by omega
            rw [e1]
            have hc1 := HCA.out i _ (sgn_get hkl)
            have hc2 := HCB.out i _ (ats_get hkl)
            have hvr := (V_vr _ (lb s) (Nat.le_refl _) _ (List.getElem_mem hkl)).1
            have hgd : (V (lb s)).getD i (0, 0) = (V (lb s))[i] := by rw [List.getD_eq_getElem?_getD, List.getElem?_eq_getElem hkl]; rfl
            have hol := (offs_le (l := lb s) i (by omega)).1
            have HGD := hidden hgd
            clear hgd e1
            generalize hr : (V (lb s))[i] = u at *
            obtain ⟨r, wd⟩ := u
            clear hr
            simp only at *
            have hr : r ≤ 1114111 := by unfold vr at hvr; omega
            have HVR := hidden hvr
            clear hvr
            by_cases hlt : (r : Int) < 1114111
            · have HR : Hid (lastG (V (lb s)) m = some i) := by
                show lastG (V (lb s)) m = some i
                rw [← HL.out, lastG, HGD.out, if_neg (by simp only; omega)]
              have hnv := nx_vr HVR.out (by omega)
              have hnle : nx r ≤ 1114111 := by unfold vr at hnv; omega
              have HBY := hidden (bytes_any (nx r) hnle)
              obtain ⟨n1, n2⟩ := nx_code r
              generalize ho : offs (V (lb s)) i = o at *
              have HO : Hid (offs (V (lb s)) i = o) := ho
              clear ho
              generalize hnx : nx r = c at *
              have HNX : Hid (nx r = c) := hnx
              clear hnx
              obtain ⟨E, hE⟩ : ∃ E : ByteArray, E = ⟨(encL c).toArray⟩ := ⟨_, rfl⟩
              have hEl : lb E = encL c := by rw [hE]; simp [lb]
              have hEs : E.size ≤ 4 := by rw [← lb_size, hEl]; exact (encL_pos c).2
              have hXs : (s.extract 0 o).size ≤ 100000 := by rw [← lb_size, HEx.out]; simp; omega
              have hadd : ∀ w, (Op.stringOp .add (s.extract 0 o) E).run Try.prog w = .ok (.string (s.extract 0 o ++ E)) w := fun w => run_string_add_sum w _ _ (by omega)
              have HEL := hidden hEl
              have HEQ := hidden hE
              have HCV : Hid (∀ (w2 : World) (B : Nat) (v : Value), w2.ownsRow B 5 1 v (encL c).length (byteVals (encL c)) → (convert 100 9 v).run Try.prog w2 = .ok (.string E) w2) := fun w2 B v h => by
                rw [hE]; exact conv_own h (encL_pos c).1
              have HEND : Hid (Tells (.returned (.tuple #[.string (s.extract 0 o ++ E), .bool true])) (refAboveL (lb s) (m : Int))) := by
                refine ⟨_, _, rfl, ?_, ?_⟩
                · rw [HX.out, upL, HR.out]; rfl
                · rw [HX.out, upL, HR.out, HAp.out, HEx.out, hEl, Option.map_some, HO.out, HGD.out, HNX.out]
                  simp
              clear hE hEl
              have hI1 : (0 : Int) ≤ (o : Int) := by omega
              have hI2 : (o : Int) ≤ (s.size : Int) := by omega
              by_cases h55 : r + 1 = 55296
              · obtain rfl := n1 h55
                obtain rfl : r = 55295 := by omega
                clear n1 n2
                go_wp2_with fail
                go_region_with (first | (go_at_call 55; refine (HBY.out _).mono ?_; rintro e w2 ⟨⟨v, rfl, hown⟩, hb2⟩; have hcv := HCV.out _ _ _ hown; have hk2 := (hb2.cell (p := ⟨gb, i, none⟩) hgb).trans hc2; clear hown))
                all_goals
                  go_wp2_with fail
                  go_ret2
                  refine ⟨HEND.out, ?_⟩
                  exact HB.out.drew.trans (hb2.mono hz)
              · obtain rfl := n2 h55
                have h55b : ((r : Int) + 1 == 55296) = false := by simp; omega
                have hcast : ((r + 1 : Nat) : Int) = (r : Int) + 1 := by omega
                rw [hcast] at HBY
                clear hcast
                clear n1 n2
                go_wp2_with fail
                go_region_with (first | (go_at_call 55; refine (HBY.out _).mono ?_; rintro e w2 ⟨⟨v, rfl, hown⟩, hb2⟩; have hcv := HCV.out _ _ _ hown; have hk2 := (hb2.cell (p := ⟨gb, i, none⟩) hgb).trans hc2; clear hown))
                all_goals
                  go_wp2_with fail
                  go_ret2
                  refine ⟨HEND.out, ?_⟩
                  exact HB.out.drew.trans (hb2.mono hz)
            · go_wp2_with fail
              go_roundw
              case rel =>
                refine ⟨trivial, i, by omega, by go_num, ?_⟩
                rw [← HL.out, lastG, HGD.out, if_pos (by simp only; omega)]
              case measure => simp [intOf]

theorem flat_take (rs : List Nat) : ∀ k, (flat rs).take (offs (rs.map eu) k) = flat (rs.take k) := by
  induction rs with
  | nil => intro k; simp
  | cons c rs ih =>
    intro k
    cases k with
    | zero => simp
    | succ k =>
      have : offs ((c :: rs).map eu) (k + 1) = (encL c).length + offs (rs.map eu) k := by
        simp [offs, eu]
      rw [this, flat_cons, List.take_succ_cons, flat_cons, ← ih k, List.take_length_add_append]

theorem getD_take {u : List (Nat × Nat)} {j k : Nat} (h : j < k) : (u.take k).getD j (0, 0) = u.getD j (0, 0) := by
  simp [List.getD_eq_getElem?_getD, List.getElem?_take, h]

theorem lastG_take (u : List (Nat × Nat)) (k : Nat) : ∀ j, j ≤ k → lastG (u.take k) j = lastG u j := by
  intro j
  induction j with
  | zero => intro _; rfl
  | succ j ih =>
    intro h
    simp only [lastG]
    rw [getD_take (by omega), ih (by omega)]

theorem offs_take {u : List (Nat × Nat)} {i k : Nat} (h : i ≤ k) : offs (u.take k) i = offs u i := by
  unfold offs
  rw [List.take_take, Nat.min_eq_left h]

theorem up_first {rs : List Nat} (hv : ∀ r ∈ rs, vr r) {k : Nat} (hk : k ≤ rs.length) : raisedL (flat (rs.take k)) = upL (flat rs) k := by
  have hv2 : ∀ r ∈ rs.take k, vr r := fun r hr => hv r (List.mem_of_mem_take hr)
  have e1 := V_flat0 rs hv
  have e2 := V_flat0 (rs.take k) hv2
  have hl : ((rs.take k).map eu).length = k := by simp; omega
  unfold raisedL upL
  rw [e1, e2, hl, List.map_take, lastG_take _ _ _ (Nat.le_refl _)]
  cases hg : lastG (rs.map eu) k with
  | none => rfl
  | some i =>
    have hi := (lastG_lt hg).1
    simp only [Option.map_some]
    rw [getD_take hi, offs_take (by omega), flat_take]
    have h3 := flat_take (rs.take k) i
    rw [List.map_take, offs_take (by omega), List.take_take, Nat.min_eq_left (by omega)] at h3
    rw [h3]

theorem first_flat {rs : List Nat} (hv : ∀ r ∈ rs, vr r) (n : Int) : firstL (flat rs) n = flat (rs.take n.toNat) := by
  unfold firstL
  rw [V_flat0 rs hv, flat_take]

theorem above_eq (l : List UInt8) (n : Int) : aboveL l n = refAboveL l n := by
  unfold aboveL refAboveL
  by_cases hc : clean l = true
  · rw [if_pos hc, if_pos hc]
    by_cases h1 : ((V l).length : Int) ≤ n
    · rw [if_pos h1, if_pos h1]
    · rw [if_neg h1, if_neg h1]
      have hl := clean_eq hc
      have hv := runes_vr l
      have hlen : (runes l).length = (V l).length := by simp [runes]
      generalize runes l = rs at *
      subst hl
      rw [first_flat hv, up_first hv (by omega)]
      by_cases h2 : n < 1
      · rw [if_pos h2]
        have : n.toNat = 0 := by omega
        rw [this]
        rfl
      · rw [if_neg h2]
  · rw [if_neg hc, if_neg hc]

theorem bl_strip (p a b : List UInt8) : bytesLess (p ++ a) (p ++ b) = bytesLess a b := by
  induction p with
  | nil => rfl
  | cons c p ih => simp [bytesLess, ih]

theorem bl_gt {a b : Nat} {x y : List UInt8} (ha : a < 256) (hb : b < 256) (h : b < a) : bytesLess (bt a :: x) (bt b :: y) = false := by
  have e1 := bt_toNat ha
  have e2 := bt_toNat hb
  have h1 : ¬ (bt a < bt b) := by rw [UInt8.lt_iff_toNat_lt]; omega
  have h2 : ¬ (bt a = bt b) := fun h => by rw [h] at e1; omega
  simp [bytesLess, h1, h2]

theorem bl_eq {a b : Nat} {x y : List UInt8} (h : a = b) : bytesLess (bt a :: x) (bt b :: y) = bytesLess x y := by
  subst h
  simp [bytesLess]

theorem next_behind {r : Nat} (hv : vr r) (hg : r ≠ 1114111) (y : List UInt8) : bytesLess (encL (nx r)) (encL r ++ y) = false := by
  unfold vr at hv
  have hn : (r = 55295 ∧ nx r = 57344) ∨ (r ≠ 55295 ∧ nx r = r + 1) := by unfold nx; split <;> omega
  generalize nx r = c at *
  unfold encL
  by_cases h1 : r < 128
  · rw [if_pos h1]
    by_cases h2 : c < 128
    · rw [if_pos h2]
      exact bl_gt (by omega) (by omega) (by omega)
    · rw [if_neg h2, if_pos (by omega)]
      exact bl_gt (by omega) (by omega) (by omega)
  · rw [if_neg h1, if_neg (by omega : ¬ c < 128)]
    by_cases h3 : r < 2048
    · rw [if_pos h3]
      by_cases h4 : c < 2048
      · rw [if_pos h4]
        by_cases h5 : r % 64 = 63
        · exact bl_gt (by omega) (by omega) (by omega)
        · rw [List.cons_append, bl_eq (by omega)]
          exact bl_gt (by omega) (by omega) (by omega)
      · rw [if_neg h4, if_pos (by omega)]
        exact bl_gt (by omega) (by omega) (by omega)
    · rw [if_neg h3, if_neg (by omega : ¬ c < 2048)]
      by_cases h4 : r < 65536
      · rw [if_pos h4]
        by_cases h5 : c < 65536
        · rw [if_pos h5]
          by_cases h6 : c / 4096 = r / 4096
          · rw [List.cons_append, bl_eq (by omega)]
            by_cases h7 : c / 64 % 64 = r / 64 % 64
            · rw [List.cons_append, bl_eq (by omega)]
              exact bl_gt (by omega) (by omega) (by omega)
            · exact bl_gt (by omega) (by omega) (by omega)
          · exact bl_gt (by omega) (by omega) (by omega)
        · rw [if_neg h5]
          exact bl_gt (by omega) (by omega) (by omega)
      · rw [if_neg h4, if_neg (by omega : ¬ c < 65536)]
        by_cases h6 : c / 262144 = r / 262144
        · rw [List.cons_append, bl_eq (by omega)]
          by_cases h7 : c / 4096 % 64 = r / 4096 % 64
          · rw [List.cons_append, bl_eq (by omega)]
            by_cases h8 : c / 64 % 64 = r / 64 % 64
            · rw [List.cons_append, bl_eq (by omega)]
              exact bl_gt (by omega) (by omega) (by omega)
            · exact bl_gt (by omega) (by omega) (by omega)
          · exact bl_gt (by omega) (by omega) (by omega)
        · exact bl_gt (by omega) (by omega) (by omega)

/-- What lies above, where there are more signs: not ahead of the text nor of any that begins as it does; no more signs. -/
theorem above_bound {l a : List UInt8} {n : Int} (h : aboveL l n = some a) (hn : ¬ ((V l).length : Int) ≤ n) (more : List UInt8) :
    bytesLess a l = false ∧ bytesLess a (firstL l n ++ more) = false ∧ ((V a).length : Int) ≤ n := by
  rw [above_eq] at h
  unfold refAboveL at h
  by_cases hc : clean l = true
  · rw [if_pos hc, if_neg hn] at h
    by_cases h2 : n < 1
    · rw [if_pos h2] at h; cases h
    · rw [if_neg h2] at h
      have hl := clean_eq hc
      have hv := runes_vr l
      have hlen : (runes l).length = (V l).length := by simp [runes]
      generalize runes l = rs at *
      subst hl
      have e1 := V_flat0 rs hv
      unfold upL at h
      rw [e1] at h hn hlen
      cases hg : lastG (rs.map eu) n.toNat with
      | none => rw [hg] at h; cases h
      | some i =>
        rw [hg] at h
        obtain ⟨hi, hne⟩ := lastG_lt hg
        simp only [Option.map_some, Option.some.injEq] at h
        rw [flat_take] at h
        have hil : i < rs.length := by omega
        have hgd : ((rs.map eu).getD i (0, 0)).1 = rs[i] := by
          rw [List.getD_eq_getElem?_getD, List.getElem?_map, List.getElem?_eq_getElem hil]; rfl
        rw [hgd] at h hne
        have hvi := hv rs[i] (List.getElem_mem hil)
        have hsplit : rs = rs.take i ++ rs[i] :: rs.drop (i + 1) := by
          rw [List.getElem_cons_drop, List.take_append_drop]
        have hsplit2 : rs.take n.toNat = rs.take i ++ rs[i] :: (rs.take n.toNat).drop (i + 1) := by
          have hin : i < (rs.take n.toNat).length := by simp; omega
          have := (List.take_append_drop i (rs.take n.toNat)).symm
          rw [List.take_take, Nat.min_eq_left (by omega), List.drop_eq_getElem_cons hin] at this
          simpa using this
        subst h
        refine ⟨?_, ?_, ?_⟩
        · conv => lhs; arg 2; rw [hsplit]
          rw [flat_append, flat_cons, bl_strip]
          exact next_behind hvi hne _
        · rw [first_flat hv, hsplit2, flat_append, flat_cons, List.append_assoc, List.append_assoc, bl_strip]
          exact next_behind hvi hne _
        · have hv2 : ∀ r ∈ rs.take i ++ [nx rs[i]], vr r := by
            intro r hr
            rw [List.mem_append] at hr
            rcases hr with hr | hr
            · exact hv r (List.mem_of_mem_take hr)
            · simp at hr
              rw [hr]
              exact nx_vr hvi hne
          have e3 := V_flat0 _ hv2
          rw [flat_append] at e3
          have : flat [nx rs[i]] = encL (nx rs[i]) := by simp
          rw [this] at e3
          rw [e3]
          simp
          omega
  · rw [if_neg hc] at h; cases h

theorem up_size {l a : List UInt8} {k : Nat} (h : upL l k = some a) : a.length ≤ l.length + 4 := by
  unfold upL at h
  cases hg : lastG (V l) k with
  | none => rw [hg] at h; cases h
  | some i =>
    rw [hg] at h
    simp only [Option.map_some, Option.some.injEq] at h
    subst h
    have := encL_pos (nx ((V l).getD i (0, 0)).1)
    simp only [List.length_append, List.length_take]
    omega

theorem above_size {l a : List UInt8} {n : Int} (h : aboveL l n = some a) : a.length ≤ l.length + 4 := by
  rw [above_eq] at h
  unfold refAboveL at h
  split at h
  · split at h
    · obtain rfl := Option.some.inj h; omega
    · split at h
      · cases h
      · exact up_size h
  · cases h
end Go.Proofs.Ytfcnoeehfhncjaa
