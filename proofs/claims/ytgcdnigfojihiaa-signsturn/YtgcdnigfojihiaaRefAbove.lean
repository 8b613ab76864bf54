/- Contract: the document's Above. -/
import Derived.Test.YtgcdnigfojihiaaBytes
import Derived.Deep.RegionHeld3
set_option linter.unusedVariables false
set_option linter.unusedSimpArgs false
namespace Go.Proofs.Ytgcdnigfojihiaa
open Go.RowKit

theorem conv_own {w : World} {B n : Nat} {v : Value} {l : List UInt8} (h : w.ownsRow B 5 1 v n (byteVals l)) (hn : 0 < l.length) : (convert 38 9 v).run Try.prog w = .ok (.string ⟨l.toArray⟩) w := by
  have hl : l.length = n := by have := h.1; simpa [byteVals] using this
  obtain ⟨g, cap, rfl, _, _, hc⟩ := (own_form h).2 (by omega)
  rw [← hl]
  refine run_convert_bytes_back w 38 9 5 ⟨g, 0, none⟩ cap l Try.underlying38 Try.underlying5 Try.underlying9 fun j hj => ?_
  have hadd : (⟨g, 0, none⟩ : Addr).add j = ⟨g, j, none⟩ := by unfold Addr.add; split <;> simp_all
  rw [hadd]
  exact hc j _ (by simp [byteVals, hj])

def refAboveL (l : List UInt8) (n : Int) : Option (List UInt8) :=
  if clean l = true then (if ((V l).length : Int) ≤ n then some l else if n < 1 then none else upL l n.toNat) else none

theorem nx_code (r : Nat) : (r + 1 = 55296 → nx r = 57344) ∧ (r + 1 ≠ 55296 → nx r = r + 1) := by
  unfold nx
  constructor
  · intro h; rw [if_pos (by omega)]
  · intro h; rw [if_neg (by omega)]

theorem keep1 {W w' : World} {g i : Nat} {x : Value} (h : W.cell? ⟨g, i, none⟩ = some x ∧ g < W.heap.size) (hb : Below W.heap.size W w') : w'.cell? ⟨g, i, none⟩ = some x ∧ g < w'.heap.size :=
  ⟨(hb.cell (p := ⟨g, i, none⟩) h.2).trans h.1, Nat.lt_of_lt_of_le h.2 hb.size⟩

set_option maxRecDepth 100000 in
set_option maxHeartbeats 2000000 in
theorem refAbove_any (s : ByteArray) (n : Int) (hs : s.size ≤ 100000) (w : World) :
    Calls Try.prog 16 #[.string s, .int .i64 n] w fun e w' => Tells e (refAboveL (lb s) n) ∧ Below w.heap.size w w' := by
  have hL := lb_size s
  have hV := V_le (lb s)
  have HX : Hid (refAboveL (lb s) n = if clean (lb s) = true then (if ((V (lb s)).length : Int) ≤ n then some (lb s) else if n < 1 then none else upL (lb s) n.toNat) else none) := rfl
  have HEx := hidden (lb_extract s)
  have HAp := hidden lb_append
  go_enter Try.func16, Try.ntmps16
  go_wp2_with fail
  refine (signs_any s hs _).mono ?_
  rintro e w1 ⟨⟨a, b, rfl, ha, hb⟩, hbel⟩
  have HB := hidden hbel
  have hz := hbel.size
  clear hbel
  obtain ⟨⟨ad, cap, rfl, _⟩, hca⟩ := own_form ha
  obtain ⟨⟨ad2, cap2, rfl, _⟩, hcb⟩ := own_form hb
  clear ha hb
  have HCA := hidden hca
  have HCB := hidden hcb
  clear hca hcb
  generalize hcl : clean (lb s) = cl at *
  cases cl with
  | false =>
    go_wp2_with fail
    go_ret2
    rw [HX.out]
    exact ⟨⟨_, _, rfl, rfl, rfl⟩, HB.out⟩
  | true =>
    by_cases h1 : ((V (lb s)).length : Int) ≤ n
    · rw [if_pos h1] at HX
      go_wp2_with fail
      go_ret2
      rw [HX.out]
      exact ⟨⟨_, _, rfl, rfl, rfl⟩, HB.out⟩
    · rw [if_neg h1] at HX
      by_cases h2 : n < 1
      · rw [if_pos h2] at HX
        go_wp2_with fail
        go_ret2
        rw [HX.out]
        exact ⟨⟨_, _, rfl, rfl, rfl⟩, HB.out⟩
      · rw [if_neg h2] at HX
        simp only [if_true] at HX
        clear hcl
        obtain ⟨m, rfl⟩ : ∃ m : Nat, n = (m : Int) := ⟨n.toNat, by omega⟩
        rw [Int.toNat_natCast] at HX
        obtain ⟨ga, ca, hsa, hga, _, hca⟩ := HCA.out (by omega)
        obtain ⟨gb, cb, hsb, hgb, _, hcb⟩ := HCB.out (by omega)
        simp only [Value.slice.injEq] at hsa hsb
        obtain ⟨rfl, _, rfl⟩ := hsa
        obtain ⟨rfl, _, rfl⟩ := hsb
        clear HCA HCB
        have HCA := hidden hca
        have HCB := hidden hcb
        clear hca hcb
        go_wp2_with fail
        go_loopw [9] (fun i w' => w' = w1 ∧ ∃ k : Nat, k ≤ m ∧ i = .int .i64 ((k : Int) - 1) ∧ lastG (V (lb s)) k = lastG (V (lb s)) m) (fun i _ => (intOf i + 1).toNat)
        case atStart => exact ⟨rfl, m, Nat.le_refl _, rfl, rfl⟩
        case round =>
          obtain ⟨rfl, k, hk, rfl, hlast⟩ := hrel
          have HL := hidden hlast
          clear hlast
          cases k with
          | zero =>
            go_wp2_with fail
            go_ret2
            rw [HX.out, upL, ← HL.out]
            exact ⟨⟨_, _, rfl, rfl, rfl⟩, HB.out⟩
          | succ i =>
            have hkl : i < (V (lb s)).length := by omega
            have e1 : (((i + 1 : Nat) : Int) - 1) = (i : Int) := by omega
            rw [e1]
            have hc1 := HCA.out i _ (sgn_get hkl)
            have hc2 := HCB.out i _ (ats_get hkl)
            have hvr := (V_vr _ (lb s) (Nat.le_refl _) _ (List.getElem_mem hkl)).1
            have hgd : (V (lb s)).getD i (0, 0) = (V (lb s))[i] := by rw [List.getD_eq_getElem?_getD, List.getElem?_eq_getElem hkl]; rfl
            have hol := (offs_le (l := lb s) i (by omega)).1
            have HGD := hidden hgd
            clear hgd e1
            generalize hr : (V (lb s))[i] = u at *
            obtain ⟨r, wd⟩ := u
            clear hr
            simp only at *
            have hr : r ≤ 1114111 := by unfold vr at hvr; omega
            have HVR := hidden hvr
            clear hvr
            by_cases hlt : (r : Int) < 1114111
            · have HR : Hid (lastG (V (lb s)) m = some i) := by
                show lastG (V (lb s)) m = some i
                rw [← HL.out, lastG, HGD.out, if_neg (by simp only; omega)]
              have hnv := nx_vr HVR.out (by omega)
              have hnle : nx r ≤ 1114111 := by unfold vr at hnv; omega
              have HBY := hidden (bytes_any (nx r) hnle)
              obtain ⟨n1, n2⟩ := nx_code r
              generalize ho : offs (V (lb s)) i = o at *
              have HO : Hid (offs (V (lb s)) i = o) := ho
              clear ho
              generalize hnx : nx r = c at *
              have HNX : Hid (nx r = c) := hnx
              clear hnx
              obtain ⟨E, hE⟩ : ∃ E : ByteArray, E = ⟨(encL c).toArray⟩ := ⟨_, rfl⟩
              have hEl : lb E = encL c := by rw [hE]; simp [lb]
              have hEs : E.size ≤ 4 := by rw [← lb_size, hEl]; exact (encL_pos c).2
              have hXs : (s.extract 0 o).size ≤ 100000 := by rw [← lb_size, HEx.out]; simp; omega
              have hadd : ∀ w, (Op.stringOp .add (s.extract 0 o) E).run Try.prog w = .ok (.string (s.extract 0 o ++ E)) w := fun w => run_string_add_sum w _ _ (by omega)
              have HEL := hidden hEl
              have HEQ := hidden hE
              have HCV : Hid (∀ (w2 : World) (B : Nat) (v : Value), w2.ownsRow B 5 1 v (encL c).length (byteVals (encL c)) → (convert 38 9 v).run Try.prog w2 = .ok (.string E) w2) := fun w2 B v h => by
                rw [hE]; exact conv_own h (encL_pos c).1
              have HEND : Hid (Tells (.returned (.tuple #[.string (s.extract 0 o ++ E), .bool true])) (refAboveL (lb s) (m : Int))) := by
                refine ⟨_, _, rfl, ?_, ?_⟩
                · rw [HX.out, upL, HR.out]; rfl
                · rw [HX.out, upL, HR.out, HAp.out, HEx.out, hEl, Option.map_some, HO.out, HGD.out, HNX.out]
                  simp
              clear hE hEl
              have hI1 : (0 : Int) ≤ (o : Int) := by omega
              have hI2 : (o : Int) ≤ (s.size : Int) := by omega
              by_cases h55 : r + 1 = 55296
              · obtain rfl := n1 h55
                obtain rfl : r = 55295 := by omega
                clear n1 n2
                go_wp2_with fail
                go_region_with (first | (go_at_call 24; refine (HBY.out _).mono ?_; rintro e w2 ⟨⟨v, rfl, hown⟩, hb2⟩; have hcv := HCV.out _ _ _ hown; have hk2 := (hb2.cell (p := ⟨gb, i, none⟩) hgb).trans hc2; clear hown))
                all_goals
                  go_wp2_with fail
                  go_ret2
                  refine ⟨HEND.out, ?_⟩
                  exact HB.out.drew.trans (hb2.mono hz)
              · obtain rfl := n2 h55
                have h55b : ((r : Int) + 1 == 55296) = false := by simp; omega
                have hcast : ((r + 1 : Nat) : Int) = (r : Int) + 1 := by omega
                rw [hcast] at HBY
                clear hcast
                clear n1 n2
                go_wp2_with fail
                go_region_with (first | (go_at_call 24; refine (HBY.out _).mono ?_; rintro e w2 ⟨⟨v, rfl, hown⟩, hb2⟩; have hcv := HCV.out _ _ _ hown; have hk2 := (hb2.cell (p := ⟨gb, i, none⟩) hgb).trans hc2; clear hown))
                all_goals
                  go_wp2_with fail
                  go_ret2
                  refine ⟨HEND.out, ?_⟩
                  exact HB.out.drew.trans (hb2.mono hz)
            · go_wp2_with fail
              go_roundw
              case rel =>
                refine ⟨trivial, i, by omega, by go_num, ?_⟩
                rw [← HL.out, lastG, HGD.out, if_pos (by simp only; omega)]
              case measure => simp [intOf]
end Go.Proofs.Ytgcdnigfojihiaa
