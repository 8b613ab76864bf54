/- The bytes of the next sign are behind those of a sign; so what lies above is not ahead. No program here. -/
import Derived.Test.YtgcdnigfojihiaaAbovePure
set_option linter.unusedVariables false
set_option linter.unusedSimpArgs false
namespace Go.Proofs.Ytgcdnigfojihiaa
open Go.Op (bytesLess)

theorem bl_strip (p a b : List UInt8) : bytesLess (p ++ a) (p ++ b) = bytesLess a b := by
  induction p with
  | nil => rfl
  | cons c p ih => simp [bytesLess, ih]

theorem bl_gt {a b : Nat} {x y : List UInt8} (ha : a < 256) (hb : b < 256) (h : b < a) : bytesLess (bt a :: x) (bt b :: y) = false := by
  have e1 := bt_toNat ha
  have e2 := bt_toNat hb
  have h1 : ¬ (bt a < bt b) := by rw [UInt8.lt_iff_toNat_lt]; omega
  have h2 : ¬ (bt a = bt b) := fun h => by rw [h] at e1; omega
  simp [bytesLess, h1, h2]

theorem bl_eq {a b : Nat} {x y : List UInt8} (h : a = b) : bytesLess (bt a :: x) (bt b :: y) = bytesLess x y := by
  subst h
  simp [bytesLess]

theorem next_behind {r : Nat} (hv : vr r) (hg : r ≠ 1114111) (y : List UInt8) : bytesLess (encL (nx r)) (encL r ++ y) = false := by
  unfold vr at hv
  have hn : (r = 55295 ∧ nx r = 57344) ∨ (r ≠ 55295 ∧ nx r = r + 1) := by unfold nx; split <;> omega
  generalize nx r = c at *
  unfold encL
  by_cases h1 : r < 128
  · rw [if_pos h1]
    by_cases h2 : c < 128
    · rw [if_pos h2]
      exact bl_gt (by omega) (by omega) (by omega)
    · rw [if_neg h2, if_pos (by omega)]
      exact bl_gt (by omega) (by omega) (by omega)
  · rw [if_neg h1, if_neg (by omega : ¬ c < 128)]
    by_cases h3 : r < 2048
    · rw [if_pos h3]
      by_cases h4 : c < 2048
      · rw [if_pos h4]
        by_cases h5 : r % 64 = 63
        · exact bl_gt (by omega) (by omega) (by omega)
        · rw [List.cons_append, bl_eq (by omega)]
          exact bl_gt (by omega) (by omega) (by omega)
      · rw [if_neg h4, if_pos (by omega)]
        exact bl_gt (by omega) (by omega) (by omega)
    · rw [if_neg h3, if_neg (by omega : ¬ c < 2048)]
      by_cases h4 : r < 65536
      · rw [if_pos h4]
        by_cases h5 : c < 65536
        · rw [if_pos h5]
          by_cases h6 : c / 4096 = r / 4096
          · rw [List.cons_append, bl_eq (by omega)]
            by_cases h7 : c / 64 % 64 = r / 64 % 64
            · rw [List.cons_append, bl_eq (by omega)]
              exact bl_gt (by omega) (by omega) (by omega)
            · exact bl_gt (by omega) (by omega) (by omega)
          · exact bl_gt (by omega) (by omega) (by omega)
        · rw [if_neg h5]
          exact bl_gt (by omega) (by omega) (by omega)
      · rw [if_neg h4, if_neg (by omega : ¬ c < 65536)]
        by_cases h6 : c / 262144 = r / 262144
        · rw [List.cons_append, bl_eq (by omega)]
          by_cases h7 : c / 4096 % 64 = r / 4096 % 64
          · rw [List.cons_append, bl_eq (by omega)]
            by_cases h8 : c / 64 % 64 = r / 64 % 64
            · rw [List.cons_append, bl_eq (by omega)]
              exact bl_gt (by omega) (by omega) (by omega)
            · exact bl_gt (by omega) (by omega) (by omega)
          · exact bl_gt (by omega) (by omega) (by omega)
        · exact bl_gt (by omega) (by omega) (by omega)

/-- What lies above, where there are more signs: not ahead of the text nor of any that begins as it does; no more signs. -/
theorem above_bound {l a : List UInt8} {n : Int} (h : aboveL l n = some a) (hn : ¬ ((V l).length : Int) ≤ n) (more : List UInt8) :
    bytesLess a l = false ∧ bytesLess a (firstL l n ++ more) = false ∧ ((V a).length : Int) ≤ n := by
  rw [above_eq] at h
  unfold refAboveL at h
  by_cases hc : clean l = true
  · rw [if_pos hc, if_neg hn] at h
    by_cases h2 : n < 1
    · rw [if_pos h2] at h; cases h
    · rw [if_neg h2] at h
      have hl := clean_eq hc
      have hv := runes_vr l
      have hlen : (runes l).length = (V l).length := by simp [runes]
      generalize runes l = rs at *
      subst hl
      have e1 := V_flat0 rs hv
      unfold upL at h
      rw [e1] at h hn hlen
      cases hg : lastG (rs.map eu) n.toNat with
      | none => rw [hg] at h; cases h
      | some i =>
        rw [hg] at h
        obtain ⟨hi, hne⟩ := lastG_lt hg
        simp only [Option.map_some, Option.some.injEq] at h
        rw [flat_take] at h
        have hil : i < rs.length := by omega
        have hgd : ((rs.map eu).getD i (0, 0)).1 = rs[i] := by
          rw [List.getD_eq_getElem?_getD, List.getElem?_map, List.getElem?_eq_getElem hil]; rfl
        rw [hgd] at h hne
        have hvi := hv rs[i] (List.getElem_mem hil)
        have hsplit : rs = rs.take i ++ rs[i] :: rs.drop (i + 1) := by
          rw [List.getElem_cons_drop, List.take_append_drop]
        have hsplit2 : rs.take n.toNat = rs.take i ++ rs[i] :: (rs.take n.toNat).drop (i + 1) := by
          have hin : i < (rs.take n.toNat).length := by simp; omega
          have := (List.take_append_drop i (rs.take n.toNat)).symm
          rw [List.take_take, Nat.min_eq_left (by omega), List.drop_eq_getElem_cons hin] at this
          simpa using this
        subst h
        refine ⟨?_, ?_, ?_⟩
        · conv => lhs; arg 2; rw [hsplit]
          rw [flat_append, flat_cons, bl_strip]
          exact next_behind hvi hne _
        · rw [first_flat hv, hsplit2, flat_append, flat_cons, List.append_assoc, List.append_assoc, bl_strip]
          exact next_behind hvi hne _
        · have hv2 : ∀ r ∈ rs.take i ++ [nx rs[i]], vr r := by
            intro r hr
            rw [List.mem_append] at hr
            rcases hr with hr | hr
            · exact hv r (List.mem_of_mem_take hr)
            · simp at hr
              rw [hr]
              exact nx_vr hvi hne
          have e3 := V_flat0 _ hv2
          rw [flat_append] at e3
          have : flat [nx rs[i]] = encL (nx rs[i]) := by simp
          rw [this] at e3
          rw [e3]
          simp
          omega
  · rw [if_neg hc] at h; cases h

theorem up_size {l a : List UInt8} {k : Nat} (h : upL l k = some a) : a.length ≤ l.length + 4 := by
  unfold upL at h
  cases hg : lastG (V l) k with
  | none => rw [hg] at h; cases h
  | some i =>
    rw [hg] at h
    simp only [Option.map_some, Option.some.injEq] at h
    subst h
    have := encL_pos (nx ((V l).getD i (0, 0)).1)
    simp only [List.length_append, List.length_take]
    omega

theorem above_size {l a : List UInt8} {n : Int} (h : aboveL l n = some a) : a.length ≤ l.length + 4 := by
  rw [above_eq] at h
  unfold refAboveL at h
  split at h
  · split at h
    · obtain rfl := Option.some.inj h; omega
    · split at h
      · cases h
      · exact up_size h
  · cases h
end Go.Proofs.Ytgcdnigfojihiaa
