/- What lies above all that begin so: the program's way and the document's come to one. No program here. -/
import Derived.Test.YtgcdnigfojihiaaRefAbove
set_option linter.unusedVariables false
set_option linter.unusedSimpArgs false
namespace Go.Proofs.Ytgcdnigfojihiaa

theorem flat_take (rs : List Nat) : ∀ k, (flat rs).take (offs (rs.map eu) k) = flat (rs.take k) := by
  induction rs with
  | nil => intro k; simp
  | cons c rs ih =>
    intro k
    cases k with
    | zero => simp
    | succ k =>
      have : offs ((c :: rs).map eu) (k + 1) = (encL c).length + offs (rs.map eu) k := by
        simp [offs, eu]
      rw [this, flat_cons, List.take_succ_cons, flat_cons, ← ih k, List.take_length_add_append]

theorem getD_take {u : List (Nat × Nat)} {j k : Nat} (h : j < k) : (u.take k).getD j (0, 0) = u.getD j (0, 0) := by
  simp [List.getD_eq_getElem?_getD, List.getElem?_take, h]

theorem lastG_take (u : List (Nat × Nat)) (k : Nat) : ∀ j, j ≤ k → lastG (u.take k) j = lastG u j := by
  intro j
  induction j with
  | zero => intro _; rfl
  | succ j ih =>
    intro h
    simp only [lastG]
    rw [getD_take (by omega), ih (by omega)]

theorem offs_take {u : List (Nat × Nat)} {i k : Nat} (h : i ≤ k) : offs (u.take k) i = offs u i := by
  unfold offs
  rw [List.take_take, Nat.min_eq_left h]

theorem up_first {rs : List Nat} (hv : ∀ r ∈ rs, vr r) {k : Nat} (hk : k ≤ rs.length) : raisedL (flat (rs.take k)) = upL (flat rs) k := by
  have hv2 : ∀ r ∈ rs.take k, vr r := fun r hr => hv r (List.mem_of_mem_take hr)
  have e1 := V_flat0 rs hv
  have e2 := V_flat0 (rs.take k) hv2
  have hl : ((rs.take k).map eu).length = k := by simp; omega
  unfold raisedL upL
  rw [e1, e2, hl, List.map_take, lastG_take _ _ _ (Nat.le_refl _)]
  cases hg : lastG (rs.map eu) k with
  | none => rfl
  | some i =>
    have hi := (lastG_lt hg).1
    simp only [Option.map_some]
    rw [getD_take hi, offs_take (by omega), flat_take]
    have h3 := flat_take (rs.take k) i
    rw [List.map_take, offs_take (by omega), List.take_take, Nat.min_eq_left (by omega)] at h3
    rw [h3]

theorem first_flat {rs : List Nat} (hv : ∀ r ∈ rs, vr r) (n : Int) : firstL (flat rs) n = flat (rs.take n.toNat) := by
  unfold firstL
  rw [V_flat0 rs hv, flat_take]

theorem above_eq (l : List UInt8) (n : Int) : aboveL l n = refAboveL l n := by
  unfold aboveL refAboveL
  by_cases hc : clean l = true
  · rw [if_pos hc, if_pos hc]
    by_cases h1 : ((V l).length : Int) ≤ n
    · rw [if_pos h1, if_pos h1]
    · rw [if_neg h1, if_neg h1]
      have hl := clean_eq hc
      have hv := runes_vr l
      have hlen : (runes l).length = (V l).length := by simp [runes]
      generalize runes l = rs at *
      subst hl
      rw [first_flat hv, up_first hv (by omega)]
      by_cases h2 : n < 1
      · rw [if_pos h2]
        have : n.toNat = 0 := by omega
        rw [this]
        rfl
      · rw [if_neg h2]
  · rw [if_neg hc, if_neg hc]
end Go.Proofs.Ytgcdnigfojihiaa
