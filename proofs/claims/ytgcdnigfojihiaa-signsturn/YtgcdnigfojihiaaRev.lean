/- Contract: slices.Reverse over runes. -/
import Derived.Test.YtgcdnigfojihiaaBytes
set_option linter.unusedVariables false
set_option linter.unusedSimpArgs false
namespace Go.Proofs.Ytgcdnigfojihiaa
open Go.RowKit

def HalfTurned (xs ys : List Value) (k : Nat) : Prop := ys.length = xs.length ∧ ∀ t : Nat, t < xs.length → ys[t]? = if t < k ∨ xs.length - 1 < t + k then xs[xs.length - 1 - t]? else xs[t]?

theorem HalfTurned.zero (xs : List Value) : HalfTurned xs xs 0 := ⟨rfl, fun t ht => by rw [if_neg (by omega)]⟩

theorem HalfTurned.step {xs ys : List Value} {k j : Nat} {a b : Value} (h : HalfTurned xs ys k) (hj : j + k + 1 = xs.length) (hkj : k < j) (ha : ys[k]? = some a) (hb : ys[j]? = some b) : HalfTurned xs ((ys.set k b).set j a) (k + 1) := by
  obtain ⟨h1, h2⟩ := h
  refine ⟨by simpa using h1, fun t ht => ?_⟩
  rw [List.getElem?_set, List.getElem?_set]
  by_cases h3 : j = t
  · subst h3
    rw [if_pos rfl, if_pos (by simp; omega), if_pos (by omega)]
    have := h2 k (by omega)
    rw [if_neg (by omega), ha] at this
    rw [this]
    congr 1
    omega
  · rw [if_neg h3]
    by_cases h4 : k = t
    · subst h4
      rw [if_pos rfl, if_pos (by omega), if_pos (by omega)]
      have := h2 j (by omega)
      rw [if_neg (by omega), hb] at this
      rw [this]
      congr 1
      omega
    · rw [if_neg h4, h2 t ht]
      by_cases h5 : t < k ∨ xs.length - 1 < t + k
      · rw [if_pos h5, if_pos (by omega)]
      · rw [if_neg h5, if_neg (by omega)]

theorem HalfTurned.end {xs ys : List Value} {k : Nat} (h : HalfTurned xs ys k) (hk : xs.length ≤ k + k + 1) : ys = xs.reverse := by
  obtain ⟨h1, h2⟩ := h
  apply List.ext_getElem?
  intro t
  by_cases ht : t < xs.length
  · rw [h2 t ht, List.getElem?_reverse ht]
    split
    · rfl
    · congr 1; omega
  · rw [List.getElem?_eq_none (by omega), List.getElem?_eq_none (by simp; omega)]

def I32s (xs : List Value) : Prop := ∀ x ∈ xs, ∃ z : Int, x = .int .i32 z

theorem setCell_swap {w : World} {B g n cap e : Nat} {ys : List Value} {k j : Nat} {a b : Value} (h : w.ownsRow B e 1 (.slice (some ⟨g, 0, none⟩) n cap) n ys) (hk : k ≠ j) :
    ((w.setCell ⟨g, k, none⟩ b).setCell ⟨g, j, none⟩ a).ownsRow B e 1 (.slice (some ⟨g, 0, none⟩) n cap) n ((ys.set k b).set j a) ∧
    ((w.setCell ⟨g, j, none⟩ a).setCell ⟨g, k, none⟩ b).ownsRow B e 1 (.slice (some ⟨g, 0, none⟩) n cap) n ((ys.set k b).set j a) := by
  refine ⟨((h.stored k b).1.stored j a).1, ?_⟩
  have := ((h.stored j a).1.stored k b).1
  rwa [List.set_comm _ _ (Ne.symm hk)] at this

theorem below_set {B : Nat} {a w : World} (h : Below B a w) {g j : Nat} (hg : B ≤ g) (u : Value) : Below B a (w.setCell ⟨g, j, none⟩ u) := h.setCell hg u

set_option maxRecDepth 100000 in
set_option maxHeartbeats 1000000 in
theorem reverse_any (B g n cap : Nat) (xs : List Value) (hn : n ≤ 100000) (hx : I32s xs) (w : World) (hB : B ≤ g) (hown : w.ownsRow B 21 1 (.slice (some ⟨g, 0, none⟩) n cap) n xs) :
    Calls Try.prog 27 #[.slice (some ⟨g, 0, none⟩) n cap] w fun e w' => e = .returned (.tuple #[]) ∧ w'.ownsRow B 21 1 (.slice (some ⟨g, 0, none⟩) n cap) n xs.reverse ∧ Below B w w' := by
  have hl : xs.length = n := by have := hown.1; omega
  have HO := hidden hown
  have HX := hidden hx
  clear hown hx
  go_enter Try.func27, Try.ntmps27
  go_wp2_with fail
  go_loopw [2, 3] (fun a b wr => ∃ (k : Nat) (ys : List Value), a = .int .i64 k ∧ b = .int .i64 ((n : Int) - 1 - k) ∧ k ≤ n ∧ HalfTurned xs ys k ∧ I32s ys ∧ wr.ownsRow B 21 1 (.slice (some ⟨g, 0, none⟩) n cap) n ys ∧ Below B w wr) (fun a _ _ => n - (intOf a).toNat)
  case atStart => exact ⟨0, xs, rfl, by simp, by omega, HalfTurned.zero xs, HX.out, HO.out, Below.refl _ _⟩
  case round =>
    obtain ⟨k, ys, rfl, rfl, hk, hht, hi, how, hbel⟩ := hrel
    by_cases hlt : (k : Int) < (n : Int) - 1 - k
    · obtain ⟨j, hj⟩ : ∃ j : Nat, j + k + 1 = n := ⟨n - 1 - k, by omega⟩
      have hjz : ((n : Int) - 1 - k) = (j : Int) := by omega
      rw [hjz] at hlt ⊢
      have hyl : ys.length = n := hht.1.trans hl
      obtain ⟨za, hza⟩ := hi ys[k] (List.getElem_mem (by omega))
      obtain ⟨zb, hzb⟩ := hi ys[j] (List.getElem_mem (by omega))
      have ga : ys[k]? = some (.int .i32 za) := by rw [List.getElem?_eq_getElem (by omega), hza]
      have gb : ys[j]? = some (.int .i32 zb) := by rw [List.getElem?_eq_getElem (by omega), hzb]
      have ca := (how.cellAt k (by omega)).trans ga
      have cb := (how.cellAt j (by omega)).trans gb
      have fa := how.frozenAt k
      have fb := how.frozenAt j
      have HT := hidden (hht.step (by omega) (by omega) ga gb)
      have HI : Hid (I32s ((ys.set k (.int .i32 zb)).set j (.int .i32 za))) := fun x hx => by
        rcases List.mem_or_eq_of_mem_set hx with hx | rfl
        · rcases List.mem_or_eq_of_mem_set hx with hx | rfl
          · exact hi x hx
          · exact ⟨_, rfl⟩
        · exact ⟨_, rfl⟩
      have HS := hidden (setCell_swap (k := k) (j := j) (a := .int .i32 za) (b := .int .i32 zb) how (by omega))
      have HB := hidden hbel
      clear hza hzb ga gb hht hi how hbel hjz hyl
      go_wp2_with fail
      go_region
      all_goals
        go_wp2_with fail
        go_roundw
        case rel => exact ⟨k + 1, _, by go_num, by go_num, by omega, HT.out, HI.out, HS.out.1.drew, (below_set (below_set HB.out hB _) hB _).drew⟩
        case measure => simp [intOf]; omega
    · go_wp2_with fail
      go_end0
      have := hht.end (by omega)
      subst this
      exact ⟨rfl, how, hbel⟩

theorem reverse_nil (w : World) : Calls Try.prog 27 #[.slice none 0 0] w fun e w' => e = .returned (.tuple #[]) ∧ w' = w := by
  go_enter Try.func27, Try.ntmps27
  go_wp2_with fail
  go_loopw [2, 3] (fun a b wr => a = .int .i64 0 ∧ b = .int .i64 (-1) ∧ wr = w) (fun _ _ _ => 0)
  case atStart => exact ⟨rfl, rfl, rfl⟩
  case round =>
    obtain ⟨rfl, rfl, rfl⟩ := hrel
    go_wp2_with fail
    go_end0
    exact ⟨rfl, rfl⟩
end Go.Proofs.Ytgcdnigfojihiaa
