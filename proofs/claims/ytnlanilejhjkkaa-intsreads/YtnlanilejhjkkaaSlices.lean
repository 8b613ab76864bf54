/- Contracts: slices.Clone, Sort, Compact, BinarySearch, Min over whole numbers, in words of rows. -/
import Derived.Test.YtnlanilejhjkkaaShelf
import Derived.Test.YtnlanilejhjkkaaEach
import Derived.Lib.OwnBridge
set_option linter.unusedVariables false
set_option linter.unusedSimpArgs false
namespace Go.Proofs.Ytnlanilejhjkkaa
open Go.RowKit Go.Lib Go.Shelf

theorem Sv.cells {W : World} {b off n cap : Nat} {l : List Int} (h : Sv W (.slice (some ⟨b, off, none⟩) n cap) (ivals l)) : ∀ j, j < l.length → W.cell? ⟨b, off + j, none⟩ = some (.int .i64 (l.getD j 0)) := by
  intro j hj
  obtain ⟨b', off', h1, _, h2⟩ := h.at hj
  cases h1
  rw [h2]
  simp [List.getD_eq_getElem?_getD, hj]

theorem clone_any {w : World} {v : Value} {l : List Int} (hs : Sv w v (ivals l)) (hl : l.length ≤ 256) :
    Calls Try.prog 46 #[v] w fun e w' => (∃ v', e = .returned v' ∧ OwnI w' w.heap.size v' l) ∧ Below w.heap.size w w' := by
  have hs0 := hs
  obtain ⟨a, cap, rfl, h1, h2, h3, h4⟩ := hs
  rw [ivals_length] at *
  cases a with
  | none =>
    have hc := h3 rfl
    have hl0 : l = [] := List.eq_nil_of_length_eq_zero (by omega)
    subst hl0
    refine Calls.mono (AnyG.slices_Clone_int_nil laysSlN41_f46 _ _ w) ?_
    rintro e w' ⟨rfl, rfl⟩
    exact ⟨⟨_, rfl, OwnI.nil _ _⟩, Below.refl _ _⟩
  | some a =>
    rcases Nat.eq_zero_or_pos l.length with h0 | h0
    · have hl0 : l = [] := List.eq_nil_of_length_eq_zero h0
      subst hl0
      refine Calls.mono (AnyG.slices_Clone_int_zero laysSlN41_f46 a cap w) ?_
      rintro e w' ⟨v', rfl, ho, _, hb⟩
      exact ⟨⟨_, rfl, ho⟩, hb⟩
    · obtain ⟨b, off, h5, h6, h7⟩ := h4 h0
      cases h5
      refine Calls.mono (AnyG.slices_Clone_int laysSlN41_f46 b off l.length cap l w (Nat.le_refl _) (by omega) hs0.cells) ?_
      rintro e w' ⟨v', rfl, ho, _, hb⟩
      rw [List.take_length] at ho
      exact ⟨⟨_, rfl, ho⟩, hb⟩

/-- Rising, each as often as it is there. -/
def srt (l : List Int) : List Int := l.mergeSort fun x y => decide (x ≤ y)
theorem srt_length (l : List Int) : (srt l).length = l.length := List.length_mergeSort l

theorem below_grow {B : Nat} {w : World} (os : Array Obj) (hB : B ≤ w.heap.size) : Below B w (Sort.grow w os) :=
  ⟨rfl, rfl, rfl, by simp, fun k hk => Sort.heap_grow_old _ _ (by omega)⟩

theorem sort_own {w : World} {B : Nat} {v : Value} {l : List Int} (h : OwnI w B v l) (hl : l.length ≤ 256) (hB : B ≤ w.heap.size) :
    Calls Try.prog 47 #[v] w fun e w' => e = .returned (.tuple #[]) ∧ OwnI w' B v (srt l) ∧ Below B w w' := by
  by_cases hv : v = .slice none 0 0
  · subst hv
    have hl0 : l = [] := by
      have h1 := h.1
      rcases h.2 with ⟨_, h2⟩ | ⟨g, cap, cur, h2, _⟩
      · exact List.eq_nil_of_length_eq_zero h2
      · cases h2
    subst hl0
    refine Calls.mono (AnyM.slices_Sort_int_none laysSlM5_f47 none 0 w) ?_
    rintro e w' ⟨rfl, rfl⟩
    exact ⟨rfl, (by unfold srt; rw [List.mergeSort_nil]; exact h), Below.refl _ _⟩
  · obtain ⟨g, cap, rfl, hb, hg, hc, hm, hlen, hH⟩ := holds_of_ownsRow (enc := Value.int .i64) h hv
    refine Calls.mono (AnyM.slices_Sort_int laysSlM5_f47 g 0 cap l w hH hg (by omega)) ?_
    rintro e w' ⟨rfl, n, os, rfl⟩
    have h1 := ownsRow_putRow (enc := Value.int .i64) (q := n) (k := l.length) (ys := srt l) h (srt_length l) (Nat.le_refl _)
    have hb1 := below_putRow (enc := Value.int .i64) (q := n) (d := (srt l).toArray) (Below.refl B w) hb
    refine ⟨rfl, ?_, hb1.trans (below_grow os (by have := hb1.size; omega))⟩
    unfold OwnI
    rw [srt_length]
    rw [List.take_of_length_le (by rw [srt_length]; omega)] at h1
    exact own_kept h1 (below_grow os (Nat.le_refl _))

theorem compact_own {w : World} {B : Nat} {v : Value} {l : List Int} (h : OwnI w B v l) (hl : l.length ≤ 256) (hB : B ≤ w.heap.size) :
    Calls Try.prog 48 #[v] w fun e w' => (∃ v', e = .returned v' ∧ OwnI w' B v' (Lib.compact l)) ∧ Below B w w' := by
  by_cases hv : v = .slice none 0 0
  · subst hv
    have hl0 : l = [] := by
      have h1 := h.1
      rcases h.2 with ⟨_, h2⟩ | ⟨g, cap, cur, h2, _⟩
      · exact List.eq_nil_of_length_eq_zero h2
      · cases h2
    subst hl0
    refine Calls.mono (AnyG.slices_Compact_int_empty laysSlN43_f48 none 0 w) ?_
    rintro e w' ⟨rfl, rfl⟩
    exact ⟨⟨_, rfl, h⟩, Below.refl _ _⟩
  · obtain ⟨g, cap, rfl, hb, hg, hc, hm, hlen, hH⟩ := holds_of_ownsRow (enc := Value.int .i64) h hv
    have hle := Lib.compact_length_le l
    refine Calls.mono (AnyG.slices_Compact_int laysSlN43_f48 g 0 cap l w hH (by omega) (by omega)) ?_
    rintro e w' ⟨rfl, q, rfl⟩
    have h1 := ownsRow_putRow (enc := Value.int .i64) (q := q) (k := (Lib.compact l).length) (ys := Lib.compact l ++ List.replicate (l.length - (Lib.compact l).length) 0) h (by simp; omega) (by omega)
    rw [List.take_left] at h1
    exact ⟨⟨_, rfl, h1⟩, below_putRow (enc := Value.int .i64) (Below.refl B w) hb⟩

/-- Of rising numbers the place of one, if it is among them. -/
theorem search_any {w : World} {v : Value} {u : List Int} (hs : Sv w v (ivals u)) (hu : 0 < u.length) (hl : u.length ≤ 256) (hr : Rising u) (x : Int) :
    Calls Try.prog 66 #[v, .int .i64 x] w fun e w' => (∃ r, e = .returned (.tuple #[.int .i64 (u.countP (· < x) : Nat), r])) ∧ Below w.heap.size w w' := by
  have hs0 := hs
  obtain ⟨a, cap, rfl, h1, h2, h3, h4⟩ := hs
  rw [ivals_length] at *
  obtain ⟨b, off, rfl, h6, h7⟩ := h4 hu
  refine Calls.mono (AnyG.slices_BinarySearch_int laysSlN49_f66 b off u.length cap u x w (Nat.le_refl _) (by omega) hs0.cells (by rw [List.take_length]; exact hr.imp Int.le_of_lt)) ?_
  rintro e w' ⟨rfl, q, rfl⟩
  rw [List.take_length]
  exact ⟨⟨_, rfl⟩, below_drewN (Below.refl _ _) q⟩

theorem min_any {w : World} {v : Value} {l : List Int} (hs : Sv w v (ivals l)) (hp : 0 < l.length) (hl : l.length ≤ 256) :
    Calls Try.prog 53 #[v] w fun e w' => e = .returned (.int .i64 (Lib.minOf l)) ∧ w' = w := by
  have hs0 := hs
  obtain ⟨a, cap, rfl, h1, h2, h3, h4⟩ := hs
  rw [ivals_length] at *
  obtain ⟨b, off, rfl, h6, h7⟩ := h4 hp
  have := AnyG.slices_Min_int laysSlN39_f53 b off l.length cap l w hp (Nat.le_refl _) (by omega) hs0.cells
  rw [List.take_length] at this
  exact this

/-- Sorted and compacted are the unlike numbers, rising. -/
theorem countP_pl {x : Int} : ∀ {u : List Int}, Rising u → x ∈ u → u.countP (· < x) = pl u x
  | y :: t, hr, hx => by
    have h1 : (∀ z ∈ t, y < z) ∧ Rising t := List.pairwise_cons.1 hr
    unfold pl
    split
    · next e =>
      subst e
      rw [List.countP_eq_zero]
      intro z hz
      rcases List.mem_cons.1 hz with rfl | hz
      · simp
      · have := h1.1 z hz
        simp; omega
    · next hne =>
      have ht : x ∈ t := by
        rcases List.mem_cons.1 hx with rfl | h
        · exact absurd rfl hne
        · exact h
      have hlt := h1.1 x ht
      rw [List.countP_cons_of_pos (by simpa using hlt), countP_pl h1.2 ht]

theorem rising_ext : ∀ {a b : List Int}, Rising a → Rising b → (∀ z, z ∈ a ↔ z ∈ b) → a = b
  | [], [], _, _, _ => rfl
  | [], y :: t, _, _, h => by have := (h y).2 (by simp); simp at this
  | x :: s, [], _, _, h => by have := (h x).1 (by simp); simp at this
  | x :: s, y :: t, ha, hb, h => by
    have h1 : (∀ z ∈ s, x < z) ∧ Rising s := List.pairwise_cons.1 ha
    have h2 : (∀ z ∈ t, y < z) ∧ Rising t := List.pairwise_cons.1 hb
    have hxy : x = y := by
      rcases List.mem_cons.1 ((h x).1 (by simp)) with e | e
      · exact e
      · rcases List.mem_cons.1 ((h y).2 (by simp)) with e' | e'
        · exact e'.symm
        · have := h1.1 y e'
          have := h2.1 x e
          omega
    subst hxy
    congr 1
    refine rising_ext h1.2 h2.2 (fun z => ?_)
    have h3 := h z
    constructor
    · intro hz
      rcases List.mem_cons.1 (h3.1 (by simp [hz])) with rfl | e
      · have := h1.1 z hz; omega
      · exact e
    · intro hz
      rcases List.mem_cons.1 (h3.2 (by simp [hz])) with rfl | e
      · have := h2.1 z hz; omega
      · exact e

theorem mem_compactUpTo {l : List Int} : ∀ m, m ≤ l.length → ∀ z, z ∈ compactUpTo l.toArray m ↔ z ∈ l.take m
  | 0, _, z => by simp [compactUpTo]
  | m + 1, hm, z => by
    have ih := mem_compactUpTo (l := l) m (by omega)
    have hg : l.toArray[m]! = l[m] := by simp [show m < l.length by omega]
    rw [compactUpTo_succ, List.mem_append, ih z, List.take_succ_eq_append_getElem (by omega), List.mem_append, hg]
    by_cases hk : keeps l.toArray m = true
    · rw [if_pos hk]
    · rw [if_neg hk]
      constructor
      · rintro (h | h)
        · exact Or.inl h
        · simp at h
      · rintro (h | h)
        · exact Or.inl h
        · left
          have h' : z = l[m] := by simpa using h
          unfold keeps at hk
          simp only [decide_eq_true_eq] at hk
          have hg1 : l.toArray[m - 1]! = l[m - 1] := by simp [show m - 1 < l.length by omega]
          rw [hg, hg1] at hk
          have hm0 : m ≠ 0 := fun e => hk (Or.inl e)
          have he : l[m] = l[m - 1] := Decidable.byContradiction fun e => hk (Or.inr e)
          rw [h', he]
          exact List.mem_take_iff_getElem.2 ⟨m - 1, by omega, rfl⟩

theorem rising_compactUpTo {l : List Int} (hs : l.Pairwise (· ≤ ·)) : ∀ m, m ≤ l.length → Rising (compactUpTo l.toArray m)
  | 0, _ => by simp [compactUpTo, Rising]
  | m + 1, hm => by
    have ih := rising_compactUpTo hs m (by omega)
    have hg : l.toArray[m]! = l[m] := by simp [show m < l.length by omega]
    rw [compactUpTo_succ, hg]
    by_cases hk : keeps l.toArray m = true
    · rw [if_pos hk]
      refine List.pairwise_append.2 ⟨ih, by simp, fun a ha b hb => ?_⟩
      have hb' : b = l[m] := by simpa using hb
      subst hb'
      have h1 := (mem_compactUpTo m (by omega) a).1 ha
      obtain ⟨j, hj, rfl⟩ := List.mem_take_iff_getElem.1 h1
      have hjm : j < m := by omega
      unfold keeps at hk
      simp only [decide_eq_true_eq] at hk
      have hg1 : l.toArray[m - 1]! = l[m - 1] := by simp [show m - 1 < l.length by omega]
      rw [hg, hg1] at hk
      have h2 : l[m] ≠ l[m - 1] := by
        rcases hk with h | h
        · omega
        · exact h
      have h3 : l[m - 1] ≤ l[m] := List.pairwise_iff_getElem.1 hs (m - 1) m (by omega) (by omega) (by omega)
      have h4 : l[j] ≤ l[m - 1] := by
        rcases Nat.lt_or_ge j (m - 1) with h | h
        · exact List.pairwise_iff_getElem.1 hs j (m - 1) (by omega) (by omega) h
        · have : j = m - 1 := by omega
          subst this
          exact Int.le_refl _
      omega
    · rw [if_neg hk, List.append_nil]
      exact ih

theorem compact_srt (l : List Int) : Lib.compact (srt l) = uniq l := by
  have hs : (srt l).Pairwise (· ≤ ·) := by
    have := List.pairwise_mergeSort (le := fun x y : Int => decide (x ≤ y)) (fun a b c h1 h2 => by simp at *; omega) (fun a b => by simp; omega) l
    exact this.imp (fun h => by simpa using h)
  refine rising_ext (rising_compactUpTo hs _ (Nat.le_refl _)) (uniq_rising l) (fun z => ?_)
  rw [mem_uniq]
  have := mem_compactUpTo (l := srt l) (srt l).length (Nat.le_refl _) z
  rw [List.take_length] at this
  unfold Lib.compact
  rw [this]
  exact List.mem_mergeSort

theorem minOf_least {l : List Int} (h : 0 < l.length) : Lib.minOf l = least l := by
  have key : ∀ (t : List Int) (a : Int), t.foldl min a ≤ a ∧ (∀ x ∈ t, t.foldl min a ≤ x) ∧ (t.foldl min a = a ∨ t.foldl min a ∈ t) := by
    intro t
    induction t with
    | nil => intro a; simp
    | cons y t ih =>
      intro a
      obtain ⟨i1, i2, i3⟩ := ih (min a y)
      simp only [List.foldl_cons]
      refine ⟨by omega, fun x hx => ?_, ?_⟩
      · rcases List.mem_cons.1 hx with rfl | hx
        · omega
        · exact i2 x hx
      · rcases i3 with i3 | i3
        · rw [i3]
          rcases Int.le_total a y with h | h
          · left; omega
          · right; simp; left; omega
        · right; simp [i3]
  have h1 : Lib.minOf l ∈ l ∧ ∀ x ∈ l, Lib.minOf l ≤ x := by
    cases l with
    | nil => simp at h
    | cons a t =>
      have := key (a :: t) a
      unfold Lib.minOf
      rw [List.headD_cons]
      refine ⟨?_, this.2.1⟩
      rcases this.2.2 with e | e
      · rw [e]; simp
      · exact e
  have h2 := least_mem h
  have h3 := h1.2 _ h2
  have h4 := least_le _ h1.1
  omega
end Go.Proofs.Ytnlanilejhjkkaa
