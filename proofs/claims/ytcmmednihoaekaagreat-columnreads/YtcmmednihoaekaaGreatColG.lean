/- slices.Clone, Sort, Compact, BinarySearch over texts, in words of rows; the unlike texts, rising. -/
import Derived.Test.YtcmmednihoaekaaGreatColF
set_option linter.unusedVariables false
set_option linter.unusedSimpArgs false
namespace Go.Proofs.YtcmmednihoaekaaGreat
open Go.RowKit Go.Lib Go.Shelf

theorem lt_map : ∀ {a b : List UInt8}, a < b ↔ a.map UInt8.toNat < b.map UInt8.toNat
  | [], [] => by simp
  | [], y :: t => by simp
  | x :: s, [] => by simp
  | x :: s, y :: t => by
    have ih := lt_map (a := s) (b := t)
    have h3 : (x :: s < y :: t) ↔ (x < y ∨ x = y ∧ s < t) := List.cons_lt_cons_iff
    have h4 : (x.toNat :: s.map UInt8.toNat < y.toNat :: t.map UInt8.toNat) ↔ (x.toNat < y.toNat ∨ x.toNat = y.toNat ∧ s.map UInt8.toNat < t.map UInt8.toNat) := List.cons_lt_cons_iff
    have h5 : x = y ↔ x.toNat = y.toNat := ⟨fun e => by rw [e], fun e => UInt8.toNat_inj.1 e⟩
    rw [List.map_cons, List.map_cons, h3, h4, ih, UInt8.lt_iff_toNat_lt, h5]

theorem u8_three {x y : List UInt8} (h1 : x ≠ y) (h2 : ¬ y < x) : x < y := by
  rcases List.le_iff_lt_or_eq.1 (show x ≤ y from h2) with h | h
  · exact h
  · exact absurd h h1

/-- Texts in order, each as often as it is there. -/
def srtT (l : List (List UInt8)) : List (List UInt8) := l.mergeSort fun x y => decide (x ≤ y)
theorem srtT_length (l : List (List UInt8)) : (srtT l).length = l.length := List.length_mergeSort l

theorem mem_compactT {l : List (List UInt8)} : ∀ m, m ≤ l.length → ∀ z, z ∈ compactUpTo l.toArray m ↔ z ∈ l.take m
  | 0, _, z => by simp [compactUpTo]
  | m + 1, hm, z => by
    have ih := mem_compactT (l := l) m (by omega)
    have hg : l.toArray[m]! = l[m] := by simp [show m < l.length by omega]
    rw [compactUpTo_succ, List.mem_append, ih z, List.take_succ_eq_append_getElem (by omega), List.mem_append, hg]
    by_cases hk : keeps l.toArray m = true
    · rw [if_pos hk]
    · rw [if_neg hk]
      constructor
      · rintro (h | h)
        · exact Or.inl h
        · simp at h
      · rintro (h | h)
        · exact Or.inl h
        · left
          have h' : z = l[m] := by simpa using h
          unfold keeps at hk
          simp only [decide_eq_true_eq] at hk
          have hg1 : l.toArray[m - 1]! = l[m - 1] := by simp [show m - 1 < l.length by omega]
          rw [hg, hg1] at hk
          have hm0 : m ≠ 0 := fun e => hk (Or.inl e)
          have he : l[m] = l[m - 1] := Decidable.byContradiction fun e => hk (Or.inr e)
          rw [h', he]
          exact List.mem_take_iff_getElem.2 ⟨m - 1, by omega, rfl⟩

theorem rising_compactT {l : List (List UInt8)} (hs : l.Pairwise (· ≤ ·)) : ∀ m, m ≤ l.length → (compactUpTo l.toArray m).Pairwise (· < ·)
  | 0, _ => by simp [compactUpTo]
  | m + 1, hm => by
    have ih := rising_compactT hs m (by omega)
    have hg : l.toArray[m]! = l[m] := by simp [show m < l.length by omega]
    rw [compactUpTo_succ, hg]
    by_cases hk : keeps l.toArray m = true
    · rw [if_pos hk]
      refine List.pairwise_append.2 ⟨ih, by simp, fun a ha b hb => ?_⟩
      have hb' : b = l[m] := by simpa using hb
      subst hb'
      have h1 := (mem_compactT m (by omega) a).1 ha
      obtain ⟨j, hj, rfl⟩ := List.mem_take_iff_getElem.1 h1
      have hjm : j < m := by omega
      unfold keeps at hk
      simp only [decide_eq_true_eq] at hk
      have hg1 : l.toArray[m - 1]! = l[m - 1] := by simp [show m - 1 < l.length by omega]
      rw [hg, hg1] at hk
      have h2 : l[m] ≠ l[m - 1] := by
        rcases hk with h | h
        · omega
        · exact h
      have h3 : l[m - 1] ≤ l[m] := List.pairwise_iff_getElem.1 hs (m - 1) m (by omega) (by omega) (by omega)
      have h4 : l[j] ≤ l[m - 1] := by
        rcases Nat.lt_or_ge j (m - 1) with h | h
        · exact List.pairwise_iff_getElem.1 hs j (m - 1) (by omega) (by omega) h
        · have : j = m - 1 := by omega
          subst this
          exact List.le_refl _
      have h5 : l[m - 1] < l[m] := u8_three (fun e => h2 e.symm) h3
      exact List.lt_of_le_of_lt h4 h5
    · rw [if_neg hk, List.append_nil]
      exact ih

/-- Sorted and compacted are the unlike texts, rising. -/
theorem compact_srtT (l : List (List UInt8)) : (Lib.compact (srtT l)).map (fun s => s.map UInt8.toNat) = tuq (l.map fun s => s.map UInt8.toNat) := by
  have hs : (srtT l).Pairwise (· ≤ ·) := by
    have := List.pairwise_mergeSort (le := fun x y : List UInt8 => decide (x ≤ y)) (fun a b c h1 h2 => by simp only [decide_eq_true_eq] at *; exact List.le_trans h1 h2) (fun a b => by simp only [Bool.or_eq_true, decide_eq_true_eq]; exact List.le_total a b) l
    exact this.imp (fun h => by simpa using h)
  refine rising_same ?_ (tuq_rising _) (fun z => ?_)
  · exact List.pairwise_map.2 ((rising_compactT hs _ (Nat.le_refl _)).imp fun h => lt_map.1 h)
  · rw [mem_tuq]
    have hm := fun y => mem_compactT (l := srtT l) (srtT l).length (Nat.le_refl _) y
    rw [List.take_length] at hm
    unfold Lib.compact
    simp only [List.mem_map, hm]
    constructor
    · rintro ⟨y, hy, rfl⟩
      exact ⟨y, List.mem_mergeSort.1 hy, rfl⟩
    · rintro ⟨y, hy, rfl⟩
      exact ⟨y, List.mem_mergeSort.2 hy, rfl⟩

/-- Texts as lists of bytes. -/
def upT (l : List (List Nat)) : List (List UInt8) := l.map fun s => s.map Nat.toUInt8
def dnT (l : List (List UInt8)) : List (List Nat) := l.map fun s => s.map UInt8.toNat
theorem svals_up (l : List (List Nat)) : svals l = (upT l).map encStr := by
  unfold svals upT
  rw [List.map_map]
  rfl
theorem up_dn (u : List (List UInt8)) : upT (dnT u) = u := by
  unfold upT dnT
  rw [List.map_map]
  conv => rhs; rw [← List.map_id u]
  apply List.map_congr_left
  intro s _
  simp only [Function.comp, List.map_map, id]
  conv => rhs; rw [← List.map_id s]
  apply List.map_congr_left
  intro x _
  simp
theorem dn_up {l : List (List Nat)} (h : ∀ s ∈ l, Bs s) : dnT (upT l) = l := by
  unfold upT dnT
  rw [List.map_map]
  conv => rhs; rw [← List.map_id l]
  apply List.map_congr_left
  intro s hs
  exact map_fwd (h s hs)
theorem up_length (l : List (List Nat)) : (upT l).length = l.length := List.length_map _

theorem compact_up {l : List (List Nat)} (h : ∀ s ∈ l, Bs s) : Lib.compact (srtT (upT l)) = upT (tuq l) := by
  have h1 := compact_srtT (upT l)
  have h2 : (upT l).map (fun s => s.map UInt8.toNat) = l := dn_up h
  rw [h2] at h1
  rw [← h1]
  exact (up_dn _).symm

theorem Sv.texts {W : World} {b off n cap : Nat} {l : List (List Nat)} (h : Sv W (.slice (some ⟨b, off, none⟩) n cap) (svals l)) : ∀ j, j < (l.map bytesT).length → W.cell? ⟨b, off + j, none⟩ = some (.string ((l.map bytesT).getD j ByteArray.empty)) := by
  intro j hj
  rw [List.length_map] at hj
  obtain ⟨b', off', h1, _, h2⟩ := h.at1 (svals_get hj)
  cases h1
  rw [h2, txt_eq]
  simp [List.getD_eq_getElem?_getD, hj]

theorem cloneS_any {w : World} {v : Value} {l : List (List Nat)} (hs : Sv w v (svals l)) (hl : l.length ≤ 256) :
    Calls Tryz.prog 72 #[v] w fun e w' => (∃ v', e = .returned v' ∧ OwnS w' w.heap.size v' l) ∧ Below w.heap.size w w' := by
  have hs0 := hs
  obtain ⟨a, cap, rfl, h1, h2, h3, h4⟩ := hs
  rw [svals_length] at *
  cases a with
  | none =>
    have hc := h3 rfl
    have hl0 : l = [] := List.eq_nil_of_length_eq_zero (by omega)
    subst hl0
    refine Calls.mono (AnyG.slices_Clone_string_nil laysSlN42_f72 _ _ w) ?_
    rintro e w' ⟨rfl, rfl⟩
    exact ⟨⟨_, rfl, OwnS.nil _ _⟩, Below.refl _ _⟩
  | some a =>
    rcases Nat.eq_zero_or_pos l.length with h0 | h0
    · have hl0 : l = [] := List.eq_nil_of_length_eq_zero h0
      subst hl0
      refine Calls.mono (AnyG.slices_Clone_string_zero laysSlN42_f72 a cap w) ?_
      rintro e w' ⟨v', rfl, ho, _, hb⟩
      exact ⟨⟨_, rfl, ho⟩, hb⟩
    · obtain ⟨b, off, h5, h6, h7⟩ := h4 h0
      cases h5
      refine Calls.mono (AnyG.slices_Clone_string laysSlN42_f72 b off l.length cap (l.map bytesT) w (by rw [List.length_map]; omega) (by omega) hs0.texts) ?_
      rintro e w' ⟨v', rfl, ho, _, hb⟩
      rw [List.take_of_length_le (by rw [List.length_map]; omega), List.map_map] at ho
      exact ⟨⟨_, rfl, ho⟩, hb⟩

theorem putRow_block {α : Type} [Inhabited α] {enc : α → Value} {w : World} {g q k : Nat} {d : Array α} (h : k ≠ g) : (Sort.putRow enc (Sort.ahead w q) g 0 d).heap[k]? = w.heap[k]? := by
  simp [Sort.putRow, Sort.mapBlock, Sort.ahead, Array.getElem?_modify, Ne.symm h]

theorem sortS_own {w : World} {B : Nat} {v : Value} {zs : List (List UInt8)} (h : w.ownsRow B 9 1 v zs.length (zs.map encStr)) (hl : zs.length ≤ 256) (hB : B ≤ w.heap.size) :
    Calls Tryz.prog 73 #[v] w fun e w' => e = .returned (.tuple #[]) ∧ w'.ownsRow B 9 1 v zs.length ((srtT zs).map encStr) ∧ Below B w w' ∧ ∀ k, k < w.heap.size → v.ownBlock ≠ some k → w'.heap[k]? = w.heap[k]? := by
  by_cases hv : v = .slice none 0 0
  · subst hv
    have hl0 : zs = [] := by
      rcases h.2 with ⟨_, h2⟩ | ⟨g, cap, cur, h2, _⟩
      · exact List.eq_nil_of_length_eq_zero h2
      · cases h2
    subst hl0
    refine Calls.mono (AnyM.slices_Sort_string_none laysSlM6_f73 none 0 w) ?_
    rintro e w' ⟨rfl, rfl⟩
    exact ⟨rfl, (by unfold srtT; rw [List.mergeSort_nil]; exact h), Below.refl _ _, fun _ _ _ => rfl⟩
  · obtain ⟨g, cap, rfl, hb, hg, hc, hm, hlen, hH⟩ := holds_of_ownsRow (enc := encStr) h hv
    refine Calls.mono (AnyM.slices_Sort_string laysSlM6_f73 g 0 cap zs w hH hg (by omega)) ?_
    rintro e w' ⟨rfl, n, os, rfl⟩
    have h1 := ownsRow_putRow (enc := encStr) (q := n) (k := zs.length) (ys := srtT zs) h (srtT_length zs) (Nat.le_refl _)
    have hb1 := below_putRow (enc := encStr) (q := n) (d := (srtT zs).toArray) (Below.refl B w) hb
    refine ⟨rfl, ?_, hb1.trans (below_grow os (by have := hb1.size; omega)), fun k hk hne => ?_⟩
    · rw [List.take_of_length_le (by rw [srtT_length]; omega)] at h1
      exact own_kept h1 (below_grow os (Nat.le_refl _))
    · have hkg : k ≠ g := fun e => hne (by rw [e]; rfl)
      have h2 := putRow_block (enc := encStr) (w := w) (q := n) (d := (srtT zs).toArray) hkg
      have h3 := hb1.size
      exact ((below_grow (w := Sort.putRow encStr (Sort.ahead w n) g 0 (srtT zs).toArray) os (Nat.le_refl _)).block k (Nat.lt_of_lt_of_le hk h3)).trans h2

theorem compactS_own {w : World} {B : Nat} {v : Value} {zs : List (List UInt8)} (h : w.ownsRow B 9 1 v zs.length (zs.map encStr)) (hl : zs.length ≤ 256) (hB : B ≤ w.heap.size) :
    Calls Tryz.prog 74 #[v] w fun e w' => (∃ v', e = .returned v' ∧ w'.ownsRow B 9 1 v' (Lib.compact zs).length ((Lib.compact zs).map encStr)) ∧ Below B w w' ∧ ∀ k, k < w.heap.size → v.ownBlock ≠ some k → w'.heap[k]? = w.heap[k]? := by
  by_cases hv : v = .slice none 0 0
  · subst hv
    have hl0 : zs = [] := by
      rcases h.2 with ⟨_, h2⟩ | ⟨g, cap, cur, h2, _⟩
      · exact List.eq_nil_of_length_eq_zero h2
      · cases h2
    subst hl0
    refine Calls.mono (AnyG.slices_Compact_string_empty laysSlN44_f74 none 0 w) ?_
    rintro e w' ⟨rfl, rfl⟩
    exact ⟨⟨_, rfl, h⟩, Below.refl _ _, fun _ _ _ => rfl⟩
  · obtain ⟨g, cap, rfl, hb, hg, hc, hm, hlen, hH⟩ := holds_of_ownsRow (enc := encStr) h hv
    have hle := Lib.compact_length_le zs
    refine Calls.mono (AnyG.slices_Compact_string laysSlN44_f74 g 0 cap zs w hH (by omega) (by omega)) ?_
    rintro e w' ⟨rfl, q, rfl⟩
    have h1 := ownsRow_putRow (enc := encStr) (q := q) (k := (Lib.compact zs).length) (ys := Lib.compact zs ++ List.replicate (zs.length - (Lib.compact zs).length) []) h (by simp; omega) (by omega)
    rw [List.take_left] at h1
    exact ⟨⟨_, rfl, h1⟩, below_putRow (enc := encStr) (Below.refl B w) hb, fun k hk hne => putRow_block (fun e => hne (by rw [e]; rfl))⟩

theorem plT_less {u : List (List Nat)} {x : List Nat} (hr : RisT u) (hx : x ∈ u) {t : Nat} (ht : t < u.length) : u[t] < x ↔ t < plT u x := by
  obtain ⟨h1, h2⟩ := plT_get hx
  rw [List.getElem?_eq_getElem h1] at h2
  have h3 : u[plT u x] = x := Option.some.inj h2
  have hp := List.pairwise_iff_getElem.1 hr
  constructor
  · intro h
    rcases Nat.lt_or_ge t (plT u x) with h4 | h4
    · exact h4
    · rcases Nat.lt_or_ge (plT u x) t with h5 | h5
      · have h6 := hp _ _ h1 ht h5
        rw [h3] at h6
        exact absurd (txt_trans h h6) (List.lt_irrefl _)
      · obtain rfl : t = plT u x := by omega
        rw [h3] at h
        exact absurd h (List.lt_irrefl _)
  · intro h
    have := hp _ _ ht h1 h
    rwa [h3] at this

theorem searchS_any {w : World} {v : Value} {u : List (List Nat)} (hs : Sv w v (svals u)) (hl : u.length ≤ 256) (hr : RisT u) (hu : ∀ s ∈ u, Bs s) {x : List Nat} (hx : x ∈ u) :
    Calls Tryz.prog 100 #[v, .string (bytesT x)] w fun e w' => (∃ r, e = .returned (.tuple #[.int .i64 (plT u x : Nat), r])) ∧ Below w.heap.size w w' := by
  have hs0 := hs
  obtain ⟨a, cap, rfl, h1, h2, h3, h4⟩ := hs
  rw [svals_length] at *
  have hpos : 0 < u.length := List.length_pos_of_mem hx
  obtain ⟨b, off, rfl, h6, h7⟩ := h4 hpos
  refine Calls.mono (Any2.slices_BinarySearch_string lays2n26 b off u.length cap (fun t => (u.map bytesT).getD t (bytesT x)) (bytesT x) w (by omega) ?_) ?_
  · intro j hj
    have := h7 j _ (svals_get hj)
    rw [this, txt_eq]
    simp [List.getD_eq_getElem?_getD, hj]
  · rintro e w' ⟨rfl, q, rfl⟩
    have hk := (plT_get hx).1
    have hbs : Lib.bsGo (fun t => Op.bytesLess ((u.map bytesT).getD t (bytesT x)).toList (bytesT x).toList) u.length 0 u.length = plT u x := by
      refine Lib.bsGo_spec _ (plT u x) ?_ ?_ _ _ _ (by omega) (by omega) (by omega)
      · intro t ht
        have htl : t < u.length := by omega
        have e1 : (u.map bytesT).getD t (bytesT x) = bytesT u[t] := by simp [List.getD_eq_getElem?_getD, htl]
        simp only [e1, bytesT_toList]
        rw [less_txt (hu _ (List.getElem_mem htl)) (hu _ hx)]
        exact decide_eq_true ((plT_less hr hx htl).2 ht)
      · intro t ht
        rcases Nat.lt_or_ge t u.length with htl | htl
        · have e1 : (u.map bytesT).getD t (bytesT x) = bytesT u[t] := by simp [List.getD_eq_getElem?_getD, htl]
          simp only [e1, bytesT_toList]
          rw [less_txt (hu _ (List.getElem_mem htl)) (hu _ hx)]
          refine decide_eq_false (fun h => ?_)
          have := (plT_less hr hx htl).1 h
          omega
        · have e1 : (u.map bytesT).getD t (bytesT x) = bytesT x := by
            rw [List.getD_eq_getElem?_getD, List.getElem?_eq_none (by rw [List.length_map]; omega)]
            rfl
          simp only [e1, bytesT_toList]
          rw [less_txt (hu _ hx) (hu _ hx)]
          exact decide_eq_false (List.lt_irrefl _)
    rw [hbs]
    exact ⟨⟨_, rfl⟩, below_drewN (Below.refl _ _) q⟩
end Go.Proofs.YtcmmednihoaekaaGreat
