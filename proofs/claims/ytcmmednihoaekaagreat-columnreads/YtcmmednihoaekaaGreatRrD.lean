/- The document's Read of layer 6: its mathematics; the document's Unpack in all cases. -/
import Derived.Test.YtcmmednihoaekaaGreatRrC
set_option linter.unusedVariables false
set_option linter.unusedSimpArgs false
namespace Go.Proofs.YtcmmednihoaekaaGreat
open Go.RowKit Go.Lib

set_option maxRecDepth 100000 in
set_option maxHeartbeats 4000000 in
theorem refUnpack_bits {w : World} {v : Value} {b : List Nat} (hs : Sv w v (vals .u8 b)) (h8 : Bs b) (N : Nat) (hN : N ≤ 256) :
    Calls Tryz.prog 41 #[v, .int .i64 (N : Int), .int .i64 1] w fun e w' => ∃ v', e = .returned (.tuple #[v', .int .i64 (unE b N 1 : Int)]) ∧ OwnU w' w.heap.size v' (unR b N 1) ∧ Below w.heap.size w w' := by
  by_cases hlen : b.length = by8 (N * 1)
  · exact refUnpack_yes hs.sx h8 N 1 hN (by omega) hlen
  · have hE := unE_form (b := b) (N := N) (ww := 1) hN (by omega) (fun h => hlen h.1)
    have hE' : unE b N 1 = 40 := hE
    rw [hE', unR_no (by rw [hE']; omega)]
    rw [Nat.mul_one] at hlen
    have hw : IntKind.i64.wrap ((N : Int) * 1) = (N : Int) := by rw [IntKind.wrap_i64]; omega
    have hne : ((b.length : Int) != ((N : Int) + 7) / 8) = true := by
      rw [bne_iff_ne]
      intro h
      exact hlen (by unfold by8; omega)
    obtain ⟨a, cap, rfl, hm, hcl⟩ := hs.sx
    have hm2 : b.length ≤ 9223372036854775807 := by unfold maxLen at hm; omega
    clear hcl h8 hlen hm hE hE' hs
    go_enter Tryz.func41, Tryz.ntmps41
    go_wp2_with fail
    go_ret2
    exact ⟨_, rfl, OwnU.nil _ _, Below.refl _ _⟩

/-- What is left to see when the values lie there. -/
def finC (k : Nat) (b th : List Nat) (o : List (Nat × Int × List Nat)) : Option (List (Nat × Int × List Nat)) :=
  if (∀ c ∈ fillC th o, c.2.2.length ≤ 64) ∧ colM k (fillC th o) = b then some (fillC th o) else none

theorem readC_head {k n : Nat} {b th r : List Nat} (h : headM b n = some (th, r)) : readC k b n = (ownM k r th.sum).bind (finC k b th) := by
  unfold readC parC
  rw [h, Option.bind_some]
  simp only
  cases ownM k r th.sum with
  | none => rfl
  | some o => rfl
theorem readC_nohead {k n : Nat} {b : List Nat} (h : headM b n = none) : readC k b n = none := by
  unfold readC parC
  rw [h]
  rfl
theorem head_zero {t : List Nat} {n : Nat} : headM (0 :: t) n = some (List.replicate n 1, t) := by
  unfold headM
  simp only
  rw [if_pos trivial]
theorem head_one {t : List Nat} {n : Nat} : headM (1 :: t) n = if by8 n ≤ t.length ∧ unE (t.take (by8 n)) n 1 = 0 then some (unR (t.take (by8 n)) n 1, t.drop (by8 n)) else none := by
  unfold headM
  simp only
  rw [if_neg (by omega), if_pos trivial]
theorem head_other {x : Nat} {t : List Nat} {n : Nat} (h : 1 < x) : headM (x :: t) n = none := by
  unfold headM
  simp only
  rw [if_neg (by omega), if_neg (by omega)]

theorem fin_write {k : Nat} {b th : List Nat} {o : List (Nat × Int × List Nat)} (hk : 1 ≤ k ∧ k ≤ 3) (hl : th.length ≤ 256) (ho : ∀ c ∈ o, Cellw k c) :
    (writeC k (fillC th o)).2 = 0 ∧ (writeC k (fillC th o)).1 = b ∧ finC k b th o = some (fillC th o) ∨ ((writeC k (fillC th o)).2 ≠ 0 ∨ (writeC k (fillC th o)).1 ≠ b) ∧ finC k b th o = none := by
  obtain ⟨f1, f2⟩ := fillC_inv (P := Cellw k) (Or.inl rfl) (th := th) ho
  have hkind : 1 ≤ k ∧ k ≤ 3 ∧ ∀ c ∈ fillC th o, c.1 = 0 ∨ c.1 = k := ⟨hk.1, hk.2, fun c hc => by
    rcases f2 c hc with rfl | ⟨rfl, n, rfl, _⟩ | ⟨rfl, n, rfl, _⟩ | ⟨rfl, s, rfl, _⟩
    · exact Or.inl rfl
    · exact Or.inr rfl
    · exact Or.inr rfl
    · exact Or.inr rfl⟩
  by_cases h : ∀ c ∈ fillC th o, c.2.2.length ≤ 64
  · have hw : writeC k (fillC th o) = (colM k (fillC th o), 0) := by
      unfold writeC
      rw [if_pos hkind, if_pos ⟨by omega, h⟩]
    rw [hw]
    simp only
    by_cases hb : colM k (fillC th o) = b
    · refine Or.inl ⟨trivial, hb, ?_⟩
      unfold finC
      rw [if_pos ⟨h, hb⟩]
    · refine Or.inr ⟨Or.inr hb, ?_⟩
      unfold finC
      rw [if_neg (fun h2 => hb h2.2)]
  · have hw := writeC_long (k := k) (l := fillC th o) hkind (fun h2 => h h2.2)
    rw [hw]
    refine Or.inr ⟨Or.inl (by simp), ?_⟩
    unfold finC
    rw [if_neg (fun h2 => h h2.1)]

/-- The values filled in so far. -/
def FillAt (th : List Nat) (o : List (Nat × Int × List Nat)) (j q : Nat) (pre : List (Nat × Int × List Nat)) : Prop :=
  fillC th o = pre ++ fillC (th.drop j) (o.drop q) ∧ (th.drop j).sum = o.length - q ∧ q ≤ o.length ∧ pre.length = j
theorem FillAt.zero {th : List Nat} {o : List (Nat × Int × List Nat)} (h : o.length = th.sum) : FillAt th o 0 0 [] := ⟨rfl, by simp [h], by omega, rfl⟩
theorem FillAt.null {th : List Nat} {o : List (Nat × Int × List Nat)} {j q : Nat} {pre : List (Nat × Int × List Nat)} (h : FillAt th o j q pre) (hj : j < th.length) (h0 : th[j] = 0) : FillAt th o (j + 1) q (pre ++ [nul]) := by
  obtain ⟨h1, h2, h3, h4⟩ := h
  rw [List.drop_eq_getElem_cons hj, h0] at h1 h2
  refine ⟨?_, by simpa using h2, h3, by simp [h4]⟩
  rw [h1, fillC, if_pos rfl]
  simp
theorem FillAt.some {th : List Nat} {o : List (Nat × Int × List Nat)} {j q : Nat} {pre : List (Nat × Int × List Nat)} (h : FillAt th o j q pre) (hj : j < th.length) (h0 : th[j] = 1) : ∃ hq : q < o.length, FillAt th o (j + 1) (q + 1) (pre ++ [o[q]]) := by
  obtain ⟨h1, h2, h3, h4⟩ := h
  rw [List.drop_eq_getElem_cons hj, h0] at h1 h2
  have hq : q < o.length := by
    rw [List.sum_cons] at h2
    omega
  rw [List.sum_cons] at h2
  refine ⟨hq, ?_, by omega, by omega, by simp [h4]⟩
  rw [h1, List.drop_eq_getElem_cons hq, fillC, if_neg (by omega)]
  simp [hq]
theorem FillAt.last {th : List Nat} {o : List (Nat × Int × List Nat)} {q : Nat} {pre : List (Nat × Int × List Nat)} (h : FillAt th o th.length q pre) : fillC th o = pre := by
  obtain ⟨h1, _⟩ := h
  rw [List.drop_length, fillC] at h1
  simpa using h1

theorem sum_take_le {l : List Nat} (h2 : ∀ x ∈ l, x < 2) (j : Nat) : (List.take j l).sum ≤ l.length := by
  have := sum_two (l := l.take j) fun x hx => h2 x (List.mem_of_mem_take hx)
  rw [List.length_take] at this
  omega

theorem writeC_bytes {k : Nat} {l : List (Nat × Int × List Nat)} (h : ∀ c ∈ l, Finew c) : Bs (writeC k l).1 := by
  unfold writeC
  split
  · next h1 =>
    split
    · next h2 => exact (col_size (k := k) (l := l) ⟨⟨h1.1, h1.2.1⟩, h2.1, fun c hc => ((h c hc).fine (h2.2 c hc)).cellk (h1.2.2 c hc)⟩).2
    · exact fun x hx => by simp at hx
  · exact fun x hx => by simp at hx

/-- What the document's Read tells. -/
def RefPost (r : Option (List (Nat × Int × List Nat))) (w : World) (e : Ending) (w' : World) : Prop :=
  ∃ v1 : Value, e = .returned (.tuple #[v1, .bool r.isSome]) ∧ (∀ l, r = some l → OwnC w' w.heap.size v1 l) ∧ Below w.heap.size w w'
end Go.Proofs.YtcmmednihoaekaaGreat
