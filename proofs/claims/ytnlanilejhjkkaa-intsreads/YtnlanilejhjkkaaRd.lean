/- A reader of bytes in a block of its own: its state, what stays beside it; refuse, end, whole, numberWithin. -/
import Derived.Test.YtnlanilejhjkkaaPutRuns
set_option linter.unusedVariables false
set_option linter.unusedSimpArgs false
namespace Go.Proofs.Ytnlanilejhjkkaa
open Go.RowKit Go.Lib

/-- All blocks below B are as they were, but for the block p. -/
def Fr (p B : Nat) (w w' : World) : Prop := w'.os = w.os ∧ w'.tape = w.tape ∧ w'.output = w.output ∧ w.heap.size ≤ w'.heap.size ∧ ∀ k, k < B → k ≠ p → w'.heap[k]? = w.heap[k]?

theorem Fr.os {p B : Nat} {w w' : World} (h : Fr p B w w') : w'.os = w.os := h.1
theorem Fr.tape {p B : Nat} {w w' : World} (h : Fr p B w w') : w'.tape = w.tape := h.2.1
theorem Fr.output {p B : Nat} {w w' : World} (h : Fr p B w w') : w'.output = w.output := h.2.2.1
theorem Fr.size {p B : Nat} {w w' : World} (h : Fr p B w w') : w.heap.size ≤ w'.heap.size := h.2.2.2.1
theorem Fr.block {p B : Nat} {w w' : World} (h : Fr p B w w') : ∀ k, k < B → k ≠ p → w'.heap[k]? = w.heap[k]? := h.2.2.2.2
theorem Fr.refl (p B : Nat) (w : World) : Fr p B w w := ⟨rfl, rfl, rfl, Nat.le_refl _, fun _ _ _ => rfl⟩
theorem Fr.trans {p B : Nat} {a b c : World} (h : Fr p B a b) (k : Fr p B b c) : Fr p B a c :=
  ⟨k.os.trans h.os, k.tape.trans h.tape, k.output.trans h.output, Nat.le_trans h.size k.size, fun i hi hp => (k.block i hi hp).trans (h.block i hi hp)⟩
theorem Fr.mono {p B B' : Nat} {w w' : World} (h : Fr p B w w') (hB : B' ≤ B) : Fr p B' w w' := ⟨h.os, h.tape, h.output, h.size, fun k hk hp => h.block k (Nat.lt_of_lt_of_le hk hB) hp⟩
theorem Fr.of_below {p B : Nat} {w w' : World} (h : Below B w w') : Fr p B w w' := ⟨h.os, h.tape, h.output, h.size, fun k hk _ => h.block k hk⟩
theorem Fr.below {p B B' : Nat} {w w' : World} (h : Fr p B w w') (hp : B' ≤ p) (hB : B' ≤ B) : Below B' w w' := ⟨h.os, h.tape, h.output, h.size, fun k hk => h.block k (by omega) (by omega)⟩
theorem Fr.set {p B : Nat} {w w' : World} (h : Fr p B w w') (i : Nat) (v : Value) : Fr p B w (w'.setCell ⟨p, i, none⟩ v) := by
  have h1 : Below 0 w' (w'.setCell ⟨p, i, none⟩ v) := (Below.refl 0 w').setCell (Nat.zero_le _) v
  exact ⟨h1.os.trans h.os, h1.tape.trans h.tape, h1.output.trans h.output, Nat.le_trans h.size h1.size, fun k hk hp => (Below.heap_setCell _ _ _ _ hp).trans (h.block k hk hp)⟩

theorem Fr.own {p : Nat} {w w' : World} {B e size n : Nat} {v : Value} {xs : List Value} (hf : Fr p w.heap.size w w') (h : w.ownsRow B e size v n xs) (hp : p < B) : w'.ownsRow B e size v n xs := by
  obtain ⟨hl, h⟩ := h
  refine ⟨hl, ?_⟩
  rcases h with h | ⟨g, cap, cur, h1, h2, h3, h4⟩
  · exact Or.inl h
  · have hg : g < w.heap.size := (Array.getElem?_eq_some_iff.1 h3).1
    exact Or.inr ⟨g, cap, cur, h1, h2, (hf.block g hg (by omega)).trans h3, h4⟩

theorem heap_set {W : World} {p T : Nat} {c : Array Value} {fz : Nat × Nat} (h : W.heap[p]? = some (.cells c T fz)) (i : Nat) (v : Value) : (W.setCell ⟨p, i, none⟩ v).heap[p]? = some (.cells (c.setIfInBounds i v) T fz) := by
  rw [Sort.setCell_eq]
  simp [Sort.mapBlock, Array.getElem?_modify, h, Sort.onCells]

/-- The reader in the block p: bytes that are left, and the fault. -/
def St (T : Nat) (W : World) (p : Nat) (b : List Nat) (f : Nat) : Prop :=
  ∃ g off cap, W.heap[p]? = some (.cells #[.slice (some ⟨g, off, none⟩) b.length cap, .int .i64 (f : Int)] T (0, 0)) ∧ g < p ∧ b.length ≤ cap ∧ cap ≤ maxLen ∧ Bs b ∧
    ∀ j (h : j < b.length), W.cell? ⟨g, off + j, none⟩ = some (.int .u8 (b[j] : Int))

theorem St.bs {T : Nat} {W : World} {p : Nat} {b : List Nat} {f : Nat} (h : St T W p b f) : Bs b := by obtain ⟨_, _, _, _, _, _, _, h, _⟩ := h; exact h
theorem St.lt {T : Nat} {W : World} {p : Nat} {b : List Nat} {f : Nat} (h : St T W p b f) : p < W.heap.size := by obtain ⟨_, _, _, h, _⟩ := h; exact (Array.getElem?_eq_some_iff.1 h).1

theorem St.kept {T : Nat} {W W' : World} {p B : Nat} {b : List Nat} {f : Nat} (h : St T W p b f) (hb : Below B W W') (hp : p < B) : St T W' p b f := by
  obtain ⟨g, off, cap, h1, h2, h3, h4, h5, h6⟩ := h
  exact ⟨g, off, cap, (hb.block p hp).trans h1, h2, h3, h4, h5, fun j hj => (hb.cell (p := ⟨g, off + j, none⟩) (show g < B by omega)).trans (h6 j hj)⟩

theorem cell_block {W : World} {p T : Nat} {c : Array Value} {fz : Nat × Nat} (h : W.heap[p]? = some (.cells c T fz)) (i : Nat) : W.cell? ⟨p, i, none⟩ = c[i]? := by
  simp [World.cell?, h]

theorem St.cells {T : Nat} {W : World} {p : Nat} {b : List Nat} {f : Nat} (h : St T W p b f) :
    ∃ g off cap, W.cell? ⟨p, 0, none⟩ = some (.slice (some ⟨g, off, none⟩) b.length cap) ∧ W.cell? ⟨p, 1, none⟩ = some (.int .i64 (f : Int)) ∧ W.frozen? ⟨p, 0, none⟩ = false ∧ W.frozen? ⟨p, 1, none⟩ = false ∧
      b.length ≤ cap ∧ cap ≤ 9223372036854775807 ∧ Sv W (.slice (some ⟨g, off, none⟩) b.length cap) (vals .u8 b) ∧ g < p ∧
      (∀ f' : Nat, St T (W.setCell ⟨p, 1, none⟩ (.int .i64 (f' : Int))) p b f') ∧
      (∀ k, k ≤ b.length → ∃ A, (if cap = k then (some ⟨g, off, none⟩ : Option Addr) else some ⟨g, off + k, none⟩) = A ∧ St T (W.setCell ⟨p, 0, none⟩ (.slice A (b.length - k) (cap - k))) p (b.drop k) f) := by
  have hlt := h.lt
  obtain ⟨g, off, cap, h1, h2, h3, h4, h5, h6⟩ := h
  have hsv : Sv W (.slice (some ⟨g, off, none⟩) b.length cap) (vals .u8 b) := by
    refine ⟨_, cap, by rw [vals_length], by rw [vals_length]; omega, h4, fun e => by (cases e), fun h0 => ⟨g, off, rfl, by omega, fun j x hj => ?_⟩⟩
    have hj' : j < b.length := by
      have := (List.getElem?_eq_some_iff.1 hj).1
      rwa [vals_length] at this
    rw [vals_get hj'] at hj
    rw [h6 j hj']
    exact hj
  refine ⟨g, off, cap, by rw [cell_block h1]; rfl, by rw [cell_block h1]; rfl, by simp [World.frozen?, h1], by simp [World.frozen?, h1], h3, by unfold maxLen at h4; omega, hsv, h2, fun f' => ?_, fun k hk => ?_⟩
  · refine ⟨g, off, cap, by rw [heap_set h1]; rfl, h2, h3, h4, h5, fun j hj => ?_⟩
    rw [World.cell?_of_block (w := W) (Below.heap_setCell _ _ _ _ (show g ≠ p by omega))]
    exact h6 j hj
  · obtain ⟨A, hA, hSA⟩ := Sv_drop hsv (k := k) (by rw [vals_length]; exact hk)
    refine ⟨A, hA, ?_⟩
    have hl : (b.drop k).length = b.length - k := List.length_drop
    have hbs : Bs (b.drop k) := fun x hx => h5 x (List.mem_of_mem_drop hx)
    by_cases hck : cap = k
    · rw [if_pos hck] at hA
      subst hA
      refine ⟨g, off, cap - k, by rw [heap_set h1, hl]; rfl, h2, by omega, by omega, hbs, fun j hj => by omega⟩
    · rw [if_neg hck] at hA
      subst hA
      refine ⟨g, off + k, cap - k, by rw [heap_set h1, hl]; rfl, h2, by omega, by omega, hbs, fun j hj => ?_⟩
      rw [World.cell?_of_block (w := W) (Below.heap_setCell _ _ _ _ (show g ≠ p by omega)), Nat.add_assoc, h6 (k + j) (by omega)]
      simp

/-- The first fault stays. -/
def orf (f e : Nat) : Nat := if f = 0 then e else f

set_option maxRecDepth 100000 in
theorem refuse_any {w : World} {p f : Nat} {b : List Nat} (h : St 53 w p b f) (e : Nat) :
    Calls Try.prog 27 #[.pointer (some ⟨p, 0, none⟩), .int .i64 (e : Int)] w fun r w' => r = .returned (.tuple #[]) ∧ St 53 w' p b (orf f e) ∧ Fr p w.heap.size w w' := by
  have HS := hidden h
  obtain ⟨g, off, cap, h0, h1, h2, h3, h4, h5, h6, h7, h8, h9⟩ := h.cells
  have H8 := hidden (h8 e)
  have HF := hidden ((Fr.refl p w.heap.size w).set 1 (.int .i64 (e : Int)))
  clear h h6 h8 h9
  by_cases hf : ((f : Int) == 0) = true
  · have hf' : f = 0 := by simpa using hf
    have HO : Hid (orf f e = e) := by show _ = _; unfold orf; rw [if_pos hf']
    clear hf'
    go_enter Try.func27, Try.ntmps27
    go_wp2_with fail
    go_end0
    rw [HO.out]
    exact ⟨rfl, H8.out, HF.out⟩
  · have hff : ((f : Int) == 0) = false := by simpa using hf
    have HO : Hid (orf f e = f) := by show _ = _; unfold orf; rw [if_neg (fun e => hf (by simp [e]))]
    clear hf
    go_enter Try.func27, Try.ntmps27
    go_wp2_with fail
    go_end0
    rw [HO.out]
    exact ⟨rfl, HS.out, Fr.refl _ _ _⟩

set_option maxRecDepth 100000 in
theorem end_any {w : World} {p f : Nat} {b : List Nat} (h : St 53 w p b f) :
    Calls Try.prog 25 #[.pointer (some ⟨p, 0, none⟩)] w fun r w' => r = .returned (.tuple #[]) ∧ St 53 w' p b (orf f (if b.length = 0 then 0 else 32)) ∧ Fr p w.heap.size w w' := by
  have HS := hidden h
  obtain ⟨g, off, cap, h0, h1, h2, h3, h4, h5, h6, h7, h8, h9⟩ := h.cells
  have HR := hidden (refuse_any h 32)
  clear h h6 h8 h9
  by_cases hp : (b.length : Int) > 0
  · rw [if_neg (by omega)]
    go_enter Try.func25, Try.ntmps25
    go_wp2_with fail
    refine HR.out.mono ?_
    rintro e w1 ⟨rfl, hs1, hf1⟩
    have HS1 := hidden hs1
    clear hs1
    go_wp2_with fail
    go_end0
    exact ⟨rfl, HS1.out, hf1⟩
  · have hb0 : b.length = 0 := by omega
    rw [if_pos hb0]
    have HO : Hid (orf f 0 = f) := by show _ = _; unfold orf; split <;> simp_all
    clear hb0
    go_enter Try.func25, Try.ntmps25
    go_wp2_with fail
    go_end0
    rw [HO.out]
    exact ⟨rfl, HS.out, Fr.refl _ _ _⟩

theorem get_sv {w : World} {a : Option Addr} {n cap : Nat} {b : List Nat} (hb : Bs b) (h : Sv w (.slice a n cap) (vals .u8 b)) :
    Calls Try.prog 68 #[.slice a n cap] w fun e w' => e = tell .u64 ((gt b).1 : Int) (gt b).2.1 (gt b).2.2 ∧ w' = w := get_any (h.sl hb)
theorem getInt_sv {w : World} {a : Option Addr} {n cap : Nat} {b : List Nat} (hb : Bs b) (h : Sv w (.slice a n cap) (vals .u8 b)) :
    Calls Try.prog 67 #[.slice a n cap] w fun e w' => e = tell .i64 (unzig (gt b).1) (gt b).2.1 (gt b).2.2 ∧ w' = w := getInt_any (h.sl hb)

theorem gt_form (b : List Nat) : (gt b).1 < 18446744073709551616 ∧ (gt b).2.1 ≤ b.length ∧ (gt b).2.1 ≤ 10 ∧ ((gt b).2.2 = 0 ∨ (((gt b).2.2 = 30 ∨ (gt b).2.2 = 31) ∧ (gt b).1 = 0 ∧ (gt b).2.1 = 0)) := by
  have := getL_form (b.map Nat.toUInt8)
  rw [List.length_map] at this
  exact this

set_option maxRecDepth 100000 in
set_option maxHeartbeats 2000000 in
theorem whole_any {w : World} {p f : Nat} {b : List Nat} (h : St 53 w p b f) :
    Calls Try.prog 56 #[.pointer (some ⟨p, 0, none⟩)] w fun r w' => r = .returned (.int .i64 (unzig (gt b).1)) ∧ St 53 w' p (b.drop (gt b).2.1) (orf f (gt b).2.2) ∧ Fr p w.heap.size w w' := by
  have HS := hidden h
  have HB := hidden h.bs
  obtain ⟨g, off, cap, h0, h1, h2, h3, h4, h5, h6, h7, h8, h9⟩ := h.cells
  obtain ⟨g1, g2, g3, g4⟩ := gt_form b
  have HG := hidden (getInt_sv HB.out h6)
  have HU := hidden (unzig_i64 g1)
  clear h h6 h8 h9 g4
  generalize gt b = x at *
  obtain ⟨n, u, c⟩ := x
  simp only at *
  unfold tell at HG
  generalize unzig n = z at *
  go_enter Try.func56, Try.ntmps56
  go_wp2_with fail
  refine HG.out.mono ?_
  rintro e w1 ⟨rfl, rfl⟩
  go_wp2_with fail
  refine (refuse_any HS.out c).mono ?_
  rintro e w2 ⟨rfl, hs2, hf2⟩
  obtain ⟨G, Off, Cap, k0, k1, k2, k3, k4, k5, k6, k7, k8, k9⟩ := hs2.cells
  obtain ⟨A, hA, hSA⟩ := k9 u g2
  have HSA := hidden hSA
  have HF2 := hidden (hf2.set 0 (.slice A (b.length - u) (Cap - u)))
  clear hs2 hf2 k8 k9 k6 hSA h0 h1 h2 h3
  go_wp2_with fail
  go_ret
  exact ⟨rfl, HSA.out, HF2.out⟩
end Go.Proofs.Ytnlanilejhjkkaa
