/- A reader of bytes in a block of its own: its state; refuse, number. -/
import Derived.Test.YtkohejjkpofmgaaChk
set_option linter.unusedVariables false
set_option linter.unusedSimpArgs false
namespace Go.Proofs.Ytkohejjkpofmgaa
open Go.RowKit Go.Lib

/-- A reader in the block p: bytes that are left, and the fault. -/
def St (T : Nat) (W : World) (p : Nat) (b : List Nat) (f : Nat) : Prop :=
  ∃ a cap, W.heap[p]? = some (.cells #[.slice a b.length cap, .int .i64 (f : Int)] T (0, 0)) ∧ b.length ≤ cap ∧ cap ≤ maxLen ∧ Bs b ∧ (a = none → cap = 0) ∧
    (0 < b.length → ∃ g off, a = some ⟨g, off, none⟩ ∧ g < p ∧ ∀ j (h : j < b.length), W.cell? ⟨g, off + j, none⟩ = some (.int .u8 (b[j] : Int)))

theorem St.bs {T : Nat} {W : World} {p : Nat} {b : List Nat} {f : Nat} (h : St T W p b f) : Bs b := by obtain ⟨_, _, _, _, _, h, _⟩ := h; exact h
theorem St.lt {T : Nat} {W : World} {p : Nat} {b : List Nat} {f : Nat} (h : St T W p b f) : p < W.heap.size := by obtain ⟨_, _, h, _⟩ := h; exact (Array.getElem?_eq_some_iff.1 h).1
theorem St.kept {T : Nat} {W W' : World} {p B : Nat} {b : List Nat} {f : Nat} (h : St T W p b f) (hb : Below B W W') (hp : p < B) : St T W' p b f := by
  obtain ⟨a, cap, h1, h2, h3, h4, h5, h6⟩ := h
  refine ⟨a, cap, (hb.block p hp).trans h1, h2, h3, h4, h5, fun h0 => ?_⟩
  obtain ⟨g, off, e, hg, hc⟩ := h6 h0
  exact ⟨g, off, e, hg, fun j hj => (hb.cell (p := ⟨g, off + j, none⟩) (show g < B by omega)).trans (hc j hj)⟩

theorem St.cells {T : Nat} {W : World} {p : Nat} {b : List Nat} {f : Nat} (h : St T W p b f) :
    ∃ a cap, W.cell? ⟨p, 0, none⟩ = some (.slice a b.length cap) ∧ W.cell? ⟨p, 1, none⟩ = some (.int .i64 (f : Int)) ∧ W.frozen? ⟨p, 0, none⟩ = false ∧ W.frozen? ⟨p, 1, none⟩ = false ∧
      b.length ≤ cap ∧ cap ≤ 9223372036854775807 ∧ Sv W (.slice a b.length cap) (vals .u8 b) ∧ (a = none → cap = 0) ∧
      (∀ f' : Nat, St T (W.setCell ⟨p, 1, none⟩ (.int .i64 (f' : Int))) p b f') ∧
      (∀ A k, k ≤ b.length → (k = b.length → (A = none → cap - k = 0)) → (k < b.length → ∃ g off, a = some ⟨g, off, none⟩ ∧ A = some ⟨g, off + k, none⟩) → St T (W.setCell ⟨p, 0, none⟩ (.slice A (b.length - k) (cap - k))) p (b.drop k) f) := by
  have hlt := h.lt
  obtain ⟨a, cap, h1, h2, h3, h4, h5, h6⟩ := h
  have hsv : Sv W (.slice a b.length cap) (vals .u8 b) := by
    refine ⟨a, cap, by rw [vals_length], by rw [vals_length]; omega, h3, h5, fun h0 => ?_⟩
    rw [vals_length] at h0
    obtain ⟨g, off, e, hg, hc⟩ := h6 h0
    refine ⟨g, off, e, by omega, fun j x hj => ?_⟩
    have hj' : j < b.length := by
      have := (List.getElem?_eq_some_iff.1 hj).1
      rwa [vals_length] at this
    rw [vals_get hj'] at hj
    rw [hc j hj']
    exact hj
  refine ⟨a, cap, by rw [cell_block h1]; rfl, by rw [cell_block h1]; rfl, by simp [World.frozen?, h1], by simp [World.frozen?, h1], h2, by unfold maxLen at h3; omega, hsv, h5, fun f' => ?_, fun A k hk hA0 hA1 => ?_⟩
  · refine ⟨a, cap, by rw [heap_set h1]; rfl, h2, h3, h4, h5, fun h0 => ?_⟩
    obtain ⟨g, off, e, hg, hc⟩ := h6 h0
    refine ⟨g, off, e, hg, fun j hj => ?_⟩
    rw [World.cell?_of_block (w := W) (Below.heap_setCell _ _ _ _ (show g ≠ p by omega))]
    exact hc j hj
  · have hl : (b.drop k).length = b.length - k := List.length_drop
    refine ⟨A, cap - k, by rw [heap_set h1, hl]; rfl, by omega, by omega, h4.drop k, fun hA => ?_, fun h0 => ?_⟩
    · rcases Nat.lt_or_ge k b.length with hlt | hge
      · obtain ⟨g, off, _, e2⟩ := hA1 hlt
        rw [hA] at e2
        cases e2
      · exact hA0 (by omega) hA
    · have hlt : k < b.length := by omega
      obtain ⟨g, off, e1, e2⟩ := hA1 hlt
      obtain ⟨g', off', e, hg, hc⟩ := h6 (by omega)
      rw [e1] at e
      simp only [Option.some.injEq, Addr.mk.injEq, and_true] at e
      obtain ⟨rfl, rfl⟩ := e
      refine ⟨g, off + k, e2, hg, fun j hj => ?_⟩
      rw [World.cell?_of_block (w := W) (Below.heap_setCell _ _ _ _ (show g ≠ p by omega)), Nat.add_assoc, hc (k + j) (by omega)]
      simp

set_option maxRecDepth 100000 in
theorem refuse_any {w : World} {p f : Nat} {b : List Nat} (h : St 86 w p b f) (e : Nat) :
    Calls Try.prog 48 #[.pointer (some ⟨p, 0, none⟩), .int .i64 (e : Int)] w fun r w' => r = .returned (.tuple #[]) ∧ St 86 w' p b (orf f e) ∧ Fr p w.heap.size w w' := by
  have HS := hidden h
  obtain ⟨a, cap, h0, h1, h2, h3, h4, h5, h6, h7, h8, h9⟩ := h.cells
  have H8 := hidden (h8 e)
  have HF := hidden ((Fr.refl p w.heap.size w).set 1 (.int .i64 (e : Int)))
  clear h h6 h8 h9
  by_cases hf : ((f : Int) == 0) = true
  · have hf' : f = 0 := by simpa using hf
    have HO : Hid (orf f e = e) := by show _ = _; unfold orf; rw [if_pos hf']
    clear hf'
    go_enter Try.func48, Try.ntmps48
    go_wp2_with fail
    go_end0
    rw [HO.out]
    exact ⟨rfl, H8.out, HF.out⟩
  · have hff : ((f : Int) == 0) = false := by simpa using hf
    have HO : Hid (orf f e = f) := by show _ = _; unfold orf; rw [if_neg (fun e => hf (by simp [e]))]
    clear hf
    go_enter Try.func48, Try.ntmps48
    go_wp2_with fail
    go_end0
    rw [HO.out]
    exact ⟨rfl, HS.out, Fr.refl _ _ _⟩

/-- What a method of a reader leaves: what it told, by the model's reader m. -/
def RdPost (T : Nat) {α : Type} (m : List Nat → Except Nat (α × List Nat)) (val : α → Value) (ok : α → Prop) (p : Nat) (b : List Nat) (f : Nat) (w : World) (r : Ending) (w' : World) : Prop :=
  ∃ (x : α) (b' : List Nat) (f' : Nat), r = .returned (val x) ∧ ok x ∧ St T w' p b' f' ∧ Rds m b f x b' f' ∧ Fr p w.heap.size w w'

theorem rds_num_err {room : Nat} {l : List Nat} {f : Nat} (hc : (gt l).2.2 ≠ 0) : Rds (numU room) l f 0 l (orf f (gt l).2.2) := by
  have h := rds_num (room := room) (l := l) (f := f)
  rw [if_pos (Or.inl hc), if_pos (Or.inl hc), if_pos hc] at h
  exact h
theorem rds_num_room {room : Nat} {l : List Nat} {f : Nat} (hc : (gt l).2.2 = 0) (hn : room < (gt l).1) : Rds (numU room) l f 0 l (orf f 40) := by
  have h := rds_num (room := room) (l := l) (f := f)
  rw [if_pos (Or.inr hn), if_pos (Or.inr hn), if_neg (show ¬ (gt l).2.2 ≠ 0 by omega), if_pos hn] at h
  exact h
theorem rds_num_ok {room : Nat} {l : List Nat} {f : Nat} (hc : (gt l).2.2 = 0) (hn : ¬ room < (gt l).1) : Rds (numU room) l f (gt l).1 (l.drop (gt l).2.1) f := by
  have h := rds_num (room := room) (l := l) (f := f)
  have h2 : ¬ ((gt l).2.2 ≠ 0 ∨ room < (gt l).1) := by omega
  rw [if_neg h2, if_neg h2, if_neg (show ¬ (gt l).2.2 ≠ 0 by omega), if_neg hn, show (if f = 0 then 0 else f) = f by split <;> omega] at h
  exact h

theorem gt_used {b : List Nat} (h : (gt b).2.2 = 0) (hb : Bs b) : 0 < (gt b).2.1 ∧ (gt b).2.1 ≤ b.length := by
  obtain ⟨n, u, c, hg⟩ : ∃ n u c, gt b = (n, u, c) := ⟨_, _, _, rfl⟩
  rw [hg] at h ⊢
  simp only at h
  subst h
  obtain ⟨_, h2, h3⟩ := gt_ok hb hg
  have := uv_pos n
  have h4 := congrArg List.length h2
  simp only [List.length_append, List.length_drop] at h4
  simp only
  omega

set_option maxRecDepth 100000 in
set_option maxHeartbeats 4000000 in
theorem number_any {w : World} {p f : Nat} {b : List Nat} (h : St 86 w p b f) (room : Nat) (hroom : room < 18446744073709551616) :
    Calls Try.prog 59 #[.pointer (some ⟨p, 0, none⟩), .int .u64 (room : Int)] w (RdPost 86 (numU room) (fun x => .int .u64 ((x : Nat) : Int)) (fun x => x ≤ room) p b f w) := by
  have HS := hidden h
  have HB := hidden h.bs
  have HR1 := hidden (rds_num_err (room := room) (l := b) (f := f))
  have HR2 := hidden (rds_num_room (room := room) (l := b) (f := f))
  have HR3 := hidden (rds_num_ok (room := room) (l := b) (f := f))
  obtain ⟨a, cap, h0, h1, h2, h3, h4, h5, h6, h7, h8, h9⟩ := h.cells
  obtain ⟨g1, g2, g3, g4⟩ := gt_form b
  have HG := hidden (get_sv HB.out h6)
  have HU := hidden (fun e => gt_used (b := b) e HB.out)
  have HSV := hidden h6
  have H9 := hidden h9
  clear h h6 h8 h9 g3
  generalize gt b = x at *
  obtain ⟨n, u, c⟩ := x
  simp only at *
  unfold tell at HG
  by_cases hc : c = 0
  · subst hc
    by_cases hn : room < n
    · have hn' : (n : Int) > (room : Int) := by omega
      have HR := hidden (HR2.out rfl hn)
      clear HR1 HR2 HR3
      go_enter Try.func59, Try.ntmps59
      go_wp2_with fail
      refine HG.out.mono ?_
      rintro e w1 ⟨rfl, rfl⟩
      go_wp2_with fail
      refine (refuse_any HS.out 40).mono ?_
      rintro e w2 ⟨rfl, hs2, hf2⟩
      have HS2 := hidden hs2
      clear hs2
      go_wp2_with fail
      go_ret
      exact ⟨0, b, _, rfl, Nat.zero_le _, HS2.out, HR.out, hf2⟩
    · have hn' : ¬ (n : Int) > (room : Int) := by omega
      have HR := hidden (HR3.out rfl hn)
      clear HR1 HR2 HR3
      obtain ⟨hu1, hu2⟩ := HU.out rfl
      have hbl : 0 < b.length := by omega
      obtain ⟨g, off, ha⟩ : ∃ g off, a = some ⟨g, off, none⟩ := by
        obtain ⟨a', cap', e, _, _, _, hx⟩ := HSV.out
        simp only [Value.slice.injEq] at e
        obtain ⟨b', off', e2, _⟩ := hx (by rw [vals_length]; exact hbl)
        exact ⟨b', off', e.1.trans e2⟩
      subst ha
      obtain ⟨A, hA⟩ : ∃ A, (if cap = u then (some ⟨g, off, none⟩ : Option Addr) else some ⟨g, off + u, none⟩) = A := ⟨_, rfl⟩
      have HST := hidden (H9.out A u hu2 (fun hk hA' => by
        rw [hA'] at hA
        split at hA <;> cases hA) (fun hk => ⟨g, off, rfl, by rw [← hA, if_neg (by omega)]⟩))
      have HFR := hidden ((Fr.refl p w.heap.size w).set 0 (.slice A (b.length - u) (cap - u)))
      clear hbl
      go_enter Try.func59, Try.ntmps59
      go_wp2_with fail
      refine HG.out.mono ?_
      rintro e w1 ⟨rfl, rfl⟩
      go_wp2_with fail
      go_ret
      exact ⟨n, b.drop u, f, rfl, by omega, HST.out, HR.out, HFR.out⟩
  · have hnz : n = 0 := by omega
    subst hnz
    have hc' : ((c : Int) != 0) = true := by simp [hc]
    have hn' : ¬ (0 : Int) > (room : Int) := by omega
    have HR := hidden (HR1.out hc)
    clear hc HR1 HR2 HR3
    go_enter Try.func59, Try.ntmps59
    go_wp2_with fail
    refine HG.out.mono ?_
    rintro e w1 ⟨rfl, rfl⟩
    go_wp2_with fail
    refine (refuse_any HS.out c).mono ?_
    rintro e w2 ⟨rfl, hs2, hf2⟩
    have HS2 := hidden hs2
    clear hs2
    go_wp2_with fail
    go_ret
    exact ⟨0, b, _, rfl, Nat.zero_le _, HS2.out, HR.out, hf2⟩
end Go.Proofs.Ytkohejjkpofmgaa
