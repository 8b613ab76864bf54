/- Contracts: the document's reader of numbers. -/
import Derived.Test.YtkohejjkpofmgaaRdr
set_option linter.unusedVariables false
set_option linter.unusedSimpArgs false
namespace Go.Proofs.Ytkohejjkpofmgaa
open Go.RowKit Go.Lib

def RawSt (T : Nat) (W : World) (p : Nat) (b : List Nat) (f : Nat) (a : Option Addr) (cap : Nat) : Prop :=
  W.heap[p]? = some (.cells #[.slice a b.length cap, .int .i64 (f : Int)] T (0, 0)) ∧ b.length ≤ cap ∧ cap ≤ maxLen ∧ Bs b ∧ (a = none → cap = 0) ∧
    (0 < b.length → ∃ g off, a = some ⟨g, off, none⟩ ∧ g < p ∧ ∀ j (h : j < b.length), W.cell? ⟨g, off + j, none⟩ = some (.int .u8 (b[j] : Int)))
theorem RawSt.st {T : Nat} {W : World} {p f cap : Nat} {b : List Nat} {a : Option Addr} (h : RawSt T W p b f a cap) : St T W p b f := ⟨a, cap, h⟩
theorem RawSt.set1 {T : Nat} {W : World} {p f cap : Nat} {b : List Nat} {a : Option Addr} (h : RawSt T W p b f a cap) (f' : Nat) : RawSt T (W.setCell ⟨p, 1, none⟩ (.int .i64 (f' : Int))) p b f' a cap := by
  obtain ⟨h1, h2, h3, h4, h5, h6⟩ := h
  refine ⟨by rw [heap_set h1]; rfl, h2, h3, h4, h5, fun h0 => ?_⟩
  obtain ⟨g, off, e, hg, hc⟩ := h6 h0
  refine ⟨g, off, e, hg, fun j hj => ?_⟩
  rw [World.cell?_of_block (w := W) (Below.heap_setCell _ _ _ _ (show g ≠ p by omega))]
  exact hc j hj
theorem RawSt.drop {T : Nat} {W : World} {p f cap : Nat} {b : List Nat} {a : Option Addr} (h : RawSt T W p b f a cap) (A : Option Addr) (k : Nat) (hk : k ≤ b.length) (hA0 : k = b.length → (A = none → cap - k = 0)) (hA1 : k < b.length → ∃ g off, a = some ⟨g, off, none⟩ ∧ A = some ⟨g, off + k, none⟩) :
    St T (W.setCell ⟨p, 0, none⟩ (.slice A (b.length - k) (cap - k))) p (b.drop k) f := by
  obtain ⟨h1, h2, h3, h4, h5, h6⟩ := h
  have hl : (b.drop k).length = b.length - k := List.length_drop
  refine ⟨A, cap - k, by rw [heap_set h1, hl]; rfl, by omega, by omega, h4.drop k, fun hA => ?_, fun h0 => ?_⟩
  · rcases Nat.lt_or_ge k b.length with hlt | hge
    · obtain ⟨g, off, _, e2⟩ := hA1 hlt
      rw [hA] at e2
      cases e2
    · exact hA0 (by omega) hA
  · have hlt : k < b.length := by omega
    obtain ⟨g, off, e1, e2⟩ := hA1 hlt
    obtain ⟨g', off', e, hg, hc⟩ := h6 (by omega)
    rw [e1] at e
    simp only [Option.some.injEq, Addr.mk.injEq, and_true] at e
    obtain ⟨rfl, rfl⟩ := e
    refine ⟨g, off + k, e2, hg, fun j hj => ?_⟩
    rw [World.cell?_of_block (w := W) (Below.heap_setCell _ _ _ _ (show g ≠ p by omega)), Nat.add_assoc, hc (k + j) (by omega)]
    simp

theorem St.cells2 {T : Nat} {W : World} {p : Nat} {b : List Nat} {f : Nat} (h : St T W p b f) :
    ∃ a cap, W.cell? ⟨p, 0, none⟩ = some (.slice a b.length cap) ∧ W.cell? ⟨p, 1, none⟩ = some (.int .i64 (f : Int)) ∧ W.frozen? ⟨p, 0, none⟩ = false ∧ W.frozen? ⟨p, 1, none⟩ = false ∧
      b.length ≤ cap ∧ cap ≤ 9223372036854775807 ∧ Sv W (.slice a b.length cap) (vals .u8 b) ∧ (a = none → cap = 0) ∧ RawSt T W p b f a cap := by
  have hlt := h.lt
  obtain ⟨a, cap, h1, h2, h3, h4, h5, h6⟩ := h
  have hsv : Sv W (.slice a b.length cap) (vals .u8 b) := by
    refine ⟨a, cap, by rw [vals_length], by rw [vals_length]; omega, h3, h5, fun h0 => ?_⟩
    rw [vals_length] at h0
    obtain ⟨g, off, e, hg, hc⟩ := h6 h0
    refine ⟨g, off, e, by omega, fun j x hj => ?_⟩
    have hj' : j < b.length := by
      have := (List.getElem?_eq_some_iff.1 hj).1
      rwa [vals_length] at this
    rw [vals_get hj'] at hj
    rw [hc j hj']
    exact hj
  exact ⟨a, cap, by rw [cell_block h1]; rfl, by rw [cell_block h1]; rfl, by simp [World.frozen?, h1], by simp [World.frozen?, h1], h2, by unfold maxLen at h3; omega, hsv, h5, h1, h2, h3, h4, h5, h6⟩

set_option maxRecDepth 100000 in
set_option maxHeartbeats 4000000 in
theorem refNum_any {w : World} {p f : Nat} {b : List Nat} (h : St 63 w p b f) (room : Nat) (hroom : room < 18446744073709551616) :
    Calls Try.prog 50 #[.pointer (some ⟨p, 0, none⟩), .int .u64 (room : Int)] w (RdPost 63 (numU room) (fun x => .int .u64 ((x : Nat) : Int)) (fun x => x ≤ room) p b f w) := by
  have HS := hidden h
  have HB := hidden h.bs
  obtain ⟨a0, cap0, h0, h1, h2, h3, _, _, hsv, _, _⟩ := h.cells2
  by_cases hf0 : f = 0
  · have hf : ((f : Int) != 0) = false := by simp [hf0]
    have HR1 := hidden (rds_num_err (room := room) (l := b) (f := f))
    have HR2 := hidden (rds_num_room (room := room) (l := b) (f := f))
    have HR3 := hidden (rds_num_ok (room := room) (l := b) (f := f))
    have HF0 := hidden hf0
    obtain ⟨g1, g2, g3, g4⟩ := gt_form b
    have HG := hidden (refGet_sv HB.out hsv)
    have HU := hidden (fun e => gt_used (b := b) e HB.out)
    clear h hsv g3 hf0
    generalize gt b = x at *
    obtain ⟨n, u, c⟩ := x
    simp only at *
    unfold tell at HG
    by_cases hc : c = 0
    · subst hc
      by_cases hn : room < n
      · have hn' : (n : Int) > (room : Int) := by omega
        have HR := hidden (HR2.out rfl hn)
        clear HR1 HR2 HR3
        go_enter Try.func50, Try.ntmps50
        go_wp2_with fail
        refine HG.out.mono ?_
        rintro e w1 ⟨rfl, hb1⟩
        have HB1 := hidden hb1
        have HS1 := hidden (HS.out.kept hb1 HS.out.lt)
        clear hb1 h0 h1 h2 h3
        obtain ⟨a, cap, h0, h1, h2, h3, h4, h5, _, h7, hraw⟩ := HS1.out.cells2
        have HST := hidden (hraw.set1 40).st
        have HFR := hidden ((Fr.of_below (p := p) HB1.out).set 1 (.int .i64 ((40 : Nat) : Int)))
        clear hraw
        go_wp2_with fail
        go_ret
        exact ⟨0, b, 40, rfl, Nat.zero_le _, HST.out, by have h := HR.out; rw [HF0.out] at h ⊢; exact h, HFR.out⟩
      · have hn' : ¬ (n : Int) > (room : Int) := by omega
        have HR := hidden (HR3.out rfl hn)
        clear HR1 HR2 HR3
        obtain ⟨hu1, hu2⟩ := HU.out rfl
        have hbl : 0 < b.length := by omega
        go_enter Try.func50, Try.ntmps50
        go_wp2_with fail
        refine HG.out.mono ?_
        rintro e w1 ⟨rfl, hb1⟩
        have HB1 := hidden hb1
        have HS1 := hidden (HS.out.kept hb1 HS.out.lt)
        clear hb1 h0 h1 h2 h3
        obtain ⟨a, cap, h0, h1, h2, h3, h4, h5, hsv, h7, hraw⟩ := HS1.out.cells2
        obtain ⟨g, off, ha⟩ : ∃ g off, a = some ⟨g, off, none⟩ := by
          obtain ⟨g, off, e, _⟩ := hraw.2.2.2.2.2 hbl
          exact ⟨g, off, e⟩
        subst ha
        obtain ⟨A, hA⟩ : ∃ A, (if cap = u then (some ⟨g, off, none⟩ : Option Addr) else some ⟨g, off + u, none⟩) = A := ⟨_, rfl⟩
        have HST := hidden ((hraw.set1 0).drop A u hu2 (fun hk hA' => by
          rw [hA'] at hA
          split at hA <;> cases hA) (fun hk => ⟨g, off, rfl, by rw [← hA, if_neg (by omega)]⟩))
        have HFR := hidden (((Fr.of_below (p := p) HB1.out).set 1 (.int .i64 ((0 : Nat) : Int))).set 0 (.slice A (b.length - u) (cap - u)))
        clear hraw hsv hbl h7
        go_wp2_with fail
        go_ret
        exact ⟨n, b.drop u, 0, rfl, by omega, HST.out, by have h := HR.out; rw [HF0.out] at h ⊢; exact h, HFR.out⟩
    · have hnz : n = 0 := by omega
      subst hnz
      have hc' : ((c : Int) != 0) = true := by simp [hc]
      have hc2 : ((c : Int) == 0) = false := by simp [hc]
      have HR := hidden (HR1.out hc)
      clear hc HR1 HR2 HR3
      go_enter Try.func50, Try.ntmps50
      go_wp2_with fail
      refine HG.out.mono ?_
      rintro e w1 ⟨rfl, hb1⟩
      have HB1 := hidden hb1
      have HS1 := hidden (HS.out.kept hb1 HS.out.lt)
      clear hb1 h0 h1 h2 h3
      obtain ⟨a, cap, h0, h1, h2, h3, h4, h5, _, h7, hraw⟩ := HS1.out.cells2
      have HST := hidden (hraw.set1 c).st
      have HFR := hidden ((Fr.of_below (p := p) HB1.out).set 1 (.int .i64 (c : Int)))
      clear hraw
      go_wp2_with fail
      go_ret
      exact ⟨0, b, c, rfl, Nat.zero_le _, HST.out, by have h := HR.out; rw [HF0.out] at h ⊢; exact h, HFR.out⟩
  · have hf : ((f : Int) != 0) = true := by simp [hf0]
    have HD := hidden (Rds.dead (m := numU room) (l := b) (l' := b) 0 hf0)
    clear hf0 h hsv
    go_enter Try.func50, Try.ntmps50
    go_wp2_with fail
    go_ret
    exact ⟨0, b, f, rfl, Nat.zero_le _, HS.out, HD.out, Fr.refl _ _ _⟩
end Go.Proofs.Ytkohejjkpofmgaa
