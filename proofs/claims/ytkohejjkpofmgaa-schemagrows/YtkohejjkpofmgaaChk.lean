/- Contracts: fault, Check, isFull, Clone, Add. -/
import Derived.Test.YtkohejjkpofmgaaFree
set_option linter.unusedVariables false
set_option linter.unusedSimpArgs false
namespace Go.Proofs.Ytkohejjkpofmgaa
open Go.RowKit Go.Lib

theorem cell_new4 (w : World) (x y z u : Value) (t : Nat) : (w.alloc (.cells #[x, y, z, u] t)).cell? ⟨w.heap.size, 0, none⟩ = some x ∧ (w.alloc (.cells #[x, y, z, u] t)).cell? ⟨w.heap.size, 1, none⟩ = some y ∧ (w.alloc (.cells #[x, y, z, u] t)).cell? ⟨w.heap.size, 2, none⟩ = some z ∧ (w.alloc (.cells #[x, y, z, u] t)).cell? ⟨w.heap.size, 3, none⟩ = some u := by
  have h := heap_alloc_new w (.cells #[x, y, z, u] t)
  exact ⟨by rw [cell_block h]; rfl, by rw [cell_block h]; rfl, by rw [cell_block h]; rfl, by rw [cell_block h]; rfl⟩
theorem cell_new2 (w : World) (x y : Value) (t : Nat) : (w.alloc (.cells #[x, y] t)).cell? ⟨w.heap.size, 0, none⟩ = some x ∧ (w.alloc (.cells #[x, y] t)).cell? ⟨w.heap.size, 1, none⟩ = some y := by
  have h := heap_alloc_new w (.cells #[x, y] t)
  exact ⟨by rw [cell_block h]; rfl, by rw [cell_block h]; rfl⟩
theorem sf_drewN {W : World} {v : Value} {l : List Fd} (h : Sf W v l) (n : Nat) : Sf (W.drewN n) v l := h.kept (below_drewN (Below.refl _ _) n)

set_option maxRecDepth 100000 in
set_option maxHeartbeats 4000000 in
theorem fault_any {w : World} {v : Value} {l : List Fd} (hs : Sf w v l) (f : Fd) : Calls Try.prog 39 #[v, aggF f] w fun e w' => e = .returned (.int .i64 (faultM l f : Int)) ∧ Below w.heap.size w w' := by
  unfold aggF
  obtain ⟨i, n, k, nd⟩ := f
  simp only
  have HM : Hid (faultM l (i, n, k, nd) = if i ≤ lastI l then 81 else if free l n = false then 80 else if kindB k = false then 10 else if (nd != decide (l.length = 0)) = true ∨ (l.length = 0 ∧ k = 2) then 82 else 0) := hidden rfl
  generalize faultM l (i, n, k, nd) = R at *
  have HS := hidden (hs.kept (below_one w (.cells #[.int .u32 (i : Int), .string n, .int .u8 (k : Int), .bool nd] 67)))
  have HB0 := hidden (below_one w (.cells #[.int .u32 (i : Int), .string n, .int .u8 (k : Int), .bool nd] 67))
  obtain ⟨c0, c1, c2, c3⟩ := cell_new4 w (.int .u32 (i : Int)) (.string n) (.int .u8 (k : Int)) (.bool nd) 67
  have C1 := hidden c1
  have C2 := hidden c2
  have C3 := hidden c3
  have hz : w.heap.size < (w.alloc (.cells #[.int .u32 (i : Int), .string n, .int .u8 (k : Int), .bool nd] 67)).heap.size := by rw [World.size_alloc]; omega
  clear c1 c2 c3
  generalize hW : w.alloc (.cells #[.int .u32 (i : Int), .string n, .int .u8 (k : Int), .bool nd] 67) = W at *
  have HL := hidden (fun m => lastId_any (sf_drewN HS.out m))
  have HFR := hidden (fun m => nameIsFree_any (sf_drewN HS.out m) n)
  obtain ⟨a, cap, rfl, hcap, hcm⟩ := hs.form
  have HKK := hidden (ofFields_any k)
  obtain ⟨ky, hky⟩ : ∃ ky, ((l.length : Int) == 0) = ky := ⟨_, rfl⟩
  have HD : Hid (decide (l.length = 0) = ky) := hidden (by
    rw [← hky]
    by_cases h : l.length = 0
    · rw [decide_eq_true h]; simp [h]
    · rw [decide_eq_false h]; simp [h])
  have HLB : Hid ((l.length = 0) ↔ ky = true) := hidden (by rw [← hky]; simp)
  rw [HD.out] at HM
  clear hs hcap hcm
  have HLI := hidden (show lastI l = lastI l from rfl)
  generalize lastI l = la at *
  have hle : ((i : Int) ≤ (la : Int)) ↔ i ≤ la := by omega
  go_enter Try.func39, Try.ntmps39
  go_wp2_with fail
  try rw [hW]
  clear hW
  by_cases hi : i ≤ la
  · have hi' : (i : Int) ≤ (la : Int) := by omega
    rw [if_pos hi] at HM
    clear hle hi
    go_quiet ((go_at_call 35; exact Calls.quiet_of_same (HL.out _)))
    go_wp2_with fail
    go_ret
    rw [HM.out]
    exact ⟨rfl, below_drewN HB0.out _⟩
  · have hi' : ¬ (i : Int) ≤ (la : Int) := by omega
    rw [if_neg hi] at HM
    clear hle hi
    go_quiet ((go_at_call 35; exact Calls.quiet_of_same (HL.out _)))
    have c1 := C1.out
    go_wp2_with fail
    refine (HFR.out _).mono ?_
    rintro e w1 ⟨rfl, hb1⟩
    have hbW := (below_drewN (Below.refl W.heap.size W) _).trans hb1
    have HB1 := hidden (below_then HB0.out hbW)
    have c2 := (hbW.cell (p := ⟨w.heap.size, 2, none⟩) hz).trans C2.out
    have c3 := (hbW.cell (p := ⟨w.heap.size, 3, none⟩) hz).trans C3.out
    have C3' := hidden c3
    clear hb1 hbW c0 c1
    by_cases hf : free l n = false
    · rw [if_pos hf] at HM
      rw [hf]
      clear hf c2 c3
      go_wp2_with fail
      go_ret
      rw [HM.out]
      exact ⟨rfl, HB1.out⟩
    · rw [if_neg hf] at HM
      have hf' : free l n = true := by simpa using hf
      rw [hf']
      clear hf hf' c3
      go_wp2_with fail
      refine (HKK.out _).mono ?_
      rintro e w2 ⟨rfl, rfl⟩
      by_cases hk : kindB k = false
      · rw [if_pos hk] at HM
        rw [hk]
        clear hk
        go_wp2_with fail
        go_ret
        rw [HM.out]
        exact ⟨rfl, HB1.out⟩
      · rw [if_neg hk] at HM
        have hk' : kindB k = true := by simpa using hk
        rw [hk']
        clear hk hk'
        have c3 := C3'.out
        cases nd
        · cases ky
          · have HR : Hid (R = 0) := by
              show _ = _
              rw [HM.out]
              exact if_neg (fun h => by rcases h with h | ⟨h, _⟩; (· cases h); (· have := HLB.out.1 h; cases this))
            clear HM
            go_wp2_with fail
            go_ret
            rw [HR.out]
            exact ⟨rfl, HB1.out⟩
          · have HR : Hid (R = 82) := by show _ = _; rw [HM.out]; exact if_pos (Or.inl rfl)
            clear HM
            go_wp2_with fail
            go_ret
            rw [HR.out]
            exact ⟨rfl, HB1.out⟩
        · cases ky
          · have HR : Hid (R = 82) := by show _ = _; rw [HM.out]; exact if_pos (Or.inl rfl)
            clear HM
            go_wp2_with fail
            go_ret
            rw [HR.out]
            exact ⟨rfl, HB1.out⟩
          · by_cases h2 : k = 2
            · have HR : Hid (R = 82) := by show _ = _; rw [HM.out]; exact if_pos (Or.inr ⟨HLB.out.2 rfl, h2⟩)
              have h2' : ((k : Int) == 2) = true := by simp; omega
              clear HM h2
              go_wp2_with fail
              go_ret
              rw [HR.out]
              exact ⟨rfl, HB1.out⟩
            · have HR : Hid (R = 0) := by show _ = _; rw [HM.out]; exact if_neg (fun h => by rcases h with h | ⟨_, h⟩; (· cases h); (· exact h2 h))
              have h2' : ((k : Int) == 2) = false := by simp; omega
              clear HM h2
              go_wp2_with fail
              go_ret
              rw [HR.out]
              exact ⟨rfl, HB1.out⟩
end Go.Proofs.Ytkohejjkpofmgaa
