/- Contracts: Great. -/
import Derived.Test.YtkohejjkpofmgaaChk
set_option linter.unusedVariables false
set_option linter.unusedSimpArgs false
namespace Go.Proofs.Ytkohejjkpofmgaa
open Go.RowKit Go.Lib

theorem szs_min {l : List Fd} {i n : Nat} (h : i < l.length) (hn : n = szs (l.take i)) : szs (l.take (i + 1)) = n + l[i].2.1.size := by rw [szs_take_succ h, hn]

/-- What Great tells. -/
def GreatPost (w : World) (l : List Fd) (e : Ending) (w' : World) : Prop := (∃ g : Bool, e = .returned (.bool g) ∧ (g = false → l.length ≤ 100 ∧ szs l < 5000)) ∧ Below w.heap.size w w'

set_option maxRecDepth 100000 in
set_option maxHeartbeats 4000000 in
theorem great_any {w : World} {v : Value} {l : List Fd} (hs : Sf w v l) (id : Nat) : Calls Try.prog 10 #[.agg #[.int .u32 (id : Int), v]] w (GreatPost w l) := by
  obtain ⟨a, cap, rfl, hcap, hcm⟩ := hs.form
  have HB0 := hidden (below_one w (.cells #[.int .u32 (id : Int), .slice a l.length cap] 25))
  have HS := hidden (hs.kept (below_one w (.cells #[.int .u32 (id : Int), .slice a l.length cap] 25)))
  obtain ⟨c0, c1⟩ := cell_new2 w (.int .u32 (id : Int)) (.slice a l.length cap) 25
  clear hs
  generalize hW : w.alloc (.cells #[.int .u32 (id : Int), .slice a l.length cap] 25) = W at *
  go_enter Try.func10, Try.ntmps10
  go_wp2_with fail
  try rw [hW]
  clear hW
  go_loopw [3, 4] (fun n i wr => ∃ k s : Nat, wr = W ∧ k ≤ l.length ∧ k ≤ 100 ∧ i = .int .i64 (k : Int) ∧ n = .int .i64 (s : Int) ∧ s < 10000 ∧ (s < 5000 → s = szs (l.take k))) (fun _ i _ => l.length - (intOf i).toNat)
  case atStart => exact ⟨0, 0, rfl, by omega, by omega, rfl, rfl, by omega, fun _ => by simp [szs]⟩
  case round =>
    obtain ⟨k, s, rfl, hk, hk100, rfl, rfl, hs1, hs2⟩ := hrel
    have HS2 := hidden hs2
    clear hs2
    by_cases hlt : k < l.length
    · have hlt' : (k : Int) < (l.length : Int) := by omega
      by_cases hk1 : (k : Int) < 100
      · by_cases hs5 : (s : Int) < 5000
        · obtain ⟨b, off, rfl, hb, x0, x1, x2, x3⟩ := HS.out.at hlt
          have HSZ := hidden (szs_take_succ hlt)
          have HSE := hidden (HS2.out (by omega))
          generalize l[k].2.1 = nm at *
          have hmin : ∃ q : Nat, min (nm.size : Int) 5000 = (q : Int) ∧ q ≤ 5000 ∧ (q < 5000 → q = nm.size) := ⟨min nm.size 5000, by omega, by omega, by omega⟩
          obtain h | h | h : (nm.size : Int) < 5000 ∨ (nm.size : Int) = 5000 ∨ (5000 : Int) < (nm.size : Int) := by omega
          · have h2 : ¬ (5000 : Int) < (nm.size : Int) := by omega
            have h3 : ((nm.size : Int) == 5000) = false := beq_eq_false_iff_ne.2 (by omega)
            have h4 : (nm.size : Int) ≤ 5000 := by omega
            have h5 : ¬ (5000 : Int) ≤ (nm.size : Int) := by omega
            clear hmin
            go_wp2_with fail
            go_roundw
            case rel => exact ⟨k + 1, s + nm.size, trivial, by omega, by omega, by go_num, by go_num, by omega, fun _ => by rw [HSZ.out, HSE.out]⟩
            case measure => simp [intOf]; omega
          · clear hmin
            go_wp2_with fail
            go_roundw
            case rel => exact ⟨k + 1, s + 5000, trivial, by omega, by omega, by go_num, by go_num, by omega, fun h => by omega⟩
            case measure => simp [intOf]; omega
          · have h2 : ¬ (nm.size : Int) < 5000 := by omega
            have h3 : ((nm.size : Int) == 5000) = false := beq_eq_false_iff_ne.2 (by omega)
            have h4 : (5000 : Int) ≤ (nm.size : Int) := by omega
            have h5 : ¬ (nm.size : Int) ≤ 5000 := by omega
            clear hmin
            go_wp2_with fail
            go_roundw
            case rel => exact ⟨k + 1, s + 5000, trivial, by omega, by omega, by go_num, by go_num, by omega, fun h => by omega⟩
            case measure => simp [intOf]; omega
        · by_cases hl : (l.length : Int) > 100
          · go_wp2_with fail
            go_ret
            exact ⟨⟨true, rfl, fun h => by cases h⟩, HB0.out⟩
          · have hs6 : (s : Int) ≥ 5000 := by omega
            go_wp2_with fail
            go_ret
            exact ⟨⟨true, rfl, fun h => by cases h⟩, HB0.out⟩
      · have hl : (l.length : Int) > 100 := by omega
        go_wp2_with fail
        go_ret
        exact ⟨⟨true, rfl, fun h => by cases h⟩, HB0.out⟩
    · obtain rfl : k = l.length := by omega
      have hge : ¬ ((l.length : Nat) : Int) < (l.length : Int) := by omega
      have hl : ¬ (l.length : Int) > 100 := by omega
      by_cases hs6 : (s : Int) ≥ 5000
      · go_wp2_with fail
        go_ret
        exact ⟨⟨true, rfl, fun h => by cases h⟩, HB0.out⟩
      · have h2 := HS2.out
        rw [List.take_length] at h2
        have H2 := hidden (h2 (by omega))
        clear h2
        go_wp2_with fail
        go_ret
        exact ⟨⟨false, rfl, fun h => ⟨by omega, by rw [← H2.out]; omega⟩⟩, HB0.out⟩
end Go.Proofs.Ytkohejjkpofmgaa
