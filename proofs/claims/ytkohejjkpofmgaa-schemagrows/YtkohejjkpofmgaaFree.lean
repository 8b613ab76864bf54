/- Contracts: the document's Named and has; ContainsFunc, IndexFunc and their closure, nameIsFree. -/
import Derived.Test.YtkohejjkpofmgaaNames
import Derived.Test.YtkohejjkpofmgaaFlds
set_option linter.unusedVariables false
set_option linter.unusedSimpArgs false
namespace Go.Proofs.Ytkohejjkpofmgaa
open Go.RowKit Go.Lib

theorem sgn_cell {w : World} {B : Nat} {v : Value} {u : List (Nat × Nat)} (h : w.ownsRow B 3 1 v u.length (sgn u u.length)) : ∃ a cap, v = .slice a u.length cap ∧ u.length ≤ cap ∧ cap ≤ maxLen ∧ ∀ k (hk : k < u.length), ∃ g, a = some ⟨g, 0, none⟩ ∧ w.cell? ⟨g, k, none⟩ = some (.int .i64 (u[k].1 : Int)) := by
  obtain ⟨a, cap, rfl, h1, h2⟩ := own_slice h
  refine ⟨a, cap, rfl, h1, h2, fun k hk => ?_⟩
  obtain ⟨g, cap', e, _, _, hc⟩ := (vown_form h).2 (by omega)
  simp only [Value.slice.injEq] at e
  exact ⟨g, e.1, hc k _ (sgn_get hk)⟩

theorem good_at {u : List (Nat × Nat)} {k : Nat} (hk : k < u.length) : goodFrom k (u.drop k) = (goodB k u[k].1 && goodFrom (k + 1) (u.drop (k + 1))) := by
  rw [List.drop_eq_getElem_cons hk, goodFrom_step]

theorem good_letter {k c : Nat} (h : 97 ≤ c ∧ c ≤ 122 ∨ c = 95 ∨ 127 < c) : goodB k c = true := by
  unfold goodB letterB
  simp
  omega
theorem good_digit {k c : Nat} (h1 : 48 ≤ c) (h2 : c ≤ 57) (hk : 0 < k) : goodB k c = true := by
  unfold goodB digitB
  simp [hk]
  omega
theorem bad_zero {c : Nat} (h : ¬ (97 ≤ c ∧ c ≤ 122 ∨ c = 95 ∨ 127 < c)) : goodB 0 c = false := by
  unfold goodB letterB
  simp
  omega
theorem bad_other {k c : Nat} (h : ¬ (97 ≤ c ∧ c ≤ 122 ∨ c = 95 ∨ 127 < c)) (h2 : ¬ (48 ≤ c ∧ c ≤ 57)) : goodB k c = false := by
  unfold goodB letterB digitB
  simp
  omega

set_option maxRecDepth 100000 in
set_option maxHeartbeats 4000000 in
theorem named_any (s : ByteArray) (w : World) : Calls Try.prog 37 #[.string s] w fun e w' => e = .returned (.bool (named s)) ∧ Below w.heap.size w w' := by
  by_cases h1 : (s.size : Int) < 1
  · have HN : Hid (named s = false) := hidden (by unfold named; rw [decide_eq_false (by omega)]; rfl)
    go_enter Try.func37, Try.ntmps37
    go_wp2_with fail
    go_ret
    rw [HN.out]
    exact ⟨rfl, Below.refl _ _⟩
  · by_cases h2 : (s.size : Int) > 16
    · have HN : Hid (named s = false) := hidden (by unfold named; rw [decide_eq_false (by omega)]; rfl)
      go_enter Try.func37, Try.ntmps37
      go_wp2_with fail
      go_ret
      rw [HN.out]
      exact ⟨rfl, Below.refl _ _⟩
    · have HN : Hid (named s = (clean (lb s) && goodFrom 0 (V (lb s)))) := hidden (by unfold named; rw [decide_eq_true (by omega)]; rfl)
      have HC := hidden (signs_any s (by omega))
      have hV := V_le (lb s)
      have hL := lb_size s
      have hV16 : (V (lb s)).length ≤ 16 := by omega
      clear hV hL
      generalize clean (lb s) = cl at *
      generalize V (lb s) = u at *
      go_enter Try.func37, Try.ntmps37
      go_wp2_with fail
      refine (HC.out _).mono ?_
      rintro e w1 ⟨⟨va, vb, rfl, ho1, ho2⟩, hb1⟩
      obtain ⟨a, cap, rfl, hcap, hcm, hcell⟩ := sgn_cell ho1
      have HCE := hidden hcell
      have HB1 := hidden hb1
      have hcm' : cap ≤ 9223372036854775807 := by unfold maxLen at hcm; omega
      clear ho1 ho2 hb1 hcell hcm HC
      go_wp2_with fail
      go_loopw [6] (fun i w' => ∃ k : Nat, w' = w1 ∧ i = .int .i64 (k : Int) ∧ k ≤ u.length ∧ goodFrom 0 u = goodFrom k (u.drop k)) (fun i _ => u.length - (intOf i).toNat)
      case atStart => exact ⟨0, rfl, rfl, by omega, rfl⟩
      case round =>
        obtain ⟨k, rfl, rfl, hk, hgd⟩ := hrel
        have HG := hidden hgd
        clear hgd
        by_cases hlt : k < u.length
        · obtain ⟨g, rfl, hc⟩ := HCE.out k hlt
          have HS := hidden (HG.out.trans (good_at hlt))
          generalize u[k].1 = c at *
          by_cases hA : 97 ≤ c ∧ c ≤ 122 ∨ c = 95 ∨ 127 < c
          · have HK := hidden (good_letter (k := k) hA)
            have hd : (48 ≤ (c : Int) ∧ (c : Int) ≤ 57) ∨ (c : Int) < 48 ∨ ¬ (c : Int) ≤ 57 := by omega
            rcases hA with ⟨q1, q2⟩ | q1 | q1
            · have t1 : (c : Int) ≥ 97 := by omega
              have t2 : (c : Int) ≤ 122 := by omega
              have t3 : (c : Int) ≥ 48 := by omega
              have t4 : ¬ (c : Int) ≤ 57 := by omega
              clear hd
              go_wp2_with fail
              go_roundw
              case rel => exact ⟨k + 1, trivial, by go_num, by omega, by rw [HS.out, HK.out]; rfl⟩
              case measure => simp [intOf]; omega
            · have t0 : ((c : Int) == 95) = true := by simp; omega
              subst q1
              clear hd
              go_wp2_with fail
              go_roundw
              case rel => exact ⟨k + 1, trivial, by go_num, by omega, by rw [HS.out, HK.out]; rfl⟩
              case measure => simp [intOf]; omega
            · have t0 : ((c : Int) == 95) = false := by simp; omega
              have t1 : (c : Int) ≥ 97 := by omega
              have t2 : ¬ (c : Int) ≤ 122 := by omega
              have t3 : (c : Int) ≥ 48 := by omega
              have t4 : ¬ (c : Int) ≤ 57 := by omega
              have t5 : (c : Int) > 127 := by omega
              clear hd
              go_wp2_with fail
              go_roundw
              case rel => exact ⟨k + 1, trivial, by go_num, by omega, by rw [HS.out, HK.out]; rfl⟩
              case measure => simp [intOf]; omega
          · have t0 : ((c : Int) == 95) = false := by simp; omega
            have t5 : ¬ (c : Int) > 127 := by omega
            by_cases hD : 48 ≤ c ∧ c ≤ 57
            · have t1 : ¬ (c : Int) ≥ 97 := by omega
              have t3 : (c : Int) ≥ 48 := by omega
              have t4 : (c : Int) ≤ 57 := by omega
              by_cases hk0 : k = 0
              · subst hk0
                have HK := hidden (bad_zero hA)
                clear hA hD
                go_wp2_with fail
                go_ret
                refine ⟨?_, HB1.out⟩
                rw [HN.out, HS.out, HK.out]
                simp
              · have HK := hidden (good_digit (k := k) hD.1 hD.2 (by omega))
                have hkp : (k : Int) > 0 := by omega
                have hkp2 : 0 < k := by omega
                clear hA hD hk0
                go_wp2_with fail
                go_roundw
                case rel => exact ⟨k + 1, trivial, by go_num, by omega, by rw [HS.out, HK.out]; rfl⟩
                case measure => simp [intOf]; omega
            · have HK := hidden (bad_other (k := k) hA hD)
              have hca : (c : Int) < 48 ∨ (57 < (c : Int) ∧ (c : Int) < 97) ∨ (122 < (c : Int)) := by omega
              clear hA hD
              rcases hca with q | ⟨q, q'⟩ | q
              · have t1 : ¬ (c : Int) ≥ 97 := by omega
                have t3 : ¬ (c : Int) ≥ 48 := by omega
                go_wp2_with fail
                go_ret
                refine ⟨?_, HB1.out⟩
                rw [HN.out, HS.out, HK.out]
                simp
              · have t1 : ¬ (c : Int) ≥ 97 := by omega
                have t3 : (c : Int) ≥ 48 := by omega
                have t4 : ¬ (c : Int) ≤ 57 := by omega
                go_wp2_with fail
                go_ret
                refine ⟨?_, HB1.out⟩
                rw [HN.out, HS.out, HK.out]
                simp
              · have t1 : (c : Int) ≥ 97 := by omega
                have t2 : ¬ (c : Int) ≤ 122 := by omega
                have t3 : (c : Int) ≥ 48 := by omega
                have t4 : ¬ (c : Int) ≤ 57 := by omega
                go_wp2_with fail
                go_ret
                refine ⟨?_, HB1.out⟩
                rw [HN.out, HS.out, HK.out]
                simp
        · obtain rfl : k = u.length := by omega
          have hge : ¬ ((u.length : Nat) : Int) < (u.length : Int) := by omega
          go_wp2_with fail
          go_ret
          refine ⟨?_, HB1.out⟩
          rw [HN.out, HG.out, List.drop_length]
          simp [goodFrom]

set_option maxRecDepth 100000 in
set_option maxHeartbeats 2000000 in
theorem has_any {w : World} {v : Value} {l : List Fd} (hs : Sf w v l) (n : ByteArray) : Calls Try.prog 38 #[v, .string n] w fun e w' => e = .returned (.bool (hasN l n)) ∧ w' = w := by
  have HS := hidden hs
  obtain ⟨a, cap, rfl, hcap, hcm⟩ := hs.form
  clear hs
  go_enter Try.func38, Try.ntmps38
  go_wp2_with fail
  go_loopw [5] (fun i w' => ∃ k : Nat, w' = w ∧ i = .int .i64 (k : Int) ∧ k ≤ l.length ∧ hasN l n = hasN (l.drop k) n) (fun i _ => l.length - (intOf i).toNat)
  case atStart => exact ⟨0, rfl, rfl, by omega, rfl⟩
  case round =>
    obtain ⟨k, rfl, rfl, hk, hgd⟩ := hrel
    have HG := hidden hgd
    clear hgd
    by_cases hlt : k < l.length
    · obtain ⟨b, off, rfl, hb, c0, c1, c2, c3⟩ := HS.out.at hlt
      have HT := hidden (HG.out.trans (hasN_step (n := n) hlt))
      have hlt' : (k : Int) < (l.length : Int) := by omega
      generalize l[k].2.1 = m at *
      have hse := str_eq m n
      clear c0 c2 c3
      by_cases hmn : m = n
      · subst hmn
        have hse' : (m.toList == m.toList) = true := by rw [str_eq]; simp
        clear hse
        go_wp2_with fail
        go_ret
        refine ⟨?_, rfl⟩
        rw [HT.out]
        simp
      · have hse' : (m.toList == n.toList) = false := by rw [str_eq, decide_eq_false hmn]
        have HM := hidden (decide_eq_false hmn)
        clear hse hmn
        go_wp2_with fail
        go_roundw
        case rel => exact ⟨k + 1, trivial, by go_num, by omega, by rw [HT.out, HM.out]; rfl⟩
        case measure => simp [intOf]; omega
    · obtain rfl : k = l.length := by omega
      have hge : ¬ ((l.length : Nat) : Int) < (l.length : Int) := by omega
      go_wp2_with fail
      go_ret
      refine ⟨?_, rfl⟩
      rw [HG.out, List.drop_length]
      rfl

theorem same_any {w : World} (f : Fd) (n : ByteArray) {B : Nat} (hB : B < w.heap.size) (hc : w.cell? ⟨B, 0, none⟩ = some (.string n)) :
    Calls Try.prog 54 #[aggF f, .pointer (some ⟨B, 0, none⟩)] w fun e w' => e = .returned (.bool (decide (f.2.1 = n))) ∧ Below w.heap.size w w' := by
  unfold aggF
  have HE := hidden (str_eq f.2.1 n)
  generalize f.2.1 = m at *
  generalize f.1 = x0 at *
  generalize f.2.2.1 = x2 at *
  generalize f.2.2.2 = x3 at *
  go_enter Try.func54, Try.ntmps54
  go_wp2_with fail
  go_ret
  refine ⟨?_, (Below.refl _ _).alloc (Nat.le_refl _) _⟩
  rw [← HE.out]
  rfl

set_option maxRecDepth 100000 in
set_option maxHeartbeats 2000000 in
theorem index_any {w : World} {v : Value} {l : List Fd} (hs : Sf w v l) (n : ByteArray) {B : Nat} (hB : B < w.heap.size) (hc : w.cell? ⟨B, 0, none⟩ = some (.string n)) :
    Calls Try.prog 65 #[v, .func (.func 54) #[] #[.pointer (some ⟨B, 0, none⟩)]] w fun e w' => (∃ z : Int, e = .returned (.int .i64 z) ∧ decide (z ≥ 0) = hasN l n) ∧ Below w.heap.size w w' := by
  have HS := hidden hs
  have HC := hidden hc
  obtain ⟨a, cap, rfl, hcap, hcm⟩ := hs.form
  clear hs hc
  go_enter Try.func65, Try.ntmps65
  go_wp2_with fail
  go_loopw [8] (fun i w' => ∃ k : Nat, i = .int .i64 (k : Int) ∧ k ≤ l.length ∧ hasN l n = hasN (l.drop k) n ∧ Below w.heap.size w w') (fun i _ => l.length - (intOf i).toNat)
  case atStart => exact ⟨0, rfl, by omega, rfl, Below.refl _ _⟩
  case round =>
    obtain ⟨k, rfl, hk, hgd, hbel⟩ := hrel
    have HG := hidden hgd
    have HB := hidden hbel
    have hzr := hbel.size
    clear hgd hbel
    by_cases hlt : k < l.length
    · obtain ⟨b, off, rfl, hb, c0, c1, c2, c3⟩ := (HS.out.kept HB.out).at hlt
      have HT := hidden (HG.out.trans (hasN_step (n := n) hlt))
      have hlt' : (k : Int) < (l.length : Int) := by omega
      have HSA := hidden (same_any l[k] n (w := wr) (B := B) (by omega) ((HB.out.cell (p := ⟨B, 0, none⟩) hB).trans HC.out))
      unfold aggF at HSA
      generalize decide (l[k].2.1 = n) = d at *
      generalize l[k].1 = x0 at *
      generalize l[k].2.1 = x1 at *
      generalize l[k].2.2.1 = x2 at *
      generalize l[k].2.2.2 = x3 at *
      go_wp2_with fail
      refine HSA.out.mono ?_
      rintro e w2 ⟨rfl, hb2⟩
      have HB2 := hidden (HB.out.trans (hb2.mono hzr))
      clear hb2 c0 c1 c2 c3
      cases d
      · go_wp2_with fail
        go_roundw
        case rel => exact ⟨k + 1, by go_num, by omega, by rw [HT.out]; rfl, HB2.out⟩
        case measure => simp [intOf]; omega
      · go_wp2_with fail
        go_ret
        refine ⟨⟨_, rfl, ?_⟩, HB2.out⟩
        rw [HT.out, Bool.true_or]
        simp
    · obtain rfl : k = l.length := by omega
      have hge : ¬ ((l.length : Nat) : Int) < (l.length : Int) := by omega
      go_wp2_with fail
      go_ret
      refine ⟨⟨_, rfl, ?_⟩, HB.out⟩
      rw [HG.out, List.drop_length]
      rfl

theorem contains_any {w : World} {v : Value} {l : List Fd} (hs : Sf w v l) (n : ByteArray) {B : Nat} (hB : B < w.heap.size) (hc : w.cell? ⟨B, 0, none⟩ = some (.string n)) :
    Calls Try.prog 53 #[v, .func (.func 54) #[] #[.pointer (some ⟨B, 0, none⟩)]] w fun e w' => e = .returned (.bool (hasN l n)) ∧ Below w.heap.size w w' := by
  have HI := hidden (index_any hs n hB hc)
  clear hs hc
  go_enter Try.func53, Try.ntmps53
  go_wp2_with fail
  refine HI.out.mono ?_
  rintro e w1 ⟨⟨z, rfl, hz⟩, hb1⟩
  have HZ := hidden hz
  have HB := hidden hb1
  clear hz hb1
  go_wp2_with fail
  go_ret
  refine ⟨?_, HB.out⟩
  rw [← HZ.out]
  rfl

set_option maxRecDepth 100000 in
set_option maxHeartbeats 2000000 in
theorem nameIsFree_any {w : World} {v : Value} {l : List Fd} (hs : Sf w v l) (n : ByteArray) : Calls Try.prog 33 #[v, .string n] w fun e w' => e = .returned (.bool (free l n)) ∧ Below w.heap.size w w' := by
  have hmf : ∀ (fn : Fn) (first cap : Array Value) (w : World), (Instr.makeFunc fn first cap).run Try.prog w = .ok (.func fn first cap) w := fun _ _ _ _ => rfl
  have HM := hidden (nameMayBe_any n)
  have HS := hidden (hs.kept (below_one w (.cells #[.string n] 9)))
  have HF : Hid (free l n = (named n && !hasN l n)) := hidden rfl
  have HC0 := hidden (cell_new w (.string n) 9)
  clear hs
  go_enter Try.func33, Try.ntmps33
  go_wp2_with fail
  refine (HM.out _).mono ?_
  rintro e w1 ⟨rfl, hb1⟩
  have HS1 := hidden (HS.out.kept hb1)
  have HC1 := hidden ((hb1.cell (p := ⟨w.heap.size, 0, none⟩) (by show w.heap.size < _; rw [World.size_alloc]; omega)).trans HC0.out)
  have hz1 := hb1.size
  rw [World.size_alloc] at hz1
  have HB1 := hidden (below_then (below_one w (.cells #[.string n] 9)) hb1)
  clear hb1
  cases hnm : named n with
  | false =>
    rw [hnm] at HF
    clear hnm
    go_wp2_with fail
    go_ret
    rw [HF.out]
    exact ⟨rfl, HB1.out⟩
  | true =>
    rw [hnm] at HF
    clear hnm
    go_wp2_with fail
    refine (contains_any HS1.out n (B := w.heap.size) (by omega) HC1.out).mono ?_
    rintro e w2 ⟨rfl, hb2⟩
    have HB2 := hidden (below_then HB1.out hb2)
    clear hb2
    go_wp2_with fail
    go_ret
    rw [HF.out]
    exact ⟨rfl, HB2.out⟩
end Go.Proofs.Ytkohejjkpofmgaa
