/- Contracts: Place, the document's Place, misfit. -/
import Derived.Test.YtkohejjkpofmgaaChk
set_option linter.unusedVariables false
set_option linter.unusedSimpArgs false
namespace Go.Proofs.Ytkohejjkpofmgaa
open Go.RowKit Go.Lib

set_option maxRecDepth 100000 in
set_option maxHeartbeats 2000000 in
theorem place_any {w : World} {v : Value} {l : List Fd} (hs : Sf w v l) (si id : Nat) : Calls Try.prog 16 #[.agg #[.int .u32 (si : Int), v], .int .u32 (id : Int)] w fun e w' => e = .returned (.tuple #[.int .i64 (((place l id).getD 0 : Nat) : Int), .bool (place l id).isSome]) ∧ Below w.heap.size w w' := by
  obtain ⟨a, cap, rfl, hcap, hcm⟩ := hs.form
  have HB0 := hidden (below_one w (.cells #[.int .u32 (si : Int), .slice a l.length cap] 25))
  have HS := hidden (hs.kept (below_one w (.cells #[.int .u32 (si : Int), .slice a l.length cap] 25)))
  have HP : Hid (place l id = placeF id 0 (l.drop 0)) := hidden rfl
  generalize place l id = P at *
  clear hs
  generalize hW : w.alloc (.cells #[.int .u32 (si : Int), .slice a l.length cap] 25) = W at *
  have hW' := hW
  obtain ⟨c0, c1⟩ := cell_new2 w (.int .u32 (si : Int)) (.slice a l.length cap) 25
  rw [hW] at c0 c1
  go_enter Try.func16, Try.ntmps16
  go_wp2_with fail
  try rw [hW]
  clear hW hW' c0 c1
  go_loopw [11] (fun i wr => ∃ k : Nat, k ≤ l.length ∧ i = .int .i64 (k : Int) ∧ P = placeF id k (l.drop k) ∧ Below W.heap.size W wr) (fun i _ => l.length - (intOf i).toNat)
  case atStart => exact ⟨0, by omega, rfl, HP.out, Below.refl _ _⟩
  case round =>
    obtain ⟨k, hk, rfl, hfe, hbel⟩ := hrel
    have HF := hidden hfe
    have HB := hidden hbel
    have hzr := hbel.size
    clear hfe hbel HP
    by_cases hlt : k < l.length
    · obtain ⟨b, off, rfl, hb, x0, x1, x2, x3⟩ := (HS.out.kept HB.out).at hlt
      have HT := hidden (HF.out.trans (placeF_step hlt))
      have hlt' : (k : Int) < (l.length : Int) := by omega
      generalize l[k] = f at *
      obtain ⟨f0, f1, f2, f3⟩ := f
      simp only at *
      have HB2 := hidden (HB.out.trans ((below_one wr (.cells #[.int .u32 (f0 : Int), .string f1, .int .u8 (f2 : Int), .bool f3] 67)).mono hzr))
      by_cases hq : f0 = id
      · rw [if_pos hq] at HT
        have hq' : ((f0 : Int) == (id : Int)) = true := by rw [hq]; simp
        subst hq
        go_wp2_with fail
        go_ret2
        rw [HT.out]
        exact ⟨rfl, below_then HB0.out HB2.out⟩
      · rw [if_neg hq] at HT
        have hq' : ((f0 : Int) == (id : Int)) = false := beq_eq_false_iff_ne.2 (by omega)
        clear hq
        go_wp2_with fail
        go_roundw
        case rel => exact ⟨k + 1, by omega, by go_num, HT.out, HB2.out⟩
        case measure => simp [intOf]; omega
    · obtain rfl : k = l.length := by omega
      have hge : ¬ ((l.length : Nat) : Int) < (l.length : Int) := by omega
      have HT := hidden (HF.out.trans (placeF_end l id))
      clear HF
      go_wp2_with fail
      go_ret2
      rw [HT.out]
      exact ⟨rfl, below_then HB0.out HB.out⟩

/-- What the document's Place tells. -/
def plz (p : Option Nat) : Int := match p with
  | none => -1
  | some k => (k : Int)

set_option maxRecDepth 100000 in
set_option maxHeartbeats 2000000 in
theorem refPlace_any {w : World} {v : Value} {l : List Fd} (hs : Sf w v l) (si id : Nat) : Calls Try.prog 17 #[.agg #[.int .u32 (si : Int), v], .int .u32 (id : Int)] w fun e w' => e = .returned (.int .i64 (plz (place l id))) ∧ Below w.heap.size w w' := by
  obtain ⟨a, cap, rfl, hcap, hcm⟩ := hs.form
  have HB0 := hidden (below_one w (.cells #[.int .u32 (si : Int), .slice a l.length cap] 25))
  have HS := hidden (hs.kept (below_one w (.cells #[.int .u32 (si : Int), .slice a l.length cap] 25)))
  have HP : Hid (place l id = placeF id 0 (l.drop 0)) := hidden rfl
  generalize place l id = P at *
  clear hs
  obtain ⟨c0, c1⟩ := cell_new2 w (.int .u32 (si : Int)) (.slice a l.length cap) 25
  generalize hW : w.alloc (.cells #[.int .u32 (si : Int), .slice a l.length cap] 25) = W at *
  go_enter Try.func17, Try.ntmps17
  go_wp2_with fail
  try rw [hW]
  clear hW
  go_loopw [5] (fun i wr => ∃ k : Nat, wr = W ∧ k ≤ l.length ∧ i = .int .i64 (k : Int) ∧ P = placeF id k (l.drop k)) (fun i _ => l.length - (intOf i).toNat)
  case atStart => exact ⟨0, rfl, by omega, rfl, HP.out⟩
  case round =>
    obtain ⟨k, rfl, hk, rfl, hfe⟩ := hrel
    have HF := hidden hfe
    clear hfe HP
    by_cases hlt : k < l.length
    · obtain ⟨b, off, rfl, hb, x0, x1, x2, x3⟩ := HS.out.at hlt
      have HT := hidden (HF.out.trans (placeF_step hlt))
      have hlt' : (k : Int) < (l.length : Int) := by omega
      generalize l[k] = f at *
      obtain ⟨f0, f1, f2, f3⟩ := f
      simp only at *
      by_cases hq : f0 = id
      · rw [if_pos hq] at HT
        have hq' : ((f0 : Int) == (id : Int)) = true := by rw [hq]; simp
        subst hq
        go_wp2_with fail
        go_ret
        rw [HT.out]
        exact ⟨rfl, HB0.out⟩
      · rw [if_neg hq] at HT
        have hq' : ((f0 : Int) == (id : Int)) = false := beq_eq_false_iff_ne.2 (by omega)
        clear hq
        go_wp2_with fail
        go_roundw
        case rel => exact ⟨k + 1, trivial, by omega, by go_num, HT.out⟩
        case measure => simp [intOf]; omega
    · obtain rfl : k = l.length := by omega
      have hge : ¬ ((l.length : Nat) : Int) < (l.length : Int) := by omega
      have HT := hidden (HF.out.trans (placeF_end l id))
      clear HF
      go_wp2_with fail
      go_ret
      rw [HT.out]
      exact ⟨rfl, HB0.out⟩

set_option maxRecDepth 100000 in
set_option maxHeartbeats 2000000 in
theorem misfit_any (f : Fd) {c : Cl} (hc : Fine c) (w : World) : Calls Try.prog 40 #[aggF f, valC c] w fun e w' => e = .returned (.int .i64 (misM f c : Int)) ∧ Below w.heap.size w w' := by
  have HV := hidden (cell_any hc.val)
  obtain ⟨i, n, k, nd⟩ := f
  unfold aggF
  simp only
  have hq0 : ∀ w, (binOp .eql 68 .nilIface .nilIface).run Try.prog w = .ok (.bool true) w := fun w => by kernel_rfl
  have hq1 : ∀ t v w, (binOp .eql 68 (.iface t v) .nilIface).run Try.prog w = .ok (.bool false) w := fun t v w => by kernel_rfl
  have HM : Hid (misM (i, n, k, nd) c = if c.1 = 0 then (if nd = true then 82 else 0) else if c.1 ≠ k then 10 else if 64 < c.2.2.length then 5 else 0) := hidden rfl
  generalize misM (i, n, k, nd) c = R at *
  have HB0 := hidden (below_one w (.cells #[.int .u32 (i : Int), .string n, .int .u8 (k : Int), .bool nd] 67))
  obtain ⟨c0, c1, c2, c3⟩ := cell_new4 w (.int .u32 (i : Int)) (.string n) (.int .u8 (k : Int)) (.bool nd) 67
  have hz : w.heap.size < (w.alloc (.cells #[.int .u32 (i : Int), .string n, .int .u8 (k : Int), .bool nd] 67)).heap.size := by rw [World.size_alloc]; omega
  generalize hW : w.alloc (.cells #[.int .u32 (i : Int), .string n, .int .u8 (k : Int), .bool nd] 67) = W at *
  have hs := bytesT_size c.2.2
  generalize hS : bytesT c.2.2 = S at *
  have hlen : (S.size : Int) ≤ 64 := by
    rcases hc with rfl | ⟨m, rfl, _⟩ | ⟨m, rfl, _⟩ | ⟨m, rfl, h, _⟩
    · rw [hs]; decide
    · rw [hs]; simp
    · rw [hs]; simp
    · rw [hs]; simp only; omega
  have hlen2 : ¬ 64 < c.2.2.length := by omega
  have hvf : c.1 = 0 ∧ valC c = .nilIface ∨ c.1 ≠ 0 ∧ ∃ t u, valC c = .iface t u := by
    by_cases h0 : c.1 = 0
    · exact Or.inl ⟨h0, valC_null c h0⟩
    · exact Or.inr ⟨h0, valC_form c h0⟩
  generalize c.2.1 = cn at *
  generalize c.2.2.length = cl at *
  clear hS hs hc
  generalize c.1 = ck at *
  generalize valC c = vc at *
  rcases hvf with ⟨rfl, rfl⟩ | ⟨h0, t, u, rfl⟩
  · rw [if_pos rfl] at HM
    go_enter Try.func40, Try.ntmps40
    go_wp2_with fail
    try rw [hW]
    clear hW
    refine (HV.out _).mono ?_
    rintro e w1 ⟨rfl, hb1⟩
    have d3 := (hb1.cell (p := ⟨w.heap.size, 3, none⟩) hz).trans c3
    have HB1 := hidden (below_then HB0.out hb1)
    have hz1 := hb1.size
    have hzz : w.heap.size < w1.heap.size := by omega
    clear hb1 c0 c1 c2 c3
    cases nd
    · rw [if_neg (by simp)] at HM
      go_wp2_with fail
      go_ret
      rw [HM.out]
      exact ⟨rfl, HB1.out.alloc HB1.out.size _⟩
    · rw [if_pos rfl] at HM
      go_wp2_with fail
      go_ret
      rw [HM.out]
      exact ⟨rfl, HB1.out.alloc HB1.out.size _⟩
  · rw [if_neg h0] at HM
    go_enter Try.func40, Try.ntmps40
    go_wp2_with fail
    try rw [hW]
    clear hW
    refine (HV.out _).mono ?_
    rintro e w1 ⟨rfl, hb1⟩
    have d2 := (hb1.cell (p := ⟨w.heap.size, 2, none⟩) hz).trans c2
    have HB1 := hidden (below_then HB0.out hb1)
    have hz1 := hb1.size
    have hzz : w.heap.size < w1.heap.size := by omega
    clear hb1 c0 c1 c2 c3
    by_cases hk : ck = k
    · subst hk
      rw [if_neg (by simp), if_neg hlen2] at HM
      go_wp2_with fail
      go_ret
      rw [HM.out]
      exact ⟨rfl, HB1.out.alloc HB1.out.size _⟩
    · rw [if_pos hk] at HM
      have hk' : ((ck : Int) != (k : Int)) = true := by simp; omega
      clear hk
      go_wp2_with fail
      go_ret
      rw [HM.out]
      exact ⟨rfl, HB1.out.alloc HB1.out.size _⟩
end Go.Proofs.Ytkohejjkpofmgaa
