/- Contracts: the document's reader of texts. -/
import Derived.Test.YtkohejjkpofmgaaRrdr
import Derived.Test.YtkohejjkpofmgaaRdr2
set_option linter.unusedVariables false
set_option linter.unusedSimpArgs false
namespace Go.Proofs.Ytkohejjkpofmgaa
open Go.RowKit Go.Lib

set_option maxRecDepth 100000 in
set_option maxHeartbeats 4000000 in
theorem refText_any {w : World} {p f : Nat} {b : List Nat} (h : St 63 w p b f) :
    Calls Try.prog 51 #[.pointer (some ⟨p, 0, none⟩), .int .u64 (16 : Int)] w (RdPost 63 (textU 16) (fun s => .string s) (fun s => s.size ≤ 16) p b f w) := by
  have HN := hidden (refNum_any h 16 (by omega))
  clear h
  go_enter Try.func51, Try.ntmps51
  go_wp2_with fail
  refine HN.out.mono ?_
  rintro e w1 ⟨n, b1, f1, rfl, hn, hs1, hr1, hf1⟩
  have HS1 := hidden hs1
  have HR1 := hidden hr1
  have HF1 := hidden hf1
  have HB1 := hidden hs1.bs
  obtain ⟨a, cap, h0, h1, h2, h3, h4, h5, h6, h7, hraw⟩ := hs1.cells2
  have HSV := hidden h6
  have HRAW := hidden hraw
  have H7 := hidden h7
  clear hs1 hr1 hf1 h6 hraw h7 HN
  by_cases hfz : f1 = 0
  · have hfa : ((f1 : Int) == 0) = true := by simp [hfz]
    have hfb : ((f1 : Int) != 0) = false := by simp [hfz]
    have HFZ := hidden hfz
    clear hfz
    by_cases hsh : b1.length < n
    · have hsh' : (n : Int) > (b1.length : Int) := by omega
      have HT := hidden (HR1.out.bind (rds_text_short (f := f1) hsh))
      have HST := hidden (HRAW.out.set1 30).st
      have HF2 := hidden (HF1.out.set 1 (.int .i64 ((30 : Nat) : Int)))
      go_wp2_with fail
      go_ret
      exact ⟨bytesT [], b1, 30, rfl, by show (bytesT []).size ≤ 16; rw [bytesT_size]; simp, HST.out, by have h := HT.out; rw [HFZ.out] at h; exact h, HF2.out⟩
    · have hsh' : ¬ (n : Int) > (b1.length : Int) := by omega
      have HT := hidden (HR1.out.bind (rds_text_ok (f := f1) hsh))
      have hcv := (HSV.out.take (k := n) (by rw [vals_length]; omega))
      have e1 : (vals .u8 b1).take n = vals .u8 (b1.take n) := by simp [vals, List.map_take]
      rw [e1] at hcv
      have hcv2 := hcv.conv (HB1.out.take n)
      rw [txt_eq] at hcv2
      have HLT : Hid ((bytesT (b1.take n)).size ≤ 16) := hidden (by rw [bytesT_size, List.length_take]; omega)
      have hncap : (n : Int) ≤ (cap : Int) := by omega
      have hnlen : (n : Int) ≤ (b1.length : Int) := by omega
      have hnn : (0 : Int) ≤ (n : Int) := by omega
      have hnt : ((n : Int)).toNat = n := by omega
      clear hcv e1
      generalize bytesT (b1.take n) = TX at *
      rcases Nat.eq_zero_or_pos b1.length with hz | hp
      · have hn0 : n = 0 := by omega
        subst hn0
        cases a with
        | none =>
          have hc0 := H7.out rfl
          subst hc0
          have hst := (HRAW.out.drop none 0 (by omega) (fun _ _ => rfl) (fun h => by omega))
          rw [hz] at hst
          have HST := hidden hst
          have HF2 := hidden (HF1.out.set 0 (.slice none 0 0))
          clear hst
          go_wp2_with fail
          go_ret
          exact ⟨TX, b1.drop 0, f1, rfl, HLT.out, HST.out, HT.out, HF2.out⟩
        | some ad =>
          have hst := (HRAW.out.drop (some ad) 0 (by omega) (fun _ hA' => by cases hA') (fun h => by omega))
          rw [hz] at hst
          have HST := hidden hst
          have HF2 := hidden (HF1.out.set 0 (.slice (some ad) 0 cap))
          clear hst
          go_wp2_with fail
          go_ret
          exact ⟨TX, b1.drop 0, f1, rfl, HLT.out, HST.out, HT.out, HF2.out⟩
      · obtain ⟨g, off, ha⟩ : ∃ g off, a = some ⟨g, off, none⟩ := by
          obtain ⟨g, off, e, _⟩ := HRAW.out.2.2.2.2.2 hp
          exact ⟨g, off, e⟩
        subst ha
        obtain ⟨A, hA⟩ : ∃ A, (if cap = n then (some ⟨g, off, none⟩ : Option Addr) else some ⟨g, off + n, none⟩) = A := ⟨_, rfl⟩
        have HST := hidden (HRAW.out.drop A n (by omega) (fun hk hA' => by
          rw [hA'] at hA
          split at hA <;> cases hA) (fun hk => ⟨g, off, rfl, by rw [← hA, if_neg (by omega)]⟩))
        have HF2 := hidden (HF1.out.set 0 (.slice A (b1.length - n) (cap - n)))
        go_wp2_with fail
        go_ret
        exact ⟨TX, b1.drop n, f1, rfl, HLT.out, HST.out, HT.out, HF2.out⟩
  · have hfa : ((f1 : Int) == 0) = false := by simp [hfz]
    have hfb : ((f1 : Int) != 0) = true := by simp [hfz]
    have HT := hidden (HR1.out.bind (Rds.dead (m := textR n) (l' := b1) (bytesT []) hfz))
    clear hfz
    go_wp2_with fail
    go_ret
    exact ⟨bytesT [], b1, f1, rfl, by show (bytesT []).size ≤ 16; rw [bytesT_size]; simp, HS1.out, HT.out, HF1.out⟩
end Go.Proofs.Ytkohejjkpofmgaa
