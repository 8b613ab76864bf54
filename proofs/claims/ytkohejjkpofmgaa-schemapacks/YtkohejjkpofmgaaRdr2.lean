/- Contracts: the reader's name. -/
import Derived.Test.YtkohejjkpofmgaaRdr
set_option linter.unusedVariables false
set_option linter.unusedSimpArgs false
namespace Go.Proofs.Ytkohejjkpofmgaa
open Go.RowKit Go.Lib

theorem rds_text_short {n : Nat} {l : List Nat} {f : Nat} (h : l.length < n) : Rds (textR n) l f (bytesT []) l (orf f 30) := by
  refine ⟨fun h0 => ?_, fun h0 => by unfold orf; rw [if_neg h0]⟩
  unfold textR orf
  rw [if_pos h, if_pos h0, if_neg (by omega)]
theorem rds_text_ok {n : Nat} {l : List Nat} {f : Nat} (h : ¬ l.length < n) : Rds (textR n) l f (bytesT (l.take n)) (l.drop n) f := by
  refine ⟨fun h0 => ?_, fun _ => rfl⟩
  unfold textR
  rw [if_neg h, if_pos h0]

set_option maxRecDepth 100000 in
set_option maxHeartbeats 4000000 in
theorem name_any {w : World} {p f : Nat} {b : List Nat} (h : St 86 w p b f) :
    Calls Try.prog 69 #[.pointer (some ⟨p, 0, none⟩)] w (RdPost 86 (textU 16) (fun s => .string s) (fun s => s.size ≤ 16) p b f w) := by
  have HN := hidden (number_any h 16 (by omega))
  clear h
  go_enter Try.func69, Try.ntmps69
  go_wp2_with fail
  refine HN.out.mono ?_
  rintro e w1 ⟨n, b1, f1, rfl, hn, hs1, hr1, hf1⟩
  have HS1 := hidden hs1
  have HR1 := hidden hr1
  have HF1 := hidden hf1
  have HB1 := hidden hs1.bs
  obtain ⟨a, cap, h0, h1, h2, h3, h4, h5, h6, h7, h8, h9⟩ := hs1.cells
  have HSV := hidden h6
  have H9 := hidden h9
  have H7 := hidden h7
  clear hs1 hr1 hf1 h6 h8 h9 h7 HN
  by_cases hsh : b1.length < n
  · have hsh' : (n : Int) > (b1.length : Int) := by omega
    have HT := hidden (HR1.out.bind (rds_text_short (f := f1) hsh))
    go_wp2_with fail
    refine (refuse_any HS1.out 30).mono ?_
    rintro e w2 ⟨rfl, hs2, hf2⟩
    have HS2 := hidden hs2
    have HF2 := hidden (HF1.out.trans (hf2.mono HF1.out.size))
    clear hs2 hf2
    go_wp2_with fail
    go_ret
    exact ⟨bytesT [], b1, _, rfl, by show (bytesT []).size ≤ 16; rw [bytesT_size]; simp, HS2.out, HT.out, HF2.out⟩
  · have hsh' : ¬ (n : Int) > (b1.length : Int) := by omega
    have HT := hidden (HR1.out.bind (rds_text_ok (f := f1) hsh))
    have hcv := (HSV.out.take (k := n) (by rw [vals_length]; omega))
    have e1 : (vals .u8 b1).take n = vals .u8 (b1.take n) := by simp [vals, List.map_take]
    rw [e1] at hcv
    have hcv2 := hcv.conv (HB1.out.take n)
    rw [txt_eq] at hcv2
    have HLT : Hid ((bytesT (b1.take n)).size ≤ 16) := hidden (by rw [bytesT_size, List.length_take]; omega)
    have hncap : (n : Int) ≤ (cap : Int) := by omega
    have hnlen : (n : Int) ≤ (b1.length : Int) := by omega
    have hnn : (0 : Int) ≤ (n : Int) := by omega
    have hnt : ((n : Int)).toNat = n := by omega
    clear hcv e1
    generalize bytesT (b1.take n) = TX at *
    rcases Nat.eq_zero_or_pos b1.length with hz | hp
    · have hn0 : n = 0 := by omega
      subst hn0
      cases a with
      | none =>
        have hc0 := H7.out rfl
        subst hc0
        have hst := (H9.out none 0 (by omega) (fun _ _ => rfl) (fun h => by omega))
        rw [hz] at hst
        have HST := hidden hst
        have HF2 := hidden (HF1.out.set 0 (.slice none 0 0))
        clear hst
        go_wp2_with fail
        go_ret
        exact ⟨TX, b1.drop 0, f1, rfl, HLT.out, HST.out, HT.out, HF2.out⟩
      | some ad =>
        have hst := (H9.out (some ad) 0 (by omega) (fun _ hA' => by cases hA') (fun h => by omega))
        rw [hz] at hst
        have HST := hidden hst
        have HF2 := hidden (HF1.out.set 0 (.slice (some ad) 0 cap))
        clear hst
        go_wp2_with fail
        go_ret
        exact ⟨TX, b1.drop 0, f1, rfl, HLT.out, HST.out, HT.out, HF2.out⟩
    · obtain ⟨g, off, ha⟩ : ∃ g off, a = some ⟨g, off, none⟩ := by
        obtain ⟨a', cap', e, _, _, _, hx⟩ := HSV.out
        simp only [Value.slice.injEq] at e
        obtain ⟨b', off', e2, _⟩ := hx (by rw [vals_length]; exact hp)
        exact ⟨b', off', e.1.trans e2⟩
      subst ha
      obtain ⟨A, hA⟩ : ∃ A, (if cap = n then (some ⟨g, off, none⟩ : Option Addr) else some ⟨g, off + n, none⟩) = A := ⟨_, rfl⟩
      have HST := hidden (H9.out A n (by omega) (fun hk hA' => by
        rw [hA'] at hA
        split at hA <;> cases hA) (fun hk => ⟨g, off, rfl, by rw [← hA, if_neg (by omega)]⟩))
      have HF2 := hidden (HF1.out.set 0 (.slice A (b1.length - n) (cap - n)))
      go_wp2_with fail
      go_ret
      exact ⟨TX, b1.drop n, f1, rfl, HLT.out, HST.out, HT.out, HF2.out⟩
end Go.Proofs.Ytkohejjkpofmgaa
