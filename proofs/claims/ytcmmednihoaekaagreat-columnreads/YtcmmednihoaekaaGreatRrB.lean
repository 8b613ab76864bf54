/- Contracts of the document's layer 6, reading: words. -/
import Derived.Test.YtcmmednihoaekaaGreatRrA
set_option linter.unusedVariables false
set_option linter.unusedSimpArgs false
namespace Go.Proofs.YtcmmednihoaekaaGreat
open Go.RowKit Go.Lib

/-- What words tells. -/
def WordsPost (r : Option (List (List Nat))) (w : World) (e : Ending) (w' : World) : Prop :=
  ∃ v1 : Value, e = .returned (.tuple #[v1, .bool r.isSome]) ∧ (∀ l, r = some l → OwnS w' w.heap.size v1 l) ∧ Below w.heap.size w w'

theorem strM_len {s : List Int} {b r : List Nat} {l : List (List Nat)} (hb : Bs b) (h : strM b s = some (l, r)) : l.length = s.length ∧ Bs r := ⟨(strM_inv hb h).1, (strM_inv hb h).2.2⟩

def PickAt (u : List (List Nat)) (p : List Int) (j : Nat) (pre : List (List Nat)) : Prop := (∀ q ∈ p.take j, 0 ≤ q ∧ q < (u.length : Int)) ∧ pre = (p.take j).map fun q => u.getD q.toNat []
theorem PickAt.zero (u : List (List Nat)) (p : List Int) : PickAt u p 0 [] := ⟨fun q hq => by simp at hq, rfl⟩
theorem PickAt.step {u pre : List (List Nat)} {p : List Int} {j s : Nat} (h : PickAt u p j pre) (hj : j < p.length) (e : p[j] = (s : Int)) (hs : s < u.length) : PickAt u p (j + 1) (pre ++ [u[s]]) := by
  obtain ⟨h1, h2⟩ := h
  refine ⟨fun q hq => ?_, ?_⟩
  · rw [List.take_succ_eq_append_getElem hj] at hq
    rcases List.mem_append.1 hq with hq | hq
    · exact h1 q hq
    · have : q = p[j] := by simpa using hq
      omega
  · rw [List.take_succ_eq_append_getElem hj, List.map_append, h2, e]
    simp [hs]
theorem PickAt.bad {u : List (List Nat)} {p : List Int} {j : Nat} (hj : j < p.length) (h : p[j] < 0 ∨ p[j] ≥ (u.length : Int)) : pickT u p = none := by
  unfold pickT
  rw [if_neg (fun h2 => by have := h2 _ (List.getElem_mem hj); omega)]
theorem PickAt.last {u pre : List (List Nat)} {p : List Int} (h : PickAt u p p.length pre) : pickT u p = some pre := by
  obtain ⟨h1, h2⟩ := h
  rw [List.take_length] at h1 h2
  unfold pickT
  rw [if_pos h1, h2]
theorem PickAt.len {u pre : List (List Nat)} {p : List Int} {j : Nat} (h : PickAt u p j pre) : pre.length ≤ p.length := by
  rw [h.2, List.length_map, List.length_take]
  omega

set_option maxRecDepth 100000 in
set_option maxHeartbeats 4000000 in
theorem refWords_zero {w : World} {v : Value} {t : List Nat} (hb : Sv w v (vals .u8 (0 :: t))) (h8 : Bs (0 :: t)) (n : Nat) (hn : n ≤ 256) : Calls Tryz.prog 43 #[v, .int .i64 (n : Int)] w (WordsPost (wordsM (0 :: t) n) w) := by
  obtain ⟨g, off, cap, rfl, h1, h2, h3, h4, h4b, A, hA, hSA⟩ := hb.uncons
  have hcm' : cap ≤ 9223372036854775807 := by unfold maxLen at h2; omega
  have HBT : Hid (Bs t) := fun x hx => h8 x (by simp [hx])
  have HC : Hid (wordsM (0 :: t) n = ((cutM t n).bind fun p => strM p.2 p.1).map (·.1)) := hidden rfl
  have HCut := hidden (refCut_any hSA HBT.out (n : Int))
  have HCI := hidden (fun l r => cutM_inv (b := t) (r := r) (n := (n : Int)) (l := l) HBT.out)
  have hlen : (((t.length + 1 : Nat) : Int) == 0) = false := beq_eq_false_iff_ne.2 (by omega)
  have hw1 : IntKind.u64.wrap (n : Int) = (n : Int) := by rw [IntKind.wrap_u64]; omega
  have hw2 : IntKind.i64.wrap (n : Int) = (n : Int) := by rw [IntKind.wrap_i64]; omega
  clear hb h8 h4b hSA h2
  generalize wordsM (0 :: t) n = WM at *
  generalize cutM t (n : Int) = CM at *
  go_enter Tryz.func43, Tryz.ntmps43
  go_wp2_with fail
  refine HCut.out.mono ?_
  rintro e w1 ⟨v1, v2, rfl, hcp, hb1⟩
  have HB1 := hidden hb1
  have hz1 := hb1.size
  clear hb1
  cases CM with
  | none =>
    have HN : Hid (WM = none) := hidden HC.out
    clear hcp
    simp only [Option.isSome_none]
    go_wp2_with fail
    go_ret2
    rw [HN.out]
    exact ⟨_, rfl, fun l e => (by cases e), HB1.out⟩
  | some p =>
    obtain ⟨sz, q⟩ := p
    obtain ⟨ho, hs⟩ := hcp sz q rfl
    obtain ⟨c1, c2, c3⟩ := HCI.out sz q rfl
    have HStr := hidden (refStrings_any hs c3 ho.sv (by omega))
    have HE : Hid (WM = (strM q sz).map (·.1)) := hidden HC.out
    clear ho hs hcp c2 c3
    generalize strM q sz = SM at *
    simp only [Option.isSome_some]
    go_wp2_with fail
    refine HStr.out.mono ?_
    rintro e w2 ⟨v3, v4, rfl, hst, hb2⟩
    have HB2 := hidden (HB1.out.trans (hb2.mono hz1))
    clear hb2
    cases SM with
    | none =>
      have HN : Hid (WM = none) := hidden HE.out
      clear hst
      simp only [Option.isSome_none]
      go_wp2_with fail
      go_ret2
      rw [HN.out]
      exact ⟨_, rfl, fun l e => (by cases e), HB2.out⟩
    | some p =>
      obtain ⟨l, r⟩ := p
      have HN : Hid (WM = some l) := hidden HE.out
      have HL := hidden (hst l r rfl)
      clear hst
      simp only [Option.isSome_some]
      go_wp2_with fail
      go_ret2
      rw [HN.out]
      refine ⟨_, rfl, fun l' e => ?_, HB2.out⟩
      cases e
      exact own_low HL.out.1 hz1
end Go.Proofs.YtcmmednihoaekaaGreat
