/- The document's Great, of predicates. -/
import Derived.Test.YtfcnoeehfhncjaaPe
set_option linter.unusedVariables false
set_option linter.unusedSimpArgs false
namespace Go.Proofs.Ytfcnoeehfhncjaa
open Go.RowKit Go.Lib

/-- What Great's count says: below 200 all texts are short. -/
def NodesPost (w : World) (t : PT) (e : Ending) (w' : World) : Prop := (∃ n : Nat, e = .returned (.int .i64 (n : Int)) ∧ 1 ≤ n ∧ n ≤ 200 ∧ (n < 200 → Len t)) ∧ Below w.heap.size w w'

set_option maxRecDepth 100000 in
set_option maxHeartbeats 4000000 in
theorem nodes_any (t : PT) : ∀ (op f : Nat) (c : Cl) (ks : List PT), t = .node op f c ks → ∀ (w : World) (kv : Value) (d : Nat), d ≤ 21 → Kids w kv ks →
    Calls Try.prog 37 #[.agg #[.int .u8 (op : Int), .int .u32 (f : Int), .int .u8 (c.1 : Int), .int .i64 c.2.1, .string (bytesT c.2.2), kv], .int .i64 (d : Int)] w (NodesPost w t) := by
  refine PT.ind (P := fun t => ∀ (op f : Nat) (c : Cl) (ks : List PT), t = .node op f c ks → ∀ (w : World) (kv : Value) (d : Nat), d ≤ 21 → Kids w kv ks → Calls Try.prog 37 #[.agg #[.int .u8 (op : Int), .int .u32 (f : Int), .int .u8 (c.1 : Int), .int .i64 c.2.1, .string (bytesT c.2.2), kv], .int .i64 (d : Int)] w (NodesPost w t)) (fun op f c ks ih op' f' c' ks' he w kv d hd hk => ?_) t
  simp only [PT.node.injEq] at he
  obtain ⟨rfl, rfl, rfl, rfl⟩ := he
  have HIH := hidden ih
  have HK := hidden hk
  obtain ⟨ka, kcap, rfl, hkc, hkm⟩ := hk.form
  have hkm' : ks.length ≤ 9223372036854775807 := by unfold maxLen at hkm; omega
  clear hk ih hkm
  have HN := hidden (node_new w op f c (.slice ka ks.length kcap))
  have HB1 := hidden (below_one w (.cells #[.int .u8 (op : Int), .int .u32 (f : Int), .int .u8 (c.1 : Int), .int .i64 c.2.1, .string (bytesT c.2.2), .slice ka ks.length kcap] 39))
  have HKA := hidden (HK.out.kept HB1.out)
  have hsz : (bytesT c.2.2).size = c.2.2.length := bytesT_size _
  have HSZ := hidden hsz
  clear hsz
  generalize hA : w.alloc (.cells #[.int .u8 (op : Int), .int .u32 (f : Int), .int .u8 (c.1 : Int), .int .i64 c.2.1, .string (bytesT c.2.2), .slice ka ks.length kcap] 39) = A at *
  obtain ⟨hb0, x0, x1, x2, x3, x4, x5⟩ := HN.out
  have HP : Hid (∀ n : Nat, ∀ w', 1 ≤ n → n ≤ 200 → (n < 200 → c.2.2.length ≤ 300 ∧ ∀ k ∈ ks, Len k) → Below A.heap.size A w' → NodesPost w (.node op f c ks) (.returned (.int .i64 (n : Int))) w') := hidden (fun n w' h1 h2 h3 h4 => ⟨⟨n, rfl, h1, h2, fun h => by
    simp only [Len]
    exact ⟨(h3 h).1, LenAll.of (h3 h).2⟩⟩, below_then HB1.out h4⟩)
  by_cases hd2 : (20 : Int) < (d : Int)
  · go_enter Try.func37, Try.ntmps37
    go_wp2_with fail
    go_ret
    exact HP.out 200 _ (by omega) (by omega) (fun h => by omega) (by first | exact Below.refl _ _ | (rw [hA]; exact Below.refl _ _))
  by_cases hsl : (300 : Int) < ((bytesT c.2.2).size : Int)
  · go_enter Try.func37, Try.ntmps37
    go_wp2_with fail
    go_ret
    exact HP.out 200 _ (by omega) (by omega) (fun h => by omega) (by first | exact Below.refl _ _ | (rw [hA]; exact Below.refl _ _))
  have hd3 : d + 1 ≤ 21 := by omega
  have HD3 := hidden hd3
  have HL3 : Hid (c.2.2.length ≤ 300) := hidden (by have := HSZ.out; omega)
  clear hd3
  go_enter Try.func37, Try.ntmps37
  go_wp2_with fail
  try rw [hA]
  go_loopw [5, 6] (fun s i wr => ∃ k n : Nat, k ≤ ks.length ∧ i = .int .i64 (k : Int) ∧ s = .int .i64 (n : Int) ∧ 1 ≤ n ∧ n ≤ 399 ∧ (n < 200 → ∀ x ∈ ks.take k, Len x) ∧ Below A.heap.size A wr) (fun _ i _ => ks.length - (intOf i).toNat)
  case atStart => exact ⟨0, 1, by omega, rfl, rfl, by omega, by omega, fun _ x hx => by simp at hx, by first | exact Below.refl _ _ | (rw [hA]; exact Below.refl _ _)⟩
  case round =>
    obtain ⟨k, n, hk, rfl, rfl, hn1, hn2, hn3, hbel⟩ := hrel
    have HN3 := hidden hn3
    have HB := hidden hbel
    have hzr := hbel.size
    have HNW := hidden (HN.out.kept hbel)
    clear hn3 hbel x0 x1 x2 x3 x4 x5
    obtain ⟨hb1, x0, x1, x2, x3, x4, x5⟩ := HNW.out
    by_cases hlt : k < ks.length
    · have hlt' : (k : Int) < (ks.length : Int) := by omega
      by_cases hn4 : (n : Int) < 200
      · obtain ⟨g, o, rfl, hlk⟩ := (HKA.out.kept HB.out).at hlt
        have HLL : Hid (ks.take (k + 1) = ks.take k ++ [ks[k]]) := hidden (by rw [List.take_add_one, List.getElem?_eq_getElem hlt]; rfl)
        have HM := hidden (HIH.out ks[k] (List.getElem_mem hlt))
        generalize ks[k] = kid at *
        obtain ⟨op1, f1, c1, ks1⟩ := kid
        obtain ⟨a1, cap1, hnode1, hkids1⟩ := hlk.open
        have HC := hidden (HM.out op1 f1 c1 ks1 rfl wr _ (d + 1) HD3.out hkids1)
        obtain ⟨hb2, z0, z1, z2, z3, z4, z5⟩ := hnode1
        clear hlk hkids1 HM
        go_wp2_with fail
        refine HC.out.mono ?_
        rintro e w2 ⟨⟨m, rfl, hm1, hm2, hm3⟩, hb2⟩
        have HM3 := hidden hm3
        have HB2 := hidden (HB.out.trans (hb2.mono hzr))
        clear hm3 hb2 x0 x1 x2 x3 x4 x5 z0 z1 z2 z3 z4 z5
        go_wp2_with fail
        go_roundw
        case rel => exact ⟨k + 1, n + m, by omega, by go_num, by go_num, by omega, by omega, fun h x hx => by
          rw [HLL.out] at hx
          rcases List.mem_append.1 hx with hx | hx
          · exact HN3.out (by omega) x hx
          · rw [List.mem_singleton.1 hx]
            exact HM3.out (by omega), HB2.out⟩
        case measure => simp [intOf]; omega
      · have hmin : min (n : Int) 200 = 200 := by omega
        by_cases hn5 : (n : Int) = 200
        · obtain rfl : n = 200 := by omega
          go_wp2_with fail
          go_ret
          exact HP.out 200 _ (by omega) (by omega) (fun h => by omega) HB.out
        · have q1 : ((n : Int) == 200) = false := beq_eq_false_iff_ne.2 hn5
          have q2 : ¬ (n : Int) ≤ 200 := by omega
          have q3 : (200 : Int) < (n : Int) := by omega
          have q4 : (200 : Int) ≤ (n : Int) := by omega
          go_wp2_with fail
          go_ret
          exact HP.out 200 _ (by omega) (by omega) (fun h => by omega) HB.out
    · obtain rfl : k = ks.length := by omega
      have hge : ¬ ((ks.length : Nat) : Int) < (ks.length : Int) := by omega
      by_cases hn4 : (n : Int) < 200
      · have q1 : ((n : Int) == 200) = false := beq_eq_false_iff_ne.2 (by omega)
        have q2 : (n : Int) ≤ 200 := by omega
        have q3 : ¬ (200 : Int) < (n : Int) := by omega
        have q4 : ¬ (200 : Int) ≤ (n : Int) := by omega
        go_wp2_with fail
        go_ret
        exact HP.out n _ (by omega) (by omega) (fun h => ⟨HL3.out, fun x hx => HN3.out h x (by rw [List.take_length]; exact hx)⟩) HB.out
      · by_cases hn5 : (n : Int) = 200
        · obtain rfl : n = 200 := by omega
          go_wp2_with fail
          go_ret
          exact HP.out 200 _ (by omega) (by omega) (fun h => by omega) HB.out
        · have q1 : ((n : Int) == 200) = false := beq_eq_false_iff_ne.2 hn5
          have q2 : ¬ (n : Int) ≤ 200 := by omega
          have q3 : (200 : Int) < (n : Int) := by omega
          have q4 : (200 : Int) ≤ (n : Int) := by omega
          go_wp2_with fail
          go_ret
          exact HP.out 200 _ (by omega) (by omega) (fun h => by omega) HB.out

/-- What Great says of a predicate. -/
def GreatP (w : World) (t : PT) (e : Ending) (w' : World) : Prop := (∃ g : Bool, e = .returned (.bool g) ∧ (g = false → Len t)) ∧ Below w.heap.size w w'
set_option maxRecDepth 100000 in
set_option maxHeartbeats 1000000 in
theorem greatP_any {w : World} {op f : Nat} {c : Cl} {ks : List PT} {kv : Value} (hk : Kids w kv ks) : Calls Try.prog 12 #[.agg #[.int .u8 (op : Int), .int .u32 (f : Int), .int .u8 (c.1 : Int), .int .i64 c.2.1, .string (bytesT c.2.2), kv]] w (GreatP w (.node op f c ks)) := by
  have HK := hidden hk
  obtain ⟨ka, kcap, rfl, hkc, hkm⟩ := hk.form
  clear hk hkm
  have hn := node_new w op f c (.slice ka ks.length kcap)
  have HB1 := hidden (below_one w (.cells #[.int .u8 (op : Int), .int .u32 (f : Int), .int .u8 (c.1 : Int), .int .i64 c.2.1, .string (bytesT c.2.2), .slice ka ks.length kcap] 39))
  have HKA := hidden (HK.out.kept HB1.out)
  generalize hA : w.alloc (.cells #[.int .u8 (op : Int), .int .u32 (f : Int), .int .u8 (c.1 : Int), .int .i64 c.2.1, .string (bytesT c.2.2), .slice ka ks.length kcap] 39) = A at *
  obtain ⟨hb0, x0, x1, x2, x3, x4, x5⟩ := hn
  have HC := hidden (nodes_any (.node op f c ks) op f c ks rfl A _ 1 (by omega) HKA.out)
  go_enter Try.func12, Try.ntmps12
  go_wp2_with fail
  refine HC.out.mono ?_
  rintro e w2 ⟨⟨m, rfl, hm1, hm2, hm3⟩, hb2⟩
  have HM3 := hidden hm3
  have HB2 := hidden (below_then HB1.out hb2)
  clear hm3 hb2
  go_wp2_with fail
  go_ret
  exact ⟨⟨_, rfl, fun h => HM3.out (by simp at h; omega)⟩, HB2.out⟩
end Go.Proofs.Ytfcnoeehfhncjaa
