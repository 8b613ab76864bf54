/- Contracts: the reader's field. -/
import Derived.Test.YtkohejjkpofmgaaRdr2
import Derived.Test.YtkohejjkpofmgaaAdd
set_option linter.unusedVariables false
set_option linter.unusedSimpArgs false
namespace Go.Proofs.Ytkohejjkpofmgaa
open Go.RowKit Go.Lib

/-- In field: the result's block, the field's block, the reader's. -/
def Mid (w : World) (p : Nat) (W : World) (b : List Nat) (f : Nat) (x0 x1 x2 x3 : Value) : Prop :=
  St 86 W p b f ∧ p < w.heap.size ∧ W.heap[w.heap.size]? = some (.cells #[.int .u32 0, .string ⟨#[]⟩, .int .u8 0, .bool false] 67 (0, 0)) ∧
  W.heap[w.heap.size + 1]? = some (.cells #[x0, x1, x2, x3] 67 (0, 0)) ∧ Fr p w.heap.size w W

theorem Mid.begin {w : World} {p f : Nat} {b : List Nat} (h : St 86 w p b f) :
    Mid w p ((w.alloc (.cells #[.int .u32 0, .string ⟨#[]⟩, .int .u8 0, .bool false] 67)).alloc (.cells #[.int .u32 0, .string ⟨#[]⟩, .int .u8 0, .bool false] 67)) b f (.int .u32 0) (.string ⟨#[]⟩) (.int .u8 0) (.bool false) := by
  have hbW := ((Below.refl w.heap.size w).alloc (Nat.le_refl _) (.cells #[.int .u32 0, .string ⟨#[]⟩, .int .u8 0, .bool false] 67)).alloc (by rw [World.size_alloc]; omega) (.cells #[.int .u32 0, .string ⟨#[]⟩, .int .u8 0, .bool false] 67)
  have hz0 : (w.alloc (.cells #[.int .u32 0, .string ⟨#[]⟩, .int .u8 0, .bool false] 67)).heap.size = w.heap.size + 1 := World.size_alloc _ _
  have hb1 := below_one (w.alloc (.cells #[.int .u32 0, .string ⟨#[]⟩, .int .u8 0, .bool false] 67)) (.cells #[.int .u32 0, .string ⟨#[]⟩, .int .u8 0, .bool false] 67)
  have hh0 := heap_alloc_new w (.cells #[.int .u32 0, .string ⟨#[]⟩, .int .u8 0, .bool false] 67)
  have hh := heap_alloc_new (w.alloc (.cells #[.int .u32 0, .string ⟨#[]⟩, .int .u8 0, .bool false] 67)) (.cells #[.int .u32 0, .string ⟨#[]⟩, .int .u8 0, .bool false] 67)
  rw [hz0] at hh
  exact ⟨h.kept hbW h.lt, h.lt, (hb1.block w.heap.size (by omega)).trans hh0, hh, Fr.of_below hbW⟩

theorem Mid.call {w W W' : World} {p f f' : Nat} {b b' : List Nat} {x0 x1 x2 x3 : Value} (h : Mid w p W b f x0 x1 x2 x3) (hs : St 86 W' p b' f') (hf : Fr p W.heap.size W W') : Mid w p W' b' f' x0 x1 x2 x3 := by
  obtain ⟨h1, h2, h3, h4, h5⟩ := h
  have l3 := (Array.getElem?_eq_some_iff.1 h3).1
  have l4 := (Array.getElem?_eq_some_iff.1 h4).1
  exact ⟨hs, h2, (hf.block _ l3 (by omega)).trans h3, (hf.block _ l4 (by omega)).trans h4, h5.trans (hf.mono (by omega))⟩

theorem Mid.facts {w W : World} {p f : Nat} {b : List Nat} {x0 x1 x2 x3 : Value} (h : Mid w p W b f x0 x1 x2 x3) :
    (W.cell? ⟨w.heap.size + 1, 0, none⟩ = some x0 ∧ W.cell? ⟨w.heap.size + 1, 1, none⟩ = some x1 ∧ W.cell? ⟨w.heap.size + 1, 2, none⟩ = some x2 ∧ W.cell? ⟨w.heap.size + 1, 3, none⟩ = some x3) ∧
    (W.frozen? ⟨w.heap.size + 1, 0, none⟩ = false ∧ W.frozen? ⟨w.heap.size + 1, 1, none⟩ = false ∧ W.frozen? ⟨w.heap.size + 1, 2, none⟩ = false ∧ W.frozen? ⟨w.heap.size + 1, 3, none⟩ = false) ∧
    (W.cell? ⟨w.heap.size, 0, none⟩ = some (.int .u32 0) ∧ W.cell? ⟨w.heap.size, 1, none⟩ = some (.string ⟨#[]⟩) ∧ W.cell? ⟨w.heap.size, 2, none⟩ = some (.int .u8 0) ∧ W.cell? ⟨w.heap.size, 3, none⟩ = some (.bool false)) ∧
    (W.frozen? ⟨w.heap.size, 0, none⟩ = false ∧ W.frozen? ⟨w.heap.size, 1, none⟩ = false ∧ W.frozen? ⟨w.heap.size, 2, none⟩ = false ∧ W.frozen? ⟨w.heap.size, 3, none⟩ = false) := by
  obtain ⟨h1, h2, h3, h4, h5⟩ := h
  refine ⟨⟨?_, ?_, ?_, ?_⟩, ⟨?_, ?_, ?_, ?_⟩, ⟨?_, ?_, ?_, ?_⟩, ⟨?_, ?_, ?_, ?_⟩⟩ <;> first | (rw [cell_block h4]; rfl) | (rw [cell_block h3]; rfl) | (simp [World.frozen?, h4]; done) | (simp [World.frozen?, h3]; done)

theorem Mid.keep {w W : World} {p f : Nat} {b : List Nat} {x0 x1 x2 x3 : Value} (h : Mid w p W b f x0 x1 x2 x3) (j : Nat) (v : Value) :
    St 86 (W.setCell ⟨w.heap.size + 1, j, none⟩ v) p b f ∧ (W.setCell ⟨w.heap.size + 1, j, none⟩ v).heap[w.heap.size]? = some (.cells #[.int .u32 0, .string ⟨#[]⟩, .int .u8 0, .bool false] 67 (0, 0)) ∧ Fr p w.heap.size w (W.setCell ⟨w.heap.size + 1, j, none⟩ v) := by
  obtain ⟨h1, h2, h3, h4, h5⟩ := h
  have hb : Below (w.heap.size + 1) W (W.setCell ⟨w.heap.size + 1, j, none⟩ v) := (Below.refl (w.heap.size + 1) W).setCell (show w.heap.size + 1 ≤ w.heap.size + 1 from Nat.le_refl _) _
  exact ⟨h1.kept hb (by omega), (hb.block _ (by omega)).trans h3, h5.then (hb.mono (by omega))⟩
theorem Mid.set0 {w W : World} {p f : Nat} {b : List Nat} {x0 x1 x2 x3 : Value} (h : Mid w p W b f x0 x1 x2 x3) (v : Value) : Mid w p (W.setCell ⟨w.heap.size + 1, 0, none⟩ v) b f v x1 x2 x3 :=
  ⟨(h.keep 0 v).1, h.2.1, (h.keep 0 v).2.1, by rw [heap_set h.2.2.2.1]; rfl, (h.keep 0 v).2.2⟩
theorem Mid.set1 {w W : World} {p f : Nat} {b : List Nat} {x0 x1 x2 x3 : Value} (h : Mid w p W b f x0 x1 x2 x3) (v : Value) : Mid w p (W.setCell ⟨w.heap.size + 1, 1, none⟩ v) b f x0 v x2 x3 :=
  ⟨(h.keep 1 v).1, h.2.1, (h.keep 1 v).2.1, by rw [heap_set h.2.2.2.1]; rfl, (h.keep 1 v).2.2⟩
theorem Mid.set2 {w W : World} {p f : Nat} {b : List Nat} {x0 x1 x2 x3 : Value} (h : Mid w p W b f x0 x1 x2 x3) (v : Value) : Mid w p (W.setCell ⟨w.heap.size + 1, 2, none⟩ v) b f x0 x1 v x3 :=
  ⟨(h.keep 2 v).1, h.2.1, (h.keep 2 v).2.1, by rw [heap_set h.2.2.2.1]; rfl, (h.keep 2 v).2.2⟩
theorem Mid.set3 {w W : World} {p f : Nat} {b : List Nat} {x0 x1 x2 x3 : Value} (h : Mid w p W b f x0 x1 x2 x3) (v : Value) : Mid w p (W.setCell ⟨w.heap.size + 1, 3, none⟩ v) b f x0 x1 x2 v :=
  ⟨(h.keep 3 v).1, h.2.1, (h.keep 3 v).2.1, by rw [heap_set h.2.2.2.1]; rfl, (h.keep 3 v).2.2⟩

theorem Mid.done {w W : World} {p f : Nat} {b : List Nat} {x0 x1 x2 x3 : Value} (h : Mid w p W b f x0 x1 x2 x3) (y0 y1 y2 y3 : Value) :
    St 86 ((((W.setCell ⟨w.heap.size, 0, none⟩ y0).setCell ⟨w.heap.size, 1, none⟩ y1).setCell ⟨w.heap.size, 2, none⟩ y2).setCell ⟨w.heap.size, 3, none⟩ y3) p b f ∧
    Fr p w.heap.size w ((((W.setCell ⟨w.heap.size, 0, none⟩ y0).setCell ⟨w.heap.size, 1, none⟩ y1).setCell ⟨w.heap.size, 2, none⟩ y2).setCell ⟨w.heap.size, 3, none⟩ y3) := by
  obtain ⟨h1, h2, h3, h4, h5⟩ := h
  have hb : Below w.heap.size W ((((W.setCell ⟨w.heap.size, 0, none⟩ y0).setCell ⟨w.heap.size, 1, none⟩ y1).setCell ⟨w.heap.size, 2, none⟩ y2).setCell ⟨w.heap.size, 3, none⟩ y3) :=
    have hle : w.heap.size ≤ w.heap.size := Nat.le_refl _
    ((((Below.refl w.heap.size W).setCell (p := ⟨w.heap.size, 0, none⟩) hle _).setCell (p := ⟨w.heap.size, 1, none⟩) hle _).setCell (p := ⟨w.heap.size, 2, none⟩) hle _).setCell (p := ⟨w.heap.size, 3, none⟩) hle _
  exact ⟨h1.kept hb h2, h5.then hb⟩

theorem rds_fld {b b1 b2 b3 b4 : List Nat} {f f1 f2 f3 f4 i k n : Nat} {s : ByteArray} (h1 : Rds (numU 4294967295) b f i b1 f1) (h2 : Rds (textU 16) b1 f1 s b2 f2) (h3 : Rds (numU 255) b2 f2 k b3 f3) (h4 : Rds (numU 1) b3 f3 n b4 f4) :
    Rds fldU b f (i, s, k, decide (n = 1)) b4 f4 :=
  h1.bind (h2.bind (h3.bind (h4.bind (Rds.pure (i, s, k, decide (n = 1)) b4 f4))))

set_option maxRecDepth 100000 in
set_option maxHeartbeats 4000000 in
theorem field_any {w : World} {p f : Nat} {b : List Nat} (h : St 86 w p b f) :
    Calls Try.prog 60 #[.pointer (some ⟨p, 0, none⟩)] w (RdPost 86 fldU aggF (fun x => Okf x ∧ x.2.1.size ≤ 16) p b f w) := by
  have HM := hidden (Mid.begin h)
  have hz0 : (w.alloc (.cells #[.int .u32 0, .string ⟨#[]⟩, .int .u8 0, .bool false] 67)).heap.size = w.heap.size + 1 := World.size_alloc _ _
  clear h
  generalize hW : (w.alloc (.cells #[.int .u32 0, .string ⟨#[]⟩, .int .u8 0, .bool false] 67)).alloc (.cells #[.int .u32 0, .string ⟨#[]⟩, .int .u8 0, .bool false] 67) = W at *
  go_enter Try.func60, Try.ntmps60
  go_wp2_with fail
  try rw [hW]
  clear hW hz0
  refine (number_any HM.out.1 4294967295 (by omega)).mono ?_
  rintro e w1 ⟨i, b1, f1, rfl, hi, hs1, hr1, hf1⟩
  have HM1 := hidden (HM.out.call hs1 hf1)
  have HR1 := hidden hr1
  have HI := hidden hi
  have hi' : i < 4294967296 := by omega
  obtain ⟨⟨c0, c1, c2, c3⟩, ⟨z0, z1, z2, z3⟩, _, _⟩ := HM1.out.facts
  clear hs1 hr1 hf1 hi HM
  go_wp2_with fail
  have HM2 := hidden (HM1.out.set0 (.int .u32 (i : Int)))
  clear HM1 c0 c1 c2 c3 z0 z1 z2 z3
  generalize hX : w1.setCell ⟨w.heap.size + 1, 0, none⟩ (.int .u32 (i : Int)) = X at *
  try rw [hX]
  clear hX
  refine (name_any HM2.out.1).mono ?_
  rintro e w2 ⟨s, b2, f2, rfl, hs, hs2, hr2, hf2⟩
  have HM3 := hidden (HM2.out.call hs2 hf2)
  have HR2 := hidden hr2
  have HS := hidden hs
  obtain ⟨⟨c0, c1, c2, c3⟩, ⟨z0, z1, z2, z3⟩, _, _⟩ := HM3.out.facts
  clear hs2 hr2 hf2 hs HM2
  go_wp2_with fail
  have HM4 := hidden (HM3.out.set1 (.string s))
  clear HM3 c0 c1 c2 c3 z0 z1 z2 z3
  generalize hX : w2.setCell ⟨w.heap.size + 1, 1, none⟩ (.string s) = Y at *
  try rw [hX]
  clear hX
  refine (number_any HM4.out.1 255 (by omega)).mono ?_
  rintro e w3 ⟨k, b3, f3, rfl, hk, hs3, hr3, hf3⟩
  have HM5 := hidden (HM4.out.call hs3 hf3)
  have HR3 := hidden hr3
  have HK := hidden hk
  have hk' : k < 256 := by omega
  obtain ⟨⟨c0, c1, c2, c3⟩, ⟨z0, z1, z2, z3⟩, _, _⟩ := HM5.out.facts
  clear hs3 hr3 hf3 hk HM4
  go_wp2_with fail
  have HM6 := hidden (HM5.out.set2 (.int .u8 (k : Int)))
  clear HM5 c0 c1 c2 c3 z0 z1 z2 z3
  generalize hX : w3.setCell ⟨w.heap.size + 1, 2, none⟩ (.int .u8 (k : Int)) = Z at *
  try rw [hX]
  clear hX
  refine (number_any HM6.out.1 1 (by omega)).mono ?_
  rintro e w4 ⟨n, b4, f4, rfl, hn, hs4, hr4, hf4⟩
  have HM7 := hidden (HM6.out.call hs4 hf4)
  have HRF := hidden (rds_fld HR1.out HR2.out HR3.out hr4)
  obtain ⟨⟨c0, c1, c2, c3⟩, ⟨z0, z1, z2, z3⟩, ⟨y0, y1, y2, y3⟩, ⟨u0, u1, u2, u3⟩⟩ := HM7.out.facts
  clear hs4 hr4 hf4 hn HM6
  have hq : ((n : Int) == 1) = decide (n = 1) := by
    by_cases h : n = 1
    · subst h; rfl
    · rw [decide_eq_false h]; exact beq_eq_false_iff_ne.2 (by omega)
  have HQ := hidden hq
  clear hq
  go_wp2_with fail
  rw [HQ.out]
  obtain ⟨d1, d2⟩ := (HM7.out.set3 (.bool (decide (n = 1)))).done (.int .u32 (i : Int)) (.string s) (.int .u8 (k : Int)) (.bool (decide (n = 1)))
  refine bodyPost_ret (v := aggF (i, s, k, decide (n = 1))) (by simp [results, Try.results60, go_sem, aggF, y0, y1, y2, y3]) rfl ?_
  exact ⟨_, _, _, rfl, ⟨⟨by have := HI.out; show i < 4294967296; omega, by have := HK.out; show k < 256; omega⟩, HS.out⟩, d1, HRF.out, d2⟩
end Go.Proofs.Ytkohejjkpofmgaa
