/- The bounds: lowBound, highBound. -/
import Derived.Test.YtfcnoeehfhncjaaPw
set_option linter.unusedVariables false
set_option linter.unusedSimpArgs false
namespace Go.Proofs.Ytfcnoeehfhncjaa
open Go.RowKit Go.Lib

def nb (l : List UInt8) : List Nat := l.map UInt8.toNat
theorem bytesT_nb (l : List UInt8) : bytesT (nb l) = ⟨l.toArray⟩ := by
  unfold bytesT nb
  congr 1
  rw [List.map_map]
  have : (Nat.toUInt8 ∘ UInt8.toNat) = id := by funext x; simp
  rw [this, List.map_id]
theorem lb_nb (l : List UInt8) : lb (bytesT (nb l)) = l := by rw [bytesT_nb]; rfl
theorem nb_of {t : ByteArray} {l : List UInt8} (h : lb t = l) : t = bytesT (nb l) := lb_inj (by rw [lb_nb, h])
theorem nb_bs (l : List UInt8) : Bs (nb l) := fun x hx => by
  unfold nb at hx
  obtain ⟨y, _, rfl⟩ := List.mem_map.1 hx
  exact UInt8.toNat_lt y
def lowM (x : Cl) (cl : Bool) : Cl := if x.1 = 3 ∧ cl = false then (3, 0, []) else (x.1, x.2.1, nb (firstL (lb (bytesT x.2.2)) 4))
def highM (x : Cl) (cl : Bool) : Cl × Bool := if x.1 = 3 then (match aboveL (lb (bytesT x.2.2)) 4 with
  | none => (nul, false)
  | some a => if cl = true then ((3, 0, nb a), true) else (nul, false)) else (x, true)
/-- A cell in a block of its own. -/
def Ceb (W : World) (p : Nat) (x y z : Value) : Prop := W.heap[p]? = some (.cells #[x, y, z] 27 (0, 0))
theorem Ceb.facts {W : World} {p : Nat} {x y z : Value} (h : Ceb W p x y z) : (W.cell? ⟨p, 0, none⟩ = some x ∧ W.cell? ⟨p, 1, none⟩ = some y ∧ W.cell? ⟨p, 2, none⟩ = some z) ∧ (W.frozen? ⟨p, 0, none⟩ = false ∧ W.frozen? ⟨p, 1, none⟩ = false ∧ W.frozen? ⟨p, 2, none⟩ = false) ∧ p < W.heap.size := by
  unfold Ceb at h
  refine ⟨⟨by rw [cell_block h]; rfl, by rw [cell_block h]; rfl, by rw [cell_block h]; rfl⟩, ⟨by simp [World.frozen?, h], by simp [World.frozen?, h], by simp [World.frozen?, h]⟩, (Array.getElem?_eq_some_iff.1 h).1⟩
theorem Ceb.kept {W W' : World} {p : Nat} {x y z : Value} (h : Ceb W p x y z) (hb : Below W.heap.size W W') : Ceb W' p x y z := by
  have hp := h.facts.2.2
  unfold Ceb at *
  rw [hb.block p hp]
  exact h
theorem Ceb.new (w : World) (x y z : Value) : Ceb (w.alloc (.cells #[x, y, z] 27)) w.heap.size x y z := heap_alloc_new w _

set_option maxRecDepth 100000 in
set_option maxHeartbeats 2000000 in
theorem lowBound_any {x : Cl} (hf : Fine x) (cl : Bool) (w : World) : Calls Try.prog 28 #[valC x, .bool cl] w fun e w' => e = .returned (.agg #[.int .u8 ((lowM x cl).1 : Int), .int .i64 (lowM x cl).2.1, .string (bytesT (lowM x cl).2.2)]) ∧ Below w.heap.size w w' := by
  have HF := hidden hf
  have hr := Ceb.new w (.int .u8 0) (.int .i64 0) (.string ⟨#[]⟩)
  have hb0 := below_one w (.cells #[.int .u8 0, .int .i64 0, .string ⟨#[]⟩] 27)
  have HD : Hid (lowM x cl = if x.1 = 3 ∧ cl = false then (3, 0, []) else (x.1, x.2.1, nb (firstL (lb (bytesT x.2.2)) 4))) := hidden rfl
  generalize lowM x cl = R at *
  have HR := hidden hr
  have HB0 := hidden hb0
  have HZ : Hid (w.heap.size < (w.alloc (.cells #[.int .u8 0, .int .i64 0, .string ⟨#[]⟩] 27)).heap.size) := hidden hr.facts.2.2
  clear hf hr hb0
  go_enter Try.func28, Try.ntmps28
  go_wp2_with fail
  refine (cell_any HF.out.val _).mono ?_
  rintro e w1 ⟨rfl, hb1⟩
  have HB1 := hidden (below_then HB0.out hb1)
  have HR1 := hidden (HR.out.kept hb1)
  have hz1 : w.heap.size < w1.heap.size := Nat.lt_of_lt_of_le HZ.out hb1.size
  clear hb1 HR
  have hcn := Ceb.new w1 (.int .u8 (x.1 : Int)) (.int .i64 x.2.1) (.string (bytesT x.2.2))
  have hb2 := below_one w1 (.cells #[.int .u8 (x.1 : Int), .int .i64 x.2.1, .string (bytesT x.2.2)] 27)
  have HCN := hidden hcn
  have HR2 := hidden (HR1.out.kept hb2)
  have HB2 := hidden (below_then HB1.out hb2)
  obtain ⟨⟨d0, d1, d2⟩, ⟨f0, f1, f2⟩, _⟩ := hcn.facts
  obtain ⟨⟨r0, r1, r2⟩, ⟨s0, s1, s2⟩, _⟩ := HR2.out.facts
  have hne : ¬ w1.heap.size = w.heap.size := by omega
  have hne2 : ¬ w.heap.size = w1.heap.size := by omega
  clear hcn hb2 HR1
  generalize hW : w1.alloc (.cells #[.int .u8 (x.1 : Int), .int .i64 x.2.1, .string (bytesT x.2.2)] 27) = W at *
  by_cases h3 : x.1 = 3 ∧ cl = false
  · rw [if_pos h3] at HD
    obtain ⟨h3a, rfl⟩ := h3
    have h3' : ((x.1 : Int) == 3) = true := by rw [h3a]; rfl
    clear h3a
    go_wp2_with fail
    refine bodyPost_ret (v := .agg #[.int .u8 3, .int .i64 0, .string ⟨#[]⟩]) (by simp [results, Try.results28, go_sem, r0, r1, r2]) rfl ⟨?_, set3 HB2.out (Nat.le_refl _) _ _ _⟩
    rw [HD.out]
    rfl
  · rw [if_neg h3] at HD
    have HFI := hidden (first_any (bytesT x.2.2) 4 (by have := HF.out.short; omega))
    have hgo : ((x.1 : Int) == 3) = false ∨ (((x.1 : Int) == 3) = true ∧ cl = true) := by
      by_cases hx : x.1 = 3
      · right
        refine ⟨by rw [hx]; rfl, ?_⟩
        cases cl
        · exact absurd ⟨hx, rfl⟩ h3
        · rfl
      · left
        exact beq_eq_false_iff_ne.2 (by omega)
    clear h3
    rcases hgo with h3' | ⟨h3', rfl⟩
    all_goals
      go_wp2_with fail
      refine (HFI.out _).mono ?_
      rintro e w3 ⟨⟨t, rfl, ht⟩, hb3⟩
      have HTB := hidden (nb_of ht)
      obtain ⟨⟨d0', d1', d2'⟩, ⟨f0', f1', f2'⟩, _⟩ := (HCN.out.kept hb3).facts
      obtain ⟨⟨r0', r1', r2'⟩, ⟨s0', s1', s2'⟩, _⟩ := (HR2.out.kept hb3).facts
      have HB3 := hidden (below_then HB2.out hb3)
      have HZZ : Hid (w.heap.size ≤ w1.heap.size) := hidden (by omega)
      clear hb3 ht d0 d1 d2 f0 f1 f2 r0 r1 r2 s0 s1 s2 hW
      go_wp2_with fail
      refine bodyPost_ret (v := .agg #[.int .u8 (x.1 : Int), .int .i64 x.2.1, .string t]) (by simp [results, Try.results28, go_sem, r0', r1', r2', hne, hne2]) rfl ⟨?_, set3 (HB3.out.setCell (p := ⟨w1.heap.size, 2, none⟩) HZZ.out _) (Nat.le_refl _) _ _ _⟩
      rw [HD.out, HTB.out]

set_option maxRecDepth 100000 in
set_option maxHeartbeats 2000000 in
theorem highBound_any {x : Cl} (hf : Fine x) (cl : Bool) (w : World) : Calls Try.prog 31 #[valC x, .bool cl] w fun e w' => e = .returned (.tuple #[.agg #[.int .u8 ((highM x cl).1.1 : Int), .int .i64 (highM x cl).1.2.1, .string (bytesT (highM x cl).1.2.2)], .bool (highM x cl).2]) ∧ Below w.heap.size w w' := by
  have HF := hidden hf
  have hr := Ceb.new w (.int .u8 0) (.int .i64 0) (.string ⟨#[]⟩)
  have hb0 := below_one w (.cells #[.int .u8 0, .int .i64 0, .string ⟨#[]⟩] 27)
  have HD : Hid (highM x cl = if x.1 = 3 then (match aboveL (lb (bytesT x.2.2)) 4 with
    | none => (nul, false)
    | some a => if cl = true then ((3, 0, nb a), true) else (nul, false)) else (x, true)) := hidden rfl
  generalize highM x cl = R at *
  have HR := hidden hr
  have HB0 := hidden hb0
  have HZ : Hid (w.heap.size < (w.alloc (.cells #[.int .u8 0, .int .i64 0, .string ⟨#[]⟩] 27)).heap.size) := hidden hr.facts.2.2
  clear hf hr hb0
  go_enter Try.func31, Try.ntmps31
  go_wp2_with fail
  refine (cell_any HF.out.val _).mono ?_
  rintro e w1 ⟨rfl, hb1⟩
  have HB1 := hidden (below_then HB0.out hb1)
  have HR1 := hidden (HR.out.kept hb1)
  have hz1 : w.heap.size < w1.heap.size := Nat.lt_of_lt_of_le HZ.out hb1.size
  clear hb1 HR
  have hcn := Ceb.new w1 (.int .u8 (x.1 : Int)) (.int .i64 x.2.1) (.string (bytesT x.2.2))
  have hb2 := below_one w1 (.cells #[.int .u8 (x.1 : Int), .int .i64 x.2.1, .string (bytesT x.2.2)] 27)
  have HCN := hidden hcn
  have HR2 := hidden (HR1.out.kept hb2)
  have HB2 := hidden (below_then HB1.out hb2)
  obtain ⟨⟨d0, d1, d2⟩, ⟨f0, f1, f2⟩, _⟩ := hcn.facts
  obtain ⟨⟨r0, r1, r2⟩, ⟨s0, s1, s2⟩, _⟩ := HR2.out.facts
  clear hcn hb2 HR1
  generalize hW : w1.alloc (.cells #[.int .u8 (x.1 : Int), .int .i64 x.2.1, .string (bytesT x.2.2)] 27) = W at *
  by_cases h3 : x.1 = 3
  · rw [if_pos h3] at HD
    have h3' : ((x.1 : Int) != 3) = false := by rw [h3]; rfl
    have HAB := hidden (above_any (bytesT x.2.2) 4 (by have := HF.out.short; omega))
    clear h3
    go_wp2_with fail
    refine (HAB.out _).mono ?_
    rintro e w3 ⟨⟨t, o, rfl, ho, ht⟩, hb3⟩
    obtain ⟨⟨r0', r1', r2'⟩, ⟨s0', s1', s2'⟩, _⟩ := (HR2.out.kept hb3).facts
    have HB3 := hidden (below_then HB2.out hb3)
    clear hb3 d0 d1 d2 f0 f1 f2 r0 r1 r2 s0 s1 s2 hW
    cases ha : aboveL (lb (bytesT x.2.2)) 4 with
    | none =>
      rw [ha] at HD ho
      have ho' : o = false := ho
      subst ho'
      clear ha ho ht
      simp only at HD
      go_wp2_with fail
      refine bodyPost_ret (v := .tuple #[.agg #[.int .u8 0, .int .i64 0, .string ⟨#[]⟩], .bool false]) (by simp [results, Try.results31, go_sem, r0', r1', r2']) rfl ⟨?_, set3 HB3.out (Nat.le_refl _) _ _ _⟩
      rw [HD.out]
      rfl
    | some av =>
      rw [ha] at HD ho ht
      have ho' : o = true := ho
      subst ho'
      have HTB := hidden (nb_of (show lb t = av from ht))
      clear ha ho ht
      simp only at HD
      cases cl
      · go_wp2_with fail
        refine bodyPost_ret (v := .tuple #[.agg #[.int .u8 0, .int .i64 0, .string ⟨#[]⟩], .bool false]) (by simp [results, Try.results31, go_sem, r0', r1', r2']) rfl ⟨?_, set3 HB3.out (Nat.le_refl _) _ _ _⟩
        rw [HD.out]
        rfl
      · go_wp2_with fail
        refine bodyPost_ret (v := .tuple #[.agg #[.int .u8 3, .int .i64 0, .string t], .bool true]) (by simp [results, Try.results31, go_sem, r0', r1', r2']) rfl ⟨?_, set3 HB3.out (Nat.le_refl _) _ _ _⟩
        rw [HD.out, HTB.out]
        rfl
  · rw [if_neg h3] at HD
    have h3' : ((x.1 : Int) != 3) = true := by simp; omega
    clear h3
    go_wp2_with fail
    refine bodyPost_ret (v := .tuple #[.agg #[.int .u8 (x.1 : Int), .int .i64 x.2.1, .string (bytesT x.2.2)], .bool true]) (by simp [results, Try.results31, go_sem, r0, r1, r2]) rfl ⟨?_, set3 HB2.out (Nat.le_refl _) _ _ _⟩
    rw [HD.out]
end Go.Proofs.Ytfcnoeehfhncjaa
