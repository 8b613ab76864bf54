/- Contracts of layer column: counted, putLengthsAndBytes. -/
import Derived.Test.YtcmmednihoaekaaGreatColD
import Derived.Laws.IdiomStrings
set_option linter.unusedVariables false
set_option linter.unusedSimpArgs false
namespace Go.Proofs.YtcmmednihoaekaaGreat
open Go.RowKit Go.Lib

/-- A list that is being filled. -/
def fillV (z : Value) (l : List Value) (i : Nat) : List Value := l.take i ++ List.replicate (l.length - i) z
theorem fillV_zero (z : Value) (l : List Value) : fillV z l 0 = List.replicate l.length z := by simp [fillV]
theorem fillV_all (z : Value) (l : List Value) : fillV z l l.length = l := by simp [fillV]
theorem fillV_length {z : Value} {l : List Value} {i : Nat} (h : i ≤ l.length) : (fillV z l i).length = l.length := by simp [fillV]; omega
theorem fillV_set {z : Value} {l : List Value} {i : Nat} (h : i < l.length) : (fillV z l i).set i l[i] = fillV z l (i + 1) := by
  unfold fillV
  rw [List.set_append_right _ _ (by simp; omega), List.length_take, Nat.min_eq_left (by omega), Nat.sub_self, show l.length - i = (l.length - (i + 1)) + 1 by omega,
    List.replicate_succ, List.set_cons_zero, List.take_succ_eq_append_getElem h, List.append_assoc]
  rfl

/-- A slice whose cells lie below B stays over what leaves B's blocks. -/
theorem Sv.keptB {W W' : World} {B : Nat} {v : Value} {xs : List Value} (h : Sv W v xs) (hv : ∀ k, v.ownBlock = some k → k < B) (hb : Below B W W') : Sv W' v xs := by
  obtain ⟨a, cap, rfl, h1, h2, h3, h4⟩ := h
  refine ⟨a, cap, rfl, h1, h2, h3, fun h0 => ?_⟩
  obtain ⟨b, off, rfl, h5, h6⟩ := h4 h0
  have hb' : b < B := hv b rfl
  exact ⟨b, off, rfl, Nat.lt_of_lt_of_le h5 hb.size, fun j x hj => (hb.cell (p := ⟨b, off + j, none⟩) hb').trans (h6 j x hj)⟩

theorem below_drew_alloc (W : World) (o : Obj) : Below W.heap.size W (W.drew.alloc o) := by
  have h1 : Below W.heap.size W W.drew := ⟨rfl, rfl, rfl, Nat.le_refl _, fun _ _ => rfl⟩
  exact h1.alloc (Nat.le_refl _) _

/-- A text's bytes in a block of their own. -/
theorem conv_bytes {s : List Nat} (hb : Bs s) (hl : s.length ≤ 140737488355328) (W : World) : ∃ g cap W', (convert 9 24 (.string (bytesT s))).run Tryz.prog W = .ok (.slice (some ⟨g, 0, none⟩) s.length cap) W' ∧ Sv W' (.slice (some ⟨g, 0, none⟩) s.length cap) (vals .u8 s) ∧ Below W.heap.size W W' ∧ W'.heap.size = W.heap.size + 1 := by
  have hr := run_bytes_of_string (P := Tryz.prog) W 9 24 5 (bytesT s) Tryz.underlying9 Tryz.underlying24 Tryz.underlying5
  rw [bytesT_size] at hr
  refine ⟨_, _, _, hr, ?_, below_drew_alloc _ _, ?_⟩
  · have hge := grownCap_ge W s.length 0 5
    have hle := grownCap_le_maxLen W s.length 0 5 (by unfold maxLen; omega)
    refine ⟨_, _, by rw [vals_length], by rw [vals_length]; exact hge, hle, fun e => by (cases e), fun h0 => ⟨_, _, rfl, by rw [World.size_alloc]; show W.heap.size < W.heap.size + 1; omega, fun j x hj => ?_⟩⟩
    have hj' : j < s.length := by
      have := (List.getElem?_eq_some_iff.1 hj).1
      rwa [vals_length] at this
    rw [vals_get hj'] at hj
    have hh : (W.drew.alloc (.cells (bytesRow (bytesT s) (grownCap W s.length 0 5)) 5 ((bytesRow (bytesT s) (grownCap W s.length 0 5)).size, (bytesRow (bytesT s) (grownCap W s.length 0 5)).size + 1))).heap[W.heap.size]? = some (.cells (bytesRow (bytesT s) (grownCap W s.length 0 5)) 5 ((bytesRow (bytesT s) (grownCap W s.length 0 5)).size, (bytesRow (bytesT s) (grownCap W s.length 0 5)).size + 1)) := heap_alloc_new W.drew _
    rw [Nat.zero_add, cell_block hh, ← hj]
    unfold bytesRow bytesT
    have hx : s[j] < 256 := hb _ (List.getElem_mem hj')
    rw [Array.getElem?_append_left (by simpa using hj')]
    simp [hj', Nat.mod_eq_of_lt hx]
  · rw [World.size_alloc]
    rfl

theorem bstC_len {l : List Int} (hi : Is l) (hl : l.length ≤ 256) : (bstC l).length ≤ 5131 := (bstC_size hi hl).1

set_option maxRecDepth 100000 in
theorem counted_any {w : World} {v : Value} {l : List Int} (hs : Sv w v (ivals l)) (hl : l.length ≤ 256) (hi : Is l) : Calls Tryz.prog 97 #[v] w (Told w (cnt l)) := by
  have HB := hidden (cbest_any hs hl hi)
  have hlen := bstC_len hi hl
  have HCN : Hid (cnt l = uv (bstC l).length ++ bstC l) := rfl
  clear hs hi
  generalize cnt l = cn at *
  generalize bstC l = bs at *
  have h10 := uv_ten (n := bs.length) (by omega)
  have HP := hidden (vput_told bs.length (by omega))
  go_enter Tryz.func97, Tryz.ntmps97
  go_wp2_with fail
  refine HB.out.mono ?_
  rintro e w1 ⟨⟨v1, rfl, ho1⟩, hb1⟩
  have HO1 := hidden ho1
  have HB1 := hidden hb1
  have hz1 := hb1.size
  obtain ⟨a1, c1, rfl⟩ := ho1.len
  clear ho1 hb1
  go_wp2_with fail
  refine (HP.out _).mono ?_
  rintro e w2 ⟨⟨v2, rfl, ho2⟩, hb2⟩
  have HO2 := hidden (ho2.low hz1)
  have HB2 := hidden hb2
  have hz2 := hb2.size
  clear ho2 hb2
  go_wp2_with (first | (at_builtin; refine wpList_append_sv rfl _ _ rfl w.heap.size _ _ (uv bs.length) bs rfl HO2.out rfl (HO1.out.kept HB2.out).sv ?c1 ?c2 ?_))
  case c1 => omega
  case c2 => omega
  intro v4 w4 o4 b4
  have HO4 := hidden o4
  have HB4 := hidden ((HB1.out.trans (HB2.out.mono hz1)).trans b4)
  clear o4 b4
  go_wp2_with fail
  go_ret
  rw [HCN.out]
  exact ⟨⟨_, rfl, HO4.out⟩, HB4.out⟩
end Go.Proofs.YtcmmednihoaekaaGreat
