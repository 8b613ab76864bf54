/- The reader of layer column: its state; refuse, end, take, number, choice. -/
import Derived.Test.YtcmmednihoaekaaGreatColJ
import Derived.Test.YtcmmednihoaekaaGreatRead
set_option linter.unusedVariables false
set_option linter.unusedSimpArgs false
namespace Go.Proofs.YtcmmednihoaekaaGreat
open Go.RowKit Go.Lib

/-- A slice whose cells, if it has any, lie below B stays over what leaves B's blocks. -/
theorem Sv.keptW {W W' : World} {B : Nat} {v : Value} {xs : List Value} (h : Sv W v xs) (hv : 0 < xs.length → ∀ k, v.ownBlock = some k → k < B) (hb : Below B W W') : Sv W' v xs := by
  obtain ⟨a, cap, rfl, h1, h2, h3, h4⟩ := h
  refine ⟨a, cap, rfl, h1, h2, h3, fun h0 => ?_⟩
  obtain ⟨b, off, rfl, h5, h6⟩ := h4 h0
  have hb' : b < B := hv h0 b rfl
  exact ⟨b, off, rfl, Nat.lt_of_lt_of_le h5 hb.size, fun j x hj => (hb.cell (p := ⟨b, off + j, none⟩) hb').trans (h6 j x hj)⟩

/-- The reader in the block p: bytes that are left, and the fault. -/
def Rs (W : World) (p : Nat) (b : List Nat) (f : Nat) : Prop :=
  ∃ a cap, W.heap[p]? = some (.cells #[.slice a b.length cap, .int .i64 (f : Int)] 72 (0, 0)) ∧ Sv W (.slice a b.length cap) (vals .u8 b) ∧ (0 < b.length → ∀ k, (Value.slice a b.length cap).ownBlock = some k → k < p) ∧ Bs b

theorem Rs.bs {W : World} {p : Nat} {b : List Nat} {f : Nat} (h : Rs W p b f) : Bs b := by obtain ⟨_, _, _, _, _, h⟩ := h; exact h
theorem Rs.lt {W : World} {p : Nat} {b : List Nat} {f : Nat} (h : Rs W p b f) : p < W.heap.size := by obtain ⟨_, _, h, _⟩ := h; exact (Array.getElem?_eq_some_iff.1 h).1
theorem Rs.kept {W W' : World} {p B : Nat} {b : List Nat} {f : Nat} (h : Rs W p b f) (hb : Below B W W') (hp : p < B) : Rs W' p b f := by
  obtain ⟨a, cap, h1, h2, h3, h4⟩ := h
  exact ⟨a, cap, (hb.block p hp).trans h1, h2.keptW (fun h0 k hk => Nat.lt_trans (h3 (by rwa [vals_length] at h0) k hk) hp) hb, h3, h4⟩

/-- A slice is cut ahead. -/
theorem Sv.dropG {W : World} {a : Option Addr} {n cap : Nat} {xs : List Value} (h : Sv W (.slice a n cap) xs) {k : Nat} (hk : k ≤ xs.length) :
    Sv W (.slice (if cap = k then a else a.map fun x => x.add k) (xs.length - k) (cap - k)) (xs.drop k) := by
  obtain ⟨a', cap', e, h1, h2, h3, h4⟩ := h
  simp only [Value.slice.injEq] at e
  obtain ⟨rfl, rfl, rfl⟩ := e
  refine ⟨_, cap - k, by rw [List.length_drop], by rw [List.length_drop]; omega, by omega, fun e => ?_, fun h0 => ?_⟩
  · by_cases hc : cap = k
    · omega
    · rw [if_neg hc] at e
      have ha : a = none := by cases a with | none => rfl | some x => simp at e
      have := h3 ha
      omega
  · rw [List.length_drop] at h0
    obtain ⟨b, off, rfl, h5, h6⟩ := h4 (by omega)
    refine ⟨b, off + k, ?_, h5, fun j x hj => ?_⟩
    · rw [if_neg (by omega)]
      simp [addj]
    · rw [List.getElem?_drop] at hj
      have := h6 (k + j) x hj
      rwa [← Nat.add_assoc] at this

theorem dropG_block {a : Option Addr} {n cap m k c : Nat} {p : Nat} (h : ∀ i, (Value.slice a n cap).ownBlock = some i → i < p) : ∀ i, (Value.slice (if c = k then a else a.map fun x => x.add k) m (cap - k)).ownBlock = some i → i < p := by
  intro i hi
  cases a with
  | none =>
    split at hi <;> cases hi
  | some x =>
    refine h i ?_
    split at hi
    · exact hi
    · simp only [Option.map_some, Value.ownBlock] at hi ⊢
      unfold Addr.add at hi
      split at hi <;> exact hi

theorem Rs.cells {W : World} {p : Nat} {b : List Nat} {f : Nat} (h : Rs W p b f) :
    ∃ a cap, W.cell? ⟨p, 0, none⟩ = some (.slice a b.length cap) ∧ W.cell? ⟨p, 1, none⟩ = some (.int .i64 (f : Int)) ∧ W.frozen? ⟨p, 0, none⟩ = false ∧ W.frozen? ⟨p, 1, none⟩ = false ∧
      b.length ≤ cap ∧ cap ≤ 9223372036854775807 ∧ Sv W (.slice a b.length cap) (vals .u8 b) ∧ (0 < b.length → ∀ k, (Value.slice a b.length cap).ownBlock = some k → k < p) ∧
      (∀ f' : Nat, Rs (W.setCell ⟨p, 1, none⟩ (.int .i64 (f' : Int))) p b f') ∧
      (∀ k, k ≤ b.length → ∃ A, (if cap = k then a else a.map fun x => x.add k) = A ∧ Rs (W.setCell ⟨p, 0, none⟩ (.slice A (b.length - k) (cap - k))) p (b.drop k) f) ∧
      Rs (W.setCell ⟨p, 0, none⟩ (.slice none 0 0)) p [] f := by
  have hlt := h.lt
  obtain ⟨a, cap, h1, h2, h3, h4⟩ := h
  have hfr : ∀ i (x : Value), Below p W (W.setCell ⟨p, i, none⟩ x) := fun i x => (Below.refl p W).setCell (Nat.le_refl _) x
  have hcm := h2.form1
  obtain ⟨a', cap', e, hc1, hc2⟩ := hcm
  rw [vals_length] at e hc1
  simp only [Value.slice.injEq] at e
  obtain ⟨rfl, _, rfl⟩ := e
  refine ⟨a, cap, by rw [cell_block h1]; rfl, by rw [cell_block h1]; rfl, by simp [World.frozen?, h1], by simp [World.frozen?, h1], hc1, by unfold maxLen at hc2; omega, h2, h3, fun f' => ?_, fun k hk => ?_, ?_⟩
  · exact ⟨a, cap, by rw [heap_set h1]; rfl, h2.keptW (fun h0 => h3 (by rwa [vals_length] at h0)) (hfr 1 _), h3, h4⟩
  · refine ⟨_, rfl, ?_⟩
    have hd := h2.dropG (k := k) (by rw [vals_length]; exact hk)
    rw [vals_length] at hd
    have hv : (vals .u8 b).drop k = vals .u8 (b.drop k) := by simp [vals, List.map_drop]
    rw [hv] at hd
    have hbl : 0 < b.length → ∀ i, (Value.slice (if cap = k then a else a.map fun x => x.add k) (b.length - k) (cap - k)).ownBlock = some i → i < p := fun h0 => dropG_block (m := b.length - k) (k := k) (c := cap) (h3 h0)
    refine ⟨_, cap - k, by rw [heap_set h1, List.length_drop]; rfl, ?_, ?_, h4.drop k⟩
    · rw [List.length_drop]
      exact hd.keptW (fun h0 => hbl (by rw [vals_length, List.length_drop] at h0; omega)) (hfr 0 _)
    · rw [List.length_drop]
      exact fun h0 => hbl (by omega)
  · refine ⟨none, 0, by rw [heap_set h1]; rfl, Sv.nil _, fun h0 => by simp at h0, fun x hx => by simp at hx⟩

set_option maxRecDepth 100000 in
theorem crefuse_any {w : World} {p f : Nat} {b : List Nat} (h : Rs w p b f) (e : Nat) :
    Calls Tryz.prog 40 #[.pointer (some ⟨p, 0, none⟩), .int .i64 (e : Int)] w fun r w' => r = .returned (.tuple #[]) ∧ Rs w' p b (orf f e) ∧ Fr p w.heap.size w w' := by
  have HS := hidden h
  obtain ⟨a, cap, h0, h1, h2, h3, h4, h5, h6, h7, h8, h9, h10⟩ := h.cells
  have H8 := hidden (h8 e)
  have HF := hidden ((Fr.refl p w.heap.size w).set 1 (.int .i64 (e : Int)))
  clear h h6 h7 h8 h9 h10
  by_cases hf : ((f : Int) == 0) = true
  · have hf' : f = 0 := by simpa using hf
    have HO : Hid (orf f e = e) := by show _ = _; unfold orf; rw [if_pos hf']
    clear hf'
    go_enter Tryz.func40, Tryz.ntmps40
    go_wp2_with fail
    go_end0
    rw [HO.out]
    exact ⟨rfl, H8.out, HF.out⟩
  · have hff : ((f : Int) == 0) = false := by simpa using hf
    have HO : Hid (orf f e = f) := by show _ = _; unfold orf; rw [if_neg (fun e => hf (by simp [e]))]
    clear hf
    go_enter Tryz.func40, Tryz.ntmps40
    go_wp2_with fail
    go_end0
    rw [HO.out]
    exact ⟨rfl, HS.out, Fr.refl _ _ _⟩

set_option maxRecDepth 100000 in
theorem cend_any {w : World} {p f : Nat} {b : List Nat} (h : Rs w p b f) :
    Calls Tryz.prog 87 #[.pointer (some ⟨p, 0, none⟩)] w fun r w' => r = .returned (.tuple #[]) ∧ Rs w' p b (orf f (if b.length = 0 then 0 else 32)) ∧ Fr p w.heap.size w w' := by
  have HS := hidden h
  obtain ⟨a, cap, h0, h1, h2, h3, h4, h5, h6, h7, h8, h9, h10⟩ := h.cells
  have HR := hidden (crefuse_any h 32)
  clear h h6 h7 h8 h9 h10
  by_cases hp : (b.length : Int) > 0
  · rw [if_neg (by omega)]
    go_enter Tryz.func87, Tryz.ntmps87
    go_wp2_with fail
    refine HR.out.mono ?_
    rintro e w1 ⟨rfl, hs1, hf1⟩
    have HS1 := hidden hs1
    clear hs1
    go_wp2_with fail
    go_end0
    exact ⟨rfl, HS1.out, hf1⟩
  · have hb0 : b.length = 0 := by omega
    rw [if_pos hb0]
    have HO : Hid (orf f 0 = f) := by show _ = _; unfold orf; split <;> simp_all
    clear hb0
    go_enter Tryz.func87, Tryz.ntmps87
    go_wp2_with fail
    go_end0
    rw [HO.out]
    exact ⟨rfl, HS.out, Fr.refl _ _ _⟩

/-- What take tells, and what it leaves. -/
def tkB (c : Nat) (b : List Nat) : List Nat := if b.length < c then [] else b.take c
def tkR (c : Nat) (b : List Nat) : List Nat := if b.length < c then b else b.drop c
def tkF (c : Nat) (b : List Nat) (f : Nat) : Nat := if b.length < c then orf f 30 else f

set_option maxRecDepth 100000 in
set_option maxHeartbeats 2000000 in
theorem ctake_any {w : World} {p f : Nat} {b : List Nat} (h : Rs w p b f) (c : Nat) (hc : c < 18446744073709551616) :
    Calls Tryz.prog 101 #[.pointer (some ⟨p, 0, none⟩), .int .u64 (c : Int)] w fun r w' => (∃ v, r = .returned v ∧ Sv w' v (vals .u8 (tkB c b))) ∧ Rs w' p (tkR c b) (tkF c b f) ∧ Fr p w.heap.size w w' := by
  have HS := hidden h
  obtain ⟨a, cap, h0, h1, h2, h3, h4, h5, h6, h7, h8, h9, h10⟩ := h.cells
  have HR := hidden (crefuse_any h 30)
  by_cases hp : b.length < c
  · have hp' : (c : Int) > (b.length : Int) := by omega
    have HB : Hid (tkB c b = [] ∧ tkR c b = b ∧ tkF c b f = orf f 30) := ⟨if_pos hp, if_pos hp, if_pos hp⟩
    clear h h6 h7 h8 h9 h10 hp
    go_enter Tryz.func101, Tryz.ntmps101
    go_wp2_with fail
    refine HR.out.mono ?_
    rintro e w1 ⟨rfl, hs1, hf1⟩
    have HS1 := hidden hs1
    have HF1 := hidden hf1
    clear hs1 hf1
    go_wp2_with fail
    go_ret
    rw [HB.out.1, HB.out.2.1, HB.out.2.2]
    exact ⟨⟨_, rfl, Sv.nil _⟩, HS1.out, HF1.out⟩
  · have hp' : ¬ (c : Int) > (b.length : Int) := by omega
    have HB : Hid (tkB c b = b.take c ∧ tkR c b = b.drop c ∧ tkF c b f = f) := ⟨if_neg hp, if_neg hp, if_neg hp⟩
    obtain ⟨A, hA, hSA⟩ := h9 c (by omega)
    have HSA := hidden hSA
    have HF := hidden ((Fr.refl p w.heap.size w).set 0 (.slice A (b.length - c) (cap - c)))
    have hT : Sv w (.slice a c cap) (vals .u8 (b.take c)) := by
      have := h6.take (k := c) (by rw [vals_length]; omega)
      rwa [← vals_take] at this
    have hTb : 0 < (vals .u8 (b.take c)).length → ∀ k, (Value.slice a c cap).ownBlock = some k → k < p := fun h0 k hk => h7 (by rw [vals_length, List.length_take] at h0; omega) k (by cases a with | none => cases hk | some x => exact hk)
    have HT := hidden (hT.keptW hTb ((Below.refl p w).setCell (p := ⟨p, 0, none⟩) (Nat.le_refl _) (.slice A (b.length - c) (cap - c))))
    clear h h6 h7 h8 h9 h10 hp hSA hT hTb
    go_enter Tryz.func101, Tryz.ntmps101
    go_wp2_with fail
    go_ret
    rw [HB.out.1, HB.out.2.1, HB.out.2.2]
    exact ⟨⟨_, rfl, HT.out⟩, HSA.out, HF.out⟩
end Go.Proofs.YtcmmednihoaekaaGreat
