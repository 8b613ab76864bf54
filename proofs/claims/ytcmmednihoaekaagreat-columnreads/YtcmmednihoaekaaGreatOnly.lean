/- What the laws over cells of one kind share. -/
import Derived.Test.YtcmmednihoaekaaGreatLwC
set_option linter.unusedVariables false
namespace Go.Proofs.YtcmmednihoaekaaGreat
open Go.RowKit Go.Lib

theorem only_col {k : Nat} {l : List (Nat × Int × List Nat)} (hk : 1 ≤ k ∧ k ≤ 3) (h : ∀ c ∈ l, Okc c) : Col k ((l.take 256).map (onlyC k)) := by
  refine ⟨hk, by rw [List.length_map, List.length_take]; omega, fun c hc => ?_⟩
  obtain ⟨x, hx, rfl⟩ := List.mem_map.1 hc
  exact onlyC_cellk (h x (List.mem_of_mem_take hx))

theorem map_fix {l : List (Nat × Int × List Nat)} (h : ∀ c ∈ l, Fine c) : l.map fixC = l := by
  conv => rhs; rw [← List.map_id l]
  apply List.map_congr_left
  intro c hc
  exact fixC_same (h c hc)

/-- Values of one kind: the row, and its bytes. -/
theorem only_written {k : Nat} {X : List (Nat × Int × List Nat)} (hc : Col k X) :
    (∀ (W : World) (v : Value), Sc W v X → Calls Tryz.prog 11 #[v] W fun e w' => (∃ v', e = .returned v' ∧ OwnV w' W.heap.size v' X) ∧ Below W.heap.size W w') ∧
    (∀ (W : World) (B : Nat) (v : Value), OwnV W B v X → Calls Tryz.prog 10 #[.int .u8 (k : Int), v] W fun e w' => (∃ v', e = .returned (.tuple #[v', .int .i64 0]) ∧ OwnB w' W.heap.size v' (colM k X)) ∧ Below W.heap.size W w') := by
  have hf : ∀ c ∈ X, Fine c := fun c h => (hc.2.2 c h).fine
  have hl := hc.2.1
  refine ⟨fun W v h => ?_, fun W B v h => ?_⟩
  · have := row6_any h (fun c h => (hf c h).okc) (by omega)
    rw [map_fix hf] at this
    exact this
  · have := write_any (OwnV.sv h) (own_low_block h) hf k
    rw [writeC_col hc] at this
    exact this

theorem told_back {k : Nat} {X l : List (Nat × Int × List Nat)} {er : Nat} (hc : Col k X) (h : Told6 k (colM k X) (X.length : Int) l er) : er = 0 ∧ l = X := by
  unfold Told6 at h
  have hl := hc.2.1
  rw [if_pos hc.1, if_pos (by omega), Int.toNat_natCast, readC_back hc] at h
  rcases h with ⟨h1, h2⟩ | ⟨_, _, _, h2⟩
  · exact ⟨h1, (Option.some.inj h2).symm⟩
  · cases h2

theorem told_none {k : Nat} {b : List Nat} {n : Nat} {l : List (Nat × Int × List Nat)} {er : Nat} (hk : 1 ≤ k ∧ k ≤ 3) (hn : n ≤ 256) (h : Told6 k b (n : Int) l er) (h0 : readC k b n = none) : er ≠ 0 := by
  unfold Told6 at h
  rw [if_pos hk, if_pos (by omega), Int.toNat_natCast, h0] at h
  rcases h with ⟨_, h2⟩ | ⟨h1, _⟩
  · cases h2
  · exact h1

theorem told_some {k : Nat} {b : List Nat} {n : Nat} {l y : List (Nat × Int × List Nat)} {er : Nat} (hk : 1 ≤ k ∧ k ≤ 3) (hn : n ≤ 256) (h : Told6 k b (n : Int) l er) (h0 : readC k b n = some y) : er = 0 := by
  unfold Told6 at h
  rw [if_pos hk, if_pos (by omega), Int.toNat_natCast, h0] at h
  rcases h with ⟨h1, _⟩ | ⟨_, _, _, h2⟩
  · exact h1
  · cases h2

theorem lit_none (w : World) : OwnB (w.alloc (.cells #[] 5)) w.heap.size (.slice (some ⟨w.heap.size, 0, none⟩) 0 0) [] :=
  World.ownsRow_lit w #[] 0 (Nat.le_refl _) (by unfold maxLen; omega) rfl
end Go.Proofs.YtcmmednihoaekaaGreat
