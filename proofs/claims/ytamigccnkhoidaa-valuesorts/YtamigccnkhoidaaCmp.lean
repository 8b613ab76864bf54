/- The contract of value.Compare. -/
import Derived.Test.YtamigccnkhoidaaLeaf
import Derived.Deep.RegionHeld3
namespace Go.Proofs.Ytamigccnkhoidaa
open Go.RowKit

set_option maxHeartbeats 1000000 in
theorem compare_any {x y : Value} {k n k' n' : Int} {s s' : ByteArray} (hx : Val x k n s) (hy : Val y k' n' s') (w : World) : Calls Try.prog 17 #[x, y] w fun e w' => e = .returned (.int .i64 (or3 (c3 k k') (c3 n n') (cS s s'))) ∧ Below w.heap.size w w' := by
  go_enter Try.func17, Try.ntmps17
  go_wp2_with fail
  refine (cellOf_any hx _).mono ?_
  rintro e w1 ⟨rfl, hb1⟩
  go_wp2_with fail
  refine (cellOf_any hy _).mono ?_
  rintro e w2 ⟨rfl, hb2⟩
  have hz1 := hb1.size
  have hz2 : w1.heap.size < w2.heap.size := by have := hb2.size; simp at this; omega
  obtain ⟨hc2, hf2⟩ := bcell hb2
  have p0 := hc2 w1.heap.size 0 (by simp)
  have p1 := hc2 w1.heap.size 1 (by simp)
  have p2 := hc2 w1.heap.size 2 (by simp)
  clear hc2 hf2
  simp at p0 p1 p2
  go_wp2_with fail
  obtain ⟨W, hW⟩ : ∃ W : World, W = w2.alloc (Obj.cells #[Value.int IntKind.u8 k', Value.int IntKind.i64 n', Value.string s'] 24) := ⟨_, rfl⟩
  have hbW : Below w2.heap.size w2 W := by rw [hW]; exact (Below.refl _ _).alloc (Nat.le_refl _) _
  have a0 : W.cell? ⟨w1.heap.size, 0, none⟩ = some (.int .u8 k) := (hbW.cell (p := ⟨w1.heap.size, 0, none⟩) hz2).trans p0
  have a1 : W.cell? ⟨w1.heap.size, 1, none⟩ = some (.int .i64 n) := (hbW.cell (p := ⟨w1.heap.size, 1, none⟩) hz2).trans p1
  have a2 : W.cell? ⟨w1.heap.size, 2, none⟩ = some (.string s) := (hbW.cell (p := ⟨w1.heap.size, 2, none⟩) hz2).trans p2
  have b0 : W.cell? ⟨w2.heap.size, 0, none⟩ = some (.int .u8 k') := by rw [hW]; simp
  have b1 : W.cell? ⟨w2.heap.size, 1, none⟩ = some (.int .i64 n') := by rw [hW]; simp
  have b2 : W.cell? ⟨w2.heap.size, 2, none⟩ = some (.string s') := by rw [hW]; simp
  have hzW : w2.heap.size < W.heap.size := by rw [hW]; simp
  have hzV : w1.heap.size < W.heap.size := by omega
  have HB : Below w.heap.size w W := by rw [hW]; exact (((hb1.alloc (by omega) _).trans (hb2.mono (by simp; omega))).alloc (by omega) _)
  have HH : Hid (Below w.heap.size w W) := HB
  clear HB
  rw [← hW]
  clear hW hbW p0 p1 p2 hb1 hb2 hx hy
  go_region_held3 (fun w' => w'.cell? ⟨w1.heap.size, 0, none⟩ = some (.int .u8 k) ∧ w'.cell? ⟨w1.heap.size, 1, none⟩ = some (.int .i64 n) ∧ w'.cell? ⟨w1.heap.size, 2, none⟩ = some (.string s) ∧ w'.cell? ⟨w2.heap.size, 0, none⟩ = some (.int .u8 k') ∧ w'.cell? ⟨w2.heap.size, 1, none⟩ = some (.int .i64 n') ∧ w'.cell? ⟨w2.heap.size, 2, none⟩ = some (.string s')) (go_keep) (first | (go_at_call 30; refine (cmpK_any _ _ _).mono ?_; rintro e w' ⟨rfl, rfl⟩) | (go_at_call 31; refine (cmpI_any _ _ _).mono ?_; rintro e w' ⟨rfl, rfl⟩) | (go_at_call 32; refine (cmpS_any _ _ _).mono ?_; rintro e w' ⟨rfl, rfl⟩) | (go_at_call 29; refine (or_any _ (c3 k k') (c3 n n') (cS s s') _ ?_ ?_ ?_).mono ?_; (simp); (simp); (simp); rintro e w' ⟨rfl, rfl⟩))
  all_goals go_wp2
  all_goals go_ret
  all_goals refine ⟨rfl, ?_⟩
  all_goals exact (HH.out.alloc (by have := HH.out.size; omega) _).drew
end Go.Proofs.Ytamigccnkhoidaa
