/- ValueOrder: whatever three cells are handed in, the law returns true: of the values that they are (null, where one is no value's cell) Compare says which is ahead as the document does, the other way round the contrary, zero just where the cells are the same; and of three it goes on; nothing that was there is written. No condition. -/
import Derived.Test.YtamigccnkhoidaaLift
import Derived.Test.YtamigccnkhoidaaRef
import Derived.Deep.RegionHeld3
namespace Go.Proofs.Ytamigccnkhoidaa
namespace OrderLaw
open Go.ChangeShapes Go.WideShapes Go.ChangeAt Go.RowKit

/-- A cell lies at the head of block g. -/
theorem keep3 {g : Nat} {W w' : World} {a b c : Value} (h : W.cell? ⟨g, 0, none⟩ = some a ∧ W.cell? ⟨g, 1, none⟩ = some b ∧ W.cell? ⟨g, 2, none⟩ = some c) (hg : g < W.heap.size) (hb : Below W.heap.size W w') :
    w'.cell? ⟨g, 0, none⟩ = some a ∧ w'.cell? ⟨g, 1, none⟩ = some b ∧ w'.cell? ⟨g, 2, none⟩ = some c :=
  ⟨(hb.cell (p := ⟨g, 0, none⟩) hg).trans h.1, (hb.cell (p := ⟨g, 1, none⟩) hg).trans h.2.1, (hb.cell (p := ⟨g, 2, none⟩) hg).trans h.2.2⟩

theorem keep9 {g : Nat} {W w' : World} {a b c a' b' c' a2 b2 c2 : Value} (h : W.cell? ⟨g, 0, none⟩ = some a ∧ W.cell? ⟨g, 1, none⟩ = some b ∧ W.cell? ⟨g, 2, none⟩ = some c ∧ W.cell? ⟨g + 1, 0, none⟩ = some a' ∧ W.cell? ⟨g + 1, 1, none⟩ = some b' ∧ W.cell? ⟨g + 1, 2, none⟩ = some c' ∧ W.cell? ⟨g + 1 + 1, 0, none⟩ = some a2 ∧ W.cell? ⟨g + 1 + 1, 1, none⟩ = some b2 ∧ W.cell? ⟨g + 1 + 1, 2, none⟩ = some c2 ∧ g + 1 + 1 < W.heap.size) (hb : Below W.heap.size W w') :
    w'.cell? ⟨g, 0, none⟩ = some a ∧ w'.cell? ⟨g, 1, none⟩ = some b ∧ w'.cell? ⟨g, 2, none⟩ = some c ∧ w'.cell? ⟨g + 1, 0, none⟩ = some a' ∧ w'.cell? ⟨g + 1, 1, none⟩ = some b' ∧ w'.cell? ⟨g + 1, 2, none⟩ = some c' ∧ w'.cell? ⟨g + 1 + 1, 0, none⟩ = some a2 ∧ w'.cell? ⟨g + 1 + 1, 1, none⟩ = some b2 ∧ w'.cell? ⟨g + 1 + 1, 2, none⟩ = some c2 ∧ g + 1 + 1 < w'.heap.size := by
  obtain ⟨h1, h2, h3, h4, h5, h6, h7, h8, h9, hz⟩ := h
  obtain ⟨q1, q2, q3⟩ := keep3 ⟨h1, h2, h3⟩ (by omega) hb
  obtain ⟨q4, q5, q6⟩ := keep3 ⟨h4, h5, h6⟩ (by omega) hb
  obtain ⟨q7, q8, q9⟩ := keep3 ⟨h7, h8, h9⟩ (by omega) hb
  exact ⟨q1, q2, q3, q4, q5, q6, q7, q8, q9, Nat.lt_of_lt_of_le hz hb.size⟩

theorem ne_ways {K N K' N' : Int} {T T' : ByteArray} (h : ¬ (K = K' ∧ N = N' ∧ T = T')) : (¬ K = K') ∨ (K = K' ∧ ¬ N = N') ∨ (K = K' ∧ N = N' ∧ ¬ T.toList = T'.toList) := by
  by_cases h1 : K = K'
  · by_cases h2 : N = N'
    · exact Or.inr (Or.inr ⟨h1, h2, fun h3 => h ⟨h1, h2, bytes_ext h3⟩⟩)
    · exact Or.inr (Or.inl ⟨h1, h2⟩)
  · exact Or.inl h1

set_option maxHeartbeats 4000000 in
theorem walk (k n : Int) (s : ByteArray) (k' n' : Int) (s' : ByteArray) (k2 n2 : Int) (s2 : ByteArray) (h0 : 0 ≤ k) (h1 : 0 ≤ k') (h2 : 0 ≤ k2) (w : World) :
    Calls Try.prog 4 #[.agg #[.int .u8 k, .int .i64 n, .string s], .agg #[.int .u8 k', .int .i64 n', .string s'], .agg #[.int .u8 k2, .int .i64 n2, .string s2]] w fun e w' => e = .returned (.bool true) ∧ Below w.heap.size w w' := by
  go_enter Try.func4, Try.ntmps4
  go_wp2_with fail
  refine (alive_any _).mono ?_
  rintro e w1 ⟨rfl, hb1⟩
  have hz1 := hb1.size
  simp at hz1
  obtain ⟨hc, hf⟩ := bcell hb1
  have a0 := hc w.heap.size 0 (by simp; omega)
  have a1 := hc w.heap.size 1 (by simp; omega)
  have a2 := hc w.heap.size 2 (by simp; omega)
  have b0 := hc (w.heap.size + 1) 0 (by simp)
  have b1 := hc (w.heap.size + 1) 1 (by simp)
  have b2 := hc (w.heap.size + 1) 2 (by simp)
  have d0 := hc (w.heap.size + 1 + 1) 0 (by simp)
  have d1 := hc (w.heap.size + 1 + 1) 1 (by simp)
  have d2 := hc (w.heap.size + 1 + 1) 2 (by simp)
  simp [go_sem] at a0 a1 a2 b0 b1 b2 d0 d1 d2
  have z1 : w.heap.size + 1 + 1 < w1.heap.size := by omega
  have B1 : Hid (Below w.heap.size w w1) := ((((Below.refl _ _).alloc (Nat.le_refl _) _).alloc (by simp) _).alloc (by simp; omega) _).trans (hb1.mono (by simp; omega))
  clear hc hf hb1 hz1
  go_wp2_with fail
  go_region_held3 (fun w' => w'.cell? ⟨w.heap.size, 0, none⟩ = some (.int .u8 k) ∧ w'.cell? ⟨w.heap.size, 1, none⟩ = some (.int .i64 n) ∧ w'.cell? ⟨w.heap.size, 2, none⟩ = some (.string s) ∧ w'.cell? ⟨w.heap.size + 1, 0, none⟩ = some (.int .u8 k') ∧ w'.cell? ⟨w.heap.size + 1, 1, none⟩ = some (.int .i64 n') ∧ w'.cell? ⟨w.heap.size + 1, 2, none⟩ = some (.string s') ∧ w'.cell? ⟨w.heap.size + 1 + 1, 0, none⟩ = some (.int .u8 k2) ∧ w'.cell? ⟨w.heap.size + 1 + 1, 1, none⟩ = some (.int .i64 n2) ∧ w'.cell? ⟨w.heap.size + 1 + 1, 2, none⟩ = some (.string s2) ∧ w.heap.size + 1 + 1 < w'.heap.size) (first | go_keep | (refine keep9 ?_ hbx; assumption) | (refine keep9 ?_ hby; assumption) | (refine keep9 ?_ hbz; assumption)) (first | (go_at_call_of 16 (Value.agg #[.int .u8 k, .int .i64 n, .string s]); refine (value_any _ _ _ h0 _).mono ?_; rintro e wx ⟨⟨x, rfl, hx⟩, hbx⟩) | (go_at_call_of 16 (Value.agg #[.int .u8 k', .int .i64 n', .string s']); refine (value_any _ _ _ h1 _).mono ?_; rintro e wy ⟨⟨y, rfl, hy⟩, hby⟩) | (go_at_call_of 16 (Value.agg #[.int .u8 k2, .int .i64 n2, .string s2]); refine (value_any _ _ _ h2 _).mono ?_; rintro e wz ⟨⟨z, rfl, hz⟩, hbz⟩))
  rename_i hS
  clear hS
  have Bz : Hid (Below w.heap.size w wz) := by
    have e1 := hbx.size
    have e2 := hby.size
    have e3 := hbz.size
    have e0 := B1.out.size
    simp at e1
    exact (((B1.out.drew).trans (hbx.mono (by simp; omega))).trans (hby.mono (by omega))).trans (hbz.mono (by omega))
  clear hbx hby hbz B1 z1 a0 a1 a2 b0 b1 b2 d0 d1 d2 h0 h1 h2
  generalize fk k n s = K at *
  generalize fn k n s = N at *
  generalize fs k n s = T at *
  generalize fk k' n' s' = K' at *
  generalize fn k' n' s' = N' at *
  generalize fs k' n' s' = T' at *
  generalize fk k2 n2 s2 = K2 at *
  generalize fn k2 n2 s2 = N2 at *
  generalize fs k2 n2 s2 = T2 at *
  have hr := cv_range K N T K' N' T'
  have hs := cv_swap K N T K' N' T'
  have h0 := cv_zero K N T K' N' T'
  have ht := cv_trans K N T K' N' T' K2 N2 T2
  have g1 : ∀ w : World, Calls Try.prog 17 #[x, y] w fun e w' => e = .returned (.int .i64 (cv K N T K' N' T')) ∧ Below w.heap.size w w' := compare_cv hx hy
  have g2 : ∀ w : World, Calls Try.prog 17 #[y, x] w fun e w' => e = .returned (.int .i64 (cv K' N' T' K N T)) ∧ Below w.heap.size w w' := compare_cv hy hx
  have g3 : ∀ w : World, Calls Try.prog 17 #[y, z] w fun e w' => e = .returned (.int .i64 (cv K' N' T' K2 N2 T2)) ∧ Below w.heap.size w w' := compare_cv hy hz
  have g4 : ∀ w : World, Calls Try.prog 17 #[x, z] w fun e w' => e = .returned (.int .i64 (cv K N T K2 N2 T2)) ∧ Below w.heap.size w w' := compare_cv hx hz
  have g5 := refCompare_any K N T K' N' T'
  rw [hs] at g2
  clear hs
  generalize cv K N T K' N' T' = c at *
  generalize cv K' N' T' K2 N2 T2 = d at *
  generalize cv K N T K2 N2 T2 = f at *
  have G1 : Hid (∀ w : World, Calls Try.prog 17 #[x, y] w fun e w' => e = .returned (.int .i64 c) ∧ Below w.heap.size w w') := g1
  have G2 : Hid (∀ w : World, Calls Try.prog 17 #[y, x] w fun e w' => e = .returned (.int .i64 (-c)) ∧ Below w.heap.size w w') := g2
  have G3 : Hid (∀ w : World, Calls Try.prog 17 #[y, z] w fun e w' => e = .returned (.int .i64 d) ∧ Below w.heap.size w w') := g3
  have G4 : Hid (∀ w : World, Calls Try.prog 17 #[x, z] w fun e w' => e = .returned (.int .i64 f) ∧ Below w.heap.size w w') := g4
  have G5 : Hid (∀ w : World, Calls Try.prog 18 #[.agg #[.int .u8 K, .int .i64 N, .string T], .agg #[.int .u8 K', .int .i64 N', .string T']] w fun e w' => e = .returned (.int .i64 c) ∧ Below w.heap.size w w') := g5
  have GX : Hid (∀ w : World, Calls Try.prog 12 #[x] w fun e w' => e = .returned (.agg #[.int .u8 K, .int .i64 N, .string T]) ∧ Below w.heap.size w w') := fun w => lawCell_any hx w
  have GY : Hid (∀ w : World, Calls Try.prog 12 #[y] w fun e w' => e = .returned (.agg #[.int .u8 K', .int .i64 N', .string T']) ∧ Below w.heap.size w w') := fun w => lawCell_any hy w
  clear g1 g2 g3 g4 g5 hx hy hz
  have hcase : (c = 1 ∧ ¬ (K = K' ∧ N = N' ∧ T = T')) ∨ (c = -1 ∧ 0 < d ∧ ¬ (K = K' ∧ N = N' ∧ T = T')) ∨ (c = -1 ∧ d ≤ 0 ∧ f ≤ 0 ∧ ¬ (K = K' ∧ N = N' ∧ T = T')) ∨ (c = 0 ∧ 0 < d ∧ K = K' ∧ N = N' ∧ T = T') ∨ (c = 0 ∧ d ≤ 0 ∧ f ≤ 0 ∧ K = K' ∧ N = N' ∧ T = T') := by
    rcases hr with rfl | rfl | rfl
    · have hne : ¬ (K = K' ∧ N = N' ∧ T = T') := fun h => by have := h0.2 h; omega
      by_cases hd : 0 < d
      · exact Or.inr (Or.inl ⟨rfl, hd, hne⟩)
      · exact Or.inr (Or.inr (Or.inl ⟨rfl, by omega, ht (by omega) (by omega), hne⟩))
    · have he := h0.1 rfl
      by_cases hd : 0 < d
      · exact Or.inr (Or.inr (Or.inr (Or.inl ⟨rfl, hd, he⟩)))
      · exact Or.inr (Or.inr (Or.inr (Or.inr ⟨rfl, by omega, ht (by omega) (by omega), he⟩)))
    · exact Or.inl ⟨rfl, fun h => by have := h0.2 h; omega⟩
  clear hr h0 ht
  rcases hcase with ⟨rfl, hne⟩ | ⟨rfl, hd, hne⟩ | ⟨rfl, hd, hf, hne⟩ | ⟨rfl, hd, rfl, rfl, rfl⟩ | ⟨rfl, hd, hf, rfl, rfl, rfl⟩
  · rcases ne_ways hne with hk | ⟨rfl, hk⟩ | ⟨rfl, rfl, hk⟩
    all_goals
      clear hne
      go_wp2_with fail
      refine (G1.out _).mono ?_
      rintro e v1 ⟨rfl, hb1⟩
      go_wp2_with fail
      refine (GX.out _).mono ?_
      rintro e v2 ⟨rfl, hb2⟩
      go_wp2_with fail
      refine (GY.out _).mono ?_
      rintro e v3 ⟨rfl, hb3⟩
      go_wp2_with fail
      refine (G5.out _).mono ?_
      rintro e v4 ⟨rfl, hb4⟩
      go_wp2_with fail
      refine (G2.out _).mono ?_
      rintro e v5 ⟨rfl, hb5⟩
      go_wp2_with fail
      refine (GX.out _).mono ?_
      rintro e v6 ⟨rfl, hb6⟩
      go_wp2_with fail
      refine (GY.out _).mono ?_
      rintro e v7 ⟨rfl, hb7⟩
      go_wp2_with fail
      go_ret
      exact ⟨rfl, (((((((Bz.out).trans (hb1.mono (by have := Bz.out.size; omega))).trans (hb2.mono (by have := Bz.out.size; have := hb1.size; omega))).trans (hb3.mono (by have := Bz.out.size; have := hb1.size; have := hb2.size; omega))).trans (hb4.mono (by have := Bz.out.size; have := hb1.size; have := hb2.size; have := hb3.size; omega))).trans (hb5.mono (by have := Bz.out.size; have := hb1.size; have := hb2.size; have := hb3.size; have := hb4.size; omega))).trans (hb6.mono (by have := Bz.out.size; have := hb1.size; have := hb2.size; have := hb3.size; have := hb4.size; have := hb5.size; omega))).trans (hb7.mono (by have := Bz.out.size; have := hb1.size; have := hb2.size; have := hb3.size; have := hb4.size; have := hb5.size; have := hb6.size; omega))⟩
  · rcases ne_ways hne with hk | ⟨rfl, hk⟩ | ⟨rfl, rfl, hk⟩
    all_goals
      clear hne
      go_wp2_with fail
      refine (G1.out _).mono ?_
      rintro e v1 ⟨rfl, hb1⟩
      go_wp2_with fail
      refine (GX.out _).mono ?_
      rintro e v2 ⟨rfl, hb2⟩
      go_wp2_with fail
      refine (GY.out _).mono ?_
      rintro e v3 ⟨rfl, hb3⟩
      go_wp2_with fail
      refine (G5.out _).mono ?_
      rintro e v4 ⟨rfl, hb4⟩
      go_wp2_with fail
      refine (G2.out _).mono ?_
      rintro e v5 ⟨rfl, hb5⟩
      go_wp2_with fail
      refine (GX.out _).mono ?_
      rintro e v6 ⟨rfl, hb6⟩
      go_wp2_with fail
      refine (GY.out _).mono ?_
      rintro e v7 ⟨rfl, hb7⟩
      go_wp2_with fail
      refine (G3.out _).mono ?_
      rintro e v8 ⟨rfl, hb8⟩
      go_wp2_with fail
      go_ret
      exact ⟨rfl, ((((((((Bz.out).trans (hb1.mono (by have := Bz.out.size; omega))).trans (hb2.mono (by have := Bz.out.size; have := hb1.size; omega))).trans (hb3.mono (by have := Bz.out.size; have := hb1.size; have := hb2.size; omega))).trans (hb4.mono (by have := Bz.out.size; have := hb1.size; have := hb2.size; have := hb3.size; omega))).trans (hb5.mono (by have := Bz.out.size; have := hb1.size; have := hb2.size; have := hb3.size; have := hb4.size; omega))).trans (hb6.mono (by have := Bz.out.size; have := hb1.size; have := hb2.size; have := hb3.size; have := hb4.size; have := hb5.size; omega))).trans (hb7.mono (by have := Bz.out.size; have := hb1.size; have := hb2.size; have := hb3.size; have := hb4.size; have := hb5.size; have := hb6.size; omega))).trans (hb8.mono (by have := Bz.out.size; have := hb1.size; have := hb2.size; have := hb3.size; have := hb4.size; have := hb5.size; have := hb6.size; have := hb7.size; omega))⟩
  · rcases ne_ways hne with hk | ⟨rfl, hk⟩ | ⟨rfl, rfl, hk⟩
    all_goals
      clear hne
      go_wp2_with fail
      refine (G1.out _).mono ?_
      rintro e v1 ⟨rfl, hb1⟩
      go_wp2_with fail
      refine (GX.out _).mono ?_
      rintro e v2 ⟨rfl, hb2⟩
      go_wp2_with fail
      refine (GY.out _).mono ?_
      rintro e v3 ⟨rfl, hb3⟩
      go_wp2_with fail
      refine (G5.out _).mono ?_
      rintro e v4 ⟨rfl, hb4⟩
      go_wp2_with fail
      refine (G2.out _).mono ?_
      rintro e v5 ⟨rfl, hb5⟩
      go_wp2_with fail
      refine (GX.out _).mono ?_
      rintro e v6 ⟨rfl, hb6⟩
      go_wp2_with fail
      refine (GY.out _).mono ?_
      rintro e v7 ⟨rfl, hb7⟩
      go_wp2_with fail
      refine (G3.out _).mono ?_
      rintro e v8 ⟨rfl, hb8⟩
      go_wp2_with fail
      refine (G4.out _).mono ?_
      rintro e v9 ⟨rfl, hb9⟩
      go_wp2_with fail
      go_ret
      exact ⟨rfl, (((((((((Bz.out).trans (hb1.mono (by have := Bz.out.size; omega))).trans (hb2.mono (by have := Bz.out.size; have := hb1.size; omega))).trans (hb3.mono (by have := Bz.out.size; have := hb1.size; have := hb2.size; omega))).trans (hb4.mono (by have := Bz.out.size; have := hb1.size; have := hb2.size; have := hb3.size; omega))).trans (hb5.mono (by have := Bz.out.size; have := hb1.size; have := hb2.size; have := hb3.size; have := hb4.size; omega))).trans (hb6.mono (by have := Bz.out.size; have := hb1.size; have := hb2.size; have := hb3.size; have := hb4.size; have := hb5.size; omega))).trans (hb7.mono (by have := Bz.out.size; have := hb1.size; have := hb2.size; have := hb3.size; have := hb4.size; have := hb5.size; have := hb6.size; omega))).trans (hb8.mono (by have := Bz.out.size; have := hb1.size; have := hb2.size; have := hb3.size; have := hb4.size; have := hb5.size; have := hb6.size; have := hb7.size; omega))).trans (hb9.mono (by have := Bz.out.size; have := hb1.size; have := hb2.size; have := hb3.size; have := hb4.size; have := hb5.size; have := hb6.size; have := hb7.size; have := hb8.size; omega))⟩
  · go_wp2_with fail
    refine (G1.out _).mono ?_
    rintro e v1 ⟨rfl, hb1⟩
    go_wp2_with fail
    refine (GX.out _).mono ?_
    rintro e v2 ⟨rfl, hb2⟩
    go_wp2_with fail
    refine (GY.out _).mono ?_
    rintro e v3 ⟨rfl, hb3⟩
    go_wp2_with fail
    refine (G5.out _).mono ?_
    rintro e v4 ⟨rfl, hb4⟩
    go_wp2_with fail
    refine (G2.out _).mono ?_
    rintro e v5 ⟨rfl, hb5⟩
    go_wp2_with fail
    refine (GX.out _).mono ?_
    rintro e v6 ⟨rfl, hb6⟩
    go_wp2_with fail
    refine (GY.out _).mono ?_
    rintro e v7 ⟨rfl, hb7⟩
    go_wp2_with fail
    refine (G3.out _).mono ?_
    rintro e v8 ⟨rfl, hb8⟩
    go_wp2_with fail
    go_ret
    exact ⟨rfl, ((((((((Bz.out).trans (hb1.mono (by have := Bz.out.size; omega))).trans (hb2.mono (by have := Bz.out.size; have := hb1.size; omega))).trans (hb3.mono (by have := Bz.out.size; have := hb1.size; have := hb2.size; omega))).trans (hb4.mono (by have := Bz.out.size; have := hb1.size; have := hb2.size; have := hb3.size; omega))).trans (hb5.mono (by have := Bz.out.size; have := hb1.size; have := hb2.size; have := hb3.size; have := hb4.size; omega))).trans (hb6.mono (by have := Bz.out.size; have := hb1.size; have := hb2.size; have := hb3.size; have := hb4.size; have := hb5.size; omega))).trans (hb7.mono (by have := Bz.out.size; have := hb1.size; have := hb2.size; have := hb3.size; have := hb4.size; have := hb5.size; have := hb6.size; omega))).trans (hb8.mono (by have := Bz.out.size; have := hb1.size; have := hb2.size; have := hb3.size; have := hb4.size; have := hb5.size; have := hb6.size; have := hb7.size; omega))⟩
  · go_wp2_with fail
    refine (G1.out _).mono ?_
    rintro e v1 ⟨rfl, hb1⟩
    go_wp2_with fail
    refine (GX.out _).mono ?_
    rintro e v2 ⟨rfl, hb2⟩
    go_wp2_with fail
    refine (GY.out _).mono ?_
    rintro e v3 ⟨rfl, hb3⟩
    go_wp2_with fail
    refine (G5.out _).mono ?_
    rintro e v4 ⟨rfl, hb4⟩
    go_wp2_with fail
    refine (G2.out _).mono ?_
    rintro e v5 ⟨rfl, hb5⟩
    go_wp2_with fail
    refine (GX.out _).mono ?_
    rintro e v6 ⟨rfl, hb6⟩
    go_wp2_with fail
    refine (GY.out _).mono ?_
    rintro e v7 ⟨rfl, hb7⟩
    go_wp2_with fail
    refine (G3.out _).mono ?_
    rintro e v8 ⟨rfl, hb8⟩
    go_wp2_with fail
    refine (G4.out _).mono ?_
    rintro e v9 ⟨rfl, hb9⟩
    go_wp2_with fail
    go_ret
    exact ⟨rfl, (((((((((Bz.out).trans (hb1.mono (by have := Bz.out.size; omega))).trans (hb2.mono (by have := Bz.out.size; have := hb1.size; omega))).trans (hb3.mono (by have := Bz.out.size; have := hb1.size; have := hb2.size; omega))).trans (hb4.mono (by have := Bz.out.size; have := hb1.size; have := hb2.size; have := hb3.size; omega))).trans (hb5.mono (by have := Bz.out.size; have := hb1.size; have := hb2.size; have := hb3.size; have := hb4.size; omega))).trans (hb6.mono (by have := Bz.out.size; have := hb1.size; have := hb2.size; have := hb3.size; have := hb4.size; have := hb5.size; omega))).trans (hb7.mono (by have := Bz.out.size; have := hb1.size; have := hb2.size; have := hb3.size; have := hb4.size; have := hb5.size; have := hb6.size; omega))).trans (hb8.mono (by have := Bz.out.size; have := hb1.size; have := hb2.size; have := hb3.size; have := hb4.size; have := hb5.size; have := hb6.size; have := hb7.size; omega))).trans (hb9.mono (by have := Bz.out.size; have := hb1.size; have := hb2.size; have := hb3.size; have := hb4.size; have := hb5.size; have := hb6.size; have := hb7.size; have := hb8.size; omega))⟩

set_option maxRecDepth 100000 in
theorem lifted (os : Os) (started : os.Started) (H : Type) (enc : TypeId × Value → H) :
    ReturnsInHanded {} Try.checked os 4 .any (Rows.valueOrderSpec.pre6 enc Try.prog Try.f4 Rows.valueOrderRow.domain false) (Rows.valueOrderSpec.post enc Try.prog Try.f4 false true false false) := by
  refine returnsInHanded_of_change (C := Try.checked) own started (by kernel_rfl) Try.func4
    (ChangeSpec.witness6 (enc := enc) (C := Try.checked) false ⟨#[], #[.agg #[.int .u8 0, .int .i64 0, .string ⟨#[]⟩], .agg #[.int .u8 0, .int .i64 0, .string ⟨#[]⟩], .agg #[.int .u8 0, .int .i64 0, .string ⟨#[]⟩]], []⟩ 8 (by kernel_rfl) (by kernel_rfl) (by kernel_rfl) (by kernel_rfl)) ?_
  intro W base args ds gs before hval0 hW hcnd _
  have hval : ∀ (j : Nat) t v, Try.f4.params[j]? = some t → args[j]? = some v → Value.okWide Try.prog W .any base t v := hval0
  have hW' := hW
  obtain ⟨p, q, hA0, hV, rfl, hfz, hnd⟩ := hW
  have hA : DataW.TrodAll enc Try.prog W 0 (fun _ => true) true Try.f4.params.toList args.toList ds p := hA0
  rw [Try.params4] at hA hval
  obtain ⟨v0, vs0, d0, ds0, p0, q0, hargs, rfl, rfl, h0, r0⟩ := trodAll_cons hA
  obtain ⟨v1, vs1, d1, ds1, p1, q1, rfl, rfl, rfl, h1, r1⟩ := trodAll_cons r0
  obtain ⟨v2, vs2, d2, ds2, p2, q2, rfl, rfl, rfl, h2, r2⟩ := trodAll_cons r1
  obtain ⟨rfl, rfl, rfl⟩ := trodAll_nil r2
  obtain rfl : args = #[v0, v1, v2] := by cases args; simp_all
  obtain ⟨rfl, rfl⟩ := trodVars_none hV
  obtain ⟨k, n, s, rfl, hk⟩ := open_cell (hval 0 24 v0 rfl rfl) h0
  obtain ⟨k', n', s', rfl, hk'⟩ := open_cell (hval 1 24 v1 rfl rfl) h1
  obtain ⟨k2, n2, s2, rfl, hk2⟩ := open_cell (hval 2 24 v2 rfl rfl) h2
  have lt0 : ∀ x ∈ p0, x.block < W.heap.size := by obtain ⟨m, hm⟩ := h0; exact DataW.trod_lt m _ _ _ hm
  have lt1 : ∀ x ∈ p1, x.block < W.heap.size := by obtain ⟨m, hm⟩ := h1; exact DataW.trod_lt m _ _ _ hm
  have lt2 : ∀ x ∈ p2, x.block < W.heap.size := by obtain ⟨m, hm⟩ := h2; exact DataW.trod_lt m _ _ _ hm
  clear hA0 hval0
  refine (walk k n s k' n' s' k2 n2 s2 hk hk' hk2 W).mono fun e W' ⟨he, bel⟩ => ?_
  subst he
  exact ⟨_, rfl, _, _, _, [], _, [], hW', trodAll_mk1 (shut_bool Try.underlying4 _), (trodAll_cons_mk (Below.trod laidOut (by kernel_rfl) (of_decide_eq_true (by kernel_rfl)) h0 bel lt0) (trodAll_cons_mk (Below.trod laidOut (by kernel_rfl) (of_decide_eq_true (by kernel_rfl)) h1 bel lt1) (trodAll_cons_mk (Below.trod laidOut (by kernel_rfl) (of_decide_eq_true (by kernel_rfl)) h2 bel lt2) trodAll_mk0))), rfl, bel.frame _, fun h => by cases h⟩

theorem proved : Rows.ValueOrderSaid :=
  OpenClaim.holds_of_wide 4 Try.f4 rfl rfl rfl rfl rfl rfl rfl ⟨rfl, rfl, rfl, rfl, rfl⟩ rfl rfl rfl rfl rfl (by kernel_rfl) Try.func4 (by kernel_rfl)
    (of_decide_eq_true (by kernel_rfl)) (by unfold Func.isWrapper; first | (rw [if_pos (by decide +kernel)]; kernel_rfl) | (rw [if_neg (by decide +kernel)]; exact ⟨rfl, rfl⟩))
    (fun os started H enc _ => lifted os started H enc)
end OrderLaw
theorem valueOrder_holds : Rows.ValueOrderSaid := OrderLaw.proved
#print axioms valueOrder_holds
end Go.Proofs.Ytamigccnkhoidaa
