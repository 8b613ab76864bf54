/- The document's reader: Whole, Num, packed. -/
import Derived.Test.YtcmmednihoaekaaGreatReader
set_option linter.unusedVariables false
set_option linter.unusedSimpArgs false
namespace Go.Proofs.YtcmmednihoaekaaGreat
open Go.RowKit Go.Lib

theorem refGet_any {w : World} {v : Value} {l : List UInt8} (h : Sl w v l) : Calls Tryz.prog 61 #[v] w fun e w' => e = tell .u64 ((getL l).1 : Int) (getL l).2.1 (getL l).2.2 ∧ Below w.heap.size w w' := by
  obtain ⟨a, cap, rfl, h1, h2, h3⟩ := h
  cases l with
  | nil => exact refGet_empty a cap w
  | cons x r =>
    obtain ⟨b, off, rfl, h4, h5⟩ := h3 (by simp)
    exact refGet_full b off cap (x :: r) w (by simp) h2 h1 h4 h5

set_option maxRecDepth 100000 in
theorem refGetInt_any {w : World} {v : Value} {l : List UInt8} (h : Sl w v l) : Calls Tryz.prog 107 #[v] w fun e w' => e = tell .i64 (unzig (getL l).1) (getL l).2.1 (getL l).2.2 ∧ Below w.heap.size w w' := by
  have HG := hidden (refGet_any h)
  obtain ⟨f1, f2, f3, f4⟩ := getL_form l
  clear h
  generalize getL l = x at *
  obtain ⟨n, u, c⟩ := x
  simp only at *
  unfold tell at *
  clear f2 f4
  go_enter Tryz.func107, Tryz.ntmps107
  go_wp2_with fail
  refine HG.out.mono ?_
  rintro e w1 ⟨rfl, hb⟩
  have HB := hidden hb
  clear hb
  by_cases hp : n % 2 = 0
  · have hb : ((n : Int) % 2 == 0) = true := by simp; omega
    have HU : Hid (unzig n = (n : Int) / 2) := by
      show unzig n = _
      unfold unzig
      rw [if_pos hp]
      omega
    clear hp
    go_wp2_with fail
    go_ret3
    rw [HU.out]
    exact ⟨rfl, HB.out⟩
  · have hb : ((n : Int) % 2 == 0) = false := by simp; omega
    have HU : Hid (unzig n = -((n : Int) / 2) - 1) := by
      show unzig n = _
      unfold unzig
      rw [if_neg hp]
      omega
    clear hp
    go_wp2_with fail
    go_ret3
    rw [HU.out]
    exact ⟨rfl, HB.out⟩

theorem refGet_sv {w : World} {a : Option Addr} {n cap : Nat} {b : List Nat} (hb : Bs b) (h : Sv w (.slice a n cap) (vals .u8 b)) :
    Calls Tryz.prog 61 #[.slice a n cap] w fun e w' => e = tell .u64 ((gt b).1 : Int) (gt b).2.1 (gt b).2.2 ∧ Below w.heap.size w w' := refGet_any (h.sl hb)
theorem refGetInt_sv {w : World} {a : Option Addr} {n cap : Nat} {b : List Nat} (hb : Bs b) (h : Sv w (.slice a n cap) (vals .u8 b)) :
    Calls Tryz.prog 107 #[.slice a n cap] w fun e w' => e = tell .i64 (unzig (gt b).1) (gt b).2.1 (gt b).2.2 ∧ Below w.heap.size w w' := refGetInt_any (h.sl hb)

theorem goes_wh0 {D : Except Nat (List Int × List Nat)} {g : Int → List Nat → Except Nat (List Int × List Nat)} {b : List Nat} (h : Goes D (bindR wh g) b 0) : Goes D (g (unzig (gt b).1)) (b.drop (gt b).2.1) (gt b).2.2 := by
  have := h.wh
  rwa [orf_zero] at this

theorem goes_num0 {D : Except Nat (List Int × List Nat)} {g : Nat → List Nat → Except Nat (List Int × List Nat)} {b : List Nat} (h : Goes D (bindR num g) b 0) : Goes D (g (gt b).1) (b.drop (gt b).2.1) (gt b).2.2 := by
  have h3 := h.1 rfl
  unfold bindR num at h3
  refine ⟨fun e => ?_, fun e => ?_⟩
  · rw [if_pos e] at h3
    exact h3
  · rw [if_neg e] at h3
    exact h3

/-- What Whole tells: the number, and how the reading goes on. -/
def WholePost (p : Nat) (b : List Nat) (f : Nat) (w : World) (r : Ending) (w' : World) : Prop :=
  ∃ (x : Int) (b' : List Nat) (f' : Nat), r = .returned (.int .i64 x) ∧ I64 x ∧ St 98 w' p b' f' ∧ (∀ D g, Goes D (bindR wh g) b f → Goes D (g x) b' f') ∧ Fr p w.heap.size w w'

def NumPost (p : Nat) (b : List Nat) (f : Nat) (w : World) (r : Ending) (w' : World) : Prop :=
  ∃ (x : Nat) (b' : List Nat) (f' : Nat), r = .returned (.int .u64 (x : Int)) ∧ x < 18446744073709551616 ∧ St 98 w' p b' f' ∧ (∀ D g, Goes D (bindR num g) b f → Goes D (g x) b' f') ∧ Fr p w.heap.size w w'

set_option maxRecDepth 100000 in
set_option maxHeartbeats 2000000 in
theorem refWhole_any {w : World} {p f : Nat} {b : List Nat} (h : St 98 w p b f) : Calls Tryz.prog 88 #[.pointer (some ⟨p, 0, none⟩)] w (WholePost p b f w) := by
  have HS := hidden h
  have HB := hidden h.bs
  have hlt := h.lt
  obtain ⟨g, off, cap, h0, h1, h2, h3, h4, h5, h6, h7, h8, h9⟩ := h.cells
  by_cases hf : f = 0
  · subst hf
    obtain ⟨g1, g2, g3, g4⟩ := gt_form b
    have HG := hidden (refGetInt_sv HB.out h6)
    have HU := hidden (unzig_i64 g1)
    have HW : Hid (∀ D g, Goes D (bindR wh g) b 0 → Goes D (g (unzig (gt b).1)) (b.drop (gt b).2.1) (gt b).2.2) := fun D g h => goes_wh0 h
    clear h h6 h8 h9 g4
    generalize gt b = x at *
    obtain ⟨n, u, c⟩ := x
    simp only at *
    unfold tell at HG
    generalize unzig n = z at *
    go_enter Tryz.func88, Tryz.ntmps88
    go_wp2_with fail
    refine HG.out.mono ?_
    rintro e w1 ⟨rfl, hb1⟩
    obtain ⟨G, Off, Cap, k0, k1, k2, k3, k4, k5, k6, k7, k8, k9⟩ := (HS.out.kept hb1 hlt).cells
    obtain ⟨A, hA, hSA⟩ := k9 u g2
    obtain ⟨G', Off', Cap', j0, j1, j2, j3, j4, j5, j6, j7, j8, j9⟩ := hSA.cells
    have HSA := hidden (j8 c)
    have HF2 := hidden ((((Fr.of_below hb1 : Fr p w.heap.size w w1)).set 0 (.slice A (b.length - u) (Cap - u))).set 1 (.int .i64 (c : Int)))
    clear hb1 k8 k9 k6 hSA h0 h1 h2 h3 j0 j4 j5 j6 j7 j8 j9
    go_wp2_with fail
    go_ret
    exact ⟨z, _, c, rfl, HU.out, HSA.out, HW.out, HF2.out⟩
  · have hne : ((f : Int) != 0) = true := by simpa using hf
    have HF := hidden hf
    clear h h6 h8 h9 hf
    go_enter Tryz.func88, Tryz.ntmps88
    go_wp2_with fail
    go_ret
    exact ⟨0, b, f, rfl, by unfold I64; omega, HS.out, fun D g h => h.any HF.out, Fr.refl _ _ _⟩

set_option maxRecDepth 100000 in
set_option maxHeartbeats 2000000 in
theorem refNum_any {w : World} {p f : Nat} {b : List Nat} (h : St 98 w p b f) : Calls Tryz.prog 89 #[.pointer (some ⟨p, 0, none⟩)] w (NumPost p b f w) := by
  have HS := hidden h
  have HB := hidden h.bs
  have hlt := h.lt
  obtain ⟨g, off, cap, h0, h1, h2, h3, h4, h5, h6, h7, h8, h9⟩ := h.cells
  by_cases hf : f = 0
  · subst hf
    obtain ⟨g1, g2, g3, g4⟩ := gt_form b
    have HG := hidden (refGet_sv HB.out h6)
    have HU := hidden g1
    have HW : Hid (∀ D g, Goes D (bindR num g) b 0 → Goes D (g (gt b).1) (b.drop (gt b).2.1) (gt b).2.2) := fun D g h => goes_num0 h
    clear h h6 h8 h9 g4
    generalize gt b = x at *
    obtain ⟨n, u, c⟩ := x
    simp only at *
    unfold tell at HG
    clear g1
    go_enter Tryz.func89, Tryz.ntmps89
    go_wp2_with fail
    refine HG.out.mono ?_
    rintro e w1 ⟨rfl, hb1⟩
    obtain ⟨G, Off, Cap, k0, k1, k2, k3, k4, k5, k6, k7, k8, k9⟩ := (HS.out.kept hb1 hlt).cells
    obtain ⟨A, hA, hSA⟩ := k9 u g2
    obtain ⟨G', Off', Cap', j0, j1, j2, j3, j4, j5, j6, j7, j8, j9⟩ := hSA.cells
    have HSA := hidden (j8 c)
    have HF2 := hidden ((((Fr.of_below hb1 : Fr p w.heap.size w w1)).set 0 (.slice A (b.length - u) (Cap - u))).set 1 (.int .i64 (c : Int)))
    clear hb1 k8 k9 k6 hSA h0 h1 h2 h3 j0 j4 j5 j6 j7 j8 j9
    go_wp2_with fail
    go_ret
    exact ⟨n, _, c, rfl, HU.out, HSA.out, HW.out, HF2.out⟩
  · have hne : ((f : Int) != 0) = true := by simpa using hf
    have HF := hidden hf
    clear h h6 h8 h9 hf
    go_enter Tryz.func89, Tryz.ntmps89
    go_wp2_with fail
    go_ret
    exact ⟨0, b, f, rfl, by omega, HS.out, fun D g h => h.any HF.out, Fr.refl _ _ _⟩

/-- The reader at its end: how many bytes are left, and the fault. -/
def Sn (T : Nat) (W : World) (p : Nat) (b : List Nat) (f : Nat) : Prop := ∃ a cap, W.heap[p]? = some (.cells #[.slice a b.length cap, .int .i64 (f : Int)] T (0, 0)) ∧ b.length ≤ maxLen

theorem St.sn {T : Nat} {W : World} {p : Nat} {b : List Nat} {f : Nat} (h : St T W p b f) : Sn T W p b f := by
  obtain ⟨g, off, cap, h1, h2, h3, h4, _⟩ := h
  exact ⟨_, cap, h1, by omega⟩

theorem Sn.lt {T : Nat} {W : World} {p : Nat} {b : List Nat} {f : Nat} (h : Sn T W p b f) : p < W.heap.size := by obtain ⟨_, _, h, _⟩ := h; exact (Array.getElem?_eq_some_iff.1 h).1

theorem Sn.kept {T : Nat} {W W' : World} {p B : Nat} {b : List Nat} {f : Nat} (h : Sn T W p b f) (hb : Below B W W') (hp : p < B) : Sn T W' p b f := by
  obtain ⟨a, cap, h1, h2⟩ := h
  exact ⟨a, cap, (hb.block p hp).trans h1, h2⟩

theorem Sn.cells {T : Nat} {W : World} {p : Nat} {b : List Nat} {f : Nat} (h : Sn T W p b f) :
    ∃ a cap, W.cell? ⟨p, 0, none⟩ = some (.slice a b.length cap) ∧ W.cell? ⟨p, 1, none⟩ = some (.int .i64 (f : Int)) ∧ W.frozen? ⟨p, 0, none⟩ = false ∧ W.frozen? ⟨p, 1, none⟩ = false ∧ b.length ≤ 9223372036854775807 ∧
      (∀ f' : Nat, Sn T (W.setCell ⟨p, 1, none⟩ (.int .i64 (f' : Int))) p b f') := by
  obtain ⟨a, cap, h1, h2⟩ := h
  exact ⟨a, cap, by rw [cell_block h1]; rfl, by rw [cell_block h1]; rfl, by simp [World.frozen?, h1], by simp [World.frozen?, h1], by unfold maxLen at h2; omega, fun f' => ⟨a, cap, by rw [heap_set h1]; rfl, h2⟩⟩

/-- What packed tells. -/
def PackedPost (p n ww : Nat) (b : List Nat) (f : Nat) (w : World) (r : Ending) (w' : World) : Prop :=
  ∃ (L : List Nat) (b' : List Nat) (f' : Nat), (∃ v, r = .returned v ∧ OwnU w' w.heap.size v L) ∧ (∀ x ∈ L, x < 18446744073709551616) ∧ L.length ≤ n ∧ (L.length ≠ 0 → f' = 0) ∧ Sn 98 w' p b' f' ∧ (∀ D g, Goes D (bindR (pkd n ww) g) b f → Goes D (g L) b' f') ∧ Fr p w.heap.size w w'

theorem pkd_short {D : Except Nat (List Int × List Nat)} {n w : Nat} {g : List Nat → List Nat → Except Nat (List Int × List Nat)} {b : List Nat} (h : Goes D (bindR (pkd n w) g) b 0) (hs : b.length < by8 (n * w)) {K : List Nat → Except Nat (List Int × List Nat)} : Goes D K b 30 := by
  have h3 := h.1 rfl
  unfold bindR pkd at h3
  rw [if_pos hs] at h3
  exact ⟨fun e => by omega, fun _ => h3⟩

theorem pkd_long {D : Except Nat (List Int × List Nat)} {n w : Nat} {g : List Nat → List Nat → Except Nat (List Int × List Nat)} {b : List Nat} (h : Goes D (bindR (pkd n w) g) b 0) (hs : by8 (n * w) < b.length) {K : List Nat → Except Nat (List Int × List Nat)} : Goes D K b 32 := by
  have h3 := h.1 rfl
  unfold bindR pkd at h3
  rw [if_neg (by omega), if_pos hs] at h3
  exact ⟨fun e => by omega, fun _ => h3⟩

theorem pkd_just {D : Except Nat (List Int × List Nat)} {n w : Nat} {g : List Nat → List Nat → Except Nat (List Int × List Nat)} {b : List Nat} (h : Goes D (bindR (pkd n w) g) b 0) (hs : b.length = by8 (n * w)) : Goes D (g (unR b n w)) [] (unE b n w) := by
  have h3 := h.1 rfl
  unfold bindR pkd at h3
  rw [if_neg (by omega), if_neg (by omega)] at h3
  refine ⟨fun e => ?_, fun e => ?_⟩
  · rw [if_pos e] at h3
    exact h3
  · rw [if_neg e] at h3
    exact h3

theorem unR_none {n w : Nat} {b : List Nat} : (unR b n w).length ≠ 0 → unE b n w = 0 := by
  intro h
  unfold unR at h
  split at h
  · assumption
  · simp at h

theorem unR_length {n w : Nat} {b : List Nat} : (unR b n w).length ≤ n := by
  unfold unR
  split
  · rw [dig_length]; simp
  · simp

set_option maxRecDepth 100000 in
set_option maxHeartbeats 4000000 in
theorem refPacked_any {w : World} {p f : Nat} {b : List Nat} (h : St 98 w p b f) (n ww : Nat) (hn : n ≤ 256) (hww : f = 0 → ww ≤ 64) (hw2 : ww < 9223372036854775808) :
    Calls Tryz.prog 90 #[.pointer (some ⟨p, 0, none⟩), .int .i64 (n : Int), .int .i64 (ww : Int)] w (PackedPost p n ww b f w) := by
  have HS := hidden h
  have HB := hidden h.bs
  have hlt := h.lt
  have HSN := hidden h.sn
  obtain ⟨g, off, cap, h0, h1, h2, h3, h4, h5, h6, h7, h8, h9⟩ := h.cells
  by_cases hf : f = 0
  · subst hf
    have hww := hww rfl
    have hc : n * ww ≤ 16384 := Nat.le_trans (Nat.mul_le_mul hn hww) (by omega)
    have hmul : (n : Int) * (ww : Int) = ((n * ww : Nat) : Int) := by simp
    have hby2 : (((n * ww : Nat) : Int) + 7) / 8 = ((by8 (n * ww) : Nat) : Int) := by unfold by8; omega
    have hbl : by8 (n * ww) ≤ 2048 := by unfold by8; omega
    have HK1 : Hid (b.length < by8 (n * ww) → ∀ D g, Goes D (bindR (pkd n ww) g) b 0 → Goes D (g []) b 30) := fun hs D g h => pkd_short h hs
    have HK2 : Hid (by8 (n * ww) < b.length → ∀ D g, Goes D (bindR (pkd n ww) g) b 0 → Goes D (g []) b 32) := fun hs D g h => pkd_long h hs
    have HK3 : Hid (b.length = by8 (n * ww) → ∀ D g, Goes D (bindR (pkd n ww) g) b 0 → Goes D (g (unR b n ww)) [] (unE b n ww)) := fun hs D g h => pkd_just h hs
    have HUP : Hid (b.length = by8 (n * ww) → Calls Tryz.prog 41 #[.slice (some ⟨g, off, none⟩) b.length cap, .int .i64 (n : Int), .int .i64 (ww : Int)] w fun e w' => ∃ v', e = .returned (.tuple #[v', .int .i64 (unE b n ww : Int)]) ∧ w'.ownsRow w.heap.size 63 1 v' (unR b n ww).length (vals .u64 (unR b n ww)) ∧ Below w.heap.size w w') := fun hlen => refUnpack_yes h6.sx HB.out n ww hn hww hlen
    have HUL := hidden (unR_length (n := n) (w := ww) (b := b))
    have HUX := hidden (unR_lt (b := b) (n := (n : Int)) (w := (ww : Int)))
    have HUN := hidden (unR_none (n := n) (w := ww) (b := b))
    have H30 := hidden (h8 30)
    have H32 := hidden (h8 32)
    clear h h6 h8 h9
    generalize by8 (n * ww) = L at *
    generalize n * ww = c at *
    by_cases hs : (b.length : Int) < (L : Int)
    · have HK := hidden (HK1.out (by omega))
      go_enter Tryz.func90, Tryz.ntmps90
      go_wp2_with fail
      go_ret
      exact ⟨[], b, 30, ⟨_, rfl, OwnU.nil _ _⟩, fun x hx => by simp at hx, by simp, fun h => absurd rfl h, H30.out.sn, HK.out, (Fr.refl _ _ _).set 1 _⟩
    · by_cases hl : (b.length : Int) > (L : Int)
      · have HK := hidden (HK2.out (by omega))
        go_enter Tryz.func90, Tryz.ntmps90
        go_wp2_with fail
        go_ret
        exact ⟨[], b, 32, ⟨_, rfl, OwnU.nil _ _⟩, fun x hx => by simp at hx, by simp, fun h => absurd rfl h, H32.out.sn, HK.out, (Fr.refl _ _ _).set 1 _⟩
      · have hlen : b.length = L := by omega
        have HK := hidden (HK3.out hlen)
        have HU := hidden (HUP.out hlen)
        clear hlen HK1 HK2 HK3 HUP
        generalize unR b n ww = R at *
        generalize unE b n ww = E at *
        go_enter Tryz.func90, Tryz.ntmps90
        go_wp2_with fail
        refine HU.out.mono ?_
        rintro e w1 ⟨v1, rfl, o1, hb1⟩
        obtain ⟨G, Off, Cap, k0, k1, k2, k3, k4, k5, k6, k7, k8, k9⟩ := (HS.out.kept hb1 hlt).cells
        obtain ⟨G', Off', Cap', j0, j1, j2, j3, j4, j5, j6, j7, j8, j9⟩ := (k8 E).cells
        have HSN2 : Hid (Sn 98 ((w1.setCell ⟨p, 1, none⟩ (.int .i64 (E : Int))).setCell ⟨p, 0, none⟩ (.slice none 0 0)) p [] E) := hidden (by
          obtain ⟨a, c, q1, q2⟩ := (k8 E).sn
          exact ⟨none, 0, by rw [heap_set q1]; rfl, by simp⟩)
        have HF2 := hidden ((((Fr.of_below hb1 : Fr p w.heap.size w w1)).set 1 (.int .i64 (E : Int))).set 0 (.slice none 0 0))
        have HO2 : Hid (OwnU ((w1.setCell ⟨p, 1, none⟩ (.int .i64 (E : Int))).setCell ⟨p, 0, none⟩ (.slice none 0 0)) w.heap.size v1 R) := hidden (by
          have hq : Fr p w1.heap.size w1 ((w1.setCell ⟨p, 1, none⟩ (.int .i64 (E : Int))).setCell ⟨p, 0, none⟩ (.slice none 0 0)) := (((Fr.refl p w1.heap.size w1).set 1 _).set 0 _)
          exact hq.own o1 hlt)
        clear hb1 o1 k8 k9 k6 h0 h1 h2 h3 j4 j5 j6 j7 j8 j9
        go_wp2_with fail
        go_ret
        exact ⟨R, [], E, ⟨_, rfl, HO2.out⟩, HUX.out, HUL.out, HUN.out, HSN2.out, HK.out, HF2.out⟩
  · have hne : ((f : Int) != 0) = true := by simpa using hf
    have HF := hidden hf
    clear h h6 h8 h9 hf hww
    go_enter Tryz.func90, Tryz.ntmps90
    go_wp2_with fail
    go_ret
    exact ⟨[], b, f, ⟨_, rfl, OwnU.nil _ _⟩, fun x hx => by simp at hx, by simp, fun h => absurd rfl h, HSN.out, fun D g h => h.any HF.out, Fr.refl _ _ _⟩

set_option maxRecDepth 100000 in
set_option maxHeartbeats 2000000 in
theorem refPacked_fault {w : World} {p f : Nat} {b : List Nat} (h : St 98 w p b f) (hf : f ≠ 0) (v1 v2 : Value) :
    Calls Tryz.prog 90 #[.pointer (some ⟨p, 0, none⟩), v1, v2] w fun r w' => r = .returned (.slice none 0 0) ∧ w' = w := by
  obtain ⟨g, off, cap, h0, h1, h2, h3, h4, h5, h6, h7, h8, h9⟩ := h.cells
  have hne : ((f : Int) != 0) = true := by simpa using hf
  clear h h6 h8 h9 hf
  go_enter Tryz.func90, Tryz.ntmps90
  go_wp2_with fail
  go_ret
  exact ⟨rfl, rfl⟩
end Go.Proofs.YtcmmednihoaekaaGreat
