/- Contracts: the document's reader of schemas. -/
import Derived.Test.YtkohejjkpofmgaaRrdr2
import Derived.Test.YtkohejjkpofmgaaSchr
import Derived.Test.YtkohejjkpofmgaaRefChk
set_option linter.unusedVariables false
set_option linter.unusedSimpArgs false
namespace Go.Proofs.Ytkohejjkpofmgaa
open Go.RowKit Go.Lib

/-- In the document's Schema: the result's block, the schema's block q, the reader's. -/
def Rsc (w : World) (p q : Nat) (W : World) (b : List Nat) (f : Nat) (x0 x1 : Value) : Prop :=
  St 63 W p b f ∧ p < w.heap.size ∧ w.heap.size < q ∧ W.heap[w.heap.size]? = some (.cells #[.int .u32 0, .slice none 0 0] 25 (0, 0)) ∧
  W.heap[q]? = some (.cells #[x0, x1] 25 (0, 0)) ∧ Fr p w.heap.size w W

theorem Rsc.size {w W : World} {p q f : Nat} {b : List Nat} {x0 x1 : Value} (h : Rsc w p q W b f x0 x1) : q < W.heap.size := (Array.getElem?_eq_some_iff.1 h.2.2.2.2.1).1

theorem Rsc.call {w W W' : World} {p q f f' : Nat} {b b' : List Nat} {x0 x1 : Value} (h : Rsc w p q W b f x0 x1) (hs : St 63 W' p b' f') (hf : Fr p W.heap.size W W') : Rsc w p q W' b' f' x0 x1 := by
  have hz := h.size
  obtain ⟨h1, h2, h3, h4, h5, h6⟩ := h
  exact ⟨hs, h2, h3, (hf.block _ (by omega) (by omega)).trans h4, (hf.block _ hz (by omega)).trans h5, h6.trans (hf.mono (by omega))⟩

theorem Rsc.kept {w W W' : World} {p q f : Nat} {b : List Nat} {x0 x1 : Value} (h : Rsc w p q W b f x0 x1) (hb : Below (q + 1) W W') : Rsc w p q W' b f x0 x1 := by
  obtain ⟨h1, h2, h3, h4, h5, h6⟩ := h
  exact ⟨h1.kept hb (by omega), h2, h3, (hb.block _ (by omega)).trans h4, (hb.block _ (by omega)).trans h5, h6.then (hb.mono (by omega))⟩

theorem Rsc.facts {w W : World} {p q f : Nat} {b : List Nat} {x0 x1 : Value} (h : Rsc w p q W b f x0 x1) :
    (W.cell? ⟨q, 0, none⟩ = some x0 ∧ W.cell? ⟨q, 1, none⟩ = some x1) ∧
    (W.frozen? ⟨q, 0, none⟩ = false ∧ W.frozen? ⟨q, 1, none⟩ = false) ∧
    (W.cell? ⟨w.heap.size, 0, none⟩ = some (.int .u32 0) ∧ W.cell? ⟨w.heap.size, 1, none⟩ = some (.slice none 0 0)) ∧
    (W.frozen? ⟨w.heap.size, 0, none⟩ = false ∧ W.frozen? ⟨w.heap.size, 1, none⟩ = false) := by
  obtain ⟨h1, h2, h2', h3, h4, h5⟩ := h
  refine ⟨⟨?_, ?_⟩, ⟨?_, ?_⟩, ⟨?_, ?_⟩, ⟨?_, ?_⟩⟩ <;> first | (rw [cell_block h4]; rfl) | (rw [cell_block h3]; rfl) | (simp [World.frozen?, h4]; done) | (simp [World.frozen?, h3]; done)

theorem Rsc.set1 {w W : World} {p q f : Nat} {b : List Nat} {x0 x1 : Value} (h : Rsc w p q W b f x0 x1) (v : Value) : Rsc w p q (W.setCell ⟨q, 1, none⟩ v) b f x0 v := by
  obtain ⟨h1, h2, h3, h4, h5, h6⟩ := h
  have hb : Below q W (W.setCell ⟨q, 1, none⟩ v) := (Below.refl q W).setCell (show q ≤ q from Nat.le_refl _) _
  exact ⟨h1.kept hb (by omega), h2, h3, (hb.block _ (by omega)).trans h4, by rw [heap_set h5]; rfl, h6.then (hb.mono (by omega))⟩

theorem Rsc.done {w W : World} {p q f : Nat} {b : List Nat} {x0 x1 : Value} (h : Rsc w p q W b f x0 x1) (y0 y1 : Value) :
    St 63 ((W.setCell ⟨w.heap.size, 0, none⟩ y0).setCell ⟨w.heap.size, 1, none⟩ y1) p b f ∧ Fr p w.heap.size w ((W.setCell ⟨w.heap.size, 0, none⟩ y0).setCell ⟨w.heap.size, 1, none⟩ y1) := by
  obtain ⟨h1, h2, _, h3, h4, h5⟩ := h
  have hb := below_set2 (Below.refl w.heap.size W) (Nat.le_refl w.heap.size) y0 y1
  exact ⟨h1.kept hb h2, h5.then hb⟩

theorem Rsc.fault {w W : World} {p q f : Nat} {b : List Nat} {x0 x1 : Value} (h : Rsc w p q W b f x0 x1) (f' : Nat) : Rsc w p q (W.setCell ⟨p, 1, none⟩ (.int .i64 (f' : Int))) b f' x0 x1 := by
  obtain ⟨a, cap, _, _, _, _, _, _, _, _, hraw⟩ := h.1.cells2
  exact h.call (hraw.set1 f').st ((Fr.refl p W.heap.size W).set 1 _)

/-- In its loop: the field's block q2. -/
def Mir (w : World) (p q2 : Nat) (W : World) (b : List Nat) (f : Nat) (x0 x1 x2 x3 : Value) : Prop :=
  St 63 W p b f ∧ p < w.heap.size ∧ w.heap.size ≤ q2 ∧ W.heap[q2]? = some (.cells #[x0, x1, x2, x3] 67 (0, 0)) ∧ Fr p w.heap.size w W
theorem Mir.begin {w W : World} {p f : Nat} {b : List Nat} (h : St 63 W p b f) (hf : Fr p w.heap.size w W) (hp : p < w.heap.size) (x0 x1 x2 x3 : Value) :
    Mir w p W.heap.size (W.alloc (.cells #[x0, x1, x2, x3] 67)) b f x0 x1 x2 x3 :=
  ⟨h.kept (below_one W _) h.lt, hp, hf.size, heap_alloc_new W _, hf.then ((below_one W _).mono hf.size)⟩
theorem Mir.call {w W W' : World} {p q2 f f' : Nat} {b b' : List Nat} {x0 x1 x2 x3 : Value} (h : Mir w p q2 W b f x0 x1 x2 x3) (hs : St 63 W' p b' f') (hf : Fr p W.heap.size W W') : Mir w p q2 W' b' f' x0 x1 x2 x3 := by
  obtain ⟨h1, h2, h3, h4, h5⟩ := h
  have l4 := (Array.getElem?_eq_some_iff.1 h4).1
  exact ⟨hs, h2, h3, (hf.block _ l4 (by omega)).trans h4, h5.trans (hf.mono (by omega))⟩
theorem Mir.facts {w W : World} {p q2 f : Nat} {b : List Nat} {x0 x1 x2 x3 : Value} (h : Mir w p q2 W b f x0 x1 x2 x3) :
    (W.cell? ⟨q2, 0, none⟩ = some x0 ∧ W.cell? ⟨q2, 1, none⟩ = some x1 ∧ W.cell? ⟨q2, 2, none⟩ = some x2 ∧ W.cell? ⟨q2, 3, none⟩ = some x3) ∧
    (W.frozen? ⟨q2, 0, none⟩ = false ∧ W.frozen? ⟨q2, 1, none⟩ = false ∧ W.frozen? ⟨q2, 2, none⟩ = false ∧ W.frozen? ⟨q2, 3, none⟩ = false) := by
  obtain ⟨h1, h2, h3, h4, h5⟩ := h
  refine ⟨⟨?_, ?_, ?_, ?_⟩, ⟨?_, ?_, ?_, ?_⟩⟩ <;> first | (rw [cell_block h4]; rfl) | (simp [World.frozen?, h4]; done)
theorem Mir.keep {w W : World} {p q2 f : Nat} {b : List Nat} {x0 x1 x2 x3 : Value} (h : Mir w p q2 W b f x0 x1 x2 x3) (j : Nat) (v : Value) :
    St 63 (W.setCell ⟨q2, j, none⟩ v) p b f ∧ Fr p w.heap.size w (W.setCell ⟨q2, j, none⟩ v) := by
  obtain ⟨h1, h2, h3, h4, h5⟩ := h
  have hb : Below q2 W (W.setCell ⟨q2, j, none⟩ v) := (Below.refl q2 W).setCell (show q2 ≤ q2 from Nat.le_refl _) _
  exact ⟨h1.kept hb (by omega), h5.then (hb.mono (by omega))⟩
theorem Mir.set1 {w W : World} {p q2 f : Nat} {b : List Nat} {x0 x1 x2 x3 : Value} (h : Mir w p q2 W b f x0 x1 x2 x3) (v : Value) : Mir w p q2 (W.setCell ⟨q2, 1, none⟩ v) b f x0 v x2 x3 :=
  ⟨(h.keep 1 v).1, h.2.1, h.2.2.1, by rw [heap_set h.2.2.2.1]; rfl, (h.keep 1 v).2⟩
theorem Mir.set2 {w W : World} {p q2 f : Nat} {b : List Nat} {x0 x1 x2 x3 : Value} (h : Mir w p q2 W b f x0 x1 x2 x3) (v : Value) : Mir w p q2 (W.setCell ⟨q2, 2, none⟩ v) b f x0 x1 v x3 :=
  ⟨(h.keep 2 v).1, h.2.1, h.2.2.1, by rw [heap_set h.2.2.2.1]; rfl, (h.keep 2 v).2⟩
theorem Mir.set3 {w W : World} {p q2 f : Nat} {b : List Nat} {x0 x1 x2 x3 : Value} (h : Mir w p q2 W b f x0 x1 x2 x3) (v : Value) : Mir w p q2 (W.setCell ⟨q2, 3, none⟩ v) b f x0 x1 x2 v :=
  ⟨(h.keep 3 v).1, h.2.1, h.2.2.1, by rw [heap_set h.2.2.2.1]; rfl, (h.keep 3 v).2⟩

/-- What Schema tells. -/
def RscPost (p : Nat) (b : List Nat) (f : Nat) (w : World) (r : Ending) (w' : World) : Prop :=
  ∃ (id : Nat) (l : List Fd) (v : Value) (b' : List Nat) (f' : Nat), r = .returned (.agg #[.int .u32 (id : Int), v]) ∧ OwnF w' w.heap.size v l ∧ id < 4294967296 ∧ l.length ≤ 8 ∧ (∀ y ∈ l, Okf y ∧ y.2.1.size ≤ 16) ∧
    St 63 w' p b' f' ∧ Rds unpackM b f (id, l) b' f' ∧ Fr p w.heap.size w w'

theorem rds_unpack {b b1 b2 b3 : List Nat} {f f1 f2 f3 i n k : Nat} {l : List Fd} (h1 : Rds (numU 4294967295) b f i b1 f1) (h2 : Rds (numU 8) b1 f1 n b2 f2) (h3 : Rds (fldsU k) b2 f2 l b3 f3) (hk : k ≤ n) (hf : f3 ≠ 0) : Rds unpackM b f (i, l) b3 f3 :=
  (rds_sch h1 h2 (h3.more (y := l) hk hf)).bind (Rds.dead (i, l) hf)
theorem rds_unpack2 {b b1 : List Nat} {f i : Nat} {l : List Fd} (h : Rds schU b f (i, l) b1 0) : Rds unpackM b f (i, l) b1 (chk i l) :=
  h.bind ⟨fun _ => rfl, fun h => absurd rfl h⟩

set_option maxRecDepth 100000 in
set_option maxHeartbeats 4000000 in
theorem refSchema_any {w : World} {p f : Nat} {b : List Nat} (h : St 63 w p b f) :
    Calls Try.prog 30 #[.pointer (some ⟨p, 0, none⟩)] w (RscPost p b f w) := by
  have hb0 := below_one w (.cells #[.int .u32 0, .slice none 0 0] 25)
  have HS0 := hidden (h.kept hb0 h.lt)
  have HP := hidden h.lt
  have HH0 := hidden (heap_alloc_new w (.cells #[.int .u32 0, .slice none 0 0] 25))
  have HB0 := hidden hb0
  have HZ0 : Hid ((w.alloc (.cells #[.int .u32 0, .slice none 0 0] 25)).heap.size = w.heap.size + 1) := hidden (World.size_alloc _ _)
  clear h hb0
  generalize hW : w.alloc (.cells #[.int .u32 0, .slice none 0 0] 25) = W at *
  go_enter Try.func30, Try.ntmps30
  go_wp2_with fail
  try rw [hW]
  clear hW
  refine (refNum_any HS0.out 4294967295 (by omega)).mono ?_
  rintro e w1 ⟨i, b1, f1, rfl, hi, hs1, hr1, hf1⟩
  have HR1 := hidden hr1
  have HI := hidden hi
  have hi' : i < 4294967296 := by omega
  have HM1 : Hid (Rsc w p w1.heap.size (w1.alloc (.cells #[.int .u32 (i : Int), .slice none 0 0] 25)) b1 f1 (.int .u32 (i : Int)) (.slice none 0 0)) := by
    have hp := HP.out
    have hz := HZ0.out
    have hz1 := hf1.size
    have hb1 := below_one w1 (.cells #[.int .u32 (i : Int), .slice none 0 0] 25)
    exact hidden ⟨hs1.kept hb1 hs1.lt, hp, by omega, (hb1.block _ (by omega)).trans ((hf1.block _ (by omega) (by omega)).trans HH0.out), heap_alloc_new w1 _, ((Fr.of_below HB0.out).trans (hf1.mono (by omega))).then (hb1.mono (by omega))⟩
  clear hs1 hr1 hf1 hi HS0 HH0 HB0 HZ0
  go_wp2_with fail
  generalize hq : w1.heap.size = q at *
  generalize hX : w1.alloc (.cells #[.int .u32 (i : Int), .slice none 0 0] 25) = X at *
  try rw [hX]
  clear hX hq
  refine (refNum_any HM1.out.1 8 (by omega)).mono ?_
  rintro e w2 ⟨n, b2, f2, rfl, hn, hs2, hr2, hf2⟩
  have HM3 := hidden (HM1.out.call hs2 hf2)
  have HR2 := hidden hr2
  clear hs2 hr2 hf2 HM1
  go_wp2_with fail
  go_loopw [5] (fun i' wr => ∃ (k : Nat) (x : List Fd) (bk : List Nat) (fk : Nat) (a : Option Addr) (cap : Nat), k ≤ n ∧ i' = .int .u64 (k : Int) ∧ Rsc w p q wr bk fk (.int .u32 (i : Int)) (.slice a k cap) ∧ OwnF wr (q + 1) (.slice a k cap) x ∧ x.length = k ∧ (∀ y ∈ x, Okf y ∧ y.2.1.size ≤ 16) ∧ Rds (fldsU k) b2 f2 x bk fk) (fun i' _ => n - (intOf i').toNat)
  case atStart => exact ⟨0, [], b2, f2, none, 0, by omega, rfl, HM3.out, OwnF.nil _ _, rfl, (fun _ h => absurd h (by simp)), Rds.pure [] b2 f2⟩
  case round =>
    obtain ⟨k, x, bk, fk, a, cap, hk, rfl, hsch, hown, hxl, hok, hrk⟩ := hrel
    have HM4 := hidden hsch
    have HO := hidden hown
    have HXL := hidden hxl
    have HOK := hidden hok
    have HRK := hidden hrk
    obtain ⟨ra, rcap, r0, r1, r2, r3, _, _, _, _, _⟩ := hsch.1.cells2
    clear hown hxl hok hrk
    by_cases hlt : k < n
    · have hlt' : (k : Int) < (n : Int) := by omega
      by_cases hfz : fk = 0
      · have hfa : ((fk : Int) == 0) = true := by simp [hfz]
        have hwk : IntKind.u64.wrap ((k : Int) + 1) = ((k + 1 : Nat) : Int) := by rw [IntKind.wrap_u64]; omega
        have HSZ := hidden hsch.size
        have HPW : Hid (p < wr.heap.size) := hidden hsch.1.lt
        have HQP : Hid (p < q) := hidden (by have := hsch.2.1; have := hsch.2.2.1; omega)
        have HN3 := hidden (refNum_any hsch.1 4294967295 (by omega))
        clear hsch
        go_wp2_with fail
        refine HN3.out.mono ?_
        rintro e w3 ⟨i3, b3, f3, rfl, hi3, hs3, hr3, hf3⟩
        have HR3 := hidden hr3
        have HI3 := hidden hi3
        have hi3' : i3 < 4294967296 := by omega
        have HM5 := hidden (Mir.begin hs3 hf3 HPW.out (.int .u32 (i3 : Int)) (.string ⟨#[]⟩) (.int .u8 0) (.bool false))
        have HQ2 : Hid (q < w3.heap.size) := hidden (by have := HSZ.out; have := hf3.size; omega)
        clear hs3 hr3 hf3 hi3 HN3
        go_wp2_with fail
        generalize hq2 : w3.heap.size = q2 at *
        generalize hX : w3.alloc (.cells #[.int .u32 (i3 : Int), .string ⟨#[]⟩, .int .u8 0, .bool false] 67) = X3 at *
        try rw [hX]
        clear hX hq2
        refine (refText_any HM5.out.1).mono ?_
        rintro e w5 ⟨s5, b5, f5, rfl, hs5, hst5, hr5, hf5⟩
        have HM6 := hidden (HM5.out.call hst5 hf5)
        have HR5 := hidden hr5
        have HS5 := hidden hs5
        obtain ⟨⟨c0, c1, c2, c3⟩, ⟨z0, z1, z2, z3⟩⟩ := HM6.out.facts
        clear hst5 hr5 hf5 hs5 HM5
        go_wp2_with fail
        have HM7 := hidden (HM6.out.set1 (.string s5))
        clear HM6 c0 c1 c2 c3 z0 z1 z2 z3
        generalize hX : w5.setCell ⟨q2, 1, none⟩ (.string s5) = X5 at *
        try rw [hX]
        clear hX
        refine (refNum_any HM7.out.1 255 (by omega)).mono ?_
        rintro e w7 ⟨k7, b7, f7, rfl, hk7, hst7, hr7, hf7⟩
        have HM8 := hidden (HM7.out.call hst7 hf7)
        have HR7 := hidden hr7
        have HK7 := hidden hk7
        have hk7' : k7 < 256 := by omega
        obtain ⟨⟨c0, c1, c2, c3⟩, ⟨z0, z1, z2, z3⟩⟩ := HM8.out.facts
        clear hst7 hr7 hf7 hk7 HM7
        go_wp2_with fail
        have HM9 := hidden (HM8.out.set2 (.int .u8 (k7 : Int)))
        clear HM8 c0 c1 c2 c3 z0 z1 z2 z3
        generalize hX : w7.setCell ⟨q2, 2, none⟩ (.int .u8 (k7 : Int)) = X7 at *
        try rw [hX]
        clear hX
        refine (refNum_any HM9.out.1 1 (by omega)).mono ?_
        rintro e w9 ⟨n9, b9, f9, rfl, hn9, hst9, hr9, hf9⟩
        have HMA := hidden (HM9.out.call hst9 hf9)
        have HRF : Hid (Rds fldU bk fk (i3, s5, k7, ((n9 : Int) == 1)) b9 f9) := by
          have hq : ((n9 : Int) == 1) = decide (n9 = 1) := by
            by_cases h : n9 = 1
            · subst h; rfl
            · rw [decide_eq_false h]; exact beq_eq_false_iff_ne.2 (by omega)
          rw [hq]
          exact hidden (rds_fld HR3.out HR5.out HR7.out hr9)
        obtain ⟨⟨c0, c1, c2, c3⟩, ⟨z0, z1, z2, z3⟩⟩ := HMA.out.facts
        have HMB := hidden (HMA.out.set3 (.bool ((n9 : Int) == 1)))
        have HSC := hidden (HM4.out.call HMB.out.1 HMB.out.2.2.2.2)
        obtain ⟨⟨s0, s1⟩, ⟨y0, y1⟩, _, _⟩ := (HM4.out.call HMA.out.1 HMA.out.2.2.2.2).facts
        have HOB : Hid (OwnF (w9.setCell ⟨q2, 3, none⟩ (.bool ((n9 : Int) == 1))) (q + 1) (.slice a k cap) x) := hidden (Fr.own HMB.out.2.2.2.2 HO.out (by have := HQP.out; omega))
        have hne1 : ¬ q = q2 := by have := HQ2.out; omega
        have hne2 : ¬ q2 = q := by have := HQ2.out; omega
        have HSZB : Hid (q + 1 ≤ (w9.setCell ⟨q2, 3, none⟩ (.bool ((n9 : Int) == 1))).heap.size) := hidden HSC.out.size
        clear hst9 hr9 hf9 hn9 HM9
        go_wp2_with (first | (at_builtin; refine wpList_append_fs rfl _ _ rfl (q + 1) _ _ x [(i3, s5, k7, ((n9 : Int) == 1))] rfl ?q3 rfl ?q4 ?c3 ?c4 ?_))
        case q3 => exact HOB.out.kept (below_one _ _)
        case q4 =>
          have hl4 := (lit_one (w9.setCell ⟨q2, 3, none⟩ (.bool ((n9 : Int) == 1))) (i3, s5, k7, ((n9 : Int) == 1))).sf
          have hz : (w9.setCell ⟨q2, 3, none⟩ (.bool ((n9 : Int) == 1))).heap.size = w9.heap.size := by simp
          rw [hz] at hl4
          exact hl4
        case c3 => rw [List.length_singleton, HXL.out]; omega
        case c4 => exact le_alloc HSZB.out _
        intro v11 w11 o11 hb11
        obtain ⟨a11, cap11, hv11, _, _⟩ := own_slice o11
        rw [List.length_append, List.length_singleton, HXL.out] at hv11
        subst hv11
        have hm11 := (HSC.out.kept ((below_one _ (.cells #[.int .u32 (i3 : Int), .string s5, .int .u8 (k7 : Int), .bool ((n9 : Int) == 1)] 67)).mono HSZB.out)).kept hb11
        obtain ⟨⟨t0, t1⟩, ⟨v0, v1⟩, _, _⟩ := hm11.facts
        have HO11 := hidden o11
        have HM11 := hidden hm11
        clear o11 hb11 hm11 c0 c1 c2 c3 z0 z1 z2 z3 s0 s1 y0 y1
        go_wp2_with fail
        exact ⟨⟨k + 1, x ++ [(i3, s5, k7, ((n9 : Int) == 1))], b9, f9, a11, cap11, by omega, rfl, HM11.out.set1 (.slice a11 (k + 1) cap11), own_set1 HO11.out (by omega) _ _, by rw [List.length_append, List.length_singleton, HXL.out], fun y hy => (List.mem_append.1 hy).elim (HOK.out y) (fun h => by rw [List.mem_singleton] at h; rw [h]; exact ⟨⟨by have := HI3.out; show i3 < 4294967296; omega, by have := HK7.out; show k7 < 256; omega⟩, HS5.out⟩), rds_flds HRK.out HRF.out⟩, by simp only [intOf]; omega⟩
      · have hfa : ((fk : Int) == 0) = false := by simp [hfz]
        have HRU := hidden (rds_unpack HR1.out HR2.out HRK.out hk hfz)
        obtain ⟨⟨c0, c1⟩, ⟨z0, z1⟩, ⟨d0, d1⟩, ⟨y0, y1⟩⟩ := hsch.facts
        have HQ : Hid (w.heap.size < q) := hidden hsch.2.2.1
        clear hsch hfz
        go_wp2_with fail
        obtain ⟨e1, e2⟩ := HM4.out.done (.int .u32 (i : Int)) (.slice a k cap)
        refine bodyPost_ret (v := .agg #[.int .u32 (i : Int), .slice a k cap]) (by simp [results, Try.results30, go_sem, d0, d1]) rfl ?_
        exact ⟨i, x, _, bk, fk, rfl, (own_set2 HO.out (by have := HQ.out; omega) _ _).low (by have := HQ.out; omega), by have := HI.out; omega, by have := HXL.out; omega, HOK.out, e1, HRU.out, e2⟩
    · have hlt' : ¬ (k : Int) < (n : Int) := by omega
      by_cases hfz : fk = 0
      · have hfa : ((fk : Int) == 0) = true := by simp [hfz]
        have hkn : k = n := by omega
        have HRU : Hid (Rds unpackM b f (i, x) bk (chk i x)) := by
          have h := HRK.out
          rw [hkn, hfz] at h
          exact hidden (rds_unpack2 (rds_sch HR1.out HR2.out h))
        obtain ⟨⟨c0, c1⟩, ⟨z0, z1⟩, ⟨d0, d1⟩, ⟨y0, y1⟩⟩ := hsch.facts
        have HQ : Hid (w.heap.size < q) := hidden hsch.2.2.1
        have HPW : Hid (p < w.heap.size) := hidden hsch.2.1
        have HSZ := hidden hsch.size
        have HC := hidden (refCheck_any HO.out.sf i)
        clear hsch hfz hkn
        go_wp2_with fail
        refine HC.out.mono ?_
        rintro e w12 ⟨rfl, hb12⟩
        have HM12 := hidden (HM4.out.kept (hb12.mono HSZ.out))
        have HO12 := hidden (HO.out.kept hb12)
        obtain ⟨⟨g0, g1⟩, ⟨j0, j1⟩, ⟨m0, m1⟩, ⟨o0, o1⟩⟩ := HM12.out.facts
        obtain ⟨ra', rcap', q0, q1, q2, q3, _, _, _, _, _⟩ := HM12.out.1.cells2
        have hne1 : ¬ p = q := by have := HQ.out; have := HPW.out; omega
        have hne2 : ¬ q = p := by have := HQ.out; have := HPW.out; omega
        have hne3 : ¬ p = w.heap.size := by have := HPW.out; omega
        have hne4 : ¬ w.heap.size = p := by have := HPW.out; omega
        clear hb12 c0 c1 z0 z1 d0 d1 y0 y1 r0 r1 r2 r3
        go_wp2_with fail
        have hm13 := HM12.out.fault (chk i x)
        obtain ⟨e1, e2⟩ := hm13.done (.int .u32 (i : Int)) (.slice a k cap)
        refine bodyPost_ret (v := .agg #[.int .u32 (i : Int), .slice a k cap]) (by simp [results, Try.results30, go_sem, m0, m1, hne3, hne4]) rfl ?_
        exact ⟨i, x, _, bk, _, rfl, (own_set2 (B := q + 1) (Fr.own ((Fr.refl p w12.heap.size w12).set 1 _) HO12.out (by have := HQ.out; have := HPW.out; omega)) (by have := HQ.out; omega) _ _).low (by have := HQ.out; omega), by have := HI.out; omega, by have := HXL.out; omega, HOK.out, e1, HRU.out, e2⟩
      · have hfa : ((fk : Int) == 0) = false := by simp [hfz]
        have HRU := hidden (rds_unpack HR1.out HR2.out HRK.out hk hfz)
        obtain ⟨⟨c0, c1⟩, ⟨z0, z1⟩, ⟨d0, d1⟩, ⟨y0, y1⟩⟩ := hsch.facts
        have HQ : Hid (w.heap.size < q) := hidden hsch.2.2.1
        clear hsch hfz
        go_wp2_with fail
        obtain ⟨e1, e2⟩ := HM4.out.done (.int .u32 (i : Int)) (.slice a k cap)
        refine bodyPost_ret (v := .agg #[.int .u32 (i : Int), .slice a k cap]) (by simp [results, Try.results30, go_sem, d0, d1]) rfl ?_
        exact ⟨i, x, _, bk, fk, rfl, (own_set2 HO.out (by have := HQ.out; omega) _ _).low (by have := HQ.out; omega), by have := HI.out; omega, by have := HXL.out; omega, HOK.out, e1, HRU.out, e2⟩
end Go.Proofs.Ytkohejjkpofmgaa
