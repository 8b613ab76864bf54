/- The laws' examples: they come out as the document says. -/
import Derived.Test.YtkohejjkpofmgaaAdd
import Derived.Test.YtkohejjkpofmgaaFit2
import Derived.Test.YtkohejjkpofmgaaLift
set_option linter.unusedVariables false
set_option linter.unusedSimpArgs false
namespace Go.Proofs.Ytkohejjkpofmgaa
open Go.RowKit Go.Lib

def sId : ByteArray := ⟨#[105, 100]⟩
def sName : ByteArray := ⟨#[110, 97, 109, 101]⟩
def sAge : ByteArray := ⟨#[97, 103, 101]⟩
/-- The document's schema, and with one field more. -/
def twoL : List Fd := [(1, sId, 1, true), (2, sName, 3, false)]
def threeL : List Fd := [(1, sId, 1, true), (2, sName, 3, false), (3, sAge, 1, false)]
def r0 : List Cl := [(1, 7, []), (3, 0, [97])]
def r1 : List Cl := [(1, 7, []), (0, 0, [])]
def r2 : List Cl := [(0, 0, []), (3, 0, [97])]
def r3 : List Cl := [(1, 7, []), (1, 8, [])]
theorem ex_add : addM 1 twoL sAge 1 = (2, threeL, 0) := by decide +kernel
theorem ex_f1 : fitM twoL r1 = 0 := by decide +kernel
theorem ex_f2 : fitM twoL r2 = 82 := by decide +kernel
theorem ex_f3 : fitM twoL r3 = 10 := by decide +kernel
theorem ex_lift : liftM twoL threeL r0 = [(1, 7, []), (3, 0, [97]), (0, 0, [])] := by decide +kernel

theorem fine_int {n : Int} (h : I64 n) : Fine (1, n, []) := Or.inr (Or.inl ⟨n, rfl, h⟩)
theorem fine_a : Fine (3, 0, [97]) := Or.inr (Or.inr (Or.inr ⟨[97], rfl, by decide, fun x hx => by simp at hx; omega⟩))
theorem fine_nul : Fine (0, 0, []) := Or.inl rfl
theorem i64_7 : I64 7 := ⟨by omega, by omega⟩
theorem i64_8 : I64 8 := ⟨by omega, by omega⟩
theorem fine_two {x y : Cl} (hx : Fine x) (hy : Fine y) : ∀ c ∈ [x, y], Fine c := fun c hc => by
  rcases List.mem_cons.1 hc with rfl | hc
  · exact hx
  · have : c = y := by simpa using hc
    rw [this]; exact hy

theorem litV (w : World) (l : List Cl) (hl : l.length ≤ 256) : OwnV (w.alloc (.cells (vvals l).toArray 68)) w.heap.size (.slice (some ⟨w.heap.size, 0, none⟩) l.length l.length) l :=
  World.ownsRow_lit (e := 68) (size := 1) w (vvals l).toArray l.length (base := w.heap.size) (Nat.le_refl _) (by unfold maxLen; omega) (by simp [vvals])

theorem two_any (w : World) : Calls Try.prog 31 #[] w fun e w' => (∃ v', e = .returned (.agg #[.int .u32 1, v']) ∧ OwnF w' w.heap.size v' twoL) ∧ Below w.heap.size w w' := by
  have HL : Hid (∀ W : World, OwnF (W.alloc (.cells #[.int .u32 1, .string ⟨#[105, 100]⟩, .int .u8 1, .bool true, .int .u32 2, .string ⟨#[110, 97, 109, 101]⟩, .int .u8 3, .bool false] 67)) W.heap.size (.slice (some ⟨W.heap.size, 0, none⟩) 2 2) twoL) := hidden (fun W => lit_fields W twoL (by unfold maxLen; decide))
  have hb1 := below_one w (.cells #[.int .u32 0, .slice none 0 0] 25)
  have hsz : (w.alloc (.cells #[.int .u32 0, .slice none 0 0] 25)).heap.size = w.heap.size + 1 := World.size_alloc _ _
  have HSZ := hidden hsz
  clear hsz
  go_enter Try.func31, Try.ntmps31
  go_wp2
  refine bodyPost_ret (v := .agg #[.int .u32 1, .slice (some ⟨w.heap.size + 1, 0, none⟩) 2 2]) (by simp [results, Try.results31, go_sem]) rfl ?_
  refine ⟨⟨_, rfl, ?_⟩, ?_⟩
  · have h := HL.out (w.alloc (.cells #[.int .u32 1, .slice (some ⟨w.heap.size + 1, 0, none⟩) 2 2] 25))
    rw [World.size_alloc] at h
    exact h.low (by omega)
  · exact ((Below.refl _ _).alloc (Nat.le_refl _) _).alloc (by rw [World.size_alloc]; omega) _

set_option maxRecDepth 100000 in
set_option maxHeartbeats 8000000 in
theorem alive_any (w : World) : Calls Try.prog 9 #[] w fun e w' => e = .returned (.bool true) ∧ Below w.heap.size w w' := by
  have hq0 : ∀ w, (binOp .eql 68 .nilIface .nilIface).run Try.prog w = .ok (.bool true) w := fun w => by kernel_rfl
  go_enter Try.func9, Try.ntmps9
  go_wp2_with fail
  refine (two_any _).mono ?_
  rintro e w1 ⟨⟨v1, rfl, o1⟩, hb1⟩
  have HF1 := hidden o1.sf
  have HB1 := hidden hb1
  obtain ⟨a1, cap1, hv1, _, _⟩ := own_slice o1
  have hv1' : v1 = .slice a1 2 cap1 := hv1
  clear hv1
  subst hv1'
  clear o1 hb1
  have hb2 := below_one w1 (.cells #[.int .u32 1, .slice a1 2 cap1] 25)
  have HT1 : Hid (∀ U, Below (w1.alloc (.cells #[.int .u32 1, .slice a1 2 cap1] 25)).heap.size (w1.alloc (.cells #[.int .u32 1, .slice a1 2 cap1] 25)) U → Sf U (.slice a1 2 cap1) twoL ∧ U.cell? ⟨w1.heap.size, 0, none⟩ = some (.int .u32 1) ∧ U.cell? ⟨w1.heap.size, 1, none⟩ = some (.slice a1 2 cap1)) := hidden (fun U h => by
    obtain ⟨c0, c1⟩ := cell_new2 w1 (.int .u32 1) (.slice a1 2 cap1) 25
    have hs : w1.heap.size < (w1.alloc (.cells #[.int .u32 1, .slice a1 2 cap1] 25)).heap.size := by rw [World.size_alloc]; omega
    exact ⟨(HF1.out.kept hb2).kept h, (h.cell (p := ⟨w1.heap.size, 0, none⟩) hs).trans c0, (h.cell (p := ⟨w1.heap.size, 1, none⟩) hs).trans c1⟩)
  have HB2 := hidden (below_then HB1.out hb2)
  clear hb2
  have HLT : Hid (w1.heap.size < (w1.alloc (.cells #[.int .u32 1, .slice a1 2 cap1] 25)).heap.size) := hidden (by rw [World.size_alloc]; omega)
  generalize hX1 : w1.alloc (.cells #[.int .u32 1, .slice a1 2 cap1] 25) = X1 at *
  have HADD := hidden (add_any (HT1.out X1 (Below.refl _ _)).1 1 (by omega) (fun f hf => by
    unfold twoL at hf
    simp only [List.mem_cons, List.not_mem_nil, or_false] at hf
    rcases hf with rfl | rfl <;> exact ⟨by decide, by decide⟩) sAge 1)
  rw [ex_add] at HADD
  unfold sAge at HADD
  obtain ⟨_, u0, u1⟩ := HT1.out X1 (Below.refl _ _)
  go_wp2_with fail
  try rw [hX1]
  clear hX1
  refine HADD.out.mono ?_
  rintro e w2 ⟨⟨v2, rfl, o2⟩, hb2⟩
  clear u0 u1
  have HF2 := hidden o2.sf
  obtain ⟨a2, cap2, hv2, _, _⟩ := own_slice o2
  have hv2' : v2 = .slice a2 3 cap2 := hv2
  clear hv2
  subst hv2'
  have HB3 := hidden (below_then HB2.out hb2)
  have HX2 := hidden hb2
  have hszX := hb2.size
  clear o2 hb2
  have HT2 : Hid (∀ U, Below (w2.alloc (.cells #[.int .u32 2, .slice a2 3 cap2] 25)).heap.size (w2.alloc (.cells #[.int .u32 2, .slice a2 3 cap2] 25)) U → (Sf U (.slice a2 3 cap2) threeL ∧ U.cell? ⟨w2.heap.size, 0, none⟩ = some (.int .u32 2) ∧ U.cell? ⟨w2.heap.size, 1, none⟩ = some (.slice a2 3 cap2)) ∧ Sf U (.slice a1 2 cap1) twoL ∧ U.cell? ⟨w1.heap.size, 0, none⟩ = some (.int .u32 1) ∧ U.cell? ⟨w1.heap.size, 1, none⟩ = some (.slice a1 2 cap1)) := hidden (fun U h => by
    obtain ⟨c0, c1⟩ := cell_new2 w2 (.int .u32 2) (.slice a2 3 cap2) 25
    have hb := below_one w2 (.cells #[.int .u32 2, .slice a2 3 cap2] 25)
    have hs : w2.heap.size < (w2.alloc (.cells #[.int .u32 2, .slice a2 3 cap2] 25)).heap.size := by rw [World.size_alloc]; omega
    exact ⟨⟨(HF2.out.kept hb).kept h, (h.cell (p := ⟨w2.heap.size, 0, none⟩) hs).trans c0, (h.cell (p := ⟨w2.heap.size, 1, none⟩) hs).trans c1⟩, HT1.out U (below_then HX2.out (below_then hb h))⟩)
  have HB4 := hidden (below_then HB3.out (below_one w2 (.cells #[.int .u32 2, .slice a2 3 cap2] 25)))
  obtain ⟨⟨_, s0, s1⟩, _, t0, t1⟩ := HT2.out _ (Below.refl _ _)
  clear HT1 HF1 HF2 HX2
  have hlt1 : w1.heap.size < (w2.alloc (.cells #[.int .u32 2, .slice a2 3 cap2] 25)).heap.size := by
    rw [World.size_alloc]
    have h3 := HLT.out
    omega
  have hlt2 : w2.heap.size < (w2.alloc (.cells #[.int .u32 2, .slice a2 3 cap2] 25)).heap.size := by rw [World.size_alloc]; omega
  generalize hX2 : w2.alloc (.cells #[.int .u32 2, .slice a2 3 cap2] 25) = X2 at *
  have HLR : Hid (OwnV (X2.alloc (.cells #[.iface 2 (.int .i64 7), .iface 9 (.string ⟨#[97]⟩)] 68)) X2.heap.size (.slice (some ⟨X2.heap.size, 0, none⟩) 2 2) r0) := hidden (litV X2 r0 (by decide))
  have hb5 := below_one X2 (.cells #[.iface 2 (.int .i64 7), .iface 9 (.string ⟨#[97]⟩)] 68)
  have HLI := hidden (lift_any (HT2.out _ hb5).2.1 (HT2.out _ hb5).1.1 HLR.out.sv (by decide) 1 2)
  rw [ex_lift] at HLI
  have HB5 := hidden (below_then HB4.out hb5)
  have HX5 := hidden hb5
  clear hb5
  go_wp2_with fail
  try rw [hX2]
  clear hX2
  refine HLI.out.mono ?_
  rintro e w4 ⟨⟨v4, rfl, o4⟩, hb4⟩
  obtain ⟨g, cap4, hv4, hg1, hg2⟩ := o4.head (by decide)
  have hv4' : v4 = .slice (some ⟨g, 0, none⟩) 3 cap4 := hv4
  clear hv4
  subst hv4'
  have HX4 := hidden (below_then HX5.out hb4)
  have HB6 := hidden (below_then HB5.out hb4)
  have HO4 := hidden o4
  clear o4 hb4 s0 s1 t0 t1
  obtain ⟨⟨hsf, s0, s1⟩, hsg, t0, t1⟩ := HT2.out _ HX4.out
  obtain ⟨b, off, rfl, hb, c0, _⟩ := hsf.at (k := 2) (by decide)
  have c8 : w4.cell? ⟨b, off + 8, none⟩ = some (.int .u32 3) := c0
  have HG := hidden hsg
  clear c0 hsf hsg
  have HL1 : Hid (∀ W : World, OwnV (W.alloc (.cells #[.iface 2 (.int .i64 7), .nilIface] 68)) W.heap.size (.slice (some ⟨W.heap.size, 0, none⟩) 2 2) r1) := hidden (fun W => litV W r1 (by decide))
  have HL2 : Hid (∀ W : World, OwnV (W.alloc (.cells #[.nilIface, .iface 9 (.string ⟨#[97]⟩)] 68)) W.heap.size (.slice (some ⟨W.heap.size, 0, none⟩) 2 2) r2) := hidden (fun W => litV W r2 (by decide))
  have HL3 : Hid (∀ W : World, OwnV (W.alloc (.cells #[.iface 2 (.int .i64 7), .iface 2 (.int .i64 8)] 68)) W.heap.size (.slice (some ⟨W.heap.size, 0, none⟩) 2 2) r3) := hidden (fun W => litV W r3 (by decide))
  have HC1 := hidden (fit_any (HG.out.kept (below_one w4 (.cells #[.iface 2 (.int .i64 7), .nilIface] 68))) (HL1.out w4).sv (fine_two (fine_int i64_7) fine_nul) 1)
  rw [ex_f1] at HC1
  have hw14 : w1.heap.size < w4.heap.size := Nat.lt_of_lt_of_le hlt1 HX4.out.size
  go_wp2_with fail
  refine HC1.out.mono ?_
  rintro e w5 ⟨rfl, hb5⟩
  have HX6 := hidden (below_then HX4.out (below_then (below_one w4 (.cells #[.iface 2 (.int .i64 7), .nilIface] 68)) hb5))
  have HB7 := hidden (below_then HB6.out (below_then (below_one w4 (.cells #[.iface 2 (.int .i64 7), .nilIface] 68)) hb5))
  have HO5 := hidden ((HO4.out.kept (below_one w4 (.cells #[.iface 2 (.int .i64 7), .nilIface] 68))).kept hb5)
  clear hb5 s0 s1 t0 t1 c8
  obtain ⟨_, hsg, t0, t1⟩ := HT2.out _ HX6.out
  have HC2 := hidden (fit_any (hsg.kept (below_one w5 (.cells #[.nilIface, .iface 9 (.string ⟨#[97]⟩)] 68))) (HL2.out w5).sv (fine_two fine_nul fine_a) 1)
  rw [ex_f2] at HC2
  clear hsg
  have hw15 : w1.heap.size < w5.heap.size := Nat.lt_of_lt_of_le hlt1 HX6.out.size
  go_wp2_with fail
  refine HC2.out.mono ?_
  rintro e w6 ⟨rfl, hb6⟩
  have HX7 := hidden (below_then HX6.out (below_then (below_one w5 (.cells #[.nilIface, .iface 9 (.string ⟨#[97]⟩)] 68)) hb6))
  have HB8 := hidden (below_then HB7.out (below_then (below_one w5 (.cells #[.nilIface, .iface 9 (.string ⟨#[97]⟩)] 68)) hb6))
  have HO6 := hidden ((HO5.out.kept (below_one w5 (.cells #[.nilIface, .iface 9 (.string ⟨#[97]⟩)] 68))).kept hb6)
  clear hb6 t0 t1
  obtain ⟨_, hsg, t0, t1⟩ := HT2.out _ HX7.out
  have HC3 := hidden (fit_any (hsg.kept (below_one w6 (.cells #[.iface 2 (.int .i64 7), .iface 2 (.int .i64 8)] 68))) (HL3.out w6).sv (fine_two (fine_int i64_7) (fine_int i64_8)) 1)
  rw [ex_f3] at HC3
  clear hsg
  have hw16 : w1.heap.size < w6.heap.size := Nat.lt_of_lt_of_le hlt1 HX7.out.size
  go_wp2_with fail
  refine HC3.out.mono ?_
  rintro e w7 ⟨rfl, hb7⟩
  have HB9 := hidden (below_then HB8.out (below_then (below_one w6 (.cells #[.iface 2 (.int .i64 7), .iface 2 (.int .i64 8)] 68)) hb7))
  have ho7 := (HO6.out.kept (below_one w6 (.cells #[.iface 2 (.int .i64 7), .iface 2 (.int .i64 8)] 68))).kept hb7
  have hc7 : w7.cell? ⟨g, 2, none⟩ = some .nilIface := (ho7.at (j := 2) (by decide)).1
  clear hb7 t0 t1 ho7
  go_wp2_with fail
  go_ret
  exact ⟨rfl, HB9.out⟩
end Go.Proofs.Ytkohejjkpofmgaa
