/- Under way. -/
import Derived.Test.YtfcnoeehfhncjaaAl1
import Derived.Test.YtfcnoeehfhncjaaPn
import Derived.Test.YtfcnoeehfhncjaaPe
import Derived.Test.YtfcnoeehfhncjaaMay
import Derived.Test.YtfcnoeehfhncjaaPc
import Derived.Test.YtfcnoeehfhncjaaFit
set_option linter.unusedVariables false
set_option linter.unusedSimpArgs false
namespace Go.Proofs.Ytfcnoeehfhncjaa
open Go.RowKit Go.Lib

/-- What the law has in memory. -/
def Tu (X : World) (p : Nat) (oa fa : Nat) (ca : Cl) (ka : List PT) (va : Value) (ob fb : Nat) (cb : Cl) (kb : List PT) (vb : Value) (si : Nat) (fv : Value) (l : List Fd) (sv : Value) (sts : List Stt) : Prop :=
  (NodeAt X p 0 oa fa ca va ∧ Kids X va ka) ∧ (NodeAt X (p + 1) 0 ob fb cb vb ∧ Kids X vb kb) ∧ (p + 1 + 1 < X.heap.size ∧ X.cell? ⟨p + 1 + 1, 0, none⟩ = some (.int .u32 (si : Int)) ∧ X.cell? ⟨p + 1 + 1, 1, none⟩ = some fv ∧ Sf X fv l) ∧ Ss X sv sts
theorem Tu.kept {X Y : World} {p : Nat} {oa fa : Nat} {ca : Cl} {ka : List PT} {va : Value} {ob fb : Nat} {cb : Cl} {kb : List PT} {vb : Value} {si : Nat} {fv : Value} {l : List Fd} {sv : Value} {sts : List Stt} (h : Tu X p oa fa ca ka va ob fb cb kb vb si fv l sv sts) (hb : Below X.heap.size X Y) : Tu Y p oa fa ca ka va ob fb cb kb vb si fv l sv sts := by
  obtain ⟨⟨h1, h2⟩, ⟨h3, h4⟩, ⟨h5, h6, h7, h8⟩, h9⟩ := h
  exact ⟨⟨h1.kept hb, h2.kept hb⟩, ⟨h3.kept hb, h4.kept hb⟩, ⟨Nat.lt_of_lt_of_le h5 hb.size, (hb.cell (p := ⟨p + 1 + 1, 0, none⟩) h5).trans h6, (hb.cell (p := ⟨p + 1 + 1, 1, none⟩) h5).trans h7, h8.kept hb⟩, h9.kept hb⟩
theorem Tu.facts {X : World} {p : Nat} {oa fa : Nat} {ca : Cl} {ka : List PT} {va : Value} {ob fb : Nat} {cb : Cl} {kb : List PT} {vb : Value} {si : Nat} {fv : Value} {l : List Fd} {sv : Value} {sts : List Stt} (h : Tu X p oa fa ca ka va ob fb cb kb vb si fv l sv sts) :
    (X.cell? ⟨p, 0, none⟩ = some (.int .u8 (oa : Int)) ∧ X.cell? ⟨p, 1, none⟩ = some (.int .u32 (fa : Int)) ∧ X.cell? ⟨p, 2, none⟩ = some (.int .u8 (ca.1 : Int)) ∧ X.cell? ⟨p, 3, none⟩ = some (.int .i64 ca.2.1) ∧ X.cell? ⟨p, 4, none⟩ = some (.string (bytesT ca.2.2)) ∧ X.cell? ⟨p, 5, none⟩ = some va) ∧
    (X.cell? ⟨p + 1, 0, none⟩ = some (.int .u8 (ob : Int)) ∧ X.cell? ⟨p + 1, 1, none⟩ = some (.int .u32 (fb : Int)) ∧ X.cell? ⟨p + 1, 2, none⟩ = some (.int .u8 (cb.1 : Int)) ∧ X.cell? ⟨p + 1, 3, none⟩ = some (.int .i64 cb.2.1) ∧ X.cell? ⟨p + 1, 4, none⟩ = some (.string (bytesT cb.2.2)) ∧ X.cell? ⟨p + 1, 5, none⟩ = some vb) ∧
    (X.cell? ⟨p + 1 + 1, 0, none⟩ = some (.int .u32 (si : Int)) ∧ X.cell? ⟨p + 1 + 1, 1, none⟩ = some fv) := by
  obtain ⟨⟨⟨_, a0, a1, a2, a3, a4, a5⟩, _⟩, ⟨⟨_, b0, b1, b2, b3, b4, b5⟩, _⟩, ⟨_, h6, h7, _⟩, _⟩ := h
  exact ⟨⟨a0, a1, a2, a3, a4, a5⟩, ⟨b0, b1, b2, b3, b4, b5⟩, h6, h7⟩

theorem kids_1 {X : World} {op f : Nat} {c : Cl} {ks : List PT} {v : Value} (hk : Kids X v ks) : Kids (X.alloc (.cells #[.int .u8 (op : Int), .int .u32 (f : Int), .int .u8 (c.1 : Int), .int .i64 c.2.1, .string (bytesT c.2.2), v] 39)) (.slice (some ⟨X.heap.size, 0, none⟩) 1 1) [.node op f c ks] := by
  refine ⟨_, _, rfl, Nat.le_refl _, by unfold maxLen; omega, fun _ => ⟨X.heap.size, 0, rfl, ?_⟩⟩
  simp only [KidsAt]
  exact ⟨Lies.shut (node_new X op f c v) (hk.kept (below_one _ _)), trivial⟩
theorem kids_2 {X : World} {oa fa : Nat} {ca : Cl} {ka : List PT} {va : Value} (hka : Kids X va ka) {ob fb : Nat} {cb : Cl} {kb : List PT} {vb : Value} (hkb : Kids X vb kb) : Kids (X.alloc (.cells #[.int .u8 (oa : Int), .int .u32 (fa : Int), .int .u8 (ca.1 : Int), .int .i64 ca.2.1, .string (bytesT ca.2.2), va, .int .u8 (ob : Int), .int .u32 (fb : Int), .int .u8 (cb.1 : Int), .int .i64 cb.2.1, .string (bytesT cb.2.2), vb] 39)) (.slice (some ⟨X.heap.size, 0, none⟩) 2 2) [.node oa fa ca ka, .node ob fb cb kb] := by
  refine ⟨_, _, rfl, Nat.le_refl _, by unfold maxLen; omega, fun _ => ⟨X.heap.size, 0, rfl, ?_⟩⟩
  have hh := heap_alloc_new X (.cells #[.int .u8 (oa : Int), .int .u32 (fa : Int), .int .u8 (ca.1 : Int), .int .i64 ca.2.1, .string (bytesT ca.2.2), va, .int .u8 (ob : Int), .int .u32 (fb : Int), .int .u8 (cb.1 : Int), .int .i64 cb.2.1, .string (bytesT cb.2.2), vb] 39)
  have hz : X.heap.size < (X.alloc (.cells #[.int .u8 (oa : Int), .int .u32 (fa : Int), .int .u8 (ca.1 : Int), .int .i64 ca.2.1, .string (bytesT ca.2.2), va, .int .u8 (ob : Int), .int .u32 (fb : Int), .int .u8 (cb.1 : Int), .int .i64 cb.2.1, .string (bytesT cb.2.2), vb] 39)).heap.size := by rw [World.size_alloc]; omega
  have hb := below_one X (.cells #[.int .u8 (oa : Int), .int .u32 (fa : Int), .int .u8 (ca.1 : Int), .int .i64 ca.2.1, .string (bytesT ca.2.2), va, .int .u8 (ob : Int), .int .u32 (fb : Int), .int .u8 (cb.1 : Int), .int .i64 cb.2.1, .string (bytesT cb.2.2), vb] 39)
  simp only [KidsAt]
  refine ⟨Lies.shut ⟨hz, ?_, ?_, ?_, ?_, ?_, ?_⟩ (hka.kept hb), Lies.shut ⟨hz, ?_, ?_, ?_, ?_, ?_, ?_⟩ (hkb.kept hb), trivial⟩
  all_goals (rw [cell_block hh]; rfl)
theorem kids_mv {X : World} {g : Nat} {ks : List PT} {n c : Nat} (h : Kids X (.slice (some ⟨g, 0, none⟩) n c) ks) {g' : Nat} (e : g = g') : Kids X (.slice (some ⟨g', 0, none⟩) n c) ks := by
  subst e
  exact h
/-- What the two literals leave. -/
theorem lits {X : World} {oa fa : Nat} {ca : Cl} {ka : List PT} {va : Value} (hka : Kids X va ka) {ob fb : Nat} {cb : Cl} {kb : List PT} {vb : Value} (hkb : Kids X vb kb) {v12 : Value} {k12 : List PT} (h12 : Kids X v12 k12) {R : World}
    (hR : R = ((((X.alloc (.cells #[.int .u8 8, .int .u32 0, .int .u8 0, .int .i64 0, .string ⟨#[]⟩, v12] 39)).alloc (.cells #[.int .u8 (oa : Int), .int .u32 (fa : Int), .int .u8 (ca.1 : Int), .int .i64 ca.2.1, .string (bytesT ca.2.2), va] 39)).alloc (.cells #[.int .u8 (ob : Int), .int .u32 (fb : Int), .int .u8 (cb.1 : Int), .int .i64 cb.2.1, .string (bytesT cb.2.2), vb] 39)).alloc (.cells #[.int .u8 8, .int .u32 0, .int .u8 0, .int .i64 0, .string ⟨#[]⟩, .slice (some ⟨X.heap.size + 1, 0, none⟩) 1 1, .int .u8 8, .int .u32 0, .int .u8 0, .int .i64 0, .string ⟨#[]⟩, .slice (some ⟨X.heap.size + 1 + 1, 0, none⟩) 1 1] 39)).alloc (.cells #[.int .u8 7, .int .u32 0, .int .u8 0, .int .i64 0, .string ⟨#[]⟩, .slice (some ⟨X.heap.size + 1 + 1 + 1, 0, none⟩) 2 2] 39)) :
    (NodeAt R X.heap.size 0 8 0 nul v12 ∧ Kids R v12 k12) ∧ (NodeAt R (X.heap.size + 1 + 1 + 1 + 1) 0 7 0 nul (.slice (some ⟨X.heap.size + 1 + 1 + 1, 0, none⟩) 2 2) ∧ Kids R (.slice (some ⟨X.heap.size + 1 + 1 + 1, 0, none⟩) 2 2) [.node 8 0 nul [.node oa fa ca ka], .node 8 0 nul [.node ob fb cb kb]]) ∧ Below X.heap.size X R := by
  have n3 := node_new X 8 0 nul v12
  have b3 := below_one X (.cells #[.int .u8 8, .int .u32 0, .int .u8 0, .int .i64 0, .string ⟨#[]⟩, v12] 39)
  have z3 : (X.alloc (.cells #[.int .u8 8, .int .u32 0, .int .u8 0, .int .i64 0, .string ⟨#[]⟩, v12] 39)).heap.size = X.heap.size + 1 := World.size_alloc _ _
  generalize h3 : X.alloc (.cells #[.int .u8 8, .int .u32 0, .int .u8 0, .int .i64 0, .string ⟨#[]⟩, v12] 39) = R3 at *
  have n3' : NodeAt R3 X.heap.size 0 8 0 nul v12 := by rw [← h3]; exact n3
  have k4 := kids_1 (op := oa) (f := fa) (c := ca) (hka.kept b3)
  have b4 := below_one R3 (.cells #[.int .u8 (oa : Int), .int .u32 (fa : Int), .int .u8 (ca.1 : Int), .int .i64 ca.2.1, .string (bytesT ca.2.2), va] 39)
  have z4 : (R3.alloc (.cells #[.int .u8 (oa : Int), .int .u32 (fa : Int), .int .u8 (ca.1 : Int), .int .i64 ca.2.1, .string (bytesT ca.2.2), va] 39)).heap.size = R3.heap.size + 1 := World.size_alloc _ _
  generalize R3.alloc (.cells #[.int .u8 (oa : Int), .int .u32 (fa : Int), .int .u8 (ca.1 : Int), .int .i64 ca.2.1, .string (bytesT ca.2.2), va] 39) = R4 at *
  have k5 := kids_1 (op := ob) (f := fb) (c := cb) ((hkb.kept b3).kept b4)
  have b5 := below_one R4 (.cells #[.int .u8 (ob : Int), .int .u32 (fb : Int), .int .u8 (cb.1 : Int), .int .i64 cb.2.1, .string (bytesT cb.2.2), vb] 39)
  have z5 : (R4.alloc (.cells #[.int .u8 (ob : Int), .int .u32 (fb : Int), .int .u8 (cb.1 : Int), .int .i64 cb.2.1, .string (bytesT cb.2.2), vb] 39)).heap.size = R4.heap.size + 1 := World.size_alloc _ _
  generalize R4.alloc (.cells #[.int .u8 (ob : Int), .int .u32 (fb : Int), .int .u8 (cb.1 : Int), .int .i64 cb.2.1, .string (bytesT cb.2.2), vb] 39) = R5 at *
  have k4' := kids_mv (k4.kept b5) (show R3.heap.size = X.heap.size + 1 by omega)
  have k5' := kids_mv k5 (show R4.heap.size = X.heap.size + 1 + 1 by omega)
  have k6 := kids_2 (oa := 8) (fa := 0) (ca := nul) k4' (ob := 8) (fb := 0) (cb := nul) k5'
  have b6 := below_one R5 (.cells #[.int .u8 8, .int .u32 0, .int .u8 0, .int .i64 0, .string ⟨#[]⟩, .slice (some ⟨X.heap.size + 1, 0, none⟩) 1 1, .int .u8 8, .int .u32 0, .int .u8 0, .int .i64 0, .string ⟨#[]⟩, .slice (some ⟨X.heap.size + 1 + 1, 0, none⟩) 1 1] 39)
  have z6 : (R5.alloc (.cells #[.int .u8 8, .int .u32 0, .int .u8 0, .int .i64 0, .string ⟨#[]⟩, .slice (some ⟨X.heap.size + 1, 0, none⟩) 1 1, .int .u8 8, .int .u32 0, .int .u8 0, .int .i64 0, .string ⟨#[]⟩, .slice (some ⟨X.heap.size + 1 + 1, 0, none⟩) 1 1] 39)).heap.size = R5.heap.size + 1 := World.size_alloc _ _
  have k6' : Kids (R5.alloc (.cells #[.int .u8 8, .int .u32 0, .int .u8 0, .int .i64 0, .string ⟨#[]⟩, .slice (some ⟨X.heap.size + 1, 0, none⟩) 1 1, .int .u8 8, .int .u32 0, .int .u8 0, .int .i64 0, .string ⟨#[]⟩, .slice (some ⟨X.heap.size + 1 + 1, 0, none⟩) 1 1] 39)) (.slice (some ⟨R5.heap.size, 0, none⟩) 2 2) [.node 8 0 nul [.node oa fa ca ka], .node 8 0 nul [.node ob fb cb kb]] := k6
  generalize R5.alloc (.cells #[.int .u8 8, .int .u32 0, .int .u8 0, .int .i64 0, .string ⟨#[]⟩, .slice (some ⟨X.heap.size + 1, 0, none⟩) 1 1, .int .u8 8, .int .u32 0, .int .u8 0, .int .i64 0, .string ⟨#[]⟩, .slice (some ⟨X.heap.size + 1 + 1, 0, none⟩) 1 1] 39) = R6 at *
  have k6'' := kids_mv k6' (show R5.heap.size = X.heap.size + 1 + 1 + 1 by omega)
  have n7 := node_new R6 7 0 nul (.slice (some ⟨X.heap.size + 1 + 1 + 1, 0, none⟩) 2 2)
  have b7 := below_one R6 (.cells #[.int .u8 7, .int .u32 0, .int .u8 0, .int .i64 0, .string ⟨#[]⟩, .slice (some ⟨X.heap.size + 1 + 1 + 1, 0, none⟩) 2 2] 39)
  have n7' : NodeAt R R6.heap.size 0 7 0 nul (.slice (some ⟨X.heap.size + 1 + 1 + 1, 0, none⟩) 2 2) := by rw [hR]; exact n7
  rw [show R6.heap.size = X.heap.size + 1 + 1 + 1 + 1 by omega] at n7'
  have b7' : Below R6.heap.size R6 R := by rw [hR]; exact b7
  exact ⟨⟨(((n3'.kept b4).kept b5).kept b6).kept b7', ((((h12.kept b3).kept b4).kept b5).kept b6).kept b7'⟩, ⟨n7', k6''.kept b7'⟩, below_then (below_then (below_then (below_then b3 b4) b5) b6) b7'⟩

set_option maxRecDepth 100000 in
set_option maxHeartbeats 16000000 in
theorem walkH (HAL : ∀ w : World, Calls Try.prog 6 #[] w fun e w' => e = .returned (.bool true) ∧ Below w.heap.size w w') {w : World} {oa fa : Nat} {ca : Cl} {ka : List PT} {va : Value} (hka : Kids w va ka) (hoa : Okp (.node oa fa ca ka)) {ob fb : Nat} {cb : Cl} {kb : List PT} {vb : Value} (hkb : Kids w vb kb) (hob : Okp (.node ob fb cb kb))
    {fv : Value} {l : List Fd} (hl : Sf w fv l) (ho : ∀ f ∈ l, Okf f) (si : Nat) (hsi : si < 4294967296) {cv : Value} {cl : List Cl} (hc : Sc w cv cl) (hoc : ∀ c ∈ cl, Okc c) {sv : Value} {sts : List Stt} (hs : Ss w sv sts) (hos : ∀ x ∈ sts, Oks x) :
    Calls Try.prog 5 #[.agg #[.int .u8 (oa : Int), .int .u32 (fa : Int), .int .u8 (ca.1 : Int), .int .i64 ca.2.1, .string (bytesT ca.2.2), va], .agg #[.int .u8 (ob : Int), .int .u32 (fb : Int), .int .u8 (cb.1 : Int), .int .i64 cb.2.1, .string (bytesT cb.2.2), vb], .agg #[.int .u32 (si : Int), fv], cv, sv] w fun e w' => e = .returned (.bool true) ∧ Below w.heap.size w w' := by
  obtain ⟨aa, acap, rfl, _, _⟩ := hka.form
  obtain ⟨ba, bcap, rfl, _, _⟩ := hkb.form
  obtain ⟨fla, fcap, rfl, _, _⟩ := hl.form
  obtain ⟨cla, ccap, rfl, hcc, hcm⟩ := hc.form
  obtain ⟨sta, scap, rfl, hsc, hsm⟩ := hs.form
  have hcm' : ccap ≤ 9223372036854775807 := by unfold maxLen at hcm; omega
  have hsm' : scap ≤ 9223372036854775807 := by unfold maxLen at hsm; omega
  have HOA := hidden hoa
  have HOB := hidden hob
  have HOC := hidden hoc
  have HOS := hidden hos
  have hn1 := node_new w oa fa ca (.slice aa ka.length acap)
  have hb1 := below_one w (.cells #[.int .u8 (oa : Int), .int .u32 (fa : Int), .int .u8 (ca.1 : Int), .int .i64 ca.2.1, .string (bytesT ca.2.2), .slice aa ka.length acap] 39)
  have s1 : (w.alloc (.cells #[.int .u8 (oa : Int), .int .u32 (fa : Int), .int .u8 (ca.1 : Int), .int .i64 ca.2.1, .string (bytesT ca.2.2), .slice aa ka.length acap] 39)).heap.size = w.heap.size + 1 := World.size_alloc _ _
  generalize hA : w.alloc (.cells #[.int .u8 (oa : Int), .int .u32 (fa : Int), .int .u8 (ca.1 : Int), .int .i64 ca.2.1, .string (bytesT ca.2.2), .slice aa ka.length acap] 39) = A at *
  have hn2 := node_new A ob fb cb (.slice ba kb.length bcap)
  have hb2 := below_one A (.cells #[.int .u8 (ob : Int), .int .u32 (fb : Int), .int .u8 (cb.1 : Int), .int .i64 cb.2.1, .string (bytesT cb.2.2), .slice ba kb.length bcap] 39)
  have s2 : (A.alloc (.cells #[.int .u8 (ob : Int), .int .u32 (fb : Int), .int .u8 (cb.1 : Int), .int .i64 cb.2.1, .string (bytesT cb.2.2), .slice ba kb.length bcap] 39)).heap.size = A.heap.size + 1 := World.size_alloc _ _
  generalize hB : A.alloc (.cells #[.int .u8 (ob : Int), .int .u32 (fb : Int), .int .u8 (cb.1 : Int), .int .i64 cb.2.1, .string (bytesT cb.2.2), .slice ba kb.length bcap] 39) = B at *
  have hb3 := below_one B (.cells #[.int .u32 (si : Int), .slice fla l.length fcap] 42)
  obtain ⟨e0, e1⟩ := cell_new2 B (.int .u32 (si : Int)) (.slice fla l.length fcap) 42
  have s3 : (B.alloc (.cells #[.int .u32 (si : Int), .slice fla l.length fcap] 42)).heap.size = B.heap.size + 1 := World.size_alloc _ _
  generalize hC : B.alloc (.cells #[.int .u32 (si : Int), .slice fla l.length fcap] 42) = C at *
  have sB : B.heap.size = w.heap.size + 1 + 1 := by omega
  have hbw : Below w.heap.size w C := below_then (below_then hb1 hb2) hb3
  have HTU : Hid (Tu C w.heap.size oa fa ca ka (.slice aa ka.length acap) ob fb cb kb (.slice ba kb.length bcap) si (.slice fla l.length fcap) l (.slice sta sts.length scap) sts) := hidden (by
    rw [sB] at e0 e1
    rw [s1] at hn2
    exact ⟨⟨(hn1.kept hb2).kept hb3, hka.kept hbw⟩, ⟨hn2.kept hb3, hkb.kept hbw⟩, ⟨by omega, e0, e1, hl.kept hbw⟩, hs.kept hbw⟩)
  have HSC := hidden (hc.kept hbw)
  have HBW := hidden hbw
  clear hka hoa hkb hob hl ho hc hoc hs hos hn1 hn2 hb1 hb2 hb3 e0 e1 hbw hcm hsm
  go_enter Try.func5, Try.ntmps5
  go_wp2_with fail
  clear hA hB hC s1 s2 s3 sB
  refine (HAL _).mono ?_
  rintro e w1 ⟨rfl, hb⟩
  have HT1 := hidden (HTU.out.kept hb)
  have HS1 := hidden (HSC.out.kept hb)
  have HB1 := hidden (below_then HBW.out hb)
  clear hb HTU HSC HBW
  obtain ⟨⟨a0, a1, a2, a3, a4, a5⟩, ⟨b0, b1, b2, b3, b4, b5⟩, c0, c1⟩ := HT1.out.facts
  go_wp2_with fail
  refine (greatP_any HT1.out.1.2).mono ?_
  rintro e w2 ⟨⟨g1, rfl, hg1⟩, hb⟩
  have HT2 := hidden (HT1.out.kept hb)
  have HS2 := hidden (HS1.out.kept hb)
  have HB2 := hidden (below_then HB1.out hb)
  have HG1 := hidden hg1
  clear hb HT1 HS1 HB1 hg1 a0 a1 a2 a3 a4 a5 b0 b1 b2 b3 b4 b5 c0 c1
  obtain ⟨⟨a0, a1, a2, a3, a4, a5⟩, ⟨b0, b1, b2, b3, b4, b5⟩, c0, c1⟩ := HT2.out.facts
  cases g1
  · have HLA := hidden (HG1.out rfl)
    clear HG1
    go_wp2_with fail
    refine (greatP_any HT2.out.2.1.2).mono ?_
    rintro e w3 ⟨⟨g2, rfl, hg2⟩, hb⟩
    have HT3 := hidden (HT2.out.kept hb)
    have HS3 := hidden (HS2.out.kept hb)
    have HB3 := hidden (below_then HB2.out hb)
    have HG2 := hidden hg2
    clear hb HT2 HS2 HB2 hg2 a0 a1 a2 a3 a4 a5 b0 b1 b2 b3 b4 b5 c0 c1
    obtain ⟨⟨a0, a1, a2, a3, a4, a5⟩, ⟨b0, b1, b2, b3, b4, b5⟩, c0, c1⟩ := HT3.out.facts
    cases g2
    · have HLB := hidden (HG2.out rfl)
      clear HG2
      go_wp2_with fail
      refine (great_any HT3.out.2.2.1.2.2.2 si).mono ?_
      rintro e w4 ⟨⟨g3, rfl, _⟩, hb⟩
      have HT4 := hidden (HT3.out.kept hb)
      have HS4 := hidden (HS3.out.kept hb)
      have HB4 := hidden (below_then HB3.out hb)
      clear hb HT3 HS3 HB3 a0 a1 a2 a3 a4 a5 b0 b1 b2 b3 b4 b5 c0 c1
      obtain ⟨⟨a0, a1, a2, a3, a4, a5⟩, ⟨b0, b1, b2, b3, b4, b5⟩, c0, c1⟩ := HT4.out.facts
      cases g3
      · by_cases hcl : (100 : Int) < (cl.length : Int)
        · go_wp2_with fail
          go_ret
          exact ⟨rfl, HB4.out⟩
        · by_cases hsl : (100 : Int) < (sts.length : Int)
          · go_wp2_with fail
            go_ret
            exact ⟨rfl, HB4.out⟩
          · go_wp2_with fail
            refine (row6_any HS4.out HOC.out (by omega)).mono ?_
            rintro e w5 ⟨⟨rv, rfl, hrv⟩, hb⟩
            have HT5 := hidden (HT4.out.kept hb)
            have HRV := hidden hrv.sv
            have HB5 := hidden (below_then HB4.out hb)
            obtain ⟨rva, rcap, rfl, _, _⟩ := own_slice hrv
            clear hb hrv HT4 HS4 HB4 a0 a1 a2 a3 a4 a5 b0 b1 b2 b3 b4 b5 c0 c1
            obtain ⟨⟨a0, a1, a2, a3, a4, a5⟩, ⟨b0, b1, b2, b3, b4, b5⟩, c0, c1⟩ := HT5.out.facts
            have hk1 := kids_2 (oa := oa) (fa := fa) (ca := ca) HT5.out.1.2 (ob := ob) (fb := fb) (cb := cb) HT5.out.2.1.2
            have hbx1 := below_one w5 (.cells #[.int .u8 (oa : Int), .int .u32 (fa : Int), .int .u8 (ca.1 : Int), .int .i64 ca.2.1, .string (bytesT ca.2.2), .slice aa ka.length acap, .int .u8 (ob : Int), .int .u32 (fb : Int), .int .u8 (cb.1 : Int), .int .i64 cb.2.1, .string (bytesT cb.2.2), .slice ba kb.length bcap] 39)
            generalize hX1 : w5.alloc (.cells #[.int .u8 (oa : Int), .int .u32 (fa : Int), .int .u8 (ca.1 : Int), .int .i64 ca.2.1, .string (bytesT ca.2.2), .slice aa ka.length acap, .int .u8 (ob : Int), .int .u32 (fb : Int), .int .u8 (cb.1 : Int), .int .i64 cb.2.1, .string (bytesT cb.2.2), .slice ba kb.length bcap] 39) = X1 at *
            have hk2 : Kids (X1.alloc (.cells #[.int .u8 6, .int .u32 0, .int .u8 0, .int .i64 0, .string ⟨#[]⟩, .slice (some ⟨w5.heap.size, 0, none⟩) 2 2] 39)) (.slice (some ⟨X1.heap.size, 0, none⟩) 1 1) [.node 6 0 nul [.node oa fa ca ka, .node ob fb cb kb]] := kids_1 (op := 6) (f := 0) (c := nul) hk1
            have hbx2 := below_one X1 (.cells #[.int .u8 6, .int .u32 0, .int .u8 0, .int .i64 0, .string ⟨#[]⟩, .slice (some ⟨w5.heap.size, 0, none⟩) 2 2] 39)
            generalize hX2 : X1.alloc (.cells #[.int .u8 6, .int .u32 0, .int .u8 0, .int .i64 0, .string ⟨#[]⟩, .slice (some ⟨w5.heap.size, 0, none⟩) 2 2] 39) = X2 at *
            have HX2 := hidden (below_then hbx1 hbx2)
            have HT6 := hidden (HT5.out.kept HX2.out)
            have HLT := hidden (lits (oa := oa) (fa := fa) (ca := ca) HT6.out.1.2 (ob := ob) (fb := fb) (cb := cb) HT6.out.2.1.2 hk2 rfl)
            obtain ⟨⟨d0, d1, d2, d3, d4, d5⟩, ⟨f0, f1, f2, f3, f4, f5⟩, g0, g1⟩ := HT6.out.facts
            clear hk1 hbx1 hk2 hbx2
            have halp : ∀ (X : World) (o : Obj) (i : Nat), w.heap.size < X.heap.size → (X.alloc o).cell? ⟨w.heap.size, i, none⟩ = X.cell? ⟨w.heap.size, i, none⟩ := fun X o i h => (below_one X o).cell h
            have halq : ∀ (X : World) (o : Obj) (i : Nat), w.heap.size + 1 < X.heap.size → (X.alloc o).cell? ⟨w.heap.size + 1, i, none⟩ = X.cell? ⟨w.heap.size + 1, i, none⟩ := fun X o i h => (below_one X o).cell h
            have hzp : w.heap.size + 1 + 1 < X2.heap.size := HT6.out.2.2.1.1
            have hzq : w.heap.size + 1 < X2.heap.size := by omega
            have hzr : w.heap.size < X2.heap.size := by omega
            go_wp2_with fail
            clear hX1 hX2 d0 d1 d2 d3 d4 d5 f0 f1 f2 f3 f4 f5 g0 g1 a0 a1 a2 a3 a4 a5 b0 b1 b2 b3 b4 b5 c0 c1
            have HY : Hid (∀ Y, Y = ((((X2.alloc (.cells #[.int .u8 8, .int .u32 0, .int .u8 0, .int .i64 0, .string ⟨#[]⟩, .slice (some ⟨X1.heap.size, 0, none⟩) 1 1] 39)).alloc (.cells #[.int .u8 (oa : Int), .int .u32 (fa : Int), .int .u8 (ca.1 : Int), .int .i64 ca.2.1, .string (bytesT ca.2.2), .slice aa ka.length acap] 39)).alloc (.cells #[.int .u8 (ob : Int), .int .u32 (fb : Int), .int .u8 (cb.1 : Int), .int .i64 cb.2.1, .string (bytesT cb.2.2), .slice ba kb.length bcap] 39)).alloc (.cells #[.int .u8 8, .int .u32 0, .int .u8 0, .int .i64 0, .string ⟨#[]⟩, .slice (some ⟨X2.heap.size + 1, 0, none⟩) 1 1, .int .u8 8, .int .u32 0, .int .u8 0, .int .i64 0, .string ⟨#[]⟩, .slice (some ⟨X2.heap.size + 1 + 1, 0, none⟩) 1 1] 39)).alloc (.cells #[.int .u8 7, .int .u32 0, .int .u8 0, .int .i64 0, .string ⟨#[]⟩, .slice (some ⟨X2.heap.size + 1 + 1 + 1, 0, none⟩) 2 2] 39) → Tu Y w.heap.size oa fa ca ka (.slice aa ka.length acap) ob fb cb kb (.slice ba kb.length bcap) si (.slice fla l.length fcap) l (.slice sta sts.length scap) sts ∧ (NodeAt Y X2.heap.size 0 8 0 nul (.slice (some ⟨X1.heap.size, 0, none⟩) 1 1) ∧ Kids Y (.slice (some ⟨X1.heap.size, 0, none⟩) 1 1) [.node 6 0 nul [.node oa fa ca ka, .node ob fb cb kb]]) ∧ (NodeAt Y (X2.heap.size + 1 + 1 + 1 + 1) 0 7 0 nul (.slice (some ⟨X2.heap.size + 1 + 1 + 1, 0, none⟩) 2 2) ∧ Kids Y (.slice (some ⟨X2.heap.size + 1 + 1 + 1, 0, none⟩) 2 2) [.node 8 0 nul [.node oa fa ca ka], .node 8 0 nul [.node ob fb cb kb]]) ∧ Sv Y (.slice rva (cl.map fixC).length rcap) (vvals (cl.map fixC)) ∧ Below w.heap.size w Y) := hidden (fun Y hY => by
              rw [hY]
              obtain ⟨q1, q2, q3⟩ := HLT.out
              exact ⟨HT6.out.kept q3, q1, q2, HRV.out.kept (below_then HX2.out q3), below_then HB5.out (below_then HX2.out q3)⟩)
            have HYY := hidden (HY.out _ rfl)
            clear HY HLT HT6 HX2 HB5 HRV HT5 halp halq hzp hzq hzr
            generalize ((((X2.alloc (.cells #[.int .u8 8, .int .u32 0, .int .u8 0, .int .i64 0, .string ⟨#[]⟩, .slice (some ⟨X1.heap.size, 0, none⟩) 1 1] 39)).alloc (.cells #[.int .u8 (oa : Int), .int .u32 (fa : Int), .int .u8 (ca.1 : Int), .int .i64 ca.2.1, .string (bytesT ca.2.2), .slice aa ka.length acap] 39)).alloc (.cells #[.int .u8 (ob : Int), .int .u32 (fb : Int), .int .u8 (cb.1 : Int), .int .i64 cb.2.1, .string (bytesT cb.2.2), .slice ba kb.length bcap] 39)).alloc (.cells #[.int .u8 8, .int .u32 0, .int .u8 0, .int .i64 0, .string ⟨#[]⟩, .slice (some ⟨X2.heap.size + 1, 0, none⟩) 1 1, .int .u8 8, .int .u32 0, .int .u8 0, .int .i64 0, .string ⟨#[]⟩, .slice (some ⟨X2.heap.size + 1 + 1, 0, none⟩) 1 1] 39)).alloc (.cells #[.int .u8 7, .int .u32 0, .int .u8 0, .int .i64 0, .string ⟨#[]⟩, .slice (some ⟨X2.heap.size + 1 + 1 + 1, 0, none⟩) 2 2] 39) = Y at *
            rw [List.length_map] at HYY
            have HTY := hidden HYY.out.1
            have HN1 := hidden HYY.out.2.1.1
            have HK1 := hidden HYY.out.2.1.2
            have HN2 := hidden HYY.out.2.2.1.1
            have HK2 := hidden HYY.out.2.2.1.2
            have HRY := hidden HYY.out.2.2.2.1
            have HBY := hidden HYY.out.2.2.2.2
            clear HYY
            generalize X2.heap.size + 1 + 1 + 1 + 1 = p13 at *
            generalize X2.heap.size + 1 + 1 + 1 = p6 at *
            generalize X2.heap.size = p12 at *
            generalize X1.heap.size = p2 at *
            go_loopw [14] (fun i wr => ∃ k : Nat, k ≤ sts.length ∧ i = .int .i64 (k : Int) ∧ wr = Y) (fun i _ => sts.length - (intOf i).toNat)
            case atStart => exact ⟨0, by omega, rfl, rfl⟩
            case round =>
              obtain ⟨k, hk, rfl, rfl⟩ := hrel
              by_cases hlt : k < sts.length
              · have hlt' : (k : Int) < (sts.length : Int) := by omega
                obtain ⟨g, o, rfl, hst⟩ := HTY.out.2.2.2.at hlt
                generalize sts[k] = st at *
                obtain ⟨_, ⟨d0, d1, d2, d3⟩, ⟨d4, d5, d6⟩, d7, d8, d9⟩ := hst
                have d6' : wr.cell? ⟨g, o + k * 10 + 4 + 2, none⟩ = some (.string (bytesT st.lo.2.2)) := d6
                have d9' : wr.cell? ⟨g, o + k * 10 + 7 + 2, none⟩ = some (.string (bytesT st.hi.2.2)) := d9
                by_cases h1 : (1000 : Int) < ((bytesT st.lo.2.2).size : Int)
                · go_wp2_with fail
                  go_ret
                  exact ⟨rfl, HBY.out⟩
                · by_cases h2 : (1000 : Int) < ((bytesT st.hi.2.2).size : Int)
                  · go_wp2_with fail
                    go_ret
                    exact ⟨rfl, HBY.out⟩
                  · go_wp2_with fail
                    go_roundw
                    case rel => exact ⟨k + 1, by omega, by go_num, by first | rfl | trivial⟩
                    case measure => simp [intOf]; omega
              · obtain rfl : k = sts.length := by omega
                have hge : ¬ ((sts.length : Nat) : Int) < (sts.length : Int) := by omega
                have hfx : ∀ x ∈ cl.map fixC, Fine x := fun x hx => by
                  obtain ⟨y, hy, rfl⟩ := List.mem_map.1 hx
                  exact fixC_fine (HOC.out y hy)
                have hok1 : Okp (.node 8 0 nul [.node 6 0 nul [.node oa fa ca ka, .node ob fb cb kb]]) := by
                  have h1 := HOA.out
                  have h2 := HOB.out
                  simp only [Okp, OkpAll] at h1 h2 ⊢
                  exact ⟨by omega, by omega, okc_nul, ⟨by omega, by omega, okc_nul, h1, h2, trivial⟩, trivial⟩
                have hok2 : Okp (.node 7 0 nul [.node 8 0 nul [.node oa fa ca ka], .node 8 0 nul [.node ob fb cb kb]]) := by
                  have h1 := HOA.out
                  have h2 := HOB.out
                  simp only [Okp, OkpAll] at h1 h2 ⊢
                  exact ⟨by omega, by omega, okc_nul, ⟨by omega, by omega, okc_nul, h1, trivial⟩, ⟨by omega, by omega, okc_nul, h2, trivial⟩, trivial⟩
                have hln1 : Len (.node 8 0 nul [.node 6 0 nul [.node oa fa ca ka, .node ob fb cb kb]]) := by
                  have h1 := HLA.out
                  have h2 := HLB.out
                  simp only [Len, LenAll, nul] at h1 h2 ⊢
                  exact ⟨by simp, ⟨by simp, h1, h2, trivial⟩, trivial⟩
                have hln2 : Len (.node 7 0 nul [.node 8 0 nul [.node oa fa ca ka], .node 8 0 nul [.node ob fb cb kb]]) := by
                  have h1 := HLA.out
                  have h2 := HLB.out
                  simp only [Len, LenAll, nul] at h1 h2 ⊢
                  exact ⟨by simp, ⟨by simp, h1, trivial⟩, ⟨by simp, h2, trivial⟩, trivial⟩
                have HE1 := hidden (fun (U : World) (hU : Below wr.heap.size wr U) => eval_any (si := si) (HK1.out.kept hU) hok1 hln1 (HTY.out.2.2.1.2.2.2.kept hU) (HRY.out.kept hU) hfx)
                have HE2 := hidden (fun (U : World) (hU : Below wr.heap.size wr U) => eval_any (si := si) (HK2.out.kept hU) hok2 hln2 (HTY.out.2.2.1.2.2.2.kept hU) (HRY.out.kept hU) hfx)
                have HM1 := hidden (fun (U : World) (hU : Below wr.heap.size wr U) => may_any (si := si) (HK1.out.kept hU) hok1 (HTY.out.2.2.1.2.2.2.kept hU) (HTY.out.2.2.2.kept hU) HOS.out)
                have HM2 := hidden (fun (U : World) (hU : Below wr.heap.size wr U) => may_any (si := si) (HK2.out.kept hU) hok2 (HTY.out.2.2.1.2.2.2.kept hU) (HTY.out.2.2.2.kept hU) HOS.out)
                rw [← turn_eval l (cl.map fixC) (.node oa fa ca ka) (.node ob fb cb kb) nul nul nul nul nul 0 0 0 0 0] at HE2
                rw [← turn_may l sts (.node oa fa ca ka) (.node ob fb cb kb) nul nul nul nul nul 0 0 0 0 0] at HM2
                clear hok1 hok2 hln1 hln2 hfx
                generalize evalM l (cl.map fixC) (.node 8 0 nul [.node 6 0 nul [.node oa fa ca ka, .node ob fb cb kb]]) = EV at *
                generalize mayM l sts (.node 8 0 nul [.node 6 0 nul [.node oa fa ca ka, .node ob fb cb kb]]) = MV at *
                obtain ⟨m0, m1, m2⟩ := MV
                obtain ⟨hp12, y0, y1, y2, y3, y4, y5⟩ := HN1.out
                obtain ⟨hp13, z0, z1, z2, z3, z4, z5⟩ := HN2.out
                have y0' : wr.cell? ⟨p12, 0, none⟩ = some (.int .u8 8) := y0
                have y1' : wr.cell? ⟨p12, 1, none⟩ = some (.int .u32 0) := y1
                have y2' : wr.cell? ⟨p12, 2, none⟩ = some (.int .u8 0) := y2
                have y3' : wr.cell? ⟨p12, 3, none⟩ = some (.int .i64 0) := y3
                have y4' : wr.cell? ⟨p12, 4, none⟩ = some (.string ⟨#[]⟩) := y4
                have y5' : wr.cell? ⟨p12, 5, none⟩ = some (.slice (some ⟨p2, 0, none⟩) 1 1) := y5
                have z0' : wr.cell? ⟨p13, 0, none⟩ = some (.int .u8 7) := z0
                have z1' : wr.cell? ⟨p13, 1, none⟩ = some (.int .u32 0) := z1
                have z2' : wr.cell? ⟨p13, 2, none⟩ = some (.int .u8 0) := z2
                have z3' : wr.cell? ⟨p13, 3, none⟩ = some (.int .i64 0) := z3
                have z4' : wr.cell? ⟨p13, 4, none⟩ = some (.string ⟨#[]⟩) := z4
                have z5' : wr.cell? ⟨p13, 5, none⟩ = some (.slice (some ⟨p6, 0, none⟩) 2 2) := z5
                obtain ⟨hpS, c0, c1, _⟩ := HTY.out.2.2.1
                have HSS : Hid (∀ w', Below wr.heap.size wr w' → w'.cell? ⟨p12, 0, none⟩ = some (.int .u8 8) ∧ w'.cell? ⟨p12, 1, none⟩ = some (.int .u32 0) ∧ w'.cell? ⟨p12, 2, none⟩ = some (.int .u8 0) ∧ w'.cell? ⟨p12, 3, none⟩ = some (.int .i64 0) ∧ w'.cell? ⟨p12, 4, none⟩ = some (.string ⟨#[]⟩) ∧ w'.cell? ⟨p12, 5, none⟩ = some (.slice (some ⟨p2, 0, none⟩) 1 1) ∧ w'.cell? ⟨p13, 0, none⟩ = some (.int .u8 7) ∧ w'.cell? ⟨p13, 1, none⟩ = some (.int .u32 0) ∧ w'.cell? ⟨p13, 2, none⟩ = some (.int .u8 0) ∧ w'.cell? ⟨p13, 3, none⟩ = some (.int .i64 0) ∧ w'.cell? ⟨p13, 4, none⟩ = some (.string ⟨#[]⟩) ∧ w'.cell? ⟨p13, 5, none⟩ = some (.slice (some ⟨p6, 0, none⟩) 2 2) ∧ w'.cell? ⟨w.heap.size + 1 + 1, 0, none⟩ = some (.int .u32 (si : Int)) ∧ w'.cell? ⟨w.heap.size + 1 + 1, 1, none⟩ = some (.slice fla l.length fcap)) := hidden (fun w' hb' => ⟨(hb'.cell (p := ⟨p12, 0, none⟩) hp12).trans y0', (hb'.cell (p := ⟨p12, 1, none⟩) hp12).trans y1', (hb'.cell (p := ⟨p12, 2, none⟩) hp12).trans y2', (hb'.cell (p := ⟨p12, 3, none⟩) hp12).trans y3', (hb'.cell (p := ⟨p12, 4, none⟩) hp12).trans y4', (hb'.cell (p := ⟨p12, 5, none⟩) hp12).trans y5', (hb'.cell (p := ⟨p13, 0, none⟩) hp13).trans z0', (hb'.cell (p := ⟨p13, 1, none⟩) hp13).trans z1', (hb'.cell (p := ⟨p13, 2, none⟩) hp13).trans z2', (hb'.cell (p := ⟨p13, 3, none⟩) hp13).trans z3', (hb'.cell (p := ⟨p13, 4, none⟩) hp13).trans z4', (hb'.cell (p := ⟨p13, 5, none⟩) hp13).trans z5', (hb'.cell (p := ⟨w.heap.size + 1 + 1, 0, none⟩) hpS).trans c0, (hb'.cell (p := ⟨w.heap.size + 1 + 1, 1, none⟩) hpS).trans c1⟩)
                have hkk0 := HSS.out wr (Below.refl _ _)
                clear y0 y1 y2 y3 y4 y5 z0 z1 z2 z3 z4 z5 c0 c1 y0' y1' y2' y3' y4' y5' z0' z1' z2' z3' z4' z5'
                have hq51 := eq51 m0 m1 m2
                have HE1' : Hid (∀ U, Below wr.heap.size wr U → Calls Try.prog 18 #[.agg #[.int .u8 8, .int .u32 0, .int .u8 0, .int .i64 0, .string ⟨#[]⟩, .slice (some ⟨p2, 0, none⟩) 1 1], .agg #[.int .u32 (si : Int), .slice fla l.length fcap], .slice rva cl.length rcap] U fun e w' => e = .returned (.int .u8 (EV : Int)) ∧ Below wr.heap.size wr w' ∧ (w'.cell? ⟨p12, 0, none⟩ = some (.int .u8 8) ∧ w'.cell? ⟨p12, 1, none⟩ = some (.int .u32 0) ∧ w'.cell? ⟨p12, 2, none⟩ = some (.int .u8 0) ∧ w'.cell? ⟨p12, 3, none⟩ = some (.int .i64 0) ∧ w'.cell? ⟨p12, 4, none⟩ = some (.string ⟨#[]⟩) ∧ w'.cell? ⟨p12, 5, none⟩ = some (.slice (some ⟨p2, 0, none⟩) 1 1) ∧ w'.cell? ⟨p13, 0, none⟩ = some (.int .u8 7) ∧ w'.cell? ⟨p13, 1, none⟩ = some (.int .u32 0) ∧ w'.cell? ⟨p13, 2, none⟩ = some (.int .u8 0) ∧ w'.cell? ⟨p13, 3, none⟩ = some (.int .i64 0) ∧ w'.cell? ⟨p13, 4, none⟩ = some (.string ⟨#[]⟩) ∧ w'.cell? ⟨p13, 5, none⟩ = some (.slice (some ⟨p6, 0, none⟩) 2 2) ∧ w'.cell? ⟨w.heap.size + 1 + 1, 0, none⟩ = some (.int .u32 (si : Int)) ∧ w'.cell? ⟨w.heap.size + 1 + 1, 1, none⟩ = some (.slice fla l.length fcap))) := hidden (fun U hU => by
                  refine (HE1.out U hU).mono ?_
                  rintro e w6 ⟨rfl, hb6⟩
                  have h7 := below_then hU hb6
                  exact ⟨rfl, h7, HSS.out _ h7⟩)
                have HE2' : Hid (∀ U, Below wr.heap.size wr U → Calls Try.prog 18 #[.agg #[.int .u8 7, .int .u32 0, .int .u8 0, .int .i64 0, .string ⟨#[]⟩, .slice (some ⟨p6, 0, none⟩) 2 2], .agg #[.int .u32 (si : Int), .slice fla l.length fcap], .slice rva cl.length rcap] U fun e w' => e = .returned (.int .u8 (EV : Int)) ∧ Below wr.heap.size wr w' ∧ (w'.cell? ⟨p12, 0, none⟩ = some (.int .u8 8) ∧ w'.cell? ⟨p12, 1, none⟩ = some (.int .u32 0) ∧ w'.cell? ⟨p12, 2, none⟩ = some (.int .u8 0) ∧ w'.cell? ⟨p12, 3, none⟩ = some (.int .i64 0) ∧ w'.cell? ⟨p12, 4, none⟩ = some (.string ⟨#[]⟩) ∧ w'.cell? ⟨p12, 5, none⟩ = some (.slice (some ⟨p2, 0, none⟩) 1 1) ∧ w'.cell? ⟨p13, 0, none⟩ = some (.int .u8 7) ∧ w'.cell? ⟨p13, 1, none⟩ = some (.int .u32 0) ∧ w'.cell? ⟨p13, 2, none⟩ = some (.int .u8 0) ∧ w'.cell? ⟨p13, 3, none⟩ = some (.int .i64 0) ∧ w'.cell? ⟨p13, 4, none⟩ = some (.string ⟨#[]⟩) ∧ w'.cell? ⟨p13, 5, none⟩ = some (.slice (some ⟨p6, 0, none⟩) 2 2) ∧ w'.cell? ⟨w.heap.size + 1 + 1, 0, none⟩ = some (.int .u32 (si : Int)) ∧ w'.cell? ⟨w.heap.size + 1 + 1, 1, none⟩ = some (.slice fla l.length fcap))) := hidden (fun U hU => by
                  refine (HE2.out U hU).mono ?_
                  rintro e w6 ⟨rfl, hb6⟩
                  have h7 := below_then hU hb6
                  exact ⟨rfl, h7, HSS.out _ h7⟩)
                have HM1' : Hid (∀ U, Below wr.heap.size wr U → Calls Try.prog 17 #[.agg #[.int .u8 8, .int .u32 0, .int .u8 0, .int .i64 0, .string ⟨#[]⟩, .slice (some ⟨p2, 0, none⟩) 1 1], .agg #[.int .u32 (si : Int), .slice fla l.length fcap], .slice sta sts.length scap] U fun e w' => e = .returned (.agg #[.bool m0, .bool m1, .bool m2]) ∧ Below wr.heap.size wr w' ∧ (w'.cell? ⟨p12, 0, none⟩ = some (.int .u8 8) ∧ w'.cell? ⟨p12, 1, none⟩ = some (.int .u32 0) ∧ w'.cell? ⟨p12, 2, none⟩ = some (.int .u8 0) ∧ w'.cell? ⟨p12, 3, none⟩ = some (.int .i64 0) ∧ w'.cell? ⟨p12, 4, none⟩ = some (.string ⟨#[]⟩) ∧ w'.cell? ⟨p12, 5, none⟩ = some (.slice (some ⟨p2, 0, none⟩) 1 1) ∧ w'.cell? ⟨p13, 0, none⟩ = some (.int .u8 7) ∧ w'.cell? ⟨p13, 1, none⟩ = some (.int .u32 0) ∧ w'.cell? ⟨p13, 2, none⟩ = some (.int .u8 0) ∧ w'.cell? ⟨p13, 3, none⟩ = some (.int .i64 0) ∧ w'.cell? ⟨p13, 4, none⟩ = some (.string ⟨#[]⟩) ∧ w'.cell? ⟨p13, 5, none⟩ = some (.slice (some ⟨p6, 0, none⟩) 2 2) ∧ w'.cell? ⟨w.heap.size + 1 + 1, 0, none⟩ = some (.int .u32 (si : Int)) ∧ w'.cell? ⟨w.heap.size + 1 + 1, 1, none⟩ = some (.slice fla l.length fcap))) := hidden (fun U hU => by
                  refine (HM1.out U hU).mono ?_
                  rintro e w6 ⟨rfl, hb6⟩
                  have h7 := below_then hU hb6
                  exact ⟨rfl, h7, HSS.out _ h7⟩)
                have HM2' : Hid (∀ U, Below wr.heap.size wr U → Calls Try.prog 17 #[.agg #[.int .u8 7, .int .u32 0, .int .u8 0, .int .i64 0, .string ⟨#[]⟩, .slice (some ⟨p6, 0, none⟩) 2 2], .agg #[.int .u32 (si : Int), .slice fla l.length fcap], .slice sta sts.length scap] U fun e w' => e = .returned (.agg #[.bool m0, .bool m1, .bool m2]) ∧ Below wr.heap.size wr w' ∧ (w'.cell? ⟨p12, 0, none⟩ = some (.int .u8 8) ∧ w'.cell? ⟨p12, 1, none⟩ = some (.int .u32 0) ∧ w'.cell? ⟨p12, 2, none⟩ = some (.int .u8 0) ∧ w'.cell? ⟨p12, 3, none⟩ = some (.int .i64 0) ∧ w'.cell? ⟨p12, 4, none⟩ = some (.string ⟨#[]⟩) ∧ w'.cell? ⟨p12, 5, none⟩ = some (.slice (some ⟨p2, 0, none⟩) 1 1) ∧ w'.cell? ⟨p13, 0, none⟩ = some (.int .u8 7) ∧ w'.cell? ⟨p13, 1, none⟩ = some (.int .u32 0) ∧ w'.cell? ⟨p13, 2, none⟩ = some (.int .u8 0) ∧ w'.cell? ⟨p13, 3, none⟩ = some (.int .i64 0) ∧ w'.cell? ⟨p13, 4, none⟩ = some (.string ⟨#[]⟩) ∧ w'.cell? ⟨p13, 5, none⟩ = some (.slice (some ⟨p6, 0, none⟩) 2 2) ∧ w'.cell? ⟨w.heap.size + 1 + 1, 0, none⟩ = some (.int .u32 (si : Int)) ∧ w'.cell? ⟨w.heap.size + 1 + 1, 1, none⟩ = some (.slice fla l.length fcap))) := hidden (fun U hU => by
                  refine (HM2.out U hU).mono ?_
                  rintro e w6 ⟨rfl, hb6⟩
                  have h7 := below_then hU hb6
                  exact ⟨rfl, h7, HSS.out _ h7⟩)
                clear HE1 HE2 HM1 HM2 HSS HTY HN1 HK1 HN2 HK2 HRY
                go_wp2_with fail
                go_region_held3 (fun w' => w'.cell? ⟨p12, 0, none⟩ = some (.int .u8 8) ∧ w'.cell? ⟨p12, 1, none⟩ = some (.int .u32 0) ∧ w'.cell? ⟨p12, 2, none⟩ = some (.int .u8 0) ∧ w'.cell? ⟨p12, 3, none⟩ = some (.int .i64 0) ∧ w'.cell? ⟨p12, 4, none⟩ = some (.string ⟨#[]⟩) ∧ w'.cell? ⟨p12, 5, none⟩ = some (.slice (some ⟨p2, 0, none⟩) 1 1) ∧ w'.cell? ⟨p13, 0, none⟩ = some (.int .u8 7) ∧ w'.cell? ⟨p13, 1, none⟩ = some (.int .u32 0) ∧ w'.cell? ⟨p13, 2, none⟩ = some (.int .u8 0) ∧ w'.cell? ⟨p13, 3, none⟩ = some (.int .i64 0) ∧ w'.cell? ⟨p13, 4, none⟩ = some (.string ⟨#[]⟩) ∧ w'.cell? ⟨p13, 5, none⟩ = some (.slice (some ⟨p6, 0, none⟩) 2 2) ∧ w'.cell? ⟨w.heap.size + 1 + 1, 0, none⟩ = some (.int .u32 (si : Int)) ∧ w'.cell? ⟨w.heap.size + 1 + 1, 1, none⟩ = some (.slice fla l.length fcap)) (first | assumption | go_keep) (first
                  | (go_at_call 18; refine (HE1'.out _ ?_).mono ?_; (first | exact (Below.refl _ _).drew | exact below_drewN (Below.refl _ _) _); rintro e w10 ⟨rfl, hbV, hkk⟩)
                  | (go_at_call 18; refine (HE2'.out _ ?_).mono ?_; exact hbV; rintro e w11 ⟨rfl, hbV, hkk2⟩)
                  | (go_at_call 17; refine (HM1'.out _ ?_).mono ?_; exact hbV; rintro e w12 ⟨rfl, hbV, hkk3⟩)
                  | (go_at_call 17; refine (HM2'.out _ ?_).mono ?_; exact hbV; rintro e w13 ⟨rfl, hbV, hkk4⟩))
                all_goals clear hkk hkk2 hkk3 hkk4 hkk0 hq51
                all_goals go_wp2_with fail
                all_goals go_ret
                all_goals exact ⟨rfl, below_then HBY.out hbV⟩
      · go_wp2_with fail
        go_ret
        exact ⟨rfl, HB4.out⟩
    · go_wp2_with fail
      go_ret
      exact ⟨rfl, HB3.out⟩
  · go_wp2_with fail
    go_ret
    exact ⟨rfl, HB2.out⟩
end Go.Proofs.Ytfcnoeehfhncjaa
