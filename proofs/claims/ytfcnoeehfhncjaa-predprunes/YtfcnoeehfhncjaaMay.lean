/- May. -/
import Derived.Test.YtfcnoeehfhncjaaPb
set_option linter.unusedVariables false
set_option linter.unusedSimpArgs false
namespace Go.Proofs.Ytfcnoeehfhncjaa
open Go.RowKit Go.Lib

set_option maxRecDepth 100000 in
set_option maxHeartbeats 4000000 in
theorem may_any {w : World} {op f si : Nat} {c : Cl} {ks : List PT} {kv fv rv : Value} {l : List Fd} {r : List Stt} (hk : Kids w kv ks) (hok : Okp (.node op f c ks)) (hs : Sf w fv l) (hv : Ss w rv r) (hfr : ∀ x ∈ r, Oks x) :
    Calls Try.prog 17 #[.agg #[.int .u8 (op : Int), .int .u32 (f : Int), .int .u8 (c.1 : Int), .int .i64 c.2.1, .string (bytesT c.2.2), kv], .agg #[.int .u32 (si : Int), fv], rv] w fun e w' => e = .returned (b3V (mayM l r (.node op f c ks))) ∧ Below w.heap.size w w' := by
  have HC := hidden (fun (U : World) (b off q : Nat) hr hl => answers_any (q := q) (si := si) (fv := fv) (rv := rv) (l := l) hfr (.node op f c ks) hok U b off hr hl)
  have HK := hidden hk
  have HS := hidden hs
  have HV := hidden hv
  generalize mayM l r (.node op f c ks) = R at *
  obtain ⟨R0, R1, R2⟩ := R
  obtain ⟨ka, kcap, rfl, _, _⟩ := hk.form
  obtain ⟨fa, fcap, rfl, _, _⟩ := hs.form
  obtain ⟨ra, rcap, rfl, _, _⟩ := hv.form
  clear hk hs hv hok hfr
  have hn := node_new w op f c (.slice ka ks.length kcap)
  have hb1 := below_one w (.cells #[.int .u8 (op : Int), .int .u32 (f : Int), .int .u8 (c.1 : Int), .int .i64 c.2.1, .string (bytesT c.2.2), .slice ka ks.length kcap] 39)
  generalize hA : w.alloc (.cells #[.int .u8 (op : Int), .int .u32 (f : Int), .int .u8 (c.1 : Int), .int .i64 c.2.1, .string (bytesT c.2.2), .slice ka ks.length kcap] 39) = A at *
  have hb2 := below_one A (.cells #[.int .u32 (si : Int), .slice fa l.length fcap] 42)
  obtain ⟨e0, e1⟩ := cell_new2 A (.int .u32 (si : Int)) (.slice fa l.length fcap) 42
  have hzA : A.heap.size < (A.alloc (.cells #[.int .u32 (si : Int), .slice fa l.length fcap] 42)).heap.size := by rw [World.size_alloc]; omega
  generalize hB : A.alloc (.cells #[.int .u32 (si : Int), .slice fa l.length fcap] 42) = B at *
  have hb3 := below_one B (.cells #[.bool false, .bool false, .bool false] 51)
  have hf3 := Flg.new B (false, false, false)
  simp only at hf3
  have g0 := (hb3.cell (p := ⟨A.heap.size, 0, none⟩) hzA).trans e0
  have g1 := (hb3.cell (p := ⟨A.heap.size, 1, none⟩) hzA).trans e1
  generalize hC : B.alloc (.cells #[.bool false, .bool false, .bool false] 51) = C at *
  have hb4 := below_one C (.cells #[.int .u32 (si : Int), .slice fa l.length fcap, .slice ra r.length rcap] 85)
  obtain ⟨k0, k1, k2⟩ := cell_new3 C (.int .u32 (si : Int)) (.slice fa l.length fcap) (.slice ra r.length rcap) 85
  have hz : C.heap.size < (C.alloc (.cells #[.int .u32 (si : Int), .slice fa l.length fcap, .slice ra r.length rcap] 85)).heap.size := by rw [World.size_alloc]; omega
  generalize hD : C.alloc (.cells #[.int .u32 (si : Int), .slice fa l.length fcap, .slice ra r.length rcap] 85) = D at *
  have hbw : Below w.heap.size w D := below_then (below_then (below_then hb1 hb2) hb3) hb4
  have HRO : Hid (RowsOf D C.heap.size si (.slice fa l.length fcap) (.slice ra r.length rcap) l r) := hidden ⟨hz, k0, k1, k2, HS.out.kept hbw, HV.out.kept hbw⟩
  have HLI : Hid (Lies D w.heap.size 0 (.node op f c ks)) := hidden (Lies.shut (((hn.kept hb2).kept hb3).kept hb4) (HK.out.kept hbw))
  have HBW := hidden hbw
  have HFB := hidden (hf3.kept hb4)
  have HBZ : Hid (w.heap.size ≤ B.heap.size) := hidden (by have := hb1.size; have := hb2.size; omega)
  clear hn hb1 hb2 hb3 hb4 hbw k0 k1 k2 hz hf3
  go_enter Try.func17, Try.ntmps17
  go_wp2_with fail
  refine (HC.out _ _ _ _ HRO.out HLI.out).mono ?_
  rintro e w2 ⟨rfl, hb2⟩
  have HB2 := hidden (below_then HBW.out hb2)
  obtain ⟨⟨r0, r1, r2⟩, ⟨s0, s1, s2⟩, _⟩ := (HFB.out.kept hb2).facts
  clear hb2 hA hB hC hD e0 e1 g0 g1
  unfold b3V
  go_wp2_with fail
  refine bodyPost_ret (v := .agg #[.bool R0, .bool R1, .bool R2]) (by simp [results, Try.results17, go_sem, r0, r1, r2]) rfl ⟨?_, set3 HB2.out HBZ.out _ _ _⟩
  rfl
end Go.Proofs.Ytfcnoeehfhncjaa
