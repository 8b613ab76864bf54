/- What alive keeps, and what is told of it. -/
import Derived.Test.YtfcnoeehfhncjaaAl0
set_option linter.unusedVariables false
set_option linter.unusedSimpArgs false
namespace Go.Proofs.Ytfcnoeehfhncjaa
open Go.RowKit Go.Lib

/-- What alive keeps in memory: the schema, the first statistics, the first predicate. -/
def Al (W : World) (pS pA pP : Nat) (a1 : Option Addr) (cap1 : Nat) : Prop := (Sf W (.slice a1 2 cap1) twoL ∧ pS < W.heap.size ∧ W.cell? ⟨pS, 0, none⟩ = some (.int .u32 1) ∧ W.cell? ⟨pS, 1, none⟩ = some (.slice a1 2 cap1)) ∧ Stb W pA sA ∧ NodeAt W pP 0 1 1 (cN 7) (.slice none 0 0)
theorem Al.kept {W W' : World} {pS pA pP : Nat} {a1 : Option Addr} {cap1 : Nat} (h : Al W pS pA pP a1 cap1) (hb : Below W.heap.size W W') : Al W' pS pA pP a1 cap1 := by
  obtain ⟨⟨h1, h2, h3, h4⟩, h5, h6⟩ := h
  exact ⟨⟨h1.kept hb, Nat.lt_of_lt_of_le h2 hb.size, (hb.cell (p := ⟨pS, 0, none⟩) h2).trans h3, (hb.cell (p := ⟨pS, 1, none⟩) h2).trans h4⟩, h5.kept hb, h6.kept hb⟩
theorem Al.facts {W : World} {pS pA pP : Nat} {a1 : Option Addr} {cap1 : Nat} (h : Al W pS pA pP a1 cap1) :
    (W.cell? ⟨pS, 0, none⟩ = some (.int .u32 1) ∧ W.cell? ⟨pS, 1, none⟩ = some (.slice a1 2 cap1)) ∧
    (W.cell? ⟨pA, 0, none⟩ = some (.int .i64 3) ∧ W.cell? ⟨pA, 1, none⟩ = some (.int .i64 1) ∧ W.cell? ⟨pA, 2, none⟩ = some (.bool true) ∧ W.cell? ⟨pA, 3, none⟩ = some (.bool true) ∧ W.cell? ⟨pA, 4, none⟩ = some (.int .u8 1) ∧ W.cell? ⟨pA, 5, none⟩ = some (.int .i64 3) ∧ W.cell? ⟨pA, 6, none⟩ = some (.string ⟨#[]⟩) ∧ W.cell? ⟨pA, 7, none⟩ = some (.int .u8 1) ∧ W.cell? ⟨pA, 8, none⟩ = some (.int .i64 5) ∧ W.cell? ⟨pA, 9, none⟩ = some (.string ⟨#[]⟩)) ∧
    (W.cell? ⟨pP, 0, none⟩ = some (.int .u8 1) ∧ W.cell? ⟨pP, 1, none⟩ = some (.int .u32 1) ∧ W.cell? ⟨pP, 2, none⟩ = some (.int .u8 1) ∧ W.cell? ⟨pP, 3, none⟩ = some (.int .i64 7) ∧ W.cell? ⟨pP, 4, none⟩ = some (.string ⟨#[]⟩) ∧ W.cell? ⟨pP, 5, none⟩ = some (.slice none 0 0)) := by
  obtain ⟨⟨_, _, h3, h4⟩, h5, _, n0, n1, n2, n3, n4, n5⟩ := h
  obtain ⟨_, ⟨a1, a2, a3, a4⟩, ⟨a5, a6, a7⟩, a8, a9, a10⟩ := h5.at
  exact ⟨⟨h3, h4⟩, ⟨a1, a2, a3, a4, a5, a6, a7, a8, a9, a10⟩, n0, n1, n2, n3, n4, n5⟩
theorem ss_new (w : World) (st : Stt) : Ss (w.alloc (.cells #[.int .i64 st.rows, .int .i64 st.nulls, .bool st.some, .bool st.high, .int .u8 (st.lo.1 : Int), .int .i64 st.lo.2.1, .string (bytesT st.lo.2.2), .int .u8 (st.hi.1 : Int), .int .i64 st.hi.2.1, .string (bytesT st.hi.2.2)] 29)) (.slice (some ⟨w.heap.size, 0, none⟩) 1 1) [st] := by
  refine ⟨_, _, rfl, Nat.le_refl _, by unfold maxLen; omega, fun _ => ⟨w.heap.size, 0, rfl, fun j hj => ?_⟩⟩
  obtain rfl : j = 0 := by simp at hj; omega
  exact (Stb.new w st).at
theorem okc_cN (n : Int) (h : I64 n) : Okc (cN n) := ⟨(by omega : 1 < 256), h, fun x hx => by simp [cN] at hx⟩
theorem oks_sA : ∀ x ∈ [sA], Oks x := fun x hx => by
  rw [List.mem_singleton.1 hx]
  exact ⟨okc_cN 3 ⟨by omega, by omega⟩, okc_cN 5 ⟨by omega, by omega⟩⟩
theorem okp_E : Okp pE := by simp only [pE, Okp, OkpAll]; exact ⟨by omega, by omega, okc_cN 7 ⟨by omega, by omega⟩, trivial⟩
theorem okp_L : Okp pL := by simp only [pL, Okp, OkpAll]; exact ⟨by omega, by omega, okc_cN 9 ⟨by omega, by omega⟩, trivial⟩
theorem okc_nul : Okc nul := ⟨by decide, ⟨by decide, by decide⟩, fun x hx => by simp [nul] at hx⟩
theorem okp_N : Okp pN := by simp only [pN, Okp, OkpAll]; exact ⟨by omega, by omega, okc_nul, okp_E, trivial⟩
theorem len_E : Len pE := by simp only [pE, Len, LenAll, cN]; exact ⟨by simp, trivial⟩
theorem fineN (n : Int) (h : I64 n) : Fine (cN n) := fine_int h
/-- May of a predicate without kids, of the first statistics. -/
theorem mayE {U : World} {pS pA pP : Nat} {a1 : Option Addr} {cap1 : Nat} (h : Al U pS pA pP a1 cap1) {sv : Value} (hs : Ss U sv [sA]) : Calls Try.prog 17 #[.agg #[.int .u8 1, .int .u32 1, .int .u8 1, .int .i64 7, .string ⟨#[]⟩, .slice none 0 0], .agg #[.int .u32 1, .slice a1 2 cap1], sv] U fun e w' => e = .returned (.agg #[.bool true, .bool true, .bool false]) ∧ Below U.heap.size U w' := by
  have := may_any (si := 1) (Kids.nil U) okp_E h.1.1 hs oks_sA
  rw [show (PT.node 1 1 (cN 7) []) = pE from rfl, ex_m1] at this
  exact this
theorem mayL {U : World} {pS pA pP : Nat} {a1 : Option Addr} {cap1 : Nat} (h : Al U pS pA pP a1 cap1) {sv : Value} (hs : Ss U sv [sA]) : Calls Try.prog 17 #[.agg #[.int .u8 2, .int .u32 1, .int .u8 1, .int .i64 9, .string ⟨#[]⟩, .slice none 0 0], .agg #[.int .u32 1, .slice a1 2 cap1], sv] U fun e w' => e = .returned (.agg #[.bool false, .bool true, .bool true]) ∧ Below U.heap.size U w' := by
  have := may_any (si := 1) (Kids.nil U) okp_L h.1.1 hs oks_sA
  rw [show (PT.node 2 1 (cN 9) []) = pL from rfl, ex_m2] at this
  exact this
theorem mayNn {U : World} {pS pA pP : Nat} {a1 : Option Addr} {cap1 : Nat} (h : Al U pS pA pP a1 cap1) {sv kv : Value} (hs : Ss U sv [sA]) (hk : Kids U kv [pE]) : Calls Try.prog 17 #[.agg #[.int .u8 8, .int .u32 0, .int .u8 0, .int .i64 0, .string ⟨#[]⟩, kv], .agg #[.int .u32 1, .slice a1 2 cap1], sv] U fun e w' => e = .returned (.agg #[.bool false, .bool true, .bool true]) ∧ Below U.heap.size U w' := by
  have := may_any (si := 1) hk okp_N h.1.1 hs oks_sA
  rw [show (PT.node 8 0 nul [pE]) = pN from rfl, ex_m3] at this
  exact this
theorem chkE {U : World} {pS pA pP : Nat} {a1 : Option Addr} {cap1 : Nat} (h : Al U pS pA pP a1 cap1) : Calls Try.prog 14 #[.agg #[.int .u8 1, .int .u32 1, .int .u8 1, .int .i64 7, .string ⟨#[]⟩, .slice none 0 0], .agg #[.int .u32 1, .slice a1 2 cap1]] U fun e w' => e = .returned (.int .i64 0) ∧ Below U.heap.size U w' := by
  refine (check9_any (si := 1) (Kids.nil U) okp_E h.1.1).mono ?_
  rintro e w' ⟨⟨n, rfl, hn⟩, hb⟩
  rw [hn _ _ _ rfl, show (PT.node 1 1 (cN 7) []) = pE from rfl, ex_c1]
  exact ⟨rfl, hb⟩
theorem evE {U : World} {pS pA pP : Nat} {a1 : Option Addr} {cap1 : Nat} (h : Al U pS pA pP a1 cap1) {rv : Value} (hs : Sv U rv (vvals [cN 7, nul])) : Calls Try.prog 18 #[.agg #[.int .u8 1, .int .u32 1, .int .u8 1, .int .i64 7, .string ⟨#[]⟩, .slice none 0 0], .agg #[.int .u32 1, .slice a1 2 cap1], rv] U fun e w' => e = .returned (.int .u8 2) ∧ Below U.heap.size U w' := by
  have := eval_any (si := 1) (Kids.nil U) okp_E len_E h.1.1 hs (fine_two (fine_int i64_7) fine_nul)
  rw [show (PT.node 1 1 (cN 7) []) = pE from rfl, ex_e1] at this
  exact this
theorem kids_one (w : World) : Kids (w.alloc (.cells #[.int .u8 1, .int .u32 1, .int .u8 1, .int .i64 7, .string ⟨#[]⟩, .slice none 0 0] 39)) (.slice (some ⟨w.heap.size, 0, none⟩) 1 1) [pE] := by
  refine ⟨_, _, rfl, Nat.le_refl _, by unfold maxLen; omega, fun _ => ⟨w.heap.size, 0, rfl, ?_⟩⟩
  simp only [KidsAt]
  exact ⟨Lies.shut (node_new w 1 1 (cN 7) (.slice none 0 0)) (Kids.nil _), trivial⟩
theorem ss_newA (w : World) : Ss (w.alloc (.cells #[.int .i64 3, .int .i64 1, .bool true, .bool true, .int .u8 1, .int .i64 3, .string ⟨#[]⟩, .int .u8 1, .int .i64 5, .string ⟨#[]⟩] 29)) (.slice (some ⟨w.heap.size, 0, none⟩) 1 1) [sA] := ss_new w sA
theorem ss_new1 (w : World) (o : Obj) : Ss ((w.alloc o).alloc (.cells #[.int .i64 3, .int .i64 1, .bool true, .bool true, .int .u8 1, .int .i64 3, .string ⟨#[]⟩, .int .u8 1, .int .i64 5, .string ⟨#[]⟩] 29)) (.slice (some ⟨w.heap.size + 1, 0, none⟩) 1 1) [sA] := by
  have := ss_newA (w.alloc o)
  rwa [World.size_alloc] at this
theorem Flg.new1 (w : World) (o : Obj) : Flg ((w.alloc o).alloc (.cells #[.bool false, .bool false, .bool false] 51)) (w.heap.size + 1) (false, false, false) := by
  have := Flg.new (w.alloc o) (false, false, false)
  rwa [World.size_alloc] at this
theorem Flg.new0 (w : World) : Flg (w.alloc (.cells #[.bool false, .bool false, .bool false] 51)) w.heap.size (false, false, false) := Flg.new w (false, false, false)
theorem lit7 (w : World) : Sv (w.alloc (.cells #[.iface 2 (.int .i64 7), .nilIface] 61)) (.slice (some ⟨w.heap.size, 0, none⟩) 2 2) (vvals [cN 7, nul]) := (litV w [cN 7, nul] (by decide)).sv
theorem eq51 (m0 m1 m2 : Bool) (w : World) : (binOp .eql 51 (.agg #[.bool m0, .bool m1, .bool m2]) (.agg #[.bool m0, .bool m1, .bool m2])).run Try.prog w = .ok (.bool true) w := by
  cases m0 <;> cases m1 <;> cases m2 <;> kernel_rfl
end Go.Proofs.Ytfcnoeehfhncjaa
