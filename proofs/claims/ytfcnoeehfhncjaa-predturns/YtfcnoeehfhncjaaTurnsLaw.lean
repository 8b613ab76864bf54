/- For any two predicates, any schema, cells and statistics: Not of And is Or of the Nots, of any row, and of what statistics leave. No conditions. -/
import Derived.Test.YtfcnoeehfhncjaaDevT
import Derived.Test.YtfcnoeehfhncjaaAlive
import Derived.Test.YtfcnoeehfhncjaaOpn
set_option linter.unusedVariables false
set_option linter.unusedSimpArgs false
namespace Go.Proofs.Ytfcnoeehfhncjaa
namespace TurnsLaw
open Go.ChangeShapes Go.WideShapes Go.ChangeAt Go.RowKit Go.Lib Go.Joins
open Go.ChangeMaps (open_string shut_string)

theorem walk {w : World} {oa fa : Nat} {ca : Cl} {ka : List PT} {va : Value} (hka : Kids w va ka) (hoa : Okp (.node oa fa ca ka)) {ob fb : Nat} {cb : Cl} {kb : List PT} {vb : Value} (hkb : Kids w vb kb) (hob : Okp (.node ob fb cb kb))
    {fv : Value} {l : List Fd} (hl : Sf w fv l) (ho : ∀ f ∈ l, Okf f) (si : Nat) (hsi : si < 4294967296) {cv : Value} {cl : List Cl} (hc : Sc w cv cl) (hoc : ∀ c ∈ cl, Okc c) {sv : Value} {sts : List Stt} (hs : Ss w sv sts) (hos : ∀ x ∈ sts, Oks x) :
    Calls Try.prog 5 #[.agg #[.int .u8 (oa : Int), .int .u32 (fa : Int), .int .u8 (ca.1 : Int), .int .i64 ca.2.1, .string (bytesT ca.2.2), va], .agg #[.int .u8 (ob : Int), .int .u32 (fb : Int), .int .u8 (cb.1 : Int), .int .i64 cb.2.1, .string (bytesT cb.2.2), vb], .agg #[.int .u32 (si : Int), fv], cv, sv] w fun e w' => e = .returned (.bool true) ∧ Below w.heap.size w w' :=
  walkH alive_any hka hoa hkb hob hl ho si hsi hc hoc hs hos

set_option maxRecDepth 100000 in
theorem lifted (os : Os) (started : os.Started) (H : Type) (enc : TypeId × Value → H) :
    ReturnsInHanded {} Try.checked os 5 .any (Rows.predTurnsSpec.pre6 enc Try.prog Try.f5 Rows.predTurnsRow.domain false) (Rows.predTurnsSpec.post enc Try.prog Try.f5 false true false false) := by
  refine returnsInHanded_of_change (C := Try.checked) own started (by kernel_rfl) Try.func5
    (ChangeSpec.witness6 (enc := enc) (C := Try.checked) false ⟨#[], #[.agg #[.int .u8 0, .int .u32 0, .int .u8 0, .int .i64 0, .string ⟨#[]⟩, .slice none 0 0], .agg #[.int .u8 0, .int .u32 0, .int .u8 0, .int .i64 0, .string ⟨#[]⟩, .slice none 0 0], .agg #[.int .u32 0, .slice none 0 0], .slice none 0 0, .slice none 0 0], []⟩ 8 (by kernel_rfl) (by kernel_rfl) (by kernel_rfl) (by kernel_rfl)) ?_
  intro W base args ds gs before hval0 hW hcnd _
  have hval : ∀ (j : Nat) t v, Try.f5.params[j]? = some t → args[j]? = some v → Value.okWide Try.prog W .any base t v := hval0
  have hW' := hW
  obtain ⟨p, q, hA0, hV, rfl, hfz, hnd⟩ := hW
  have hA : DataW.TrodAll enc Try.prog W 0 (fun _ => true) true Try.f5.params.toList args.toList ds p := hA0
  rw [Try.params5] at hA hval
  obtain ⟨v0, vs0, d0, ds0, p0, q0, hargs, rfl, rfl, h0, r0⟩ := trodAll_cons hA
  obtain ⟨v1, vs1, d1, ds1, p1, q1, rfl, rfl, rfl, h1, r1⟩ := trodAll_cons r0
  obtain ⟨v2, vs2, d2, ds2, p2, q2, rfl, rfl, rfl, h2, r2⟩ := trodAll_cons r1
  obtain ⟨v3, vs3, d3, ds3, p3, q3, rfl, rfl, rfl, h3, r3⟩ := trodAll_cons r2
  obtain ⟨v4, vs4, d4, ds4, p4, q4, rfl, rfl, rfl, h4, r4⟩ := trodAll_cons r3
  obtain ⟨rfl, rfl, rfl⟩ := trodAll_nil r4
  obtain rfl : args = #[v0, v1, v2, v3, v4] := by cases args; simp_all
  obtain ⟨rfl, rfl⟩ := trodVars_none hV
  have lt0 : ∀ x ∈ p0, x.block < W.heap.size := by obtain ⟨m, hm⟩ := h0; exact DataW.trod_lt m _ _ _ hm
  obtain ⟨op0, f0, c0, ks0, kv0, rfl, hk0, ho0⟩ := open_predV (hval 0 39 v0 rfl rfl) h0
  have lt1 : ∀ x ∈ p1, x.block < W.heap.size := by obtain ⟨m, hm⟩ := h1; exact DataW.trod_lt m _ _ _ hm
  obtain ⟨op1, f1, c1, ks1, kv1, rfl, hk1, ho1⟩ := open_predV (hval 1 39 v1 rfl rfl) h1
  have lt2 : ∀ x ∈ p2, x.block < W.heap.size := by obtain ⟨m, hm⟩ := h2; exact DataW.trod_lt m _ _ _ hm
  obtain ⟨id2, u2, l2, rfl, hid2, hl2, ho2⟩ := open_schema (hval 2 42 v2 rfl rfl) h2
  have lt3 : ∀ x ∈ p3, x.block < W.heap.size := by obtain ⟨m, hm⟩ := h3; exact DataW.trod_lt m _ _ _ hm
  obtain ⟨a3, len3, cap3, rfl⟩ := okWide_slice Try.underlying22 (hval 3 22 v3 rfl rfl)
  obtain ⟨l3, hl3, ho3⟩ := open_cells h3
  have lt4 : ∀ x ∈ p4, x.block < W.heap.size := by obtain ⟨m, hm⟩ := h4; exact DataW.trod_lt m _ _ _ hm
  obtain ⟨a4, len4, cap4, rfl⟩ := okWide_slice Try.underlying50 (hval 4 50 v4 rfl rfl)
  obtain ⟨l4, hl4, ho4⟩ := open_stats h4
  clear hA0 hval0
  refine (walk hk0 ho0 hk1 ho1 hl2 ho2 id2 hid2 hl3 ho3 hl4 ho4).mono fun e W' ⟨he, bel⟩ => ?_
  subst he
  exact ⟨_, rfl, _, _, _, [], _, [], hW', trodAll_mk1 (shut_bool Try.underlying4 _), (trodAll_cons_mk (Below.trod laidOut (by kernel_rfl) (of_decide_eq_true (by kernel_rfl)) h0 bel lt0) (trodAll_cons_mk (Below.trod laidOut (by kernel_rfl) (of_decide_eq_true (by kernel_rfl)) h1 bel lt1) (trodAll_cons_mk (Below.trod laidOut (by kernel_rfl) (of_decide_eq_true (by kernel_rfl)) h2 bel lt2) (trodAll_cons_mk (Below.trod laidOut (by kernel_rfl) (of_decide_eq_true (by kernel_rfl)) h3 bel lt3) (trodAll_cons_mk (Below.trod laidOut (by kernel_rfl) (of_decide_eq_true (by kernel_rfl)) h4 bel lt4) trodAll_mk0))))), rfl, bel.frame _, fun h => by cases h⟩

theorem proved : Rows.PredTurnsSaid :=
  OpenClaim.holds_of_wide 5 Try.f5 rfl rfl rfl rfl rfl rfl rfl ⟨rfl, rfl, rfl, rfl, rfl⟩ rfl rfl rfl rfl rfl (by kernel_rfl) Try.func5 (by kernel_rfl)
    (of_decide_eq_true (by kernel_rfl)) (by unfold Func.isWrapper; first | (rw [if_pos (by decide +kernel)]; kernel_rfl) | (rw [if_neg (by decide +kernel)]; exact ⟨rfl, rfl⟩))
    (fun os started H enc _ => lifted os started H enc)
end TurnsLaw
theorem predTurns_holds : Rows.PredTurnsSaid := TurnsLaw.proved
#print axioms predTurns_holds
end Go.Proofs.Ytfcnoeehfhncjaa
