/- Contracts: isFull, Clone, Add. -/
import Derived.Test.YtkohejjkpofmgaaChk2
import Derived.Deep.AppendLies
import Derived.Lib.SliceRun
set_option linter.unusedVariables false
set_option linter.unusedSimpArgs false
namespace Go.Proofs.Ytkohejjkpofmgaa
open Go.RowKit Go.Lib

set_option maxRecDepth 100000 in
set_option maxHeartbeats 4000000 in
theorem isFull_any {w : World} {v : Value} {l : List Fd} (hs : Sf w v l) (id : Nat) : Calls Try.prog 32 #[.agg #[.int .u32 (id : Int), v]] w fun e w' => e = .returned (.bool (fullB id l)) ∧ Below w.heap.size w w' := by
  obtain ⟨a, cap, rfl, hcap, hcm⟩ := hs.form
  have HB0 := hidden (below_one w (.cells #[.int .u32 (id : Int), .slice a l.length cap] 25))
  have HL := hidden (lastId_any (hs.kept (below_one w (.cells #[.int .u32 (id : Int), .slice a l.length cap] 25))))
  clear hs hcap hcm
  by_cases q1 : l.length = 8
  · have q1' : ((l.length : Int) == 8) = true := by rw [q1]; rfl
    have HR : Hid (fullB id l = true) := hidden (decide_eq_true (Or.inl q1))
    clear q1
    go_enter Try.func32, Try.ntmps32
    go_wp2_with fail
    go_ret
    rw [HR.out]
    exact ⟨rfl, HB0.out⟩
  · have q1' : ((l.length : Int) == 8) = false := beq_eq_false_iff_ne.2 (by omega)
    by_cases q2 : id = 4294967295
    · have q2' : ((id : Int) == 4294967295) = true := by rw [q2]; rfl
      have HR : Hid (fullB id l = true) := hidden (decide_eq_true (Or.inr (Or.inl q2)))
      clear q1 q2
      go_enter Try.func32, Try.ntmps32
      go_wp2_with fail
      go_ret
      rw [HR.out]
      exact ⟨rfl, HB0.out⟩
    · have q2' : ((id : Int) == 4294967295) = false := beq_eq_false_iff_ne.2 (by omega)
      have HR : Hid (fullB id l = ((lastI l : Int) == 4294967295)) := hidden (by
        unfold fullB
        by_cases h : lastI l = 4294967295
        · rw [decide_eq_true (Or.inr (Or.inr h)), h]; rfl
        · rw [decide_eq_false (by omega), beq_eq_false_iff_ne.2 (by omega)])
      clear q1 q2
      generalize lastI l = la at *
      go_enter Try.func32, Try.ntmps32
      go_wp2_with fail
      refine HL.out.mono ?_
      rintro e w1 ⟨rfl, rfl⟩
      go_wp2_with fail
      go_ret
      rw [HR.out]
      exact ⟨rfl, HB0.out⟩

set_option maxRecDepth 100000 in
set_option maxHeartbeats 4000000 in
theorem cloneF_any {w : World} {v : Value} {l : List Fd} (hs : Sf w v l) (hl : l.length ≤ 1000) :
    Calls Try.prog 36 #[v] w fun e w' => (∃ v', e = .returned v' ∧ OwnF w' w.heap.size v' l) ∧ Below w.heap.size w w' := by
  have HS := hidden hs
  obtain ⟨ad, cap, rfl, h1, h2, h3, _⟩ := hs
  cases ad with
  | none =>
    have hc := h3 rfl
    subst hc
    have hl0 : l = [] := List.eq_nil_of_length_eq_zero (by omega)
    subst hl0
    have hq : (binOp .eql 23 (.slice none 0 0) (.slice none 0 0)).run Try.prog w = .ok (.bool true) w := run_eql_slice_nil w 23 67 none 0 0 0 0 Try.underlying23
    go_enter Try.func36, Try.ntmps36
    go_wp2_with fail
    go_ret
    exact ⟨⟨_, rfl, OwnF.nil _ _⟩, Below.refl _ _⟩
  | some ad =>
    have HN : Hid (OwnF (w.alloc (.cells #[] 67)) w.heap.size (.slice (some ⟨w.heap.size, 0, none⟩) 0 0) []) := hidden (lit_fields w [] (by unfold maxLen; simp))
    have HS2 := hidden (HS.out.kept (below_one w (.cells #[] 67)))
    clear h3
    have hq : (binOp .eql 23 (.slice (some ad) l.length cap) (.slice none 0 0)).run Try.prog w = .ok (.bool false) w := run_eql_slice_nil w 23 67 (some ad) l.length cap 0 0 Try.underlying23
    go_enter Try.func36, Try.ntmps36
    go_wp2_with (first | (at_builtin; refine wpList_append_fs rfl _ _ rfl w.heap.size _ _ [] l rfl ?q1 rfl ?q2 ?c1 ?c2 ?_))
    case q1 => exact HN.out
    case q2 => exact HS2.out
    case c1 => simp; omega
    case c2 => rw [World.size_alloc]; omega
    intro v3 w3 o3 hb3
    have HO3 := hidden o3
    have HB3 := hidden ((below_one w (.cells #[] 67)).trans hb3)
    clear o3 hb3
    go_wp2_with fail
    go_ret
    exact ⟨⟨_, rfl, HO3.out⟩, HB3.out⟩

/-- One field put behind fields of the call's own, at a step of a region that draws its order. -/
theorem step_append_f {w : World} {ops : Array Oper} {o : Oper} {a : Act} {K : Act → World → Prop} {Q : Exit → Act → World → Prop} {E : Prop} (hgd : o.guard = none) (s x : Operand)
    (ho : o.op = .call { callee := .builtin .append, args := #[s, x], argTypes := #[23, 23] })
    (base B2 : Nat) (v vx : Value) (l0 l : List Fd) (hs : a.eval s = v) (hown : OwnF w base v l0) (hx : a.eval x = vx) (hsl : OwnF w B2 vx l) (hp : 0 < l.length)
    (hbytes : l0.length + l.length ≤ 100000) (hbase : base ≤ w.heap.size)
    (h : ∀ v' w', OwnF w' base v' (l0 ++ l) → Below base w w' → K (a.put o.dst v') w') :
    if Region.wanted o (yielded ops a.tmps) = true then Oper.wp Try.prog o a w K Q else E := by
  obtain ⟨i0, hi, hz0, hz1', hz2⟩ := info_parts info67
  unfold OwnF at hsl
  obtain ⟨g, cap, rfl, hB, hg⟩ := World.ownsRow.form hsl hp
  have hc : ∀ j u, (fvals l)[j]? = some u → w.cell? ((⟨g, 0, none⟩ : Addr).add j) = some u := fun j u hj => hsl.cells (g := g) rfl j u hj
  unfold OwnF at hown
  refine step_append_lies (P := Try.prog) w hgd s x 23 ho base 67 i0 (.agg #[.int .u32 0, .string ⟨#[]⟩, .int .u8 0, .bool false]) 4 32 Try.underlying23 hi hz0 hz1' hz2 rfl (by decide) v l0.length (fvals l0) hs hown ⟨g, 0, none⟩ l.length cap (fvals l) hx (by rw [fvals_length]) hc (fvals_oneCell _) hp (by unfold maxLen; omega) (by omega) hbase _ rfl ?_
  intro g' cap' w' o1 g1 _ _
  refine h _ w' ?_ ((Below.refl base w).grown g1 hbase (fun k hk => (hown.lt k hk).1))
  unfold OwnF
  rw [fvals_append, List.length_append]
  exact o1

/-- What Add tells: a schema whose fields are new, and the error's number. -/
def AddPost (w : World) (R : Nat × List Fd × Nat) (e : Ending) (w' : World) : Prop :=
  (∃ v, e = .returned (.tuple #[.agg #[.int .u32 (R.1 : Int), v], .int .i64 (R.2.2 : Int)]) ∧ OwnF w' w.heap.size v R.2.1) ∧ Below w.heap.size w w'

theorem le_alloc {B : Nat} {w : World} (h : B ≤ w.heap.size) (o : Obj) : B ≤ (w.alloc o).heap.size := by rw [World.size_alloc]; omega
theorem below_set2 {w w1 : World} {B p : Nat} (h : Below B w w1) (hp : B ≤ p) (x y : Value) : Below B w ((w1.setCell ⟨p, 0, none⟩ x).setCell ⟨p, 1, none⟩ y) := (h.setCell hp _).setCell hp _
theorem own_set2 {w1 : World} {B p : Nat} {v : Value} {l : List Fd} (h : OwnF w1 B v l) (hp : p < B) (x y : Value) : OwnF ((w1.setCell ⟨p, 0, none⟩ x).setCell ⟨p, 1, none⟩ y) B v l :=
  Fr.own (((Fr.refl p w1.heap.size w1).set 0 x).set 1 y) h hp

set_option maxRecDepth 100000 in
set_option maxHeartbeats 4000000 in
theorem add_any {w : World} {v : Value} {l : List Fd} (hs : Sf w v l) (id : Nat) (hid : id < 4294967296) (hol : ∀ f ∈ l, Okf f) (n : ByteArray) (k : Nat) :
    Calls Try.prog 11 #[.agg #[.int .u32 (id : Int), v], .string n, .int .u8 (k : Int)] w (AddPost w (addM id l n k)) := by
  obtain ⟨a, cap, rfl, hcap, hcm⟩ := hs.form
  have hbW : Below w.heap.size w ((w.alloc (.cells #[.int .u32 (id : Int), .slice a l.length cap] 25)).alloc (.cells #[.int .u32 0, .slice none 0 0] 25)) := ((Below.refl _ _).alloc (Nat.le_refl _) _).alloc (by rw [World.size_alloc]; omega) _
  have HS := hidden (hs.kept hbW)
  have HBW := hidden hbW
  obtain ⟨c0, c1⟩ := cell_new2 w (.int .u32 (id : Int)) (.slice a l.length cap) 25
  have hz0 : (w.alloc (.cells #[.int .u32 (id : Int), .slice a l.length cap] 25)).heap.size = w.heap.size + 1 := World.size_alloc _ _
  have hz : ((w.alloc (.cells #[.int .u32 (id : Int), .slice a l.length cap] 25)).alloc (.cells #[.int .u32 0, .slice none 0 0] 25)).heap.size = w.heap.size + 2 := by rw [World.size_alloc, World.size_alloc]
  have hb1 := below_one (w.alloc (.cells #[.int .u32 (id : Int), .slice a l.length cap] 25)) (.cells #[.int .u32 0, .slice none 0 0] 25)
  have d0 := (hb1.cell (p := ⟨w.heap.size, 0, none⟩) (show w.heap.size < _ by omega)).trans c0
  have d1 := (hb1.cell (p := ⟨w.heap.size, 1, none⟩) (show w.heap.size < _ by omega)).trans c1
  have hh := heap_alloc_new (w.alloc (.cells #[.int .u32 (id : Int), .slice a l.length cap] 25)) (.cells #[.int .u32 0, .slice none 0 0] 25)
  rw [hz0] at hh
  clear hb1 c0 c1
  generalize hW : (w.alloc (.cells #[.int .u32 (id : Int), .slice a l.length cap] 25)).alloc (.cells #[.int .u32 0, .slice none 0 0] 25) = W at *
  have HD : Hid (∀ w1, Below W.heap.size W w1 → (w1.cell? ⟨w.heap.size, 0, none⟩ = some (.int .u32 (id : Int)) ∧ w1.cell? ⟨w.heap.size, 1, none⟩ = some (.slice a l.length cap)) ∧ (w1.cell? ⟨w.heap.size + 1, 0, none⟩ = some (.int .u32 0) ∧ w1.cell? ⟨w.heap.size + 1, 1, none⟩ = some (.slice none 0 0)) ∧ w1.frozen? ⟨w.heap.size + 1, 0, none⟩ = false ∧ w1.frozen? ⟨w.heap.size + 1, 1, none⟩ = false) := hidden (fun w1 h => by
    have hh1 : w1.heap[w.heap.size + 1]? = some (.cells #[.int .u32 0, .slice none 0 0] 25) := (h.block (w.heap.size + 1) (by omega)).trans hh
    exact ⟨⟨(h.cell (p := ⟨w.heap.size, 0, none⟩) (show w.heap.size < _ by omega)).trans d0, (h.cell (p := ⟨w.heap.size, 1, none⟩) (show w.heap.size < _ by omega)).trans d1⟩, ⟨by rw [cell_block hh1]; rfl, by rw [cell_block hh1]; rfl⟩, by simp [World.frozen?, hh1], by simp [World.frozen?, hh1]⟩)
  have HC := hidden (check_sch HS.out id)
  have HAM : Hid (addM id l n k = if chk id l ≠ 0 then (0, [], chk id l) else if fullB id l = true then (0, [], 4) else if free l n = false then (0, [], 80) else if kindB k = false then (0, [], 10) else (id + 1, l ++ [(lastI l + 1, n, k, false)], 0)) := hidden rfl
  generalize addM id l n k = R at *
  generalize hcid : chk id l = cc at *
  clear hs hbW hh
  have HFB := hidden (fun w1 (h : Below W.heap.size W w1) => isFull_any (HS.out.kept h) id)
  have HFR := hidden (fun w1 (h : Below W.heap.size W w1) => nameIsFree_any (HS.out.kept h) n)
  have HKK := hidden (ofFields_any k)
  have hsz0 : w.heap.size ≤ w.heap.size + 1 := by omega
  go_enter Try.func11, Try.ntmps11
  go_wp2_with fail
  try rw [hW]
  clear hW
  refine HC.out.mono ?_
  rintro e w1 ⟨rfl, hb1⟩
  obtain ⟨⟨e0, e1⟩, ⟨r0, r1⟩, f0, f1⟩ := HD.out _ hb1
  have HB1 := hidden hb1
  clear d0 d1 hb1
  by_cases h0 : cc = 0
  · subst h0
    have hl8' : Hid (True → l.length ≤ 8) := hidden (fun _ => (chk_rise hcid).2.2.1)
    clear hcid
    rw [if_neg (by omega)] at HAM
    go_wp2_with fail
    refine (HFB.out _ HB1.out).mono ?_
    rintro e w2 ⟨rfl, hb2⟩
    have HB2 := hidden (below_then HB1.out hb2)
    clear e0 e1 r0 r1 f0 f1 hb2
    obtain ⟨⟨e0, e1⟩, ⟨r0, r1⟩, f0, f1⟩ := HD.out _ HB2.out
    cases hfu : fullB id l with
    | true =>
      rw [if_pos hfu] at HAM
      clear hfu
      go_wp2_with fail
      refine bodyPost_ret (v := .tuple #[.agg #[.int .u32 0, .slice none 0 0], .int .i64 4]) (by simp [results, Try.results11, go_sem, r0, r1]) rfl ?_
      rw [HAM.out]
      exact ⟨⟨_, rfl, OwnF.nil _ _⟩, below_set2 (below_then HBW.out HB2.out) hsz0 _ _⟩
    | false =>
      rw [if_neg (by rw [hfu]; simp)] at HAM
      have hfd : ¬ (l.length = 8 ∨ id = 4294967295 ∨ lastI l = 4294967295) := by
        unfold fullB at hfu
        simpa using hfu
      have hla : lastI l + 1 < 4294967296 := by
        rcases Nat.eq_zero_or_pos l.length with h | h
        · rw [List.eq_nil_of_length_eq_zero h]; simp [lastI]
        · have h2 := lastI_get h
          have h3 := (hol _ (List.getElem_mem (show l.length - 1 < l.length by omega))).1
          omega
      have hid1 : id + 1 < 4294967296 := by omega
      have hl8 : l.length ≤ 8 := hl8'.out trivial
      clear hfu hfd
      go_wp2_with fail
      refine (HFR.out _ HB2.out).mono ?_
      rintro e w3 ⟨rfl, hb3⟩
      have HB3 := hidden (below_then HB2.out hb3)
      clear e0 e1 r0 r1 f0 f1 hb3
      obtain ⟨⟨e0, e1⟩, ⟨r0, r1⟩, f0, f1⟩ := HD.out _ HB3.out
      cases hfr : free l n with
      | false =>
        rw [if_pos hfr] at HAM
        clear hfr
        go_wp2_with fail
        refine bodyPost_ret (v := .tuple #[.agg #[.int .u32 0, .slice none 0 0], .int .i64 80]) (by simp [results, Try.results11, go_sem, r0, r1]) rfl ?_
        rw [HAM.out]
        exact ⟨⟨_, rfl, OwnF.nil _ _⟩, below_set2 (below_then HBW.out HB3.out) hsz0 _ _⟩
      | true =>
        rw [if_neg (by rw [hfr]; simp)] at HAM
        clear hfr
        go_wp2_with fail
        refine (HKK.out _).mono ?_
        rintro e w4 ⟨rfl, rfl⟩
        cases hkb : kindB k with
        | false =>
          rw [if_pos hkb] at HAM
          clear hkb
          go_wp2_with fail
          refine bodyPost_ret (v := .tuple #[.agg #[.int .u32 0, .slice none 0 0], .int .i64 10]) (by simp [results, Try.results11, go_sem, r0, r1]) rfl ?_
          rw [HAM.out]
          exact ⟨⟨_, rfl, OwnF.nil _ _⟩, below_set2 (below_then HBW.out HB3.out) hsz0 _ _⟩
        | true =>
          rw [if_neg (by rw [hkb]; simp)] at HAM
          clear hkb
          have HLA := hidden (lastId_any (HS.out.kept HB3.out))
          generalize lastI l = la at *
          have hw1 : IntKind.u32.wrap ((la : Int) + 1) = ((la + 1 : Nat) : Int) := by rw [IntKind.wrap_u32]; omega
          have hw2 : IntKind.u32.wrap ((id : Int) + 1) = ((id + 1 : Nat) : Int) := by rw [IntKind.wrap_u32]; omega
          generalize la + 1 = la1 at *
          generalize id + 1 = id1 at *
          go_wp2_with fail
          refine HLA.out.mono ?_
          rintro e w5 ⟨rfl, rfl⟩
          go_wp2_with fail
          have hbV := below_one w5 (.cells #[.int .u32 (la1 : Int), .string n, .int .u8 (k : Int), .bool false] 67)
          have HBV := hidden (below_then HB3.out hbV)
          obtain ⟨g0, g1, g2, g3⟩ := cell_new4 w5 (.int .u32 (la1 : Int)) (.string n) (.int .u8 (k : Int)) (.bool false) 67
          have hsV : (w5.alloc (.cells #[.int .u32 (la1 : Int), .string n, .int .u8 (k : Int), .bool false] 67)).heap.size = w5.heap.size + 1 := World.size_alloc _ _
          have hs5 := HB3.out.size
          generalize hV : w5.alloc (.cells #[.int .u32 (la1 : Int), .string n, .int .u8 (k : Int), .bool false] 67) = V at *
          clear hV hbV e0 e1 r0 r1 f0 f1
          obtain ⟨⟨e0, e1⟩, ⟨r0, r1⟩, f0, f1⟩ := HD.out _ HBV.out
          have HKEEP : Hid (∀ W', Below V.heap.size V W' → (W'.cell? ⟨w.heap.size, 0, none⟩ = some (.int .u32 (id : Int)) ∧ W'.cell? ⟨w.heap.size, 1, none⟩ = some (.slice a l.length cap) ∧ W'.cell? ⟨w5.heap.size, 0, none⟩ = some (.int .u32 (la1 : Int)) ∧ W'.cell? ⟨w5.heap.size, 1, none⟩ = some (.string n) ∧ W'.cell? ⟨w5.heap.size, 2, none⟩ = some (.int .u8 (k : Int)) ∧ W'.cell? ⟨w5.heap.size, 3, none⟩ = some (.bool false))) := hidden (fun W' hb' => by
            obtain ⟨⟨y0, y1⟩, _⟩ := HD.out _ (below_then HBV.out hb')
            exact ⟨y0, y1, (hb'.cell (p := ⟨w5.heap.size, 0, none⟩) (show w5.heap.size < _ by omega)).trans g0, (hb'.cell (p := ⟨w5.heap.size, 1, none⟩) (show w5.heap.size < _ by omega)).trans g1, (hb'.cell (p := ⟨w5.heap.size, 2, none⟩) (show w5.heap.size < _ by omega)).trans g2, (hb'.cell (p := ⟨w5.heap.size, 3, none⟩) (show w5.heap.size < _ by omega)).trans g3⟩)
          have HCL : Hid (∀ m, Calls Try.prog 36 #[.slice a l.length cap] (V.drewN m) fun e w' => ∃ v', e = .returned v' ∧ OwnF w' V.heap.size v' l ∧ Below V.heap.size V w' ∧ V.heap.size ≤ w'.heap.size ∧ (w'.cell? ⟨w.heap.size, 0, none⟩ = some (.int .u32 (id : Int)) ∧ w'.cell? ⟨w.heap.size, 1, none⟩ = some (.slice a l.length cap) ∧ w'.cell? ⟨w5.heap.size, 0, none⟩ = some (.int .u32 (la1 : Int)) ∧ w'.cell? ⟨w5.heap.size, 1, none⟩ = some (.string n) ∧ w'.cell? ⟨w5.heap.size, 2, none⟩ = some (.int .u8 (k : Int)) ∧ w'.cell? ⟨w5.heap.size, 3, none⟩ = some (.bool false))) := hidden (fun m => by
            refine (cloneF_any (sf_drewN (HS.out.kept HBV.out) m) (by omega)).mono ?_
            rintro e w6 ⟨⟨v6, rfl, o6⟩, hb6⟩
            have hb7 : Below V.heap.size V w6 := (below_drewN (Below.refl V.heap.size V) m).trans hb6
            exact ⟨v6, rfl, o6, hb7, hb7.size, HKEEP.out _ hb7⟩)
          have HCL2 : Hid (∀ U, Below (V.alloc (.cells #[.int .u32 (la1 : Int), .string n, .int .u8 (k : Int), .bool false] 67)).heap.size (V.alloc (.cells #[.int .u32 (la1 : Int), .string n, .int .u8 (k : Int), .bool false] 67)) U → Calls Try.prog 36 #[.slice a l.length cap] U fun e w' => ∃ v', e = .returned v' ∧ OwnF w' V.heap.size v' l ∧ OwnF w' V.heap.size (.slice (some ⟨V.heap.size, 0, none⟩) 1 1) [(la1, n, k, false)] ∧ Below V.heap.size V w' ∧ V.heap.size ≤ w'.heap.size ∧ (w'.cell? ⟨w.heap.size, 0, none⟩ = some (.int .u32 (id : Int)) ∧ w'.cell? ⟨w.heap.size, 1, none⟩ = some (.slice a l.length cap) ∧ w'.cell? ⟨w5.heap.size, 0, none⟩ = some (.int .u32 (la1 : Int)) ∧ w'.cell? ⟨w5.heap.size, 1, none⟩ = some (.string n) ∧ w'.cell? ⟨w5.heap.size, 2, none⟩ = some (.int .u8 (k : Int)) ∧ w'.cell? ⟨w5.heap.size, 3, none⟩ = some (.bool false))) := hidden (fun U hU => by
            have hVU : Below V.heap.size V U := below_then (below_one V _) hU
            refine (cloneF_any (HS.out.kept (below_then HBV.out hVU)) (by omega)).mono ?_
            rintro e w6 ⟨⟨v6, rfl, o6⟩, hb6⟩
            have hb7 : Below V.heap.size V w6 := below_then hVU hb6
            exact ⟨v6, rfl, o6.low hVU.size, ((lit_one V (la1, n, k, false)).kept hU).kept hb6, hb7, hb7.size, HKEEP.out _ hb7⟩)
          have HAP : Hid (∀ w6 w' v', Below V.heap.size V w6 → OwnF w' V.heap.size v' (l ++ [(la1, n, k, false)]) → Below V.heap.size w6 w' → ∃ a7 cap7, v' = .slice a7 (l.length + 1) cap7 ∧ Below V.heap.size V w' ∧ (w'.cell? ⟨w.heap.size, 0, none⟩ = some (.int .u32 (id : Int)) ∧ w'.cell? ⟨w.heap.size, 1, none⟩ = some (.slice a l.length cap) ∧ w'.cell? ⟨w5.heap.size, 0, none⟩ = some (.int .u32 (la1 : Int)) ∧ w'.cell? ⟨w5.heap.size, 1, none⟩ = some (.string n) ∧ w'.cell? ⟨w5.heap.size, 2, none⟩ = some (.int .u8 (k : Int)) ∧ w'.cell? ⟨w5.heap.size, 3, none⟩ = some (.bool false)) ∧ (w'.cell? ⟨w.heap.size + 1, 0, none⟩ = some (.int .u32 0) ∧ w'.cell? ⟨w.heap.size + 1, 1, none⟩ = some (.slice none 0 0)) ∧ w'.frozen? ⟨w.heap.size + 1, 0, none⟩ = false ∧ w'.frozen? ⟨w.heap.size + 1, 1, none⟩ = false) := hidden (fun w6 w' v' hb6 o7 b7 => by
            obtain ⟨a7, cap7, hv, _, _⟩ := own_slice o7
            rw [List.length_append, List.length_singleton] at hv
            have hb7 : Below V.heap.size V w' := hb6.trans b7
            obtain ⟨_, r, f⟩ := HD.out _ (below_then HBV.out hb7)
            exact ⟨a7, cap7, hv, hb7, HKEEP.out _ hb7, r, f⟩)
          have hln : l.length + [(la1, n, k, false)].length ≤ 100000 := by rw [List.length_singleton]; omega
          have hne1 : ¬ w5.heap.size = w.heap.size + 1 := by omega
          have hne2 : ¬ w.heap.size + 1 = w5.heap.size := by omega
          have HVW : Hid (w.heap.size + 1 < V.heap.size) := hidden (by omega)
          clear r0 r1 f0 f1 hsV hs5
          go_region_held3 (fun w' => w'.cell? ⟨w.heap.size, 0, none⟩ = some (.int .u32 (id : Int)) ∧ w'.cell? ⟨w.heap.size, 1, none⟩ = some (.slice a l.length cap) ∧ w'.cell? ⟨w5.heap.size, 0, none⟩ = some (.int .u32 (la1 : Int)) ∧ w'.cell? ⟨w5.heap.size, 1, none⟩ = some (.string n) ∧ w'.cell? ⟨w5.heap.size, 2, none⟩ = some (.int .u8 (k : Int)) ∧ w'.cell? ⟨w5.heap.size, 3, none⟩ = some (.bool false)) (first | assumption | go_keep) (first
            | (go_at_call 36; refine (HCL.out _).mono ?_; rintro e w6 ⟨v6, rfl, o6, hb6, hs6, hkk⟩; have HO6 := hidden o6; have HB6 := hidden hb6; clear o6 hb6)
            | (go_at_call 36; refine (HCL2.out _ (Below.refl _ _).drew).mono ?_; rintro e w6 ⟨v6, rfl, o6, hlit, hb6, hs6, hkk⟩; have HO6 := hidden o6; have HLI := hidden hlit; have HB6 := hidden hb6; clear o6 hb6 hlit)
            | (refine step_append_f (by rfl) _ _ (by rfl) V.heap.size w6.heap.size _ _ l [(la1, n, k, false)] (by rfl) ?_ (by rfl) ?_ ?_ ?_ ?_ ?_; exact HO6.out.kept (below_one _ _); exact lit_one w6 (la1, n, k, false); exact Nat.zero_lt_succ _; exact hln; exact le_alloc hs6 _; intro v7 w7 o7 b7; obtain ⟨a7, cap7, rfl, hb7, hkk7, ⟨r0, r1⟩, f0, f1⟩ := HAP.out _ _ _ (HB6.out.alloc hs6 _) o7 b7; have HO7 := hidden o7; have HB7 := hidden hb7; clear o7 b7 hb7)
            | (refine step_append_f (by rfl) _ _ (by rfl) V.heap.size V.heap.size _ _ l [(la1, n, k, false)] (by rfl) ?_ (by rfl) ?_ ?_ ?_ ?_ ?_; exact HO6.out; exact HLI.out; exact Nat.zero_lt_succ _; exact hln; exact hs6; intro v7 w7 o7 b7; obtain ⟨a7, cap7, rfl, hb7, hkk7, ⟨r0, r1⟩, f0, f1⟩ := HAP.out _ _ _ HB6.out o7 b7; have HO7 := hidden o7; have HB7 := hidden hb7; clear o7 b7 hb7))
          all_goals clear hkk7 hkk e0 e1 g0 g1 g2 g3
          all_goals go_wp2_with fail
          all_goals refine bodyPost_ret (v := .tuple #[.agg #[.int .u32 (id1 : Int), .slice a7 (l.length + 1) cap7], .int .i64 0]) (by simp [results, Try.results11, go_sem, r0, r1]) rfl ?_
          all_goals rw [HAM.out]
          all_goals refine ⟨⟨_, rfl, ?_⟩, below_set2 (below_then HBW.out (below_then HBV.out HB7.out)) hsz0 _ _⟩
          all_goals refine (own_set2 (B := V.heap.size) ?_ HVW.out _ _).low (by have := HVW.out; omega)
          all_goals have hlast := HO7.out
          all_goals simpa using hlast
  · clear hcid
    have h0' : ((cc : Int) != 0) = true := by simp [h0]
    rw [if_pos h0] at HAM
    clear h0 e0 e1
    go_wp2_with fail
    refine bodyPost_ret (v := .tuple #[.agg #[.int .u32 0, .slice none 0 0], .int .i64 (cc : Int)]) (by simp [results, Try.results11, go_sem, r0, r1]) rfl ?_
    rw [HAM.out]
    exact ⟨⟨_, rfl, OwnF.nil _ _⟩, below_set2 (below_then HBW.out HB1.out) hsz0 _ _⟩
end Go.Proofs.Ytkohejjkpofmgaa
