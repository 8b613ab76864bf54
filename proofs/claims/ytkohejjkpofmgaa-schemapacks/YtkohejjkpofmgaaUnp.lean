/- Contracts: bytes.Clone, Unpack. -/
import Derived.Test.YtkohejjkpofmgaaSchr
import Derived.Test.YtkohejjkpofmgaaRsch
import Derived.Test.YtkohejjkpofmgaaChk2
import Derived.BigRegion
set_option linter.unusedVariables false
set_option linter.unusedSimpArgs false
namespace Go.Proofs.Ytkohejjkpofmgaa
open Go.RowKit Go.Lib

theorem St.make {T : Nat} {w W : World} {a : Option Addr} {n cap : Nat} {b : List Nat} (hs : Sv w (.slice a n cap) (vals .u8 b)) (hb : Bs b) (hB : Below w.heap.size w W) :
    St T (W.alloc (.cells #[.slice a b.length cap, .int .i64 ((0 : Nat) : Int)] T)) W.heap.size b 0 := by
  obtain ⟨a', cap', e, h1, h2, h3, h4⟩ := hs
  simp only [Value.slice.injEq] at e
  obtain ⟨rfl, rfl, rfl⟩ := e
  rw [vals_length] at *
  refine ⟨a, cap, heap_alloc_new W _, h1, h2, hb, h3, fun h0 => ?_⟩
  obtain ⟨g, off, e, hg, hc⟩ := h4 h0
  refine ⟨g, off, e, Nat.lt_of_lt_of_le hg hB.size, fun j hj => ?_⟩
  have hB' : Below w.heap.size w (W.alloc (.cells #[.slice a b.length cap, .int .i64 ((0 : Nat) : Int)] T)) := hB.alloc hB.size _
  rw [hB'.cell (p := ⟨g, off + j, none⟩) hg]
  exact hc j _ (vals_get hj)

theorem clone_any {w : World} {v : Value} {l : List Nat} (hs : Sv w v (vals .u8 l)) (hl : l.length ≤ 30000) :
    Calls Try.prog 49 #[v] w (Told w l) := by
  have HS := hidden hs
  obtain ⟨ad, cap, rfl, h1, h2, h3, _⟩ := hs
  rw [vals_length] at *
  cases ad with
  | none =>
    have hc := h3 rfl
    subst hc
    have hl0 : l = [] := List.eq_nil_of_length_eq_zero (by omega)
    subst hl0
    have hq : (binOp .eql 54 (.slice none 0 0) (.slice none 0 0)).run Try.prog w = .ok (.bool true) w := run_eql_slice_nil w 54 5 none 0 0 0 0 Try.underlying54
    go_enter Try.func49, Try.ntmps49
    go_wp2_with fail
    go_ret
    exact ⟨⟨_, rfl, OwnB.nil _ _⟩, Below.refl _ _⟩
  | some ad =>
    have HN := hidden (lit_none w)
    have HS2 := hidden (HS.out.kept (below_one w (.cells #[] 5)))
    clear h3
    have hq : (binOp .eql 54 (.slice (some ad) l.length cap) (.slice none 0 0)).run Try.prog w = .ok (.bool false) w := run_eql_slice_nil w 54 5 (some ad) l.length cap 0 0 Try.underlying54
    go_enter Try.func49, Try.ntmps49
    go_wp2_with (first | (at_builtin; refine wpList_append_sv rfl _ _ rfl w.heap.size _ _ [] l rfl ?q1 rfl ?q2 ?c1 ?c2 ?_))
    case q1 => exact HN.out
    case q2 => exact HS2.out
    case c1 => simp; omega
    case c2 => rw [World.size_alloc]; omega
    intro v3 w3 o3 hb3
    have HO3 := hidden o3
    have HB3 := hidden ((below_one w (.cells #[] 5)).trans hb3)
    clear o3 hb3
    go_wp2_with fail
    go_ret
    exact ⟨⟨_, rfl, HO3.out⟩, HB3.out⟩

/-- What Unpack is to tell: number, fields, what is left, the error. -/
def unpR (b : List Nat) : Nat × List Fd × List Nat × Nat :=
  match unpackM b with
  | .ok ((id, l), r) => (id, l, r, 0)
  | .error c => (0, [], [], c)
theorem unpR_ok {b b' : List Nat} {id : Nat} {l : List Fd} (h : Rds unpackM b 0 (id, l) b' 0) : unpR b = (id, l, b', 0) := by
  have e := h.1 rfl
  rw [if_pos rfl] at e
  unfold unpR
  rw [e]
theorem unpR_error {b b' : List Nat} {f id : Nat} {l : List Fd} (h : Rds unpackM b 0 (id, l) b' f) (hf : f ≠ 0) : unpR b = (0, [], [], f) := by
  have e := h.1 rfl
  rw [if_neg hf] at e
  unfold unpR
  rw [e]
def UnpPost (w : World) (R : Nat × List Fd × List Nat × Nat) (e : Ending) (w' : World) : Prop :=
  (∃ v u, e = .returned (.tuple #[.agg #[.int .u32 (R.1 : Int), v], u, .int .i64 (R.2.2.2 : Int)]) ∧ OwnF w' w.heap.size v R.2.1 ∧ OwnB w' w.heap.size u R.2.2.1) ∧ Below w.heap.size w w'

/-- A reader leaves no more than there was. -/
def Shr {α : Type} (m : List Nat → Except Nat (α × List Nat)) : Prop := ∀ b x r, m b = .ok (x, r) → r.length ≤ b.length
theorem Shr.bind {α β : Type} {m : List Nat → Except Nat (α × List Nat)} {k : α → List Nat → Except Nat (β × List Nat)} (h : Shr m) (hk : ∀ x, Shr (k x)) : Shr (bindR m k) := by
  intro b y r e
  cases hm : m b with
  | error c => rw [bindR_error hm] at e; cases e
  | ok q =>
    obtain ⟨x, s⟩ := q
    rw [bindR_ok hm] at e
    exact Nat.le_trans (hk x s y r e) (h b x s hm)
theorem Shr.pure {α β : Type} (g : α → β) (x : α) : Shr (fun r => .ok (g x, r)) := by
  intro b y r e
  cases e
  exact Nat.le_refl _
theorem shr_num (room : Nat) : Shr (numU room) := by
  intro b x r e
  unfold numU at e
  split at e
  · cases e
  · split at e
    · cases e
    · cases e
      rw [List.length_drop]; omega
theorem shr_textR (n : Nat) : Shr (textR n) := by
  intro b x r e
  unfold textR at e
  split at e
  · cases e
  · cases e
    rw [List.length_drop]; omega
theorem shr_fld : Shr fldU := (shr_num _).bind fun i => ((shr_num _).bind fun n => shr_textR n).bind fun s => (shr_num _).bind fun k => (shr_num _).bind fun n => Shr.pure (fun _ : Nat => (i, s, k, decide (n = 1))) 0
theorem shr_flds : ∀ n, Shr (fldsU n)
  | 0 => Shr.pure (fun _ : Nat => []) 0
  | n + 1 => (shr_flds n).bind fun l => shr_fld.bind fun f => Shr.pure (fun _ : Nat => l ++ [f]) 0
theorem shr_unpack : Shr unpackM :=
  ((shr_num _).bind fun i => (shr_num _).bind fun n => (shr_flds n).bind fun l => Shr.pure (fun _ : Nat => (i, l)) 0).bind fun s => by
    intro b x r e
    simp only at e
    split at e
    · cases e; exact Nat.le_refl _
    · cases e
theorem rds_len {b b1 : List Nat} {F : Nat} {x : Nat × List Fd} (h : Rds unpackM b 0 x b1 F) (hF : F = 0) : b1.length ≤ b.length := by
  have e := h.1 rfl
  rw [if_pos hF] at e
  exact shr_unpack _ _ _ e

/-- In Unpack: the result's block, the reader's, the schema's block q. -/
def Uns (w : World) (q : Nat) (W : World) (b : List Nat) (f id : Nat) (v : Value) (l : List Fd) : Prop :=
  St 86 W (w.heap.size + 1) b f ∧ w.heap.size + 1 < q ∧ W.heap[w.heap.size]? = some (.cells #[.int .u32 0, .slice none 0 0] 25 (0, 0)) ∧
  W.heap[q]? = some (.cells #[.int .u32 (id : Int), v] 25 (0, 0)) ∧ Below w.heap.size w W ∧ OwnF W (w.heap.size + 2) v l

theorem Uns.size {w W : World} {q f id : Nat} {b : List Nat} {v : Value} {l : List Fd} (h : Uns w q W b f id v l) : q < W.heap.size := (Array.getElem?_eq_some_iff.1 h.2.2.2.1).1
theorem Uns.kept {w W W' : World} {q f id : Nat} {b : List Nat} {v : Value} {l : List Fd} (h : Uns w q W b f id v l) (hb : Below W.heap.size W W') : Uns w q W' b f id v l := by
  have hz := h.size
  obtain ⟨h1, h2, h3, h4, h5, h6⟩ := h
  exact ⟨h1.kept hb h1.lt, h2, (hb.block _ (by omega)).trans h3, (hb.block _ (by omega)).trans h4, h5.trans (hb.mono h5.size), h6.kept hb⟩
theorem Uns.call {w W W' : World} {q f f' id : Nat} {b b' : List Nat} {v : Value} {l : List Fd} (h : Uns w q W b f id v l) (hs : St 86 W' (w.heap.size + 1) b' f') (hf : Fr (w.heap.size + 1) W.heap.size W W') : Uns w q W' b' f' id v l := by
  have hz := h.size
  obtain ⟨h1, h2, h3, h4, h5, h6⟩ := h
  exact ⟨hs, h2, (hf.block _ (by omega) (by omega)).trans h3, (hf.block _ (by omega) (by omega)).trans h4, h5.trans (hf.below (by omega) h5.size), Fr.own hf h6 (by omega)⟩
theorem Uns.facts {w W : World} {q f id : Nat} {b : List Nat} {v : Value} {l : List Fd} (h : Uns w q W b f id v l) :
    (W.cell? ⟨q, 0, none⟩ = some (.int .u32 (id : Int)) ∧ W.cell? ⟨q, 1, none⟩ = some v) ∧
    (W.cell? ⟨w.heap.size, 0, none⟩ = some (.int .u32 0) ∧ W.cell? ⟨w.heap.size, 1, none⟩ = some (.slice none 0 0)) ∧
    (W.frozen? ⟨w.heap.size, 0, none⟩ = false ∧ W.frozen? ⟨w.heap.size, 1, none⟩ = false) := by
  obtain ⟨h1, h2, h3, h4, h5⟩ := h
  refine ⟨⟨?_, ?_⟩, ⟨?_, ?_⟩, ⟨?_, ?_⟩⟩ <;> first | (rw [cell_block h4]; rfl) | (rw [cell_block h3]; rfl) | (simp [World.frozen?, h3]; done)

theorem rds_unp {b b1 : List Nat} {f1 i : Nat} {l : List Fd} (h : Rds schU b 0 (i, l) b1 f1) : Rds unpackM b 0 (i, l) b1 (orf f1 (chk i l)) := by
  unfold orf
  by_cases hf : f1 = 0
  · rw [if_pos hf]; subst hf; exact rds_unpack2 h
  · rw [if_neg hf]; exact h.bind (Rds.dead (i, l) hf)

set_option maxRecDepth 100000 in
set_option maxHeartbeats 4000000 in
theorem unpack_any {w : World} {v : Value} {b : List Nat} (hs : Sv w v (vals .u8 b)) (hb : Bs b) (hl : b.length ≤ 20000) :
    Calls Try.prog 29 #[v] w (UnpPost w (unpR b)) := by
  obtain ⟨a, cap, rfl, hcap, hcm⟩ := hs.form1
  rw [vals_length] at *
  have HS0 := hidden (St.make (T := 86) hs hb (below_one w (.cells #[.int .u32 0, .slice none 0 0] 25)))
  have hz0 : (w.alloc (.cells #[.int .u32 0, .slice none 0 0] 25)).heap.size = w.heap.size + 1 := World.size_alloc _ _
  have HH0 := hidden ((below_one (w.alloc (.cells #[.int .u32 0, .slice none 0 0] 25)) (.cells #[.slice a b.length cap, .int .i64 ((0 : Nat) : Int)] 86)).block w.heap.size (by omega) |>.trans (heap_alloc_new w _))
  have HB0 := hidden (((below_one w (.cells #[.int .u32 0, .slice none 0 0] 25))).alloc (by omega) (.cells #[.slice a b.length cap, .int .i64 ((0 : Nat) : Int)] 86))
  rw [hz0] at HS0
  clear hs
  have hzW : ((w.alloc (.cells #[.int .u32 0, .slice none 0 0] 25)).alloc (.cells #[.slice a b.length cap, .int .i64 ((0 : Nat) : Int)] 86)).heap.size = w.heap.size + 2 := by rw [World.size_alloc, hz0]
  have HZW := hidden hzW
  clear hzW
  generalize hW : (w.alloc (.cells #[.int .u32 0, .slice none 0 0] 25)).alloc (.cells #[.slice a b.length cap, .int .i64 ((0 : Nat) : Int)] 86) = W at *
  have hW' : (w.alloc (.cells #[.int .u32 0, .slice none 0 0] 25)).alloc (.cells #[.slice a b.length cap, .int .i64 0] 86) = W := hW
  go_enter Try.func29, Try.ntmps29
  go_wp2_with fail
  try rw [hW']
  clear hW hW' hz0
  refine (schema_any HS0.out).mono ?_
  rintro e w3 ⟨id, l, v, b', f', rfl, ho3, hid, hll, hok, hs3, hr3, hf3⟩
  obtain ⟨va, vcap, hv, _, _⟩ := own_slice ho3
  subst hv
  have HU4 : Hid (Uns w w3.heap.size (w3.alloc (.cells #[.int .u32 (id : Int), .slice va l.length vcap] 25)) b' f' id (.slice va l.length vcap) l) := by
    have hz := HZW.out
    have hz3 := hf3.size
    have hb3 := below_one w3 (.cells #[.int .u32 (id : Int), .slice va l.length vcap] 25)
    refine hidden ⟨hs3.kept hb3 hs3.lt, by omega, (hb3.block _ (by omega)).trans ((hf3.block _ (by omega) (by omega)).trans HH0.out), heap_alloc_new w3 _, (HB0.out.trans (hf3.below (by omega) (by omega))).trans (hb3.mono (by omega)), ?_⟩
    rw [hz] at ho3
    exact ho3.kept hb3
  have HR3 := hidden (rds_unp hr3)
  have HID := hidden hid
  clear ho3 hs3 hr3 hf3 hok hid
  obtain ⟨⟨c0, c1⟩, ⟨d0, d1⟩, ⟨z0, z1⟩⟩ := HU4.out.facts
  have HQL : Hid (w3.heap.size < (w3.alloc (.cells #[.int .u32 (id : Int), .slice va l.length vcap] 25)).heap.size) := hidden (by rw [World.size_alloc]; omega)
  go_wp2_with fail
  generalize hq : w3.heap.size = q at *
  generalize hX : w3.alloc (.cells #[.int .u32 (id : Int), .slice va l.length vcap] 25) = X at *
  try rw [hX]
  clear hX hq
  refine (check_sch HU4.out.2.2.2.2.2.sf id).mono ?_
  rintro e w5 ⟨rfl, hb5⟩
  have HU5 := hidden (HU4.out.kept hb5)
  clear hb5
  go_wp2_with fail
  refine (refuse_any HU5.out.1 (chk id l)).mono ?_
  rintro e w6 ⟨rfl, hs6, hf6⟩
  have HU6 := hidden (HU5.out.call hs6 hf6)
  clear hs6 hf6 c0 c1 d0 d1 z0 z1 HU5 HU4
  generalize orf f' (chk id l) = F at *
  obtain ⟨⟨c0, c1⟩, ⟨d0, d1⟩, ⟨z0, z1⟩⟩ := HU6.out.facts
  obtain ⟨ra, rcap, r0, r1, r2, r3, r4, r5, r6, _, _⟩ := HU6.out.1.cells2
  have HSV := hidden r6
  have HQ := hidden HU6.out.2.1
  have hne1 : ¬ w.heap.size = w.heap.size + 1 := by omega
  have hne2 : ¬ w.heap.size + 1 = w.heap.size := by omega
  have hne3 : ¬ w.heap.size = q := by have := HQ.out; omega
  have hne4 : ¬ q = w.heap.size := by have := HQ.out; omega
  clear r6 r4 r5
  by_cases hF : F = 0
  · have hFa : ((F : Int) != 0) = false := by simp [hF]
    have HBL : Hid (b'.length ≤ 30000) := hidden (by have := rds_len HR3.out hF; omega)
    have HOKR : Hid (unpR b = (id, l, b', 0)) := by
      have h := HR3.out
      rw [hF] at h
      exact hidden (unpR_ok h)
    clear hF
    have HCL : Hid (∀ m, Calls Try.prog 49 #[.slice ra b'.length rcap] (w6.drewN m) fun e w' => ∃ u, e = .returned u ∧ OwnB w' (w.heap.size + 1) u b' ∧ Uns w q w' b' F id (.slice va l.length vcap) l ∧ (w'.cell? ⟨q, 0, none⟩ = some (.int .u32 (id : Int)) ∧ w'.cell? ⟨q, 1, none⟩ = some (.slice va l.length vcap)) ∧ (w'.frozen? ⟨w.heap.size, 0, none⟩ = false ∧ w'.frozen? ⟨w.heap.size, 1, none⟩ = false) ∧ (w'.cell? ⟨w.heap.size, 0, none⟩ = some (.int .u32 0) ∧ w'.cell? ⟨w.heap.size, 1, none⟩ = some (.slice none 0 0)) ∧ w'.cell? ⟨w.heap.size + 1, 0, none⟩ = some (.slice ra b'.length rcap)) := hidden (fun m => by
      have hbd : Below w6.heap.size w6 (w6.drewN m) := below_drewN (Below.refl w6.heap.size w6) m
      refine (clone_any (HSV.out.kept hbd) HBL.out).mono ?_
      rintro e w' ⟨⟨u, rfl, ou⟩, hb'⟩
      have hb2 := below_then hbd hb'
      have hu := HU6.out.kept hb2
      obtain ⟨e0, e1, e2⟩ := hu.facts
      refine ⟨u, rfl, ?_, hu, e0, e2, e1, (hb2.cell (p := ⟨w.heap.size + 1, 0, none⟩) HU6.out.1.lt).trans r0⟩
      have hz : w.heap.size + 1 ≤ (w6.drewN m).heap.size := Nat.le_trans (Nat.le_of_lt HU6.out.1.lt) hbd.size
      exact own_low ou hz)
    go_wp2_with fail
    go_region_held3 (fun w' => w'.cell? ⟨q, 0, none⟩ = some (.int .u32 (id : Int)) ∧ w'.cell? ⟨q, 1, none⟩ = some (.slice va l.length vcap) ∧ w'.cell? ⟨w.heap.size + 1, 0, none⟩ = some (.slice ra b'.length rcap)) (first | assumption | go_keep) (first
      | (go_at_call 49; refine (HCL.out _).mono ?_; rintro e w7 ⟨u7, rfl, o7, hu7, ⟨g0, g1⟩, ⟨g2, g3⟩, ⟨g4, g5⟩, g6⟩; have HO7 := hidden o7; have HU7 := hidden hu7; clear o7 hu7))
    go_wp2_with fail
    refine bodyPost_ret (v := .tuple #[.agg #[.int .u32 (id : Int), .slice va l.length vcap], u7, .int .i64 ((0 : Nat) : Int)]) (by simp [results, Try.results29, go_sem, g4, g5]) rfl ?_
    rw [HOKR.out]
    refine ⟨⟨_, _, rfl, (own_set2 HU7.out.2.2.2.2.2 (by omega) _ _).low (by omega), ?_⟩, below_set2 HU7.out.2.2.2.2.1 (Nat.le_refl _) _ _⟩
    exact own_low (Fr.own (((Fr.refl w.heap.size w7.heap.size w7).set 0 _).set 1 _) HO7.out (by omega)) (by omega)
  · have hFa : ((F : Int) != 0) = true := by simp [hF]
    have HER := hidden (unpR_error HR3.out hF)
    clear hF
    go_wp2_with fail
    go_region
    go_wp2_with fail
    refine bodyPost_ret (v := .tuple #[.agg #[.int .u32 ((0 : Nat) : Int), .slice none 0 0], .slice none 0 0, .int .i64 (F : Int)]) (by simp [results, Try.results29, go_sem, d0, d1]) rfl ?_
    rw [HER.out]
    exact ⟨⟨_, _, rfl, OwnF.nil _ _, OwnB.nil _ _⟩, (below_set2 HU6.out.2.2.2.2.1 (Nat.le_refl _) _ _).drew⟩
end Go.Proofs.Ytkohejjkpofmgaa
