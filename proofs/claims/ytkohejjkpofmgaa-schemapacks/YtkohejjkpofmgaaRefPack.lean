/- Contracts: the document's Pack. -/
import Derived.Test.YtkohejjkpofmgaaPack
set_option linter.unusedVariables false
set_option linter.unusedSimpArgs false
namespace Go.Proofs.Ytkohejjkpofmgaa
open Go.RowKit Go.Lib

/-- A block of another element type than bytes is as it was behind an append to bytes of the call's own. -/
def Far (w w' : World) : Prop := ∀ (p T : Nat) (cs : Array Value), T ≠ 5 → w.heap[p]? = some (.cells cs T (0, 0)) → w'.heap[p]? = some (.cells cs T (0, 0))
theorem far_of {w w' : World} {B : Nat} {v : Value} {l : List Nat} (hown : OwnB w B v l) (hg : w.grownBy w' v.ownBlock) : Far w w' := by
  intro p T cs hT hp
  have hlt : p < w.heap.size := (Array.getElem?_eq_some_iff.1 hp).1
  rw [hg.block p hlt ?_]
  · exact hp
  · intro he
    rcases hown.2 with ⟨rfl, _⟩ | ⟨g, cap, cur, rfl, _, h3, _⟩
    · simp [Value.ownBlock] at he
    · simp only [Value.ownBlock, Option.some.injEq] at he
      subst he
      rw [hp] at h3
      simp at h3
      exact hT h3.2
theorem Far.refl (w : World) : Far w w := fun _ _ _ _ h => h
theorem Far.of_below {w w' : World} (h : Below w.heap.size w w') : Far w w' := fun p T cs _ hp => (h.block p (Array.getElem?_eq_some_iff.1 hp).1).trans hp
theorem Far.trans {a b c : World} (h : Far a b) (h2 : Far b c) : Far a c := fun p T cs hT hp => h2 p T cs hT (h p T cs hT hp)

theorem wpList_append_svf {w : World} {ops : Array Oper} {rest : List Oper} {o : Oper} {a : Act} {Q : Exit → Act → World → Prop} (hgd : o.guard = none) (s x : Operand)
    (ho : o.op = .call { callee := .builtin .append, args := #[s, x], argTypes := #[54, 54] })
    (base : Nat) (v vx : Value) (l0 l : List Nat) (hs : a.eval s = v) (hown : OwnB w base v l0) (hx : a.eval x = vx) (hsl : Sv w vx (vals .u8 l))
    (hbytes : l0.length + l.length ≤ 140737488355328) (hbase : base ≤ w.heap.size)
    (h : ∀ v' w', OwnB w' base v' (l0 ++ l) → Below base w w' → Far w w' → wpList Try.prog ops Q rest (a.put o.dst v') w') :
    wpList Try.prog ops Q (o :: rest) a w := by
  obtain ⟨i0, hi, hz0, hz1', hz2⟩ := info_parts info5
  have hown0 := hown
  unfold OwnB at *
  obtain ⟨ad, cap, rfl, h1, h2, h3, h4⟩ := hsl
  rw [vals_length] at *
  cases ad with
  | none =>
    have hc := h3 rfl
    subst hc
    have hl : l = [] := List.eq_nil_of_length_eq_zero (by omega)
    subst hl
    refine wpList_plain hgd fun K hK => ?_
    have hr := run_append_owned_none (P := Try.prog) (w := w) base 54 o.type 5 i0 1 Try.underlying54 hi v l0.length (vals .u8 l0) hown
    unfold Oper.wp execOp
    simp only [ho, resolve, invoke, builtin, Sem.run_bind, Sem.run_pure, Result.andThen_ok, List.map_toArray, List.map_cons, List.map_nil, hs, hx, hr, List.length_nil]
    refine hK _ _ (h v w ?_ (Below.refl _ _) (Far.refl _))
    rw [List.append_nil]
    exact hown
  | some ad =>
    refine wpList_append_own_at (w := w) hgd s x 54 ho base 5 i0 (.int .u8 0) 1 1 Try.underlying54 hi hz0 hz1' hz2 rfl (by decide) v l0.length (vals .u8 l0) hs hown ad l.length cap (vals .u8 l) hx (by rw [vals_length]; omega) ?_ (vals_oneCell _ _) (by unfold maxLen; omega) (by omega) hbase ?_
    · intro j u hu
      have hj : j < l.length := by
        have := (List.getElem?_eq_some_iff.1 hu).1
        rwa [vals_length] at this
      obtain ⟨b, off, h5, _, h6⟩ := h4 (by omega)
      cases h5
      rw [addj]
      exact h6 j u hu
    · intro v' w' o1 g1 _ _
      refine h v' w' ?_ ((Below.refl base w).grown g1 hbase (fun k hk => (hown.lt k hk).1)) (far_of hown0 g1)
      rw [vals_append, List.length_append]
      exact o1

theorem wpList_append_strf {w : World} {ops : Array Oper} {rest : List Oper} {o : Oper} {a : Act} {Q : Exit → Act → World → Prop} (hgd : o.guard = none) (s x : Operand)
    (ho : o.op = .call { callee := .builtin .append, args := #[s, x], argTypes := #[54, 9] })
    (base : Nat) (v : Value) (l0 : List Nat) (z : ByteArray) (hs : a.eval s = v) (hown : OwnB w base v l0) (hx : a.eval x = .string z)
    (hbytes : l0.length + z.size ≤ 140737488355328) (hbase : base ≤ w.heap.size)
    (h : ∀ v' w', OwnB w' base v' (l0 ++ natsT z) → Below base w w' → Far w w' → wpList Try.prog ops Q rest (a.put o.dst v') w') :
    wpList Try.prog ops Q (o :: rest) a w := by
  obtain ⟨i0, hi, hz0, hz1', hz2⟩ := info_parts info5
  have hown0 := hown
  unfold OwnB at *
  refine wpList_append_own_string (w := w) hgd s x 54 9 ho base 5 i0 Try.underlying54 Try.underlying9 hi hz0 hz1' hz2 v l0.length (vals .u8 l0) hs hown z hx (by unfold maxLen; omega) (by exact hbytes) hbase ?_
  intro v' w' o1 g1 _
  refine h v' w' ?_ ((Below.refl base w).grown g1 hbase (fun k hk => (hown.lt k hk).1)) (far_of hown0 g1)
  have e : strCells z = vals .u8 (natsT z) := by
    unfold strCells vals natsT
    rw [ByteArray.toList_eq]
    simp [List.map_map, Function.comp_def]
  rw [e] at o1
  rw [vals_append, List.length_append, natsT_len]
  exact o1

theorem le_alloc' {B : Nat} {w : World} (h : B ≤ w.heap.size) (o : Obj) : B ≤ (w.alloc o).heap.size := by rw [World.size_alloc]; omega

set_option maxRecDepth 100000 in
set_option maxHeartbeats 4000000 in
theorem refPack_any {w : World} {v : Value} {l : List Fd} (hs : Sf w v l) (ho : ∀ f ∈ l, Okf f) (hl : l.length ≤ 100) (hz : szs l < 5000) (id : Nat) (hid : id < 4294967296) :
    Calls Try.prog 28 #[.agg #[.int .u32 (id : Int), v]] w (Told w (packM id l)) := by
  obtain ⟨a, cap, rfl, hcap, hcm⟩ := hs.form
  have HOK := hidden ho
  have HP : Hid (packM id l = uv id ++ uv l.length ++ packL l) := hidden rfl
  have HPL := hidden (packL_take_len ho hl hz)
  have HSZ := hidden (fun k => szs_take_size (k := k) hz)
  have HV1 := hidden (refPut_told id (by omega))
  have HV2 := hidden (refPut_told l.length (by omega))
  have u1 := uv_le id (by omega)
  have u2 := uv_le l.length (by omega)
  have hb0 := below_one w (.cells #[.int .u32 (id : Int), .slice a l.length cap] 25)
  have hzz : w.heap.size < (w.alloc (.cells #[.int .u32 (id : Int), .slice a l.length cap] 25)).heap.size := by rw [World.size_alloc]; omega
  have HT : Hid (∀ U, Below (w.alloc (.cells #[.int .u32 (id : Int), .slice a l.length cap] 25)).heap.size (w.alloc (.cells #[.int .u32 (id : Int), .slice a l.length cap] 25)) U → Sf U (.slice a l.length cap) l ∧ U.cell? ⟨w.heap.size, 0, none⟩ = some (.int .u32 (id : Int)) ∧ U.cell? ⟨w.heap.size, 1, none⟩ = some (.slice a l.length cap)) := hidden (fun U h => by
    obtain ⟨c0, c1⟩ := cell_new2 w (.int .u32 (id : Int)) (.slice a l.length cap) 25
    exact ⟨(hs.kept hb0).kept h, (h.cell (p := ⟨w.heap.size, 0, none⟩) hzz).trans c0, (h.cell (p := ⟨w.heap.size, 1, none⟩) hzz).trans c1⟩)
  have HB0 := hidden hb0
  clear hs hb0 ho
  generalize hW : w.alloc (.cells #[.int .u32 (id : Int), .slice a l.length cap] 25) = W at *
  obtain ⟨_, c0, c1⟩ := HT.out W (Below.refl _ _)
  generalize uv id = p1 at *
  generalize uv l.length = p2 at *
  go_enter Try.func28, Try.ntmps28
  go_wp2_with fail
  try rw [hW]
  clear hW
  refine (HV1.out _).mono ?_
  rintro e w1 ⟨⟨v1, rfl, o1⟩, hb1⟩
  have HO1 := hidden o1
  have HX1 := hidden hb1
  clear o1 hb1 c0 c1
  obtain ⟨_, c0, c1⟩ := HT.out _ HX1.out
  go_wp2_with fail
  refine (HV2.out _).mono ?_
  rintro e w2 ⟨⟨v2, rfl, o2⟩, hb2⟩
  have HO1k := hidden (HO1.out.kept hb2)
  have HO2 := hidden o2.sv
  have HX2 := hidden (below_then HX1.out hb2)
  clear o2 hb2 c0 c1
  go_wp2_with (first | (at_builtin; refine wpList_append_sv rfl _ _ rfl W.heap.size _ _ p1 p2 rfl HO1k.out rfl HO2.out ?d1 ?d2 ?_))
  case d1 => omega
  case d2 => exact HX2.out.size
  intro v3 w3 o3 hb3
  have HO3 := hidden o3
  have HX3 := hidden (HX2.out.trans hb3)
  clear o3 hb3
  obtain ⟨_, c0, c1⟩ := HT.out _ HX3.out
  go_wp2_with fail
  clear c0 c1
  go_loopw [3, 4] (fun b i wr => ∃ k : Nat, k ≤ l.length ∧ i = .int .i64 (k : Int) ∧ OwnB wr W.heap.size b (p1 ++ p2 ++ packL (l.take k)) ∧ Below W.heap.size W wr) (fun _ i _ => l.length - (intOf i).toNat)
  case atStart => exact ⟨0, by omega, rfl, by simpa [packL] using HO3.out, HX3.out⟩
  case round =>
    obtain ⟨k, hk, rfl, hown, hbel⟩ := hrel
    have HO := hidden hown
    have HB := hidden hbel
    have hzr := hbel.size
    clear hown hbel
    by_cases hlt : k < l.length
    · obtain ⟨b, off, rfl, hb, x0, x1, x2, x3⟩ := (HT.out _ HB.out).1.at hlt
      have hlt' : (k : Int) < (l.length : Int) := by omega
      have HST := hidden (packL_step hlt)
      have hok := HOK.out _ (List.getElem_mem hlt)
      have hsz := HSZ.out k hlt
      have hplen := HPL.out k
      have HPF : Hid (packF l[k] = uv l[k].1 ++ uv l[k].2.1.size ++ natsT l[k].2.1 ++ uv l[k].2.2.1 ++ uv (flagN l[k].2.2.2)) := hidden rfl
      generalize packF l[k] = PF at *
      generalize packL (l.take k) = PL at *
      generalize l[k] = f at *
      obtain ⟨f0, f1, f2, f3⟩ := f
      have hf1 : f0 < 4294967296 := hok.1
      have hf2 : f2 < 256 := hok.2
      simp only at *
      have HW1 := hidden (refPut_told f0 (by omega))
      have HW2 := hidden (refPut_told f1.size (by omega))
      have HW3 := hidden (refPut_told f2 (by omega))
      have g1 := uv_le f0 (by omega)
      have g2 := uv_le f1.size (by omega)
      have g3 := uv_le f2 (by omega)
      have hnl := natsT_len f1
      have HFG : Hid (uv (flagN f3) = [flagN f3]) := hidden (uv_small (by unfold flagN; split <;> omega))
      rw [HFG.out] at HPF
      generalize uv f0 = q1 at *
      generalize uv f1.size = q2 at *
      generalize uv f2 = q3 at *
      have q0 := (HT.out _ HB.out).2.2
      have hww : w.heap.size < wr.heap.size := Nat.lt_of_lt_of_le hzz hzr
      have hbn := below_one wr (.cells #[.int .u32 (f0 : Int), .string f1, .int .u8 (f2 : Int), .bool f3] 67)
      have hh0 : (wr.alloc (.cells #[.int .u32 (f0 : Int), .string f1, .int .u8 (f2 : Int), .bool f3] 67)).heap[wr.heap.size]? = some (.cells #[.int .u32 (f0 : Int), .string f1, .int .u8 (f2 : Int), .bool f3] 67) := heap_alloc_new wr (.cells #[.int .u32 (f0 : Int), .string f1, .int .u8 (f2 : Int), .bool f3] 67)
      have HF : Hid (∀ U, Far (wr.alloc (.cells #[.int .u32 (f0 : Int), .string f1, .int .u8 (f2 : Int), .bool f3] 67)) U → U.cell? ⟨wr.heap.size, 0, none⟩ = some (.int .u32 (f0 : Int)) ∧ U.cell? ⟨wr.heap.size, 1, none⟩ = some (.string f1) ∧ U.cell? ⟨wr.heap.size, 2, none⟩ = some (.int .u8 (f2 : Int)) ∧ U.cell? ⟨wr.heap.size, 3, none⟩ = some (.bool f3)) := hidden (fun U h => by
        have hh := h _ _ _ (by omega) hh0
        exact ⟨by rw [cell_block hh]; rfl, by rw [cell_block hh]; rfl, by rw [cell_block hh]; rfl, by rw [cell_block hh]; rfl⟩)
      have HXN := hidden (below_then HB.out hbn)
      have HON := hidden (HO.out.kept hbn)
      clear hbn HO hok hh0
      generalize hV : wr.alloc (.cells #[.int .u32 (f0 : Int), .string f1, .int .u8 (f2 : Int), .bool f3] 67) = V at *
      obtain ⟨y0, y1, y2, y3⟩ := HF.out V (Far.refl _)
      go_wp2_with fail
      try rw [hV]
      clear hV
      refine (HW1.out _).mono ?_
      rintro e w5 ⟨⟨v5, rfl, o5⟩, hb5⟩
      have HN5 := hidden (HON.out.kept hb5)
      have HS5 := hidden o5.sv
      have HY5 := hidden (Far.of_below hb5)
      have HX5 := hidden (below_then HXN.out hb5)
      clear o5 hb5 x0 x1 x2 x3 y0 y1 y2 y3 q0
      go_wp2_with (first | (at_builtin; refine wpList_append_svf rfl _ _ rfl W.heap.size _ _ (p1 ++ p2 ++ PL) q1 rfl HN5.out rfl HS5.out ?d3 ?d4 ?_))
      case d3 => first | (simp only [List.length_append]; omega) | (simp; omega) | omega
      case d4 => exact HX5.out.size
      intro v6 w6 o6 hb6 hf6
      have HO6 : Hid (OwnB w6 W.heap.size v6 (p1 ++ p2 ++ PL ++ q1)) := hidden (by simpa using o6)
      have HY6 := hidden (HY5.out.trans hf6)
      have HX6 := hidden (HX5.out.trans hb6)
      clear o6 hb6 hf6
      obtain ⟨y0, y1, y2, y3⟩ := HF.out _ HY6.out
      go_wp2_with fail
      refine (HW2.out _).mono ?_
      rintro e w7 ⟨⟨v7, rfl, o7⟩, hb7⟩
      have HN7 := hidden (HO6.out.kept hb7)
      have HS7 := hidden o7.sv
      have HY7 := hidden (HY6.out.trans (Far.of_below hb7))
      have HX7 := hidden (below_then HX6.out hb7)
      clear o7 hb7 y0 y1 y2 y3
      go_wp2_with (first | (at_builtin; refine wpList_append_svf rfl _ _ rfl W.heap.size _ _ (p1 ++ p2 ++ PL ++ q1) q2 rfl HN7.out rfl HS7.out ?d5 ?d6 ?_))
      case d5 => first | (simp only [List.length_append]; omega) | (simp; omega) | omega
      case d6 => exact HX7.out.size
      intro v8 w8 o8 hb8 hf8
      have HO8 : Hid (OwnB w8 W.heap.size v8 (p1 ++ p2 ++ PL ++ q1 ++ q2)) := hidden (by simpa using o8)
      have HY8 := hidden (HY7.out.trans hf8)
      have HX8 := hidden (HX7.out.trans hb8)
      clear o8 hb8 hf8
      obtain ⟨y0, y1, y2, y3⟩ := HF.out _ HY8.out
      go_wp2_with (first | (at_builtin; refine wpList_append_strf rfl _ _ rfl W.heap.size _ (p1 ++ p2 ++ PL ++ q1 ++ q2) f1 rfl HO8.out rfl ?d7 ?d8 ?_))
      case d7 => first | (simp only [List.length_append]; omega) | (simp; omega) | omega
      case d8 => exact HX8.out.size
      intro v9 w9 o9 hb9 hf9
      have HO9 : Hid (OwnB w9 W.heap.size v9 (p1 ++ p2 ++ PL ++ q1 ++ q2 ++ natsT f1)) := hidden (by simpa using o9)
      have HY9 := hidden (HY8.out.trans hf9)
      have HX9 := hidden (HX8.out.trans hb9)
      clear o9 hb9 hf9 y0 y1 y2 y3
      obtain ⟨y0, y1, y2, y3⟩ := HF.out _ HY9.out
      go_wp2_with fail
      refine (HW3.out _).mono ?_
      rintro e w10 ⟨⟨v10, rfl, o10⟩, hb10⟩
      have HN10 := hidden (HO9.out.kept hb10)
      have HS10 := hidden o10.sv
      have HY10 := hidden (HY9.out.trans (Far.of_below hb10))
      have HX10 := hidden (below_then HX9.out hb10)
      clear o10 hb10 y0 y1 y2 y3
      go_wp2_with (first | (at_builtin; refine wpList_append_svf rfl _ _ rfl W.heap.size _ _ (p1 ++ p2 ++ PL ++ q1 ++ q2 ++ natsT f1) q3 rfl HN10.out rfl HS10.out ?d9 ?e1 ?_))
      case d9 => first | (simp only [List.length_append]; omega) | (simp; omega) | omega
      case e1 => exact HX10.out.size
      intro v11 w11 o11 hb11 hf11
      have HO11 : Hid (OwnB w11 W.heap.size v11 (p1 ++ p2 ++ PL ++ q1 ++ q2 ++ natsT f1 ++ q3)) := hidden (by simpa using o11)
      have HY11 := hidden (HY10.out.trans hf11)
      have HX11 := hidden (HX10.out.trans hb11)
      clear o11 hb11 hf11
      obtain ⟨y0, y1, y2, y3⟩ := HF.out _ HY11.out
      have HLIT : Hid (∀ x : Nat, OwnB (w11.alloc (.cells #[.int .u8 (x : Int)] 5)) w11.heap.size (.slice (some ⟨w11.heap.size, 0, none⟩) 1 1) [x]) := hidden (fun x => lit_bytes w11 [x] (by unfold maxLen; simp))
      cases f3
      · have hl0 : OwnB (w11.alloc (.cells #[.int .u8 0] 5)) w11.heap.size (.slice (some ⟨w11.heap.size, 0, none⟩) 1 1) [0] := HLIT.out 0
        have HL0 := hidden hl0.sv
        have HN11 := hidden (HO11.out.kept (below_one w11 (.cells #[.int .u8 0] 5)))
        clear hl0
        go_wp2_with (first | (at_builtin; refine wpList_append_svf rfl _ _ rfl W.heap.size _ _ (p1 ++ p2 ++ PL ++ q1 ++ q2 ++ natsT f1 ++ q3) [0] rfl ?z1 rfl ?z2 ?e2 ?e3 ?_))
        case z1 => exact HN11.out
        case z2 => exact HL0.out
        case e2 => first | (simp only [List.length_append, List.length_singleton]; omega) | (simp; omega) | omega
        case e3 => first | exact le_alloc' HX11.out.size _ | (have := HX11.out.size; omega)
        intro v12 w12 o12 hb12 hf12
        have HO12 : Hid (OwnB w12 W.heap.size v12 (p1 ++ p2 ++ (PL ++ (q1 ++ q2 ++ natsT f1 ++ q3 ++ [flagN false])))) := hidden (by simpa [flagN] using o12)
        have HX12 := hidden ((HX11.out.alloc HX11.out.size _).trans hb12)
        clear o12 hb12 hf12 y0 y1 y2 y3
        go_wp2_with fail
        go_roundw
        case rel => exact ⟨k + 1, by omega, by go_num, by rw [HST.out, HPF.out]; exact HO12.out, HX12.out⟩
        case measure => simp [intOf]; omega
      · have hl0 : OwnB (w11.alloc (.cells #[.int .u8 1] 5)) w11.heap.size (.slice (some ⟨w11.heap.size, 0, none⟩) 1 1) [1] := HLIT.out 1
        have HL0 := hidden hl0.sv
        have HN11 := hidden (HO11.out.kept (below_one w11 (.cells #[.int .u8 1] 5)))
        clear hl0
        go_wp2_with (first | (at_builtin; refine wpList_append_svf rfl _ _ rfl W.heap.size _ _ (p1 ++ p2 ++ PL ++ q1 ++ q2 ++ natsT f1 ++ q3) [1] rfl ?z3 rfl ?z4 ?e4 ?e5 ?_))
        case z3 => exact HN11.out
        case z4 => exact HL0.out
        case e4 => first | (simp only [List.length_append, List.length_singleton]; omega) | (simp; omega) | omega
        case e5 => first | exact le_alloc' HX11.out.size _ | (have := HX11.out.size; omega)
        intro v12 w12 o12 hb12 hf12
        have HO12 : Hid (OwnB w12 W.heap.size v12 (p1 ++ p2 ++ (PL ++ (q1 ++ q2 ++ natsT f1 ++ q3 ++ [flagN true])))) := hidden (by simpa [flagN] using o12)
        have HX12 := hidden ((HX11.out.alloc HX11.out.size _).trans hb12)
        clear o12 hb12 hf12 y0 y1 y2 y3
        go_wp2_with fail
        go_roundw
        case rel => exact ⟨k + 1, by omega, by go_num, by rw [HST.out, HPF.out]; exact HO12.out, HX12.out⟩
        case measure => simp [intOf]; omega
    · obtain rfl : k = l.length := by omega
      have hge : ¬ ((l.length : Nat) : Int) < (l.length : Int) := by omega
      rw [List.take_length] at HO
      have q0 := (HT.out _ HB.out).2.2
      go_wp2_with fail
      go_ret
      rw [HP.out]
      exact ⟨⟨_, rfl, own_low HO.out HB0.out.size⟩, below_then HB0.out HB.out⟩
end Go.Proofs.Ytkohejjkpofmgaa
