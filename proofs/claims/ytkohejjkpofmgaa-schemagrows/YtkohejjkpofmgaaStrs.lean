/- A list of texts opened out of a reading; alike; slices that lie in other blocks. -/
import Derived.Test.YtkohejjkpofmgaaOpen
import Derived.Test.YtkohejjkpofmgaaVals
import Derived.Test.YtkohejjkpofmgaaAdd
set_option linter.unusedVariables false
set_option linter.unusedSimpArgs false
namespace Go.Proofs.Ytkohejjkpofmgaa
open Go.ChangeShapes Go.WideShapes Go.ChangeAt Go.RowKit Go.Lib Go.Joins

theorem cells9 : Try.prog.cellsOf 9 = 1 := by kernel_rfl
/-- Texts in memory. -/
def svals (l : List ByteArray) : List Value := l.map Value.string
theorem svals_length (l : List ByteArray) : (svals l).length = l.length := List.length_map _
theorem svals_get {l : List ByteArray} {k : Nat} (h : k < l.length) : (svals l)[k]? = some (.string l[k]) := by simp [svals, h]
theorem open_strs {H : Type} {enc : TypeId × Value → H} {W : World} {spare : Nat → Bool} {held : Bool} {a : Option Addr} {len cap : Nat} {d : DataW H} {p : List MemPlace}
    (h : DataW.Trod enc Try.prog W 0 spare held 53 (.slice a len cap) d p) : ∃ l : List ByteArray, Sv W (.slice a len cap) (svals l) := by
  obtain ⟨fuel, hf⟩ := h
  rcases Deep.open_slice Try.underlying53 hf with ⟨h1, _⟩ | ⟨a1, l1, c1, m, n, D, Pl, h1, _, hlc, hm, hmm, _, hcells⟩
  · simp [Value.cells] at h1
    obtain ⟨rfl, rfl, rfl⟩ := h1
    exact ⟨[], Sv.nil _⟩
  · simp [Value.cells] at h1
    obtain ⟨rfl, rfl, rfl⟩ := h1
    rw [cells9] at hcells
    have hlm : len ≤ m := by rw [hmm]; split <;> omega
    have hone : ∀ i, i < len → ∃ x : ByteArray, W.cell? (a1.add i) = some (.string x) := by
      intro i hi
      obtain ⟨cs, hc, ht⟩ := hcells i (by omega)
      rw [Nat.mul_one] at hc
      obtain ⟨c0, rfl, e0⟩ := cells_one hc
      obtain ⟨s, q1, _⟩ := DataW.trod_string Try.underlying9 ht
      simp at q1
      subst q1
      exact ⟨s, e0⟩
    obtain ⟨f, hf2⟩ := Deep.choose_lt hone
    have hlen : (svals ((List.range len).map f)).length = len := by simp [svals]
    refine ⟨(List.range len).map f, ⟨some a1, cap, by rw [hlen], by omega, by omega, fun h => (by cases h), fun h0 => ?_⟩⟩
    obtain ⟨b, off, spot⟩ := a1
    have hspot : spot = none := by
      have := World.cell?_spot (hf2 0 (by omega))
      simpa [Addr.add] using this
    subst hspot
    have hb : b < W.heap.size := by
      obtain ⟨cs, hc, _⟩ := hcells 0 (by omega)
      have := World.cells?_block hc (by omega)
      simpa [Addr.add] using this
    refine ⟨b, off, rfl, hb, fun j x hj => ?_⟩
    have hjl : j < len := by
      have := (List.getElem?_eq_some_iff.1 hj).1
      omega
    have h3 := hf2 j hjl
    rw [addj] at h3
    rw [h3, ← hj]
    simp [svals, hjl]

theorem alike_any {w : World} {v1 v2 : Value} {l m : List Cl} (h1 : Sv w v1 (vvals l)) (h2 : Sv w v2 (vvals m)) (f1 : ∀ c ∈ l, Fine c) (f2 : ∀ c ∈ m, Fine c) (hl : l.length ≤ 600) (hm : m.length ≤ 600) :
    Calls Try.prog 26 #[v1, v2] w fun e w' => e = .returned (.bool (decide (l = m))) ∧ Below w.heap.size w w' := by
  have HS2 := hidden h2
  have HC1 := hidden (cells_any h1 f1 hl)
  have HB1 : Hid (∀ c ∈ l, Bs c.2.2) := hidden (fun c hc => (f1 c hc).okc.2.2)
  have HB2 : Hid (∀ c ∈ m, Bs c.2.2) := hidden (fun c hc => (f2 c hc).okc.2.2)
  have HF2 := hidden f2
  clear h1 h2 f1 f2
  go_enter Try.func26, Try.ntmps26
  go_wp2_with fail
  refine HC1.out.mono ?_
  rintro e w1 ⟨⟨u1, rfl, o1⟩, hb1⟩
  have HO1 := hidden o1.sc
  have HX1 := hidden hb1
  clear o1 hb1
  go_wp2_with fail
  refine (cells_any (HS2.out.kept HX1.out) HF2.out hm).mono ?_
  rintro e w2 ⟨⟨u2, rfl, o2⟩, hb2⟩
  have HO2 := hidden o2.sc
  have HO1' := hidden (HO1.out.kept hb2)
  have HX2 := hidden (below_then HX1.out hb2)
  clear o2 hb2
  go_wp2_with fail
  refine (sameRow_any HO1'.out HO2.out HB1.out HB2.out).mono ?_
  rintro e w3 ⟨rfl, hb3⟩
  have HX3 := hidden (below_then HX2.out hb3)
  clear hb3
  go_wp2_with fail
  go_ret
  exact ⟨rfl, HX3.out⟩

/-- A slice that isn't in block q. -/
def Off (q : Nat) (v : Value) : Prop := ∀ g o s n c, v = .slice (some ⟨g, o, s⟩) n c → 0 < n → g ≠ q
theorem Sf.off {W : World} {v : Value} {l : List Fd} (h : Sf W v l) {q : Nat} (hq : W.heap.size ≤ q) : Off q v := by
  rintro g o s n c rfl hn
  obtain ⟨a, cap, e, _, _, _, h4⟩ := h
  simp only [Value.slice.injEq] at e
  obtain ⟨e1, rfl, _⟩ := e
  obtain ⟨b, off, h5, h6, _⟩ := h4 hn
  rw [h5] at e1
  simp only [Option.some.injEq, Addr.mk.injEq] at e1
  omega
theorem Sv.off {W : World} {v : Value} {l : List Value} (h : Sv W v l) {q : Nat} (hq : W.heap.size ≤ q) : Off q v := by
  rintro g o s n c rfl hn
  obtain ⟨a, cap, e, _, _, _, h4⟩ := h
  simp only [Value.slice.injEq] at e
  obtain ⟨e1, rfl, _⟩ := e
  obtain ⟨b, off, h5, h6, _⟩ := h4 hn
  rw [h5] at e1
  simp only [Option.some.injEq, Addr.mk.injEq] at e1
  omega
theorem own_off {W : World} {B e size n q : Nat} {v : Value} {xs : List Value} (h : W.ownsRow B e size v n xs) (hq : q < B) : Off q v := by
  rintro g o s k c rfl _
  obtain ⟨_, h | ⟨g', cap, cur, h1, h2, _⟩⟩ := h
  · cases h.1
  · simp only [Value.slice.injEq, Option.some.injEq, Addr.mk.injEq] at h1
    omega
theorem Sf.fr {W W' : World} {v : Value} {l : List Fd} (h : Sf W v l) {q : Nat} (ho : Off q v) (hf : Fr q W.heap.size W W') : Sf W' v l := by
  obtain ⟨a, cap, rfl, h2, h3, h0, h4⟩ := h
  refine ⟨a, cap, rfl, h2, h3, h0, fun hp => ?_⟩
  obtain ⟨b, off, rfl, h6, h7⟩ := h4 hp
  exact ⟨b, off, rfl, Nat.lt_of_lt_of_le h6 hf.size, fun j x hj => (World.cell?_of_block (hf.block b h6 (ho _ _ _ _ _ rfl hp))).trans (h7 j x hj)⟩
theorem Sv.fr {W W' : World} {v : Value} {l : List Value} (h : Sv W v l) {q : Nat} (ho : Off q v) (hf : Fr q W.heap.size W W') : Sv W' v l := by
  obtain ⟨a, cap, rfl, h2, h3, h0, h4⟩ := h
  refine ⟨a, cap, rfl, h2, h3, h0, fun hp => ?_⟩
  obtain ⟨b, off, rfl, h6, h7⟩ := h4 hp
  exact ⟨b, off, rfl, Nat.lt_of_lt_of_le h6 hf.size, fun j x hj => (World.cell?_of_block (hf.block b h6 (ho _ _ _ _ _ rfl hp))).trans (h7 j x hj)⟩

/-- What grew out of l and its row FR: fields T, row N, number id. -/
def Grw (l : List Fd) (FR : List Cl) (T : List Fd) (N : List Cl) (id : Nat) : Prop :=
  ∃ m : List Fd, T = l ++ m ∧ N = FR ++ List.replicate m.length nul ∧ (∀ f ∈ m, f.2.2.2 = false) ∧ (∀ f ∈ T, Okf f) ∧ chk id T = 0 ∧ id < 4294967296
theorem Grw.start {l : List Fd} {FR : List Cl} {id : Nat} (ho : ∀ f ∈ l, Okf f) (hc : chk id l = 0) (hid : id < 4294967296) : Grw l FR l FR id :=
  ⟨[], by simp, by simp, fun f hf => by simp at hf, ho, hc, hid⟩
theorem Grw.next {l T : List Fd} {FR N : List Cl} {id k : Nat} {n : ByteArray} (h : Grw l FR T N id) (hl : FR.length = l.length) (hk : k < 256) (he : (addM id T n k).2.2 = 0) :
    ∃ f, addM id T n k = (id + 1, T ++ [f], 0) ∧ Grw l FR (T ++ [f]) (N ++ [nul]) (id + 1) ∧ liftM T (T ++ [f]) N = N ++ [nul] ∧ T.length ≤ 7 ∧ chk (id + 1) (T ++ [f]) = 0 ∧ id + 1 < 4294967296 := by
  obtain ⟨m, rfl, rfl, h3, h4, h5, h6⟩ := h
  obtain ⟨g1, g2, g3, g4, g5⟩ := add_ok he
  have hr := chk_rise g4
  have hfull : ¬ ((l ++ m).length = 8 ∨ id = 4294967295 ∨ lastI (l ++ m) = 4294967295) := by
    intro h
    unfold fullB at g2
    rw [decide_eq_true h] at g2
    cases g2
  have hlast : lastI (l ++ m) < 4294967296 := by
    have h0 := (chk_rise g1).2.1
    rw [lastI_get h0]
    exact (h4 _ (List.getElem_mem _)).1
  have hlen := hr.2.2.1
  rw [List.length_append, List.length_singleton] at hlen
  refine ⟨(lastI (l ++ m) + 1, n, k, false), g3, ⟨m ++ [(lastI (l ++ m) + 1, n, k, false)], by simp, by simp [List.replicate_succ'], ?_, ?_, g4, by omega⟩, lift_more hr.1 hl (by simp), by omega, g4, by omega⟩
  · intro f hf
    rcases List.mem_append.1 hf with h | h
    · exact h3 f h
    · rw [List.mem_singleton] at h; rw [h]
  · intro f hf
    rcases List.mem_append.1 hf with h | h
    · exact h4 f h
    · rw [List.mem_singleton] at h; rw [h]; exact ⟨by show lastI (l ++ m) + 1 < 4294967296; omega, hk⟩
theorem Grw.ends {l T : List Fd} {FR N : List Cl} {id : Nat} (h : Grw l FR T N id) (hf : fitM l FR = 0) : fitM T N = 0 ∧ liftM l T FR = N ∧ liftM l l FR = FR ∧ liftM T l N = FR := by
  obtain ⟨m, rfl, rfl, h3, h4, h5, h6⟩ := h
  have hl := fit_len hf
  have hr := (chk_rise h5).1
  have hrl : Rise l := (List.pairwise_append.1 hr).1
  exact ⟨fit_grown hf h3, lift_grown hr hl, lift_self hrl hl, lift_back hr hl⟩
theorem Grw.sizes {l T : List Fd} {FR N : List Cl} {id : Nat} (h : Grw l FR T N id) (hl : FR.length = l.length) : T.length ≤ 8 ∧ 0 < T.length ∧ N.length = T.length ∧ l.length ≤ 8 := by
  obtain ⟨m, rfl, rfl, h3, h4, h5, h6⟩ := h
  have hr := chk_rise h5
  have h7 := hr.2.2.1
  refine ⟨h7, hr.2.1, by simp [hl], ?_⟩
  rw [List.length_append] at h7
  omega
theorem Grw.fine {l T : List Fd} {FR N : List Cl} {id : Nat} (h : Grw l FR T N id) (hf : ∀ c ∈ FR, Fine c) : ∀ c ∈ N, Fine c := by
  obtain ⟨m, rfl, rfl, _⟩ := h
  intro c hc
  rcases List.mem_append.1 hc with h | h
  · exact hf c h
  · rw [(List.mem_replicate.1 h).2]; exact Or.inl rfl
theorem Grw.okf {l T : List Fd} {FR N : List Cl} {id : Nat} (h : Grw l FR T N id) : (∀ f ∈ T, Okf f) ∧ chk id T = 0 ∧ id < 4294967296 := by
  obtain ⟨m, _, _, _, h4, h5, h6⟩ := h
  exact ⟨h4, h5, h6⟩

/-- In the loop: w5 ahead of the block q of t; t is (id, tv), now is nv. -/
def Gr (w5 : World) (wr : World) (nv : Value) (T : List Fd) (N : List Cl) (id : Nat) (tv : Value) : Prop :=
  Below w5.heap.size w5 wr ∧ wr.heap[w5.heap.size]? = some (.cells #[.int .u32 (id : Int), tv] 25 (0, 0)) ∧ Sf wr tv T ∧ Off w5.heap.size tv ∧ Sv wr nv (vvals N) ∧ Off w5.heap.size nv
theorem Gr.lt {w5 wr : World} {nv : Value} {T : List Fd} {N : List Cl} {id : Nat} {tv : Value} (h : Gr w5 wr nv T N id tv) : w5.heap.size < wr.heap.size := (Array.getElem?_eq_some_iff.1 h.2.1).1
theorem Gr.kept {w5 wr w' : World} {nv : Value} {T : List Fd} {N : List Cl} {id : Nat} {tv : Value} (h : Gr w5 wr nv T N id tv) (hb : Below wr.heap.size wr w') : Gr w5 w' nv T N id tv :=
  ⟨below_then h.1 hb, (hb.block _ h.lt).trans h.2.1, h.2.2.1.kept hb, h.2.2.2.1, h.2.2.2.2.1.kept hb, h.2.2.2.2.2⟩
theorem Gr.facts {w5 wr : World} {nv : Value} {T : List Fd} {N : List Cl} {id : Nat} {tv : Value} (h : Gr w5 wr nv T N id tv) :
    (wr.cell? ⟨w5.heap.size, 0, none⟩ = some (.int .u32 (id : Int)) ∧ wr.cell? ⟨w5.heap.size, 1, none⟩ = some tv) ∧ (wr.frozen? ⟨w5.heap.size, 0, none⟩ = false ∧ wr.frozen? ⟨w5.heap.size, 1, none⟩ = false) := by
  obtain ⟨_, h2, _⟩ := h
  refine ⟨⟨?_, ?_⟩, ⟨?_, ?_⟩⟩ <;> first | (rw [cell_block h2]; rfl) | (simp [World.frozen?, h2]; done)
theorem Gr.next {w5 wr : World} {nv nv' : Value} {T T' : List Fd} {N N' : List Cl} {id id' : Nat} {tv tv' : Value} (h : Gr w5 wr nv T N id tv) (ht : Sf wr tv' T') (ho : Off w5.heap.size tv') (hn : Sv wr nv' (vvals N')) (hn' : Off w5.heap.size nv') :
    Gr w5 ((wr.setCell ⟨w5.heap.size, 0, none⟩ (.int .u32 (id' : Int))).setCell ⟨w5.heap.size, 1, none⟩ tv') nv' T' N' id' tv' := by
  have hf : Fr w5.heap.size wr.heap.size wr ((wr.setCell ⟨w5.heap.size, 0, none⟩ (.int .u32 (id' : Int))).setCell ⟨w5.heap.size, 1, none⟩ tv') := ((Fr.refl _ _ wr).set 0 _).set 1 _
  exact ⟨below_set2 h.1 (Nat.le_refl _) _ _, by rw [heap_set (heap_set h.2.1 0 _)]; rfl, ht.fr ho hf, ho, hn.fr hn' hf, hn'⟩

/-- u in its block p. -/
def Ux (wr : World) (p : Nat) (X : World) (ri : Nat) (v : Value) (rl : List Fd) : Prop :=
  Below wr.heap.size wr X ∧ wr.heap.size ≤ p ∧ X.heap[p]? = some (.cells #[.int .u32 (ri : Int), v] 25 (0, 0)) ∧ OwnF X wr.heap.size v rl
theorem Ux.lt {wr X : World} {p ri : Nat} {v : Value} {rl : List Fd} (h : Ux wr p X ri v rl) : p < X.heap.size := (Array.getElem?_eq_some_iff.1 h.2.2.1).1
theorem Ux.kept {wr X X' : World} {p ri : Nat} {v : Value} {rl : List Fd} (h : Ux wr p X ri v rl) (hb : Below X.heap.size X X') : Ux wr p X' ri v rl :=
  ⟨below_then h.1 hb, h.2.1, (hb.block _ h.lt).trans h.2.2.1, h.2.2.2.kept hb⟩
theorem Ux.facts {wr X : World} {p ri : Nat} {v : Value} {rl : List Fd} (h : Ux wr p X ri v rl) : X.cell? ⟨p, 0, none⟩ = some (.int .u32 (ri : Int)) ∧ X.cell? ⟨p, 1, none⟩ = some v := by
  obtain ⟨_, _, h2, _⟩ := h
  exact ⟨by rw [cell_block h2]; rfl, by rw [cell_block h2]; rfl⟩
theorem Ux.one {wr w6 : World} {ri : Nat} {v : Value} {rl : List Fd} (ho : OwnF w6 wr.heap.size v rl) (hb : Below wr.heap.size wr w6) : Ux wr w6.heap.size (w6.alloc (.cells #[.int .u32 (ri : Int), v] 25)) ri v rl :=
  ⟨below_then hb (below_one _ _), hb.size, heap_alloc_new w6 _, ho.kept (below_one _ _)⟩
theorem Ux.two {wr w6 : World} {ri : Nat} {v : Value} {rl : List Fd} {x0 x1 : Value} (ho : OwnF w6 (wr.heap.size + 1) v rl) (hb : Below wr.heap.size wr w6) (hh : w6.heap[wr.heap.size]? = some (.cells #[x0, x1] 25 (0, 0))) :
    Ux wr wr.heap.size ((w6.setCell ⟨wr.heap.size, 0, none⟩ (.int .u32 (ri : Int))).setCell ⟨wr.heap.size, 1, none⟩ v) ri v rl :=
  ⟨below_set2 hb (Nat.le_refl _) _ _, Nat.le_refl _, by rw [heap_set (heap_set hh 0 _)]; rfl, (own_set2 ho (by omega) _ _).low (by omega)⟩
end Go.Proofs.Ytkohejjkpofmgaa
