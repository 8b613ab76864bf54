/- Predicates and statistics opened out of a reading. -/
import Derived.Test.YtfcnoeehfhncjaaOpen
import Derived.Test.YtfcnoeehfhncjaaPa
set_option linter.unusedVariables false
set_option linter.unusedSimpArgs false
namespace Go.Proofs.Ytfcnoeehfhncjaa
open Go.ChangeShapes Go.WideShapes Go.ChangeAt Go.RowKit Go.Lib Go.Joins

theorem cells39 : Try.prog.cellsOf 39 = 6 := by kernel_rfl
theorem cells29 : Try.prog.cellsOf 29 = 10 := by kernel_rfl
theorem cells_all {W : World} {base : Nat} {a : Addr} {cs : List Value} {n : Nat} (h : W.cells? base a n = some cs) (hn : 0 < n) : cs.length = n ∧ (∀ j, j < n → W.cell? (a.add j) = cs[j]?) ∧ a.block < W.heap.size ∧ a.spot = none := by
  have hb := World.cells?_block h hn
  obtain ⟨_, hl, hc⟩ := World.cells?_some h
  refine ⟨hl, fun j hj => hc j hj, hb, ?_⟩
  have h0 := hc 0 hn
  rw [List.getElem?_eq_getElem (by omega)] at h0
  have := World.cell?_spot h0
  obtain ⟨b, off, spot⟩ := a
  simpa [Addr.add] using this
theorem open_cell3 {H : Type} {enc : TypeId × Value → H} {W : World} {spare : Nat → Bool} {held : Bool} {fuel : Nat} {c0 c1 c2 : Value} {y : DataW H × List MemPlace}
    (hf : DataW.trod enc Try.prog W 0 spare held fuel 27 [c0, c1, c2] = some y) : ∃ x : Cl, Okc x ∧ c0 = .int .u8 (x.1 : Int) ∧ c1 = .int .i64 x.2.1 ∧ c2 = .string (bytesT x.2.2) := by
  obtain ⟨y0, y1, y2, m1, _, _, t0, t1, t2⟩ := Deep.trod_struct3 Try.underlying27 hf
  have k28 : Try.prog.cellsOf 25 = 1 := by kernel_rfl
  have k9 : Try.prog.cellsOf 9 = 1 := by kernel_rfl
  have k2 : Try.prog.cellsOf 2 = 1 := by kernel_rfl
  simp only [k28, k9, k2] at t0 t1 t2
  obtain ⟨k, q0, _, wk⟩ := DataW.trod_int Try.underlying25 t0
  obtain ⟨n, q1, _, wn⟩ := DataW.trod_int Try.underlying2 t1
  obtain ⟨s, q2, _⟩ := DataW.trod_string Try.underlying9 t2
  simp at q0 q1 q2
  subst q0 q1 q2
  have hk := bounds_u8 wk
  have hn := bounds_i64 wn
  have hI : I64 n := ⟨hn.1, by have := hn.2; omega⟩
  have hke : ((k.toNat : Nat) : Int) = k := by omega
  refine ⟨(k.toNat, n, natsT s), ⟨show k.toNat < 256 by omega, hI, natsT_bs s⟩, ?_, rfl, ?_⟩
  · show _ = (Value.int .u8 ((k.toNat : Nat) : Int))
    rw [hke]
  · rw [bytesT_nats]
theorem KidsAt.of {W : World} : ∀ {ks : List PT} {g o : Nat}, (∀ i (h : i < ks.length), Lies W g (o + i * 6) ks[i]) → KidsAt W g o ks
  | [], g, o, _ => by simp [KidsAt]
  | k :: ks, g, o, h => by
    simp only [KidsAt]
    have h00 := h 0 (by simp)
    rw [Nat.zero_mul, Nat.add_zero] at h00
    refine ⟨h00, KidsAt.of fun i hi => ?_⟩
    have := h (i + 1) (by simpa using hi)
    rw [show o + 6 + i * 6 = o + (i + 1) * 6 by omega]
    simpa using this

set_option maxRecDepth 100000 in
theorem open_pred {H : Type} {enc : TypeId × Value → H} {W : World} {spare : Nat → Bool} {held : Bool} : ∀ (fuel : Nat) (cs : List Value) (y : DataW H × List MemPlace), DataW.trod enc Try.prog W 0 spare held fuel 39 cs = some y →
    ∃ (op f : Nat) (c : Cl) (ks : List PT) (kv : Value), cs = [.int .u8 (op : Int), .int .u32 (f : Int), .int .u8 (c.1 : Int), .int .i64 c.2.1, .string (bytesT c.2.2), kv] ∧ Kids W kv ks ∧ Okp (.node op f c ks) := by
  intro fuel
  induction fuel using Nat.strongRecOn with
  | _ fuel ih =>
    intro cs y h
    obtain ⟨xs, n, hfn, _, hl, hxl, hfs⟩ := DataW.trod_struct Try.underlying39 h
    rw [cells39] at hl
    obtain ⟨c0, c1, c2, c3, c4, c5, rfl⟩ : ∃ c0 c1 c2 c3 c4 c5, cs = [c0, c1, c2, c3, c4, c5] := by
      match cs, hl with
      | [c0, c1, c2, c3, c4, c5], _ => exact ⟨c0, c1, c2, c3, c4, c5, rfl⟩
    have hx : xs.length = 4 := by simpa using hxl
    obtain ⟨y0, y1, y2, y3, rfl⟩ : ∃ y0 y1 y2 y3, xs = [y0, y1, y2, y3] := by
      match xs, hx with
      | [y0, y1, y2, y3], _ => exact ⟨y0, y1, y2, y3, rfl⟩
    have k5 : Try.prog.cellsOf 5 = 1 := by kernel_rfl
    have k36 : Try.prog.cellsOf 36 = 1 := by kernel_rfl
    have k27 : Try.prog.cellsOf 27 = 3 := by kernel_rfl
    have k37 : Try.prog.cellsOf 37 = 1 := by kernel_rfl
    have t0 := hfs 0 _ rfl
    change DataW.trod enc Try.prog W 0 spare held n 5 (([c0, c1, c2, c3, c4, c5].drop 0).take (Try.prog.cellsOf 5)) = some y0 at t0
    rw [k5] at t0
    change DataW.trod enc Try.prog W 0 spare held n 5 [c0] = some y0 at t0
    have t1 := hfs 1 _ rfl
    change DataW.trod enc Try.prog W 0 spare held n 36 (([c0, c1, c2, c3, c4, c5].drop 1).take (Try.prog.cellsOf 36)) = some y1 at t1
    rw [k36] at t1
    change DataW.trod enc Try.prog W 0 spare held n 36 [c1] = some y1 at t1
    have t2 := hfs 2 _ rfl
    change DataW.trod enc Try.prog W 0 spare held n 27 (([c0, c1, c2, c3, c4, c5].drop 2).take (Try.prog.cellsOf 27)) = some y2 at t2
    rw [k27] at t2
    change DataW.trod enc Try.prog W 0 spare held n 27 [c2, c3, c4] = some y2 at t2
    have t3 := hfs 3 _ rfl
    change DataW.trod enc Try.prog W 0 spare held n 37 (([c0, c1, c2, c3, c4, c5].drop 5).take (Try.prog.cellsOf 37)) = some y3 at t3
    rw [k37] at t3
    change DataW.trod enc Try.prog W 0 spare held n 37 [c5] = some y3 at t3
    obtain ⟨op, q0, _, wop⟩ := DataW.trod_int Try.underlying5 t0
    obtain ⟨f, q1, _, wf⟩ := DataW.trod_int Try.underlying36 t1
    simp at q0 q1
    subst q0 q1
    have hop := bounds_u8 wop
    have hf := bounds_u32 wf
    obtain ⟨c, hoc, rfl, rfl, rfl⟩ := open_cell3 t2
    obtain ⟨on, rfl⟩ := Int.eq_ofNat_of_zero_le hop.1
    obtain ⟨fn, rfl⟩ := Int.eq_ofNat_of_zero_le hf.1
    rcases DataW.trod_slice Try.underlying37 t3 with ⟨h1, _⟩ | ⟨a, len, cap, elems, rest, n', hnn, h1, _, _, hlc, hcm, hel, hcells, _, _⟩
    · simp at h1
      subst h1
      refine ⟨on, fn, c, [], _, rfl, Kids.nil _, ?_⟩
      simp only [Okp, OkpAll]
      exact ⟨by omega, by omega, hoc, trivial⟩
    · simp at h1
      subst h1
      rw [cells39] at hcells
      by_cases h0 : len = 0
      · subst h0
        refine ⟨on, fn, c, [], _, rfl, ⟨some a, cap, rfl, by simp, hcm, fun h => by simp at h⟩, ?_⟩
        simp only [Okp, OkpAll]
        exact ⟨by omega, by omega, hoc, trivial⟩
      · have hsp0 : a.spot = none := by
          have hci := hcells 0 (by omega)
          rw [List.getElem?_eq_getElem (by omega)] at hci
          obtain ⟨cs', hcs, _⟩ := Option.bind_eq_some_iff.1 hci
          have := (cells_all hcs (by omega)).2.2.2
          simpa [Addr.add] using this
        obtain ⟨b, off, spot⟩ := a
        simp only at hsp0
        subst hsp0
        have hone : ∀ i, i < len → ∃ k : PT, Okp k ∧ Lies W b (off + i * 6) k := by
          intro i hi
          have hci := hcells i hi
          rw [List.getElem?_eq_getElem (by omega)] at hci
          obtain ⟨cs', hcs, htr⟩ := Option.bind_eq_some_iff.1 hci
          obtain ⟨op', f', c', ks', kv', rfl, hk', ho'⟩ := ih n' (by omega) cs' _ htr
          obtain ⟨_, hcc, hbb, _⟩ := cells_all hcs (by omega)
          rw [addj] at hbb
          have hk : ∀ j, j < 6 → W.cell? ⟨b, off + i * 6 + j, none⟩ = [Value.int .u8 (op' : Int), .int .u32 (f' : Int), .int .u8 (c'.1 : Int), .int .i64 c'.2.1, .string (bytesT c'.2.2), kv'][j]? := fun j hj => by
            have := hcc j hj
            rwa [addj, addj] at this
          exact ⟨.node op' f' c' ks', ho', Lies.shut ⟨hbb, hk 0 (by omega), hk 1 (by omega), hk 2 (by omega), hk 3 (by omega), hk 4 (by omega), hk 5 (by omega)⟩ hk'⟩
        haveI : Inhabited PT := ⟨.node 0 0 nul []⟩
        obtain ⟨g, hg⟩ := Deep.choose_lt hone
        have hll : ((List.range len).map g).length = len := by simp
        refine ⟨on, fn, c, (List.range len).map g, _, rfl, ⟨some ⟨b, off, none⟩, cap, by rw [hll], by rw [hll]; omega, hcm, fun _ => ⟨b, off, rfl, KidsAt.of fun i hi => ?_⟩⟩, ?_⟩
        · have hi2 : i < len := by rwa [hll] at hi
          have := (hg i hi2).2
          simpa using this
        · simp only [Okp]
          refine ⟨by omega, by omega, hoc, OkpAll.of fun k hk => ?_⟩
          obtain ⟨i, hi, rfl⟩ := List.mem_map.1 hk
          exact (hg i (by simpa using hi)).1
set_option maxRecDepth 100000 in
theorem open_predV {H : Type} {enc : TypeId × Value → H} {W : World} {r : Reach} {b0 : Nat} {spare : Nat → Bool} {held : Bool} {v : Value} {d : DataW H} {p : List MemPlace}
    (hv : Value.okWide Try.prog W r b0 39 v) (h : DataW.Trod enc Try.prog W 0 spare held 39 v d p) :
    ∃ (op f : Nat) (c : Cl) (ks : List PT) (kv : Value), v = .agg #[.int .u8 (op : Int), .int .u32 (f : Int), .int .u8 (c.1 : Int), .int .i64 c.2.1, .string (bytesT c.2.2), kv] ∧ Kids W kv ks ∧ Okp (.node op f c ks) := by
  obtain ⟨cs, rfl, hsz⟩ := okWide_struct Try.underlying39 hv
  obtain ⟨fuel, hf⟩ := h
  have hf' : DataW.trod enc Try.prog W 0 spare held fuel 39 cs.toList = some (d, p) := hf
  obtain ⟨op, f, c, ks, kv, hcs, hk, ho⟩ := open_pred fuel _ _ hf'
  refine ⟨op, f, c, ks, kv, ?_, hk, ho⟩
  congr 1
  exact Array.toList_inj.1 hcs

set_option maxRecDepth 100000 in
theorem open_stats {H : Type} {enc : TypeId × Value → H} {W : World} {spare : Nat → Bool} {held : Bool} {a : Option Addr} {len cap : Nat} {d : DataW H} {p : List MemPlace}
    (h : DataW.Trod enc Try.prog W 0 spare held 50 (.slice a len cap) d p) : ∃ l : List Stt, Ss W (.slice a len cap) l ∧ ∀ x ∈ l, Oks x := by
  obtain ⟨fuel, hf⟩ := h
  rcases Deep.open_slice Try.underlying50 hf with ⟨h1, _⟩ | ⟨a1, l1, c1, m, n, D, Pl, h1, _, hlc, hm, hmm, _, hcells⟩
  · simp [Value.cells] at h1
    obtain ⟨rfl, rfl, rfl⟩ := h1
    exact ⟨[], ⟨none, 0, rfl, Nat.le_refl _, by unfold maxLen; omega, fun h => by simp at h⟩, fun x hx => by simp at hx⟩
  · simp [Value.cells] at h1
    obtain ⟨rfl, rfl, rfl⟩ := h1
    rw [cells29] at hcells
    have hlm : len ≤ m := by rw [hmm]; split <;> omega
    by_cases h0 : len = 0
    · subst h0
      exact ⟨[], ⟨some a1, cap, rfl, by simp, by omega, fun h => by simp at h⟩, fun x hx => by simp at hx⟩
    have hsp0 : a1.spot = none := by
      obtain ⟨cs, hc, _⟩ := hcells 0 (by omega)
      have := (cells_all hc (by omega)).2.2.2
      simpa [Addr.add] using this
    obtain ⟨b, off, spot⟩ := a1
    simp only at hsp0
    subst hsp0
    have hone : ∀ i, i < len → ∃ x : Stt, Oks x ∧ StAt W b (off + i * 10) x := by
      intro i hi
      obtain ⟨cs, hc, ht⟩ := hcells i (by omega)
      obtain ⟨hcl, hcc, hbb, _⟩ := cells_all hc (by omega)
      rw [addj] at hbb
      have hk : ∀ j, j < 10 → W.cell? ⟨b, off + i * 10 + j, none⟩ = cs[j]? := fun j hj => by
        have := hcc j hj
        rwa [addj, addj] at this
      clear hcc
      obtain ⟨xs, n1, _, _, hl, hxl, hfs⟩ := DataW.trod_struct Try.underlying29 ht
      obtain ⟨z0, z1, z2, z3, z4, z5, z6, z7, z8, z9, rfl⟩ : ∃ z0 z1 z2 z3 z4 z5 z6 z7 z8 z9, cs = [z0, z1, z2, z3, z4, z5, z6, z7, z8, z9] := by
        match cs, hcl with
        | [z0, z1, z2, z3, z4, z5, z6, z7, z8, z9], _ => exact ⟨z0, z1, z2, z3, z4, z5, z6, z7, z8, z9, rfl⟩
      have hx : xs.length = 6 := by simpa using hxl
      obtain ⟨y0, y1, y2, y3, y4, y5, rfl⟩ : ∃ y0 y1 y2 y3 y4 y5, xs = [y0, y1, y2, y3, y4, y5] := by
        match xs, hx with
        | [y0, y1, y2, y3, y4, y5], _ => exact ⟨y0, y1, y2, y3, y4, y5, rfl⟩
      have k3 : Try.prog.cellsOf 3 = 1 := by kernel_rfl
      have k4 : Try.prog.cellsOf 4 = 1 := by kernel_rfl
      have k27 : Try.prog.cellsOf 27 = 3 := by kernel_rfl
      have t0 := hfs 0 _ rfl
      change DataW.trod enc Try.prog W 0 spare held n1 3 (([z0, z1, z2, z3, z4, z5, z6, z7, z8, z9].drop 0).take (Try.prog.cellsOf 3)) = some y0 at t0
      rw [k3] at t0
      change DataW.trod enc Try.prog W 0 spare held n1 3 [z0] = some y0 at t0
      have t1 := hfs 1 _ rfl
      change DataW.trod enc Try.prog W 0 spare held n1 3 (([z0, z1, z2, z3, z4, z5, z6, z7, z8, z9].drop 1).take (Try.prog.cellsOf 3)) = some y1 at t1
      rw [k3] at t1
      change DataW.trod enc Try.prog W 0 spare held n1 3 [z1] = some y1 at t1
      have t2 := hfs 2 _ rfl
      change DataW.trod enc Try.prog W 0 spare held n1 4 (([z0, z1, z2, z3, z4, z5, z6, z7, z8, z9].drop 2).take (Try.prog.cellsOf 4)) = some y2 at t2
      rw [k4] at t2
      change DataW.trod enc Try.prog W 0 spare held n1 4 [z2] = some y2 at t2
      have t3 := hfs 3 _ rfl
      change DataW.trod enc Try.prog W 0 spare held n1 4 (([z0, z1, z2, z3, z4, z5, z6, z7, z8, z9].drop 3).take (Try.prog.cellsOf 4)) = some y3 at t3
      rw [k4] at t3
      change DataW.trod enc Try.prog W 0 spare held n1 4 [z3] = some y3 at t3
      have t4 := hfs 4 _ rfl
      change DataW.trod enc Try.prog W 0 spare held n1 27 (([z0, z1, z2, z3, z4, z5, z6, z7, z8, z9].drop 4).take (Try.prog.cellsOf 27)) = some y4 at t4
      rw [k27] at t4
      change DataW.trod enc Try.prog W 0 spare held n1 27 [z4, z5, z6] = some y4 at t4
      have t5 := hfs 5 _ rfl
      change DataW.trod enc Try.prog W 0 spare held n1 27 (([z0, z1, z2, z3, z4, z5, z6, z7, z8, z9].drop 7).take (Try.prog.cellsOf 27)) = some y5 at t5
      rw [k27] at t5
      change DataW.trod enc Try.prog W 0 spare held n1 27 [z7, z8, z9] = some y5 at t5
      obtain ⟨e0, q0, _, _⟩ := DataW.trod_int Try.underlying3 t0
      obtain ⟨e1, q1, _, _⟩ := DataW.trod_int Try.underlying3 t1
      obtain ⟨e2, q2, _⟩ := DataW.trod_bool Try.underlying4 t2
      obtain ⟨e3, q3, _⟩ := DataW.trod_bool Try.underlying4 t3
      simp at q0 q1 q2 q3
      subst q0 q1 q2 q3
      obtain ⟨lo, hlo, rfl, rfl, rfl⟩ := open_cell3 t4
      obtain ⟨hi', hhi, rfl, rfl, rfl⟩ := open_cell3 t5
      exact ⟨⟨e0, e1, e2, e3, lo, hi'⟩, ⟨hlo, hhi⟩, hbb, ⟨hk 0 (by omega), hk 1 (by omega), hk 2 (by omega), hk 3 (by omega)⟩, ⟨hk 4 (by omega), hk 5 (by omega), hk 6 (by omega)⟩, hk 7 (by omega), hk 8 (by omega), hk 9 (by omega)⟩
    haveI : Inhabited Stt := ⟨⟨0, 0, false, false, nul, nul⟩⟩
    obtain ⟨g, hg⟩ := Deep.choose_lt hone
    have hll : ((List.range len).map g).length = len := by simp
    refine ⟨(List.range len).map g, ⟨some ⟨b, off, none⟩, cap, by rw [hll], by rw [hll]; omega, by omega, fun _ => ⟨b, off, rfl, fun i hi => ?_⟩⟩, ?_⟩
    · have hi2 : i < len := by rwa [hll] at hi
      have := (hg i hi2).2
      simpa using this
    · intro x hx
      obtain ⟨i, hi, rfl⟩ := List.mem_map.1 hx
      exact (hg i (by simpa using hi)).1
end Go.Proofs.Ytfcnoeehfhncjaa
