/- The contract of the law's Row: a list of cells into a list of values. -/
import Derived.Test.YtamigccnkhoidaaLift
import Derived.Deep.Slices
import Derived.WalkSpells
namespace Go.Proofs.Ytamigccnkhoidaa
open Go.ChangeShapes Go.WideShapes Go.ChangeAt Go.RowKit

theorem hidden {p : Prop} (h : p) : Hid p := h

/-- The cells of a list that came in, from address (b, off) on. -/
def RowAt (w : World) (b off len : Nat) (f : Nat → Int × Int × ByteArray) : Prop :=
  ∀ i, i < len → 0 ≤ (f i).1 ∧ w.cell? ⟨b, off + i * 3, none⟩ = some (.int .u8 (f i).1) ∧ w.cell? ⟨b, off + i * 3 + 1, none⟩ = some (.int .i64 (f i).2.1) ∧ w.cell? ⟨b, off + i * 3 + 2, none⟩ = some (.string (f i).2.2)

theorem cells_three {W : World} {base : Nat} {a : Addr} {cs : List Value} (h : W.cells? base a 3 = some cs) : ∃ c0 c1 c2, cs = [c0, c1, c2] ∧ W.cell? (a.add 0) = some c0 ∧ W.cell? (a.add 1) = some c1 ∧ W.cell? (a.add 2) = some c2 := by
  obtain ⟨_, hl, hc⟩ := World.cells?_some h
  match cs, hl with
  | [c0, c1, c2], _ => exact ⟨c0, c1, c2, rfl, by simpa using hc 0 (by omega), by simpa using hc 1 (by omega), by simpa using hc 2 (by omega)⟩

theorem open_row {H : Type} {enc : TypeId × Value → H} {W : World} {spare : Nat → Bool} {held : Bool} {a : Option Addr} {len cap : Nat} {d : DataW H} {p : List MemPlace}
    (h : DataW.Trod enc Try.prog W 0 spare held 57 (.slice a len cap) d p) (hp : 0 < len) :
    ∃ b off f, a = some ⟨b, off, none⟩ ∧ b < W.heap.size ∧ RowAt W b off len f := by
  obtain ⟨fuel, hf⟩ := h
  rcases Deep.open_slice Try.underlying57 hf with ⟨h1, _⟩ | ⟨a1, l1, c1, m, n, D, Pl, h1, _, hlc, hm, hmm, _, hcells⟩
  · simp [Value.cells] at h1; omega
  · simp [Value.cells] at h1
    obtain ⟨rfl, rfl, rfl⟩ := h1
    rw [cells24] at hcells
    have hlm : len ≤ m := by rw [hmm]; split <;> omega
    have hone : ∀ i, i < len → ∃ x : Int × Int × ByteArray, 0 ≤ x.1 ∧ W.cell? ((a1.add (i * 3)).add 0) = some (.int .u8 x.1) ∧ W.cell? ((a1.add (i * 3)).add 1) = some (.int .i64 x.2.1) ∧ W.cell? ((a1.add (i * 3)).add 2) = some (.string x.2.2) := by
      intro i hi
      obtain ⟨cs, hc, ht⟩ := hcells i (by omega)
      obtain ⟨c0, c1, c2, rfl, e0, e1, e2⟩ := cells_three hc
      obtain ⟨y0, y1, y2, m1, _, _, t0, t1, t2⟩ := Deep.trod_struct3 Try.underlying24 ht
      have k22 : Try.prog.cellsOf 22 = 1 := by kernel_rfl
      have k9 : Try.prog.cellsOf 9 = 1 := by kernel_rfl
      simp only [k22, k9, cells2] at t0 t1 t2
      obtain ⟨k, q0, _, wk⟩ := DataW.trod_int Try.underlying22 t0
      obtain ⟨n, q1, _, _⟩ := DataW.trod_int Try.underlying2 t1
      obtain ⟨s, q2, _⟩ := DataW.trod_string Try.underlying9 t2
      simp at q0 q1 q2
      subst q0 q1 q2
      exact ⟨(k, n, s), (bounds_u8 wk).1, e0, e1, e2⟩
    obtain ⟨f, hf2⟩ := Deep.choose_lt hone
    obtain ⟨b, off, spot⟩ := a1
    have hspot : spot = none := by
      have := World.cell?_spot (hf2 0 hp).2.1
      simpa [Addr.add] using this
    subst hspot
    have hb : b < W.heap.size := by
      obtain ⟨cs, hc, _⟩ := hcells 0 (by omega)
      have := World.cells?_block hc (by omega)
      simpa [Addr.add] using this
    refine ⟨b, off, f, rfl, hb, fun i hi => ?_⟩
    obtain ⟨g0, g1, g2, g3⟩ := hf2 i hi
    rw [Deep.add_add] at g1 g2 g3
    refine ⟨g0, ?_, ?_, ?_⟩
    · by_cases h0 : i = 0
      · subst h0; simpa [Addr.add] using g1
      · have h3 : ¬ i * 3 = 0 := by omega
        simpa [Addr.add, h3] using g1
    · simpa [Addr.add, Nat.add_assoc] using g2
    · simpa [Addr.add, Nat.add_assoc] using g3

theorem own_kept {w w' : World} {B e size n : Nat} {v : Value} {xs : List Value} (h : w.ownsRow B e size v n xs) (hb : Below w.heap.size w w') : w'.ownsRow B e size v n xs := by
  obtain ⟨hl, h⟩ := h
  refine ⟨hl, ?_⟩
  rcases h with h | ⟨g, cap, cur, h1, h2, h3, h4⟩
  · exact Or.inl h
  · have hg : g < w.heap.size := by
      rcases Nat.lt_or_ge g w.heap.size with hg | hg
      · exact hg
      · rw [Array.getElem?_eq_none hg] at h3; cases h3
    exact Or.inr ⟨g, cap, cur, h1, h2, (hb.block g hg).trans h3, h4⟩

theorem val_form {v : Value} {k n : Int} {s : ByteArray} (h : Val v k n s) : v = .nilIface ∨ ∃ t u, v = .iface t u := by
  rcases h with h | h | ⟨b, h⟩ | h
  · exact Or.inl h.1
  · exact Or.inr ⟨_, _, h.1⟩
  · exact Or.inr ⟨_, _, h.1⟩
  · exact Or.inr ⟨_, _, h.1⟩

theorem info26 : (Try.prog.info? 26).map (fun i => (i.zero, i.size, i.bytes)) = some (some .nilIface, 1, 16) := by kernel_rfl

/-- One value more. -/
theorem vals_snoc {j : Nat} {xs : List Value} {x : Value} {f : Nat → Int × Int × ByteArray} (hl : xs.length = j) (h : ∀ i, i < j → Val (xs.getD i .nilIface) (fk (f i).1 (f i).2.1 (f i).2.2) (fn (f i).1 (f i).2.1 (f i).2.2) (fs (f i).1 (f i).2.1 (f i).2.2))
    (hx : Val x (fk (f j).1 (f j).2.1 (f j).2.2) (fn (f j).1 (f j).2.1 (f j).2.2) (fs (f j).1 (f j).2.1 (f j).2.2)) :
    ∀ i, i < j + 1 → Val ((xs ++ [x]).getD i .nilIface) (fk (f i).1 (f i).2.1 (f i).2.2) (fn (f i).1 (f i).2.1 (f i).2.2) (fs (f i).1 (f i).2.1 (f i).2.2) := by
  intro i hi
  by_cases h1 : i < j
  · have := h i h1
    rw [List.getD_eq_getElem?_getD] at this ⊢
    rwa [List.getElem?_append_left (by omega)]
  · obtain rfl : i = j := by omega
    rw [List.getD_eq_getElem?_getD, List.getElem?_append_right (by omega)]
    simpa [hl] using hx

set_option maxHeartbeats 1000000 in
theorem row_any (b off len cap : Nat) (f : Nat → Int × Int × ByteArray) (w : World) (hlen : len ≤ 60) (hbw : b < w.heap.size) (hrow : RowAt w b off len f) :
    Calls Try.prog 25 #[.slice (some ⟨b, off, none⟩) len cap] w fun e w' => (∃ v xs, e = .returned v ∧ w'.ownsRow w.heap.size 26 1 v len xs ∧ ∀ i, i < len → Val (xs.getD i .nilIface) (fk (f i).1 (f i).2.1 (f i).2.2) (fn (f i).1 (f i).2.1 (f i).2.2) (fs (f i).1 (f i).2.1 (f i).2.2)) ∧ Below w.heap.size w w' := by
  have HR : Hid (RowAt w b off len f) := hrow
  clear hrow
  obtain ⟨i0, hi, hz0, hz1', hz2⟩ := info_parts info26
  go_enter Try.func25, Try.ntmps25
  go_wp2_with fail
  go_loopw [3, 4] (fun v i wr => ∃ (j : Nat) (xs : List Value), j ≤ len ∧ i = .int .i64 j ∧ wr.ownsRow w.heap.size 26 1 v j xs ∧ (∀ i, i < j → Val (xs.getD i .nilIface) (fk (f i).1 (f i).2.1 (f i).2.2) (fn (f i).1 (f i).2.1 (f i).2.2) (fs (f i).1 (f i).2.1 (f i).2.2)) ∧ Below w.heap.size w wr) (fun _ i _ => len - (intOf i).toNat)
  case atStart => exact ⟨0, [], by omega, rfl, World.ownsRow_nil _ _ _ _, fun i hi => by omega, Below.refl _ _⟩
  case round =>
    obtain ⟨j, xs, hj, rfl, hown, hval, hbel⟩ := hrel
    by_cases hlt : j < len
    · obtain ⟨h0, h1, h2, h3⟩ := HR.out j hlt
      have c0 := (hbel.cell (p := ⟨b, off + j * 3, none⟩) hbw).trans h1
      have c1 := (hbel.cell (p := ⟨b, off + j * 3 + 1, none⟩) hbw).trans h2
      have c2 := (hbel.cell (p := ⟨b, off + j * 3 + 2, none⟩) hbw).trans h3
      clear h1 h2 h3
      have HO := hidden hown
      have HV := hidden hval
      have HB := hidden hbel
      have hzr := hbel.size
      clear hval hbel hown
      go_wp2_with fail
      refine (value_any _ _ _ h0 _).mono ?_
      rintro e w1 ⟨⟨x, rfl, hx⟩, hb1⟩
      have hz1 := hb1.size
      have HO1 := hidden (own_kept HO.out hb1)
      have hxl : xs.length = j := by have := HO.out.1; omega
      clear c0 c1 c2 h0
      rcases val_form hx with rfl | ⟨t, u, rfl⟩
      · go_wp2_with (first | (at_builtin; refine wpList_append_own _ rfl _ _ 58 rfl w.heap.size 26 i0 .nilIface 1 16 Try.underlying58 hi hz0 hz1' hz2 rfl (by decide) _ _ _ rfl (HO1.out.alloc _) ⟨w1.heap.size, 0, none⟩ 1 1 [.nilIface] rfl rfl ?c1 ?c2 ?c3 ?c4 ?c5 ?_))
        case c1 => exact cell_one_new _ _ _
        case c2 => intro u hu; simp at hu; subst hu; rfl
        case c3 => unfold maxLen; omega
        case c4 => omega
        case c5 => simp; omega
        · intro v' w2 hown' hgrow _
          have HR2 := hidden hown'
          have HG2 := hidden hgrow
          clear hown' hgrow
          go_wp2_with fail
          go_roundw
          case rel => exact ⟨j + 1, xs ++ [_], by omega, by go_num, HR2.out, vals_snoc hxl HV.out hx, ((HB.out.trans (hb1.mono hzr)).alloc (by omega) _).grown HG2.out (by simp; omega) (fun k hk => (HO1.out.lt k hk).1)⟩
          case measure => simp [intOf]; omega
      · go_wp2_with (first | (at_builtin; refine wpList_append_own _ rfl _ _ 58 rfl w.heap.size 26 i0 .nilIface 1 16 Try.underlying58 hi hz0 hz1' hz2 rfl (by decide) _ _ _ rfl (HO1.out.alloc _) ⟨w1.heap.size, 0, none⟩ 1 1 [.iface t u] rfl rfl ?c1 ?c2 ?c3 ?c4 ?c5 ?_))
        case c1 => exact cell_one_new _ _ _
        case c2 => intro u hu; simp at hu; subst hu; rfl
        case c3 => unfold maxLen; omega
        case c4 => omega
        case c5 => simp; omega
        · intro v' w2 hown' hgrow _
          have HR2 := hidden hown'
          have HG2 := hidden hgrow
          clear hown' hgrow
          go_wp2_with fail
          go_roundw
          case rel => exact ⟨j + 1, xs ++ [_], by omega, by go_num, HR2.out, vals_snoc hxl HV.out hx, ((HB.out.trans (hb1.mono hzr)).alloc (by omega) _).grown HG2.out (by simp; omega) (fun k hk => (HO1.out.lt k hk).1)⟩
          case measure => simp [intOf]; omega
    · have : j = len := by omega
      subst this
      go_wp2_with fail
      go_ret
      exact ⟨⟨_, xs, rfl, hown, hval⟩, hbel⟩
end Go.Proofs.Ytamigccnkhoidaa
