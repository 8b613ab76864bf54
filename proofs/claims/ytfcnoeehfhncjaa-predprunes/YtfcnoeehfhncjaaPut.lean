/- Lists in memory, and what stays; what walks share. -/
import Derived.Test.YtfcnoeehfhncjaaRows
import Derived.Test.YtfcnoeehfhncjaaModel
import Derived.WalkKit
import Derived.WalkLawsBesides
import Derived.Outline
import Derived.WalkSpells
import Derived.Lib.OthersKept
import Derived.Maps.AppendAt
import Derived.Laws.OwnMore
import Derived.BigQuiet
import Derived.BigRegion
import Derived.Deep.RegionHeld3
import Derived.Deep.RegionWith
set_option linter.unusedVariables false
set_option linter.unusedSimpArgs false
namespace Go.Proofs.Ytfcnoeehfhncjaa
open Go.RowKit Go.Lib

theorem hidden {p : Prop} (h : p) : Hid p := h

def vals (k : IntKind) (l : List Nat) : List Value := l.map fun (n : Nat) => Value.int k (n : Int)

theorem vals_append (k : IntKind) (a b : List Nat) : vals k (a ++ b) = vals k a ++ vals k b := List.map_append

theorem vals_length (k : IntKind) (a : List Nat) : (vals k a).length = a.length := List.length_map _

theorem vals_get {k : IntKind} {l : List Nat} {j : Nat} (h : j < l.length) : (vals k l)[j]? = some (.int k (l[j] : Int)) := by simp [vals, h]

theorem vals_set (k : IntKind) (l : List Nat) (j c : Nat) : (vals k l).set j (.int k (c : Int)) = vals k (l.set j c) := by simp [vals, List.map_set]

theorem vals_oneCell (k : IntKind) (l : List Nat) : ∀ u ∈ vals k l, u.oneCell' = true := by
  intro u hu
  obtain ⟨b, _, rfl⟩ := List.mem_map.1 hu
  rfl

theorem info5 : (Try.prog.info? 5).map (fun i => (i.zero, i.size, i.bytes)) = some (some (.int .u8 0), 1, 1) := by kernel_rfl

theorem add0 (g j : Nat) : (⟨g, 0, none⟩ : Addr).add j = ⟨g, j, none⟩ := by unfold Addr.add; split <;> simp_all

theorem addj (b off j : Nat) : (⟨b, off, none⟩ : Addr).add j = ⟨b, off + j, none⟩ := by unfold Addr.add; split <;> simp_all

theorem own_kept {w w' : World} {B e size n : Nat} {v : Value} {xs : List Value} (h : w.ownsRow B e size v n xs) (hb : Below w.heap.size w w') : w'.ownsRow B e size v n xs := by
  obtain ⟨hl, h⟩ := h
  refine ⟨hl, ?_⟩
  rcases h with h | ⟨g, cap, cur, h1, h2, h3, h4⟩
  · exact Or.inl h
  · have hg : g < w.heap.size := by
      rcases Nat.lt_or_ge g w.heap.size with hg | hg
      · exact hg
      · rw [Array.getElem?_eq_none hg] at h3; cases h3
    exact Or.inr ⟨g, cap, cur, h1, h2, (hb.block g hg).trans h3, h4⟩

/-- A slice whose numbers are l. -/
def Sx (k : IntKind) (W : World) (v : Value) (l : List Nat) : Prop :=
  ∃ a cap, v = .slice a l.length cap ∧ l.length ≤ maxLen ∧
    (0 < l.length → ∃ b off, a = some ⟨b, off, none⟩ ∧ b < W.heap.size ∧ ∀ j (h : j < l.length), W.cell? ⟨b, off + j, none⟩ = some (.int k (l[j] : Int)))

theorem Sx.kept {k : IntKind} {W W' : World} {v : Value} {l : List Nat} (h : Sx k W v l) (hb : Below W.heap.size W W') : Sx k W' v l := by
  obtain ⟨a, cap, rfl, h1, h3⟩ := h
  refine ⟨a, cap, rfl, h1, fun h0 => ?_⟩
  obtain ⟨b, off, rfl, h4, h5⟩ := h3 h0
  exact ⟨b, off, rfl, Nat.lt_of_lt_of_le h4 hb.size, fun j hj => (hb.cell (p := ⟨b, off + j, none⟩) h4).trans (h5 j hj)⟩

theorem Sx.of_own {k : IntKind} {W : World} {B e n : Nat} {v : Value} {l : List Nat} (h : W.ownsRow B e 1 v n (vals k l)) : Sx k W v l := by
  have hl : l.length = n := by have := h.1; simpa [vals] using this
  obtain ⟨_, h1⟩ := id h
  rcases h1 with ⟨rfl, rfl⟩ | ⟨g, cap, cur, rfl, hb, hg, h4, h5, _⟩
  · exact ⟨none, 0, by rw [hl], by unfold maxLen; omega, fun h0 => by omega⟩
  · refine ⟨_, cap, by rw [hl], by omega, fun _ => ⟨g, 0, rfl, (Array.getElem?_eq_some_iff.1 hg).1, fun j hj => ?_⟩⟩
    have := h.cells (g := g) rfl j _ (vals_get hj)
    rw [add0] at this
    rwa [Nat.zero_add]

theorem Sx.len {k : IntKind} {W : World} {v : Value} {l : List Nat} (h : Sx k W v l) : l.length ≤ maxLen := by obtain ⟨_, _, _, h, _⟩ := h; exact h

/-- The text of bytes. -/
def txt (l : List Nat) : Value := .string ⟨(l.map Nat.toUInt8).toArray⟩

set_option maxRecDepth 100000 in
theorem Sx.conv {W : World} {v : Value} {l : List Nat} (h : Sx .u8 W v l) (h8 : ∀ x ∈ l, x < 256) : (convert 100 9 v).run Try.prog W = .ok (txt l) W := by
  obtain ⟨a, cap, rfl, h1, h3⟩ := h
  rcases Nat.eq_zero_or_pos l.length with h0 | hp
  · obtain rfl : l = [] := List.eq_nil_of_length_eq_zero h0
    first
      | exact run_convert_bytes_back_empty W 24 9 5 a cap Try.underlying100 Try.underlying5 Try.underlying9
      | (cases a <;> rfl)
      | (cases a <;> kernel_rfl)
  · obtain ⟨b, off, rfl, h4, h5⟩ := h3 hp
    have := run_convert_bytes_back W 100 9 5 ⟨b, off, none⟩ cap (l.map Nat.toUInt8) Try.underlying100 Try.underlying5 Try.underlying9 (fun j hj => by
      have hj' : j < l.length := by simpa using hj
      rw [addj, h5 j hj']
      have h9 := h8 l[j] (List.getElem_mem hj')
      congr 2
      simp [Nat.mod_eq_of_lt h9])
    rw [List.length_map] at this
    exact this

theorem Sx.lit {k : IntKind} (w : World) (l : List Nat) (e : Nat) (hl : l.length ≤ maxLen) : Sx k (w.alloc (.cells (vals k l).toArray e)) (.slice (some ⟨w.heap.size, 0, none⟩) l.length l.length) l := by
  have := World.ownsRow_lit (e := e) (size := 1) w (vals k l).toArray l.length (base := 0) (Nat.zero_le _) hl (by simp [vals])
  exact Sx.of_own this

def byteVals (l : List UInt8) : List Value := l.map fun b => Value.int .u8 (b.toNat : Int)

theorem byteVals_append (a b : List UInt8) : byteVals (a ++ b) = byteVals a ++ byteVals b := List.map_append

theorem byteVals_length (a : List UInt8) : (byteVals a).length = a.length := List.length_map _

theorem byteVals_get {l : List UInt8} {j : Nat} (h : j < l.length) : (byteVals l)[j]? = some (.int .u8 (l[j].toNat : Int)) := by simp [byteVals, h]

/-- A row of the call's own: a slice with its cells. -/
theorem vown_form {w : World} {B e n : Nat} {v : Value} {xs : List Value} (h : w.ownsRow B e 1 v n xs) : (∃ ad cap, v = .slice ad n cap ∧ ∀ g, ad = some g → g.spot = none) ∧ (0 < n → ∃ g cap, v = .slice (some ⟨g, 0, none⟩) n cap ∧ g < w.heap.size ∧ B ≤ g ∧ ∀ j x, xs[j]? = some x → w.cell? ⟨g, j, none⟩ = some x) := by
  obtain ⟨hl, h1⟩ := id h
  rcases h1 with ⟨rfl, rfl⟩ | ⟨g, cap, cur, rfl, hb, hg, h4⟩
  · exact ⟨⟨none, 0, rfl, fun g hg => by cases hg⟩, fun h => by omega⟩
  · refine ⟨⟨_, cap, rfl, fun x hx => by cases hx; rfl⟩, fun _ => ⟨g, cap, rfl, (Array.getElem?_eq_some_iff.1 hg).1, hb, fun j x hx => ?_⟩⟩
    have := h.cells (g := g) rfl j x hx
    have hadd : (⟨g, 0, none⟩ : Addr).add j = ⟨g, j, none⟩ := by unfold Addr.add; split <;> simp_all
    rwa [hadd] at this

theorem byteVals_one {x : Nat} (h : x < 256) : byteVals [x.toUInt8] = [.int .u8 (x : Int)] := by
  simp only [byteVals, List.map_cons, List.map_nil, u8_nat h]

theorem byteVals_oneCell (l : List UInt8) : ∀ u ∈ byteVals l, u.oneCell' = true := by
  intro u hu
  obtain ⟨b, _, rfl⟩ := List.mem_map.1 hu
  rfl

/-- A slice whose bytes are l. -/
def Sl (W : World) (v : Value) (l : List UInt8) : Prop :=
  ∃ a cap, v = .slice a l.length cap ∧ l.length ≤ cap ∧ cap ≤ maxLen ∧
    (0 < l.length → ∃ b off, a = some ⟨b, off, none⟩ ∧ b < W.heap.size ∧ ∀ j (h : j < l.length), W.cell? ⟨b, off + j, none⟩ = some (.int .u8 (l[j].toNat : Int)))

theorem Sl.kept {W W' : World} {v : Value} {l : List UInt8} (h : Sl W v l) (hb : Below W.heap.size W W') : Sl W' v l := by
  obtain ⟨a, cap, rfl, h1, h2, h3⟩ := h
  refine ⟨a, cap, rfl, h1, h2, fun h0 => ?_⟩
  obtain ⟨b, off, rfl, h4, h5⟩ := h3 h0
  exact ⟨b, off, rfl, Nat.lt_of_lt_of_le h4 hb.size, fun j hj => (hb.cell (p := ⟨b, off + j, none⟩) h4).trans (h5 j hj)⟩

theorem Sl.of_own {W : World} {B n : Nat} {v : Value} {l : List UInt8} (h : W.ownsRow B 5 1 v n (byteVals l)) : Sl W v l := by
  have hl : l.length = n := by have := h.1; simpa [byteVals] using this
  obtain ⟨_, h1⟩ := id h
  rcases h1 with ⟨rfl, rfl⟩ | ⟨g, cap, cur, rfl, hb, hg, h4, h5, _⟩
  · exact ⟨none, 0, by rw [hl], by omega, by unfold maxLen; omega, fun h0 => by omega⟩
  · refine ⟨_, cap, by rw [hl], by omega, h5, fun _ => ⟨g, 0, rfl, (Array.getElem?_eq_some_iff.1 hg).1, fun j hj => ?_⟩⟩
    have := h.cells (g := g) rfl j _ (byteVals_get hj)
    rw [add0] at this
    rwa [Nat.zero_add]

theorem Sl.conv {W : World} {v : Value} {l : List UInt8} (h : Sl W v l) (hp : 0 < l.length) : (convert 100 9 v).run Try.prog W = .ok (.string ⟨l.toArray⟩) W := by
  obtain ⟨a, cap, rfl, h1, h2, h3⟩ := h
  obtain ⟨b, off, rfl, h4, h5⟩ := h3 hp
  refine run_convert_bytes_back W 100 9 5 ⟨b, off, none⟩ cap l Try.underlying100 Try.underlying5 Try.underlying9 fun j hj => ?_
  have hadd : (⟨b, off, none⟩ : Addr).add j = ⟨b, off + j, none⟩ := by unfold Addr.add; split <;> simp_all
  rw [hadd]
  exact h5 j hj
end Go.Proofs.Ytfcnoeehfhncjaa
