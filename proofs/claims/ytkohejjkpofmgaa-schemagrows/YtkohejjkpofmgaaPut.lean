/- Slices of numbers: what they hold, whoever made them; rows of the call's own. Contracts: both Put, the program's Get. -/
import Derived.Test.YtkohejjkpofmgaaRows
import Derived.Test.YtkohejjkpofmgaaModel
import Derived.WalkKit
import Derived.WalkLawsBesides
import Derived.Outline
import Derived.WalkSpells
import Derived.Lib.OthersKept
import Derived.Maps.AppendAt
import Derived.Laws.OwnMore
import Derived.BigQuiet
import Derived.BigRegion
import Derived.Lib.VarintBits
import Derived.Deep.RegionHeld3
import Derived.Deep.RegionWith
set_option linter.unusedVariables false
set_option linter.unusedSimpArgs false
namespace Go.Proofs.Ytkohejjkpofmgaa
open Go.RowKit Go.Lib

theorem hidden {p : Prop} (h : p) : Hid p := h

def vals (k : IntKind) (l : List Nat) : List Value := l.map fun (n : Nat) => Value.int k (n : Int)

theorem vals_append (k : IntKind) (a b : List Nat) : vals k (a ++ b) = vals k a ++ vals k b := List.map_append

theorem vals_length (k : IntKind) (a : List Nat) : (vals k a).length = a.length := List.length_map _

theorem vals_get {k : IntKind} {l : List Nat} {j : Nat} (h : j < l.length) : (vals k l)[j]? = some (.int k (l[j] : Int)) := by simp [vals, h]

theorem vals_set (k : IntKind) (l : List Nat) (j c : Nat) : (vals k l).set j (.int k (c : Int)) = vals k (l.set j c) := by simp [vals, List.map_set]

theorem vals_oneCell (k : IntKind) (l : List Nat) : ∀ u ∈ vals k l, u.oneCell' = true := by
  intro u hu
  obtain ⟨b, _, rfl⟩ := List.mem_map.1 hu
  rfl

theorem info5 : (Try.prog.info? 5).map (fun i => (i.zero, i.size, i.bytes)) = some (some (.int .u8 0), 1, 1) := by kernel_rfl

theorem info82 : (Try.prog.info? 82).map (fun i => (i.zero, i.size, i.bytes)) = some (some (.int .u64 0), 1, 8) := by kernel_rfl

theorem add0 (g j : Nat) : (⟨g, 0, none⟩ : Addr).add j = ⟨g, j, none⟩ := by unfold Addr.add; split <;> simp_all

theorem addj (b off j : Nat) : (⟨b, off, none⟩ : Addr).add j = ⟨b, off + j, none⟩ := by unfold Addr.add; split <;> simp_all

theorem own_kept {w w' : World} {B e size n : Nat} {v : Value} {xs : List Value} (h : w.ownsRow B e size v n xs) (hb : Below w.heap.size w w') : w'.ownsRow B e size v n xs := by
  obtain ⟨hl, h⟩ := h
  refine ⟨hl, ?_⟩
  rcases h with h | ⟨g, cap, cur, h1, h2, h3, h4⟩
  · exact Or.inl h
  · have hg : g < w.heap.size := by
      rcases Nat.lt_or_ge g w.heap.size with hg | hg
      · exact hg
      · rw [Array.getElem?_eq_none hg] at h3; cases h3
    exact Or.inr ⟨g, cap, cur, h1, h2, (hb.block g hg).trans h3, h4⟩

/-- A slice whose numbers are l. -/
def Sx (k : IntKind) (W : World) (v : Value) (l : List Nat) : Prop :=
  ∃ a cap, v = .slice a l.length cap ∧ l.length ≤ maxLen ∧
    (0 < l.length → ∃ b off, a = some ⟨b, off, none⟩ ∧ b < W.heap.size ∧ ∀ j (h : j < l.length), W.cell? ⟨b, off + j, none⟩ = some (.int k (l[j] : Int)))

theorem Sx.kept {k : IntKind} {W W' : World} {v : Value} {l : List Nat} (h : Sx k W v l) (hb : Below W.heap.size W W') : Sx k W' v l := by
  obtain ⟨a, cap, rfl, h1, h3⟩ := h
  refine ⟨a, cap, rfl, h1, fun h0 => ?_⟩
  obtain ⟨b, off, rfl, h4, h5⟩ := h3 h0
  exact ⟨b, off, rfl, Nat.lt_of_lt_of_le h4 hb.size, fun j hj => (hb.cell (p := ⟨b, off + j, none⟩) h4).trans (h5 j hj)⟩

theorem Sx.of_own {k : IntKind} {W : World} {B e n : Nat} {v : Value} {l : List Nat} (h : W.ownsRow B e 1 v n (vals k l)) : Sx k W v l := by
  have hl : l.length = n := by have := h.1; simpa [vals] using this
  obtain ⟨_, h1⟩ := id h
  rcases h1 with ⟨rfl, rfl⟩ | ⟨g, cap, cur, rfl, hb, hg, h4, h5, _⟩
  · exact ⟨none, 0, by rw [hl], by unfold maxLen; omega, fun h0 => by omega⟩
  · refine ⟨_, cap, by rw [hl], by omega, fun _ => ⟨g, 0, rfl, (Array.getElem?_eq_some_iff.1 hg).1, fun j hj => ?_⟩⟩
    have := h.cells (g := g) rfl j _ (vals_get hj)
    rw [add0] at this
    rwa [Nat.zero_add]

theorem Sx.len {k : IntKind} {W : World} {v : Value} {l : List Nat} (h : Sx k W v l) : l.length ≤ maxLen := by obtain ⟨_, _, _, h, _⟩ := h; exact h

/-- The text of bytes. -/
def txt (l : List Nat) : Value := .string ⟨(l.map Nat.toUInt8).toArray⟩

set_option maxRecDepth 100000 in
theorem Sx.conv {W : World} {v : Value} {l : List Nat} (h : Sx .u8 W v l) (h8 : ∀ x ∈ l, x < 256) : (convert 54 9 v).run Try.prog W = .ok (txt l) W := by
  obtain ⟨a, cap, rfl, h1, h3⟩ := h
  rcases Nat.eq_zero_or_pos l.length with h0 | hp
  · obtain rfl : l = [] := List.eq_nil_of_length_eq_zero h0
    first
      | exact run_convert_bytes_back_empty W 24 9 5 a cap Try.underlying54 Try.underlying5 Try.underlying9
      | (cases a <;> rfl)
      | (cases a <;> kernel_rfl)
  · obtain ⟨b, off, rfl, h4, h5⟩ := h3 hp
    have := run_convert_bytes_back W 54 9 5 ⟨b, off, none⟩ cap (l.map Nat.toUInt8) Try.underlying54 Try.underlying5 Try.underlying9 (fun j hj => by
      have hj' : j < l.length := by simpa using hj
      rw [addj, h5 j hj']
      have h9 := h8 l[j] (List.getElem_mem hj')
      congr 2
      simp [Nat.mod_eq_of_lt h9])
    rw [List.length_map] at this
    exact this

theorem Sx.lit {k : IntKind} (w : World) (l : List Nat) (e : Nat) (hl : l.length ≤ maxLen) : Sx k (w.alloc (.cells (vals k l).toArray e)) (.slice (some ⟨w.heap.size, 0, none⟩) l.length l.length) l := by
  have := World.ownsRow_lit (e := e) (size := 1) w (vals k l).toArray l.length (base := 0) (Nat.zero_le _) hl (by simp [vals])
  exact Sx.of_own this

def byteVals (l : List UInt8) : List Value := l.map fun b => Value.int .u8 (b.toNat : Int)

theorem byteVals_append (a b : List UInt8) : byteVals (a ++ b) = byteVals a ++ byteVals b := List.map_append

theorem byteVals_length (a : List UInt8) : (byteVals a).length = a.length := List.length_map _

theorem byteVals_get {l : List UInt8} {j : Nat} (h : j < l.length) : (byteVals l)[j]? = some (.int .u8 (l[j].toNat : Int)) := by simp [byteVals, h]

/-- A row of the call's own: a slice with its cells. -/
theorem vown_form {w : World} {B e n : Nat} {v : Value} {xs : List Value} (h : w.ownsRow B e 1 v n xs) : (∃ ad cap, v = .slice ad n cap ∧ ∀ g, ad = some g → g.spot = none) ∧ (0 < n → ∃ g cap, v = .slice (some ⟨g, 0, none⟩) n cap ∧ g < w.heap.size ∧ B ≤ g ∧ ∀ j x, xs[j]? = some x → w.cell? ⟨g, j, none⟩ = some x) := by
  obtain ⟨hl, h1⟩ := id h
  rcases h1 with ⟨rfl, rfl⟩ | ⟨g, cap, cur, rfl, hb, hg, h4⟩
  · exact ⟨⟨none, 0, rfl, fun g hg => by cases hg⟩, fun h => by omega⟩
  · refine ⟨⟨_, cap, rfl, fun x hx => by cases hx; rfl⟩, fun _ => ⟨g, cap, rfl, (Array.getElem?_eq_some_iff.1 hg).1, hb, fun j x hx => ?_⟩⟩
    have := h.cells (g := g) rfl j x hx
    have hadd : (⟨g, 0, none⟩ : Addr).add j = ⟨g, j, none⟩ := by unfold Addr.add; split <;> simp_all
    rwa [hadd] at this

theorem byteVals_one {x : Nat} (h : x < 256) : byteVals [x.toUInt8] = [.int .u8 (x : Int)] := by
  simp only [byteVals, List.map_cons, List.map_nil, u8_nat h]

theorem len_of {acc : List UInt8} {k n : Nat} (h : acc ++ uvarint k = uvarint n) (hn : n < 18446744073709551616) : acc.length + 1 ≤ 10 := by
  have h1 := uvarint_length64 hn
  have h2 := uvarint_pos k
  have h3 := congrArg List.length h
  rw [List.length_append] at h3
  omega

set_option maxRecDepth 100000 in
set_option maxHeartbeats 2000000 in
theorem vput_any (n : Nat) (hn : n < 18446744073709551616) (w : World) :
    Calls Try.prog 44 #[.int .u64 (n : Int)] w fun e w' => (∃ v, e = .returned v ∧ w'.ownsRow w.heap.size 5 1 v (uvarint n).length (byteVals (uvarint n))) ∧ Below w.heap.size w w' := by
  obtain ⟨i0, hi, hz0, hz1', hz2⟩ := info_parts info5
  have HN := hidden hn
  clear hn
  go_enter Try.func44, Try.ntmps44
  go_wp2_with fail
  go_loopw [0, 3] (fun m b wr => ∃ (k : Nat) (acc : List UInt8), m = .int .u64 (k : Int) ∧ k < 18446744073709551616 ∧ acc ++ uvarint k = uvarint n ∧ wr.ownsRow w.heap.size 5 1 b acc.length (byteVals acc) ∧ Below w.heap.size w wr) (fun m _ _ => (intOf m).toNat)
  case atStart => exact ⟨n, [], rfl, HN.out, rfl, World.ownsRow_nil _ _ _ _, Below.refl _ _⟩
  case round =>
    obtain ⟨k, acc, rfl, hk, hacc, hown, hbel⟩ := hrel
    have hlen := len_of hacc HN.out
    have HA := hidden hacc
    have HO := hidden hown
    have HB := hidden hbel
    have hzr := hbel.size
    clear hacc hown hbel
    by_cases h : (k : Int) ≥ 128
    · have hor := u8_or128_any ((k : Int) % 256) (by omega) (by omega)
      go_wp2_with (first | (at_builtin; refine wpList_append_own_at _ rfl _ _ 54 rfl w.heap.size 5 i0 (.int .u8 0) 1 1 Try.underlying54 hi hz0 hz1' hz2 rfl (by decide) _ _ _ rfl (HO.out.alloc _) ⟨wr.heap.size, 0, none⟩ 1 1 [.int .u8 ((k : Int) % 128 + 128)] rfl rfl ?c1 ?c2 ?c3 ?c4 ?c5 ?_))
      case c1 => exact cell_one_new _ _ _
      case c2 => first | rfl | (intro u hu; simp at hu; subst hu; rfl)
      case c3 => unfold maxLen; omega
      case c4 => omega
      case c5 => first | omega | (simp; omega)
      intro v1 w2 o1 g1 _ e1
      have HO1 := hidden o1
      have HB1 := hidden ((HB.out.alloc (by omega) _).grown g1 (by simp; omega) (fun k hk => (HO.out.lt k hk).1))
      clear o1 g1 e1
      go_wp2_with fail
      go_roundw
      case rel =>
        refine ⟨k / 128, acc ++ [(k % 128 + 128).toUInt8], by go_num, by omega, ?_, ?_, HB1.out⟩
        · rw [← HA.out, uvarint_big (x := k) (by omega)]; simp
        · rw [byteVals_append, List.length_append]
          rw [byteVals_one (by omega)]
          exact HO1.out
      case measure => simp [intOf]; omega
    · have hsm : uvarint k = [k.toUInt8] := uvarint_small (by omega)
      have HS := hidden hsm
      clear hsm
      go_wp2_with (first | (at_builtin; refine wpList_append_own_at _ rfl _ _ 54 rfl w.heap.size 5 i0 (.int .u8 0) 1 1 Try.underlying54 hi hz0 hz1' hz2 rfl (by decide) _ _ _ rfl (HO.out.alloc _) ⟨wr.heap.size, 0, none⟩ 1 1 [.int .u8 (k : Int)] rfl rfl ?c1 ?c2 ?c3 ?c4 ?c5 ?_))
      case c2 => first | rfl | (intro u hu; simp at hu; subst hu; rfl)
      case c3 => unfold maxLen; omega
      case c4 => omega
      case c5 => first | omega | (simp; omega)
      intro v1 w2 o1 g1 _ e1
      have HO1 := hidden o1
      have HB1 := hidden ((HB.out.alloc (by omega) _).grown g1 (by simp; omega) (fun k hk => (HO.out.lt k hk).1))
      clear o1 g1 e1
      go_wp2_with fail
      go_ret
      refine ⟨⟨_, rfl, ?_⟩, HB1.out⟩
      have h1 := HO1.out
      rw [← HA.out, HS.out, byteVals_append, List.length_append]
      rw [byteVals_one (by omega)]
      exact h1

theorem byteVals_oneCell (l : List UInt8) : ∀ u ∈ byteVals l, u.oneCell' = true := by
  intro u hu
  obtain ⟨b, _, rfl⟩ := List.mem_map.1 hu
  rfl

set_option maxRecDepth 100000 in
set_option maxHeartbeats 2000000 in
theorem refPut_all : ∀ (N n : Nat), n ≤ N → n < 18446744073709551616 → ∀ w : World,
    Calls Try.prog 46 #[.int .u64 (n : Int)] w fun e w' => (∃ v, e = .returned v ∧ w'.ownsRow w.heap.size 5 1 v (uvarint n).length (byteVals (uvarint n))) ∧ Below w.heap.size w w' := by
  intro N
  induction N with
  | zero =>
    intro n h0 hn w
    obtain rfl : n = 0 := by omega
    have HS := hidden (uvarint_small (x := 0) (by omega))
    go_enter Try.func46, Try.ntmps46
    go_wp2_with fail
    go_ret
    refine ⟨⟨_, rfl, ?_⟩, (Below.refl _ _).alloc (Nat.le_refl _) _⟩
    rw [HS.out]
    exact World.ownsRow_lit w #[.int .u8 0] 1 (Nat.le_refl _) (by unfold maxLen; omega) rfl
  | succ N ih =>
    intro n h0 hn w
    obtain ⟨i0, hi, hz0, hz1', hz2⟩ := info_parts info5
    by_cases h : (n : Int) < 128
    · have HS := hidden (uvarint_small (x := n) (by omega))
      have HV := hidden (byteVals_one (x := n) (by omega))
      clear ih
      go_enter Try.func46, Try.ntmps46
      go_wp2_with fail
      go_ret
      refine ⟨⟨_, rfl, ?_⟩, (Below.refl _ _).alloc (Nat.le_refl _) _⟩
      rw [HS.out, HV.out]
      exact World.ownsRow_lit w #[.int .u8 (n : Int)] 1 (Nat.le_refl _) (by unfold maxLen; omega) rfl
    · have HS := hidden (uvarint_big (x := n) (by omega))
      have HL := hidden (uvarint_length64 (x := n / 128) (by omega))
      have HP := hidden (uvarint_pos (n / 128))
      have HV := hidden (byteVals_one (x := n % 128 + 128) (by omega))
      have HI := hidden (ih (n / 128) (by omega) (by omega))
      have hlit : ∀ B, B ≤ w.heap.size → (w.alloc (.cells #[.int .u8 ((n : Int) % 128 + 128)] 5)).ownsRow B 5 1 (.slice (some ⟨w.heap.size, 0, none⟩) 1 1) 1 [.int .u8 ((n : Int) % 128 + 128)] := fun B hB => World.ownsRow_lit w #[.int .u8 ((n : Int) % 128 + 128)] 1 hB (by unfold maxLen; omega) rfl
      have HLit := hidden hlit
      clear ih hlit
      go_enter Try.func46, Try.ntmps46
      go_wp2_with fail
      refine (HI.out _).mono ?_
      rintro e w2 ⟨⟨v, rfl, hown⟩, hb⟩
      obtain ⟨g, cap, rfl, hg, hgB, hc⟩ := (vown_form hown).2 HP.out
      have HC := hidden hc
      have HO := hidden (own_kept (HLit.out w.heap.size (Nat.le_refl _)) hb)
      have HB := hidden (((Below.refl w.heap.size w).alloc (Nat.le_refl _) (.cells #[.int .u8 ((n : Int) % 128 + 128)] 5)).trans (hb.mono (by simp)))
      have hz := hb.size
      simp at hz
      clear hc hown hb
      have hlen := HL.out
      go_wp2_with (first | (at_builtin; refine wpList_append_own_at _ rfl _ _ 54 rfl w.heap.size 5 i0 (.int .u8 0) 1 1 Try.underlying54 hi hz0 hz1' hz2 rfl (by decide) _ _ _ rfl HO.out ⟨g, 0, none⟩ (uvarint (n / 128)).length cap (byteVals (uvarint (n / 128))) rfl (by rw [byteVals_length]; omega) ?c1 ?c2 ?c3 ?c4 ?c5 ?_))
      case c1 => intro j u hu; rw [add0]; exact HC.out j u hu
      case c2 => exact byteVals_oneCell _
      case c3 => unfold maxLen; omega
      case c4 => omega
      case c5 => omega
      intro v1 w3 o1 g1 _ e1
      have HO1 := hidden o1
      have HB1 := hidden (HB.out.grown g1 (by omega) (fun k hk => (HO.out.lt k hk).1))
      clear o1 g1 e1
      go_wp2_with fail
      go_ret
      refine ⟨⟨_, rfl, ?_⟩, HB1.out⟩
      have h1 := HO1.out
      rw [HS.out]
      have e2 : byteVals ((n % 128 + 128).toUInt8 :: uvarint (n / 128)) = [.int .u8 ((n : Int) % 128 + 128)] ++ byteVals (uvarint (n / 128)) := by
        rw [← List.singleton_append, byteVals_append, HV.out]
        rfl
      rw [e2, List.length_cons, Nat.add_comm]
      exact h1

theorem refPut_any (n : Nat) (hn : n < 18446744073709551616) (w : World) :
    Calls Try.prog 46 #[.int .u64 (n : Int)] w fun e w' => (∃ v, e = .returned v ∧ w'.ownsRow w.heap.size 5 1 v (uvarint n).length (byteVals (uvarint n))) ∧ Below w.heap.size w w' :=
  refPut_all n n (Nat.le_refl _) hn w

/-- A slice whose bytes are l. -/
def Sl (W : World) (v : Value) (l : List UInt8) : Prop :=
  ∃ a cap, v = .slice a l.length cap ∧ l.length ≤ cap ∧ cap ≤ maxLen ∧
    (0 < l.length → ∃ b off, a = some ⟨b, off, none⟩ ∧ b < W.heap.size ∧ ∀ j (h : j < l.length), W.cell? ⟨b, off + j, none⟩ = some (.int .u8 (l[j].toNat : Int)))

theorem Sl.kept {W W' : World} {v : Value} {l : List UInt8} (h : Sl W v l) (hb : Below W.heap.size W W') : Sl W' v l := by
  obtain ⟨a, cap, rfl, h1, h2, h3⟩ := h
  refine ⟨a, cap, rfl, h1, h2, fun h0 => ?_⟩
  obtain ⟨b, off, rfl, h4, h5⟩ := h3 h0
  exact ⟨b, off, rfl, Nat.lt_of_lt_of_le h4 hb.size, fun j hj => (hb.cell (p := ⟨b, off + j, none⟩) h4).trans (h5 j hj)⟩

theorem Sl.of_own {W : World} {B n : Nat} {v : Value} {l : List UInt8} (h : W.ownsRow B 5 1 v n (byteVals l)) : Sl W v l := by
  have hl : l.length = n := by have := h.1; simpa [byteVals] using this
  obtain ⟨_, h1⟩ := id h
  rcases h1 with ⟨rfl, rfl⟩ | ⟨g, cap, cur, rfl, hb, hg, h4, h5, _⟩
  · exact ⟨none, 0, by rw [hl], by omega, by unfold maxLen; omega, fun h0 => by omega⟩
  · refine ⟨_, cap, by rw [hl], by omega, h5, fun _ => ⟨g, 0, rfl, (Array.getElem?_eq_some_iff.1 hg).1, fun j hj => ?_⟩⟩
    have := h.cells (g := g) rfl j _ (byteVals_get hj)
    rw [add0] at this
    rwa [Nat.zero_add]

theorem Sl.conv {W : World} {v : Value} {l : List UInt8} (h : Sl W v l) (hp : 0 < l.length) : (convert 54 9 v).run Try.prog W = .ok (.string ⟨l.toArray⟩) W := by
  obtain ⟨a, cap, rfl, h1, h2, h3⟩ := h
  obtain ⟨b, off, rfl, h4, h5⟩ := h3 hp
  refine run_convert_bytes_back W 54 9 5 ⟨b, off, none⟩ cap l Try.underlying54 Try.underlying5 Try.underlying9 fun j hj => ?_
  have hadd : (⟨b, off, none⟩ : Addr).add j = ⟨b, off + j, none⟩ := by unfold Addr.add; split <;> simp_all
  rw [hadd]
  exact h5 j hj

/-- The answers of a Get. -/
def tell (k : IntKind) (x : Int) (u e : Nat) : Ending := .returned (.tuple #[.int k x, .int .i64 (u : Int), .int .i64 (e : Int)])

theorem tell_eq {k : IntKind} {x y : Int} {u v e f : Nat} (h1 : x = y) (h2 : u = v) (h3 : e = f) : tell k x u e = tell k y v f := by rw [h1, h2, h3]

set_option maxRecDepth 100000 in
theorem short_any (n used : Nat) (c : UInt8) (hu : used ≤ 10) (w : World) :
    Calls Try.prog 72 #[.int .u64 (n : Int), .int .i64 (used : Int), .int .u8 (c.toNat : Int)] w fun e w' =>
      e = (if c.toNat = 0 ∧ 1 < used then tell .u64 0 0 31 else tell .u64 (n : Int) used 0) ∧ w' = w := by
  by_cases h1 : ((c.toNat : Int) == 0) = true
  · have h1' : c.toNat = 0 := by simpa using h1
    by_cases h2 : (used : Int) > 1
    · rw [if_pos ⟨h1', by omega⟩]
      clear h1'
      go_enter Try.func72, Try.ntmps72
      go_wp2_with fail
      go_ret3
      exact ⟨rfl, rfl⟩
    · rw [if_neg (fun h => by omega)]
      clear h1'
      go_enter Try.func72, Try.ntmps72
      go_wp2_with fail
      go_ret3
      exact ⟨rfl, rfl⟩
  · have h1' : ((c.toNat : Int) == 0) = false := by simpa using h1
    rw [if_neg (fun h => h1 (by simpa using h.1))]
    clear h1
    go_enter Try.func72, Try.ntmps72
    go_wp2_with fail
    go_ret3
    exact ⟨rfl, rfl⟩

theorem get_empty (a : Option Addr) (cap : Nat) (w : World) : Calls Try.prog 68 #[.slice a 0 cap] w fun e w' => e = tell .u64 0 0 30 ∧ w' = w := by
  go_enter Try.func68, Try.ntmps68
  go_wp2_with fail
  refine wp_loop_rounds 1 ?_
  rw [rounds_succ]
  go_wp2_with fail
  go_ret3
  exact ⟨rfl, rfl⟩

theorem shl_eq {c k : Nat} : ((c : Nat) : Int) * 2 ^ (7 * k) = ((c * 128 ^ k : Nat) : Int) := by
  rw [← pow7]
  simp

theorem join_eq {l : List UInt8} {k : Nat} (h : k < l.length) (h9 : k ≤ 9) (h64 : val (l.take (k + 1)) < 18446744073709551616) :
    bits .or .u64 (val (l.take k) : Int) (IntKind.u64.wrap ((l[k].toNat : Int) % 128 * 2 ^ (7 * k))) = (val (l.take (k + 1)) : Int) := by
  have hv := val_take_succ h
  have hl := val_lt (l.take k)
  rw [List.length_take, Nat.min_eq_left (by omega)] at hl
  have e : (l[k].toNat : Int) % 128 * 2 ^ (7 * k) = ((l[k].toNat % 128 * 128 ^ k : Nat) : Int) := by
    rw [← shl_eq]; simp
  rw [e, wraps_u64 _ (by omega) (by omega), or_shift h9 hl (by omega), hv]

theorem used_eq {k : Nat} {n : Int} {c : UInt8} (hu : k + 1 ≤ 10) (w : World) {P : Ending → World → Prop} (h : Calls Try.prog 72 #[.int .u64 n, .int .i64 ((k + 1 : Nat) : Int), .int .u8 (c.toNat : Int)] w P) :
    Calls Try.prog 72 #[.int .u64 n, .int .i64 ((k : Int) + 1), .int .u8 (c.toNat : Int)] w P := by
  have e : ((k + 1 : Nat) : Int) = (k : Int) + 1 := by omega
  rwa [e] at h

set_option maxRecDepth 100000 in
set_option maxHeartbeats 2000000 in
theorem get_full (b off cap : Nat) (l : List UInt8) (w : World) (hmax : l.length ≤ maxLen) (hcap : l.length ≤ cap)
    (hc : ∀ j (h : j < l.length), w.cell? ⟨b, off + j, none⟩ = some (.int .u8 (l[j].toNat : Int))) :
    Calls Try.prog 68 #[.slice (some ⟨b, off, none⟩) l.length cap] w fun e w' => e = tell .u64 ((getL l).1 : Int) (getL l).2.1 (getL l).2.2 ∧ w' = w := by
  have hm : l.length ≤ 9223372036854775807 := by unfold maxLen at hmax; omega
  have HC := hidden hc
  clear hc hmax
  go_enter Try.func68, Try.ntmps68
  go_wp2_with fail
  go_loopw [5, 10] (fun n i w' => w' = w ∧ ∃ k : Nat, k ≤ 9 ∧ k ≤ l.length ∧ k ≤ lead l ∧ i = .int .i64 (k : Int) ∧ n = .int .u64 (val (l.take k) : Int)) (fun _ i _ => l.length - (intOf i).toNat)
  case atStart => exact ⟨rfl, 0, by omega, by omega, by omega, rfl, rfl⟩
  case round =>
    obtain ⟨rfl, k, h9, hk, hlead, rfl, rfl⟩ := hrel
    by_cases hlt : k < l.length
    · have hck := HC.out k hlt
      have hval := val_take_succ hlt
      have hvlt := val_lt (l.take k)
      rw [List.length_take, Nat.min_eq_left (by omega)] at hvlt
      have HT := hidden (fun (e : k = 9) (h : 1 < l[k].toNat) => getL_tenth (l := l) (by omega) (by omega) (by subst e; exact h))
      have HL := hidden (fun h1 h2 => getL_last (l := l) hlead h9 hlt h1 h2)
      have HN := hidden (lead_succ hlead hlt)
      have h64 := fun h => join_eq (l := l) hlt h9 (val64 (l := l) h9 hlt h)
      have hcl := l[k].toNat_lt
      have han := u8_andNot l[k]
      have HLE := hidden hlead
      have HSA := hidden (fun w => used_eq (k := k) (by omega) w (short_any (val (l.take (k + 1))) (k + 1) l[k] (by omega) w))
      clear hlead
      generalize l[k] = c at *
      by_cases hk9 : ((k : Int) == 9) = true
      · have hk9' : k = 9 := by have : (k : Int) = 9 := by simpa using hk9
                                omega
        by_cases hc1 : (c.toNat : Int) > 1
        · have HE := hidden (HT.out hk9' (by omega))
          clear HT HL HN h64 hval hvlt han hk9'
          go_wp2_with fail
          go_ret3
          rw [HE.out]
          exact ⟨rfl, rfl⟩
        · have HJ := hidden (h64 (fun _ => by omega))
          have HF := hidden (HL.out (by omega) (fun _ => by omega))
          clear HT HL HN h64 hval hvlt hk9'
          go_wp2_with fail
          rw [HJ.out]
          refine (HSA.out _).mono ?_
          rintro e w1 ⟨rfl, rfl⟩
          have HF2 : Hid ((if c.toNat = 0 ∧ 1 < k + 1 then tell .u64 0 0 31 else tell .u64 (val (l.take (k + 1)) : Int) (k + 1) 0) = tell .u64 ((getL l).1 : Int) (getL l).2.1 (getL l).2.2) := by
            show _ = _
            rw [HF.out]
            by_cases h : c.toNat = 0 ∧ 0 < k
            · rw [if_pos h, if_pos ⟨h.1, by omega⟩]; rfl
            · rw [if_neg h, if_neg (fun h1 => h ⟨h1.1, by omega⟩)]
          rw [HF2.out]
          unfold tell
          go_wp2_with fail
          go_ret3
          exact ⟨rfl, rfl⟩
      · have hk9' : ((k : Int) == 9) = false := by simpa using hk9
        have hk8 : k ≤ 8 := by have : ¬ (k : Int) = 9 := by simpa using hk9
                               omega
        have HJ := hidden (h64 (fun _ => by omega))
        clear hk9
        by_cases hc1 : (c.toNat : Int) < 128
        · have HF := hidden (HL.out (by omega) (fun _ => by omega))
          clear HT HL HN h64 hval hvlt
          go_wp2_with fail
          rw [HJ.out]
          refine (HSA.out _).mono ?_
          rintro e w1 ⟨rfl, rfl⟩
          have HF2 : Hid ((if c.toNat = 0 ∧ 1 < k + 1 then tell .u64 0 0 31 else tell .u64 (val (l.take (k + 1)) : Int) (k + 1) 0) = tell .u64 ((getL l).1 : Int) (getL l).2.1 (getL l).2.2) := by
            show _ = _
            rw [HF.out]
            by_cases h : c.toNat = 0 ∧ 0 < k
            · rw [if_pos h, if_pos ⟨h.1, by omega⟩]; rfl
            · rw [if_neg h, if_neg (fun h1 => h ⟨h1.1, by omega⟩)]
          rw [HF2.out]
          unfold tell
          go_wp2_with fail
          go_ret3
          exact ⟨rfl, rfl⟩
        · have HF := hidden (HN.out (by omega))
          clear HT HL HN h64 hval hvlt
          go_wp2_with fail
          rw [HJ.out]
          go_roundw
          case rel => exact ⟨trivial, k + 1, by omega, by omega, HF.out, by go_num, rfl⟩
          case measure => simp [intOf]; omega
    · have HE := hidden (getL_end hlead h9 hlt)
      clear hlead
      go_wp2_with fail
      go_ret3
      rw [HE.out]
      exact ⟨rfl, rfl⟩

theorem get_any {w : World} {v : Value} {l : List UInt8} (h : Sl w v l) : Calls Try.prog 68 #[v] w fun e w' => e = tell .u64 ((getL l).1 : Int) (getL l).2.1 (getL l).2.2 ∧ w' = w := by
  obtain ⟨a, cap, rfl, h1, h2, h3⟩ := h
  cases l with
  | nil => exact get_empty a cap w
  | cons x r =>
    obtain ⟨b, off, rfl, _, h5⟩ := h3 (by simp)
    exact get_full b off cap (x :: r) w (by omega) h1 h5

/-- The lead of bytes that aren't refused by the tenth one. -/
theorem lead_nine {l : List UInt8} (h : ¬ (9 ≤ lead l ∧ 9 < l.length ∧ 1 < (l.getD 9 0).toNat)) (hl : lead l < l.length) : lead l ≤ 9 ∧ (lead l = 9 → l[lead l].toNat ≤ 1) := by
  have h9 : lead l ≤ 9 := by
    rcases Nat.lt_or_ge 9 (lead l) with h1 | h1
    · exfalso
      apply h
      refine ⟨by omega, by omega, ?_⟩
      rw [getD_at (by omega)]
      have := lead_big l 9 (by omega) h1
      omega
    · exact h1
  refine ⟨h9, fun e => ?_⟩
  have h3 : ¬ 1 < (l.getD 9 0).toNat := fun h2 => h ⟨by omega, by omega, h2⟩
  rw [getD_at (by omega)] at h3
  simp only [e]
  omega

theorem getL_form (l : List UInt8) : (getL l).1 < 18446744073709551616 ∧ (getL l).2.1 ≤ l.length ∧ (getL l).2.1 ≤ 10 ∧ ((getL l).2.2 = 0 ∨ (((getL l).2.2 = 30 ∨ (getL l).2.2 = 31) ∧ (getL l).1 = 0 ∧ (getL l).2.1 = 0)) := by
  have hle := lead_le l
  unfold getL
  split
  · simp
  · rename_i h1
    split
    · simp
    · rename_i h2
      have hl : lead l < l.length := by omega
      obtain ⟨h9, ht⟩ := lead_nine h1 hl
      split
      · simp
      · refine ⟨val64 h9 hl ht, ?_, ?_, Or.inl rfl⟩ <;> simp only <;> omega

theorem err_code {e : Nat} (h : e = 0 ∨ e = 30 ∨ e = 31) (h0 : ¬ e = 0) : ((e : Int) != 0) = true := by simp; omega
end Go.Proofs.Ytkohejjkpofmgaa
