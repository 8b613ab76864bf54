/- Contracts: the program's Put and the document's. -/
import Derived.Test.YtnlanilejhjkkaaBLay
import Derived.WalkKit
import Derived.WalkLawsBesides
import Derived.Outline
import Derived.WalkSpells
import Derived.Lib.OthersKept
import Derived.Maps.AppendAt
import Derived.Test.YtnlanilejhjkkaaVar
set_option linter.unusedVariables false
set_option linter.unusedSimpArgs false
namespace Go.Proofs.Ytnlanilejhjkkaa
open Go.RowKit Go.Lib

def byteVals (l : List UInt8) : List Value := l.map fun b => Value.int .u8 (b.toNat : Int)
theorem byteVals_append (a b : List UInt8) : byteVals (a ++ b) = byteVals a ++ byteVals b := List.map_append
theorem byteVals_length (a : List UInt8) : (byteVals a).length = a.length := List.length_map _
theorem byteVals_get {l : List UInt8} {j : Nat} (h : j < l.length) : (byteVals l)[j]? = some (.int .u8 (l[j].toNat : Int)) := by simp [byteVals, h]

/-- A row of the call's own: a slice with its cells. -/
theorem vown_form {w : World} {B e n : Nat} {v : Value} {xs : List Value} (h : w.ownsRow B e 1 v n xs) : (∃ ad cap, v = .slice ad n cap ∧ ∀ g, ad = some g → g.spot = none) ∧ (0 < n → ∃ g cap, v = .slice (some ⟨g, 0, none⟩) n cap ∧ g < w.heap.size ∧ B ≤ g ∧ ∀ j x, xs[j]? = some x → w.cell? ⟨g, j, none⟩ = some x) := by
  obtain ⟨hl, h1⟩ := id h
  rcases h1 with ⟨rfl, rfl⟩ | ⟨g, cap, cur, rfl, hb, hg, h4⟩
  · exact ⟨⟨none, 0, rfl, fun g hg => by cases hg⟩, fun h => by omega⟩
  · refine ⟨⟨_, cap, rfl, fun x hx => by cases hx; rfl⟩, fun _ => ⟨g, cap, rfl, (Array.getElem?_eq_some_iff.1 hg).1, hb, fun j x hx => ?_⟩⟩
    have := h.cells (g := g) rfl j x hx
    have hadd : (⟨g, 0, none⟩ : Addr).add j = ⟨g, j, none⟩ := by unfold Addr.add; split <;> simp_all
    rwa [hadd] at this

theorem byteVals_one {x : Nat} (h : x < 256) : byteVals [x.toUInt8] = [.int .u8 (x : Int)] := by
  simp only [byteVals, List.map_cons, List.map_nil, u8_nat h]

theorem len_of {acc : List UInt8} {k n : Nat} (h : acc ++ uvarint k = uvarint n) (hn : n < 18446744073709551616) : acc.length + 1 ≤ 10 := by
  have h1 := uvarint_length64 hn
  have h2 := uvarint_pos k
  have h3 := congrArg List.length h
  rw [List.length_append] at h3
  omega

set_option maxRecDepth 100000 in
set_option maxHeartbeats 2000000 in
theorem vput_any (n : Nat) (hn : n < 18446744073709551616) (w : World) :
    Calls Try.prog 45 #[.int .u64 (n : Int)] w fun e w' => (∃ v, e = .returned v ∧ w'.ownsRow w.heap.size 5 1 v (uvarint n).length (byteVals (uvarint n))) ∧ Below w.heap.size w w' := by
  obtain ⟨i0, hi, hz0, hz1', hz2⟩ := info_parts info5
  have HN := hidden hn
  clear hn
  go_enter Try.func45, Try.ntmps45
  go_wp2_with fail
  go_loopw [0, 3] (fun m b wr => ∃ (k : Nat) (acc : List UInt8), m = .int .u64 (k : Int) ∧ k < 18446744073709551616 ∧ acc ++ uvarint k = uvarint n ∧ wr.ownsRow w.heap.size 5 1 b acc.length (byteVals acc) ∧ Below w.heap.size w wr) (fun m _ _ => (intOf m).toNat)
  case atStart => exact ⟨n, [], rfl, HN.out, rfl, World.ownsRow_nil _ _ _ _, Below.refl _ _⟩
  case round =>
    obtain ⟨k, acc, rfl, hk, hacc, hown, hbel⟩ := hrel
    have hlen := len_of hacc HN.out
    have HA := hidden hacc
    have HO := hidden hown
    have HB := hidden hbel
    have hzr := hbel.size
    clear hacc hown hbel
    by_cases h : (k : Int) ≥ 128
    · have hor := u8_or128_any ((k : Int) % 256) (by omega) (by omega)
      go_wp2_with (first | (at_builtin; refine wpList_append_own_at _ rfl _ _ 24 rfl w.heap.size 5 i0 (.int .u8 0) 1 1 Try.underlying24 hi hz0 hz1' hz2 rfl (by decide) _ _ _ rfl (HO.out.alloc _) ⟨wr.heap.size, 0, none⟩ 1 1 [.int .u8 ((k : Int) % 128 + 128)] rfl rfl ?c1 ?c2 ?c3 ?c4 ?c5 ?_))
      case c1 => exact cell_one_new _ _ _
      case c2 => first | rfl | (intro u hu; simp at hu; subst hu; rfl)
      case c3 => unfold maxLen; omega
      case c4 => omega
      case c5 => first | omega | (simp; omega)
      intro v1 w2 o1 g1 _ e1
      have HO1 := hidden o1
      have HB1 := hidden ((HB.out.alloc (by omega) _).grown g1 (by simp; omega) (fun k hk => (HO.out.lt k hk).1))
      clear o1 g1 e1
      go_wp2_with fail
      go_roundw
      case rel =>
        refine ⟨k / 128, acc ++ [(k % 128 + 128).toUInt8], by go_num, by omega, ?_, ?_, HB1.out⟩
        · rw [← HA.out, uvarint_big (x := k) (by omega)]; simp
        · rw [byteVals_append, List.length_append]
          rw [byteVals_one (by omega)]
          exact HO1.out
      case measure => simp [intOf]; omega
    · have hsm : uvarint k = [k.toUInt8] := uvarint_small (by omega)
      have HS := hidden hsm
      clear hsm
      go_wp2_with (first | (at_builtin; refine wpList_append_own_at _ rfl _ _ 24 rfl w.heap.size 5 i0 (.int .u8 0) 1 1 Try.underlying24 hi hz0 hz1' hz2 rfl (by decide) _ _ _ rfl (HO.out.alloc _) ⟨wr.heap.size, 0, none⟩ 1 1 [.int .u8 (k : Int)] rfl rfl ?c1 ?c2 ?c3 ?c4 ?c5 ?_))
      case c2 => first | rfl | (intro u hu; simp at hu; subst hu; rfl)
      case c3 => unfold maxLen; omega
      case c4 => omega
      case c5 => first | omega | (simp; omega)
      intro v1 w2 o1 g1 _ e1
      have HO1 := hidden o1
      have HB1 := hidden ((HB.out.alloc (by omega) _).grown g1 (by simp; omega) (fun k hk => (HO.out.lt k hk).1))
      clear o1 g1 e1
      go_wp2_with fail
      go_ret
      refine ⟨⟨_, rfl, ?_⟩, HB1.out⟩
      have h1 := HO1.out
      rw [← HA.out, HS.out, byteVals_append, List.length_append]
      rw [byteVals_one (by omega)]
      exact h1
end Go.Proofs.Ytnlanilejhjkkaa
