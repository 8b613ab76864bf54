/- Contracts: the program's Put and the document's. Contracts: the document's Put, and both PutInt. Contracts: the program's Get and GetInt. Contracts: Get over any bytes, GetInt. Contract: the document's Get. -/
import Derived.Test.YtcmmednihoaekaaGreatBits
import Derived.WalkKit
import Derived.WalkLawsBesides
import Derived.Outline
import Derived.WalkSpells
import Derived.Lib.OthersKept
import Derived.Maps.AppendAt
import Derived.Test.YtcmmednihoaekaaGreatMath
import Derived.Deep.RegionHeld3
set_option linter.unusedVariables false
set_option linter.unusedSimpArgs false
namespace Go.Proofs.YtcmmednihoaekaaGreat
open Go.RowKit Go.Lib

def byteVals (l : List UInt8) : List Value := l.map fun b => Value.int .u8 (b.toNat : Int)
theorem byteVals_append (a b : List UInt8) : byteVals (a ++ b) = byteVals a ++ byteVals b := List.map_append
theorem byteVals_length (a : List UInt8) : (byteVals a).length = a.length := List.length_map _
theorem byteVals_get {l : List UInt8} {j : Nat} (h : j < l.length) : (byteVals l)[j]? = some (.int .u8 (l[j].toNat : Int)) := by simp [byteVals, h]

/-- A row of the call's own: a slice with its cells. -/
theorem vown_form {w : World} {B e n : Nat} {v : Value} {xs : List Value} (h : w.ownsRow B e 1 v n xs) : (∃ ad cap, v = .slice ad n cap ∧ ∀ g, ad = some g → g.spot = none) ∧ (0 < n → ∃ g cap, v = .slice (some ⟨g, 0, none⟩) n cap ∧ g < w.heap.size ∧ B ≤ g ∧ ∀ j x, xs[j]? = some x → w.cell? ⟨g, j, none⟩ = some x) := by
  obtain ⟨hl, h1⟩ := id h
  rcases h1 with ⟨rfl, rfl⟩ | ⟨g, cap, cur, rfl, hb, hg, h4⟩
  · exact ⟨⟨none, 0, rfl, fun g hg => by cases hg⟩, fun h => by omega⟩
  · refine ⟨⟨_, cap, rfl, fun x hx => by cases hx; rfl⟩, fun _ => ⟨g, cap, rfl, (Array.getElem?_eq_some_iff.1 hg).1, hb, fun j x hx => ?_⟩⟩
    have := h.cells (g := g) rfl j x hx
    have hadd : (⟨g, 0, none⟩ : Addr).add j = ⟨g, j, none⟩ := by unfold Addr.add; split <;> simp_all
    rwa [hadd] at this

theorem byteVals_one {x : Nat} (h : x < 256) : byteVals [x.toUInt8] = [.int .u8 (x : Int)] := by
  simp only [byteVals, List.map_cons, List.map_nil, u8_nat h]

theorem len_of {acc : List UInt8} {k n : Nat} (h : acc ++ uvarint k = uvarint n) (hn : n < 18446744073709551616) : acc.length + 1 ≤ 10 := by
  have h1 := uvarint_length64 hn
  have h2 := uvarint_pos k
  have h3 := congrArg List.length h
  rw [List.length_append] at h3
  omega

set_option maxRecDepth 100000 in
set_option maxHeartbeats 2000000 in
theorem vput_any (n : Nat) (hn : n < 18446744073709551616) (w : World) :
    Calls Tryz.prog 76 #[.int .u64 (n : Int)] w fun e w' => (∃ v, e = .returned v ∧ w'.ownsRow w.heap.size 5 1 v (uvarint n).length (byteVals (uvarint n))) ∧ Below w.heap.size w w' := by
  obtain ⟨i0, hi, hz0, hz1', hz2⟩ := info_parts info5
  have HN := hidden hn
  clear hn
  go_enter Tryz.func76, Tryz.ntmps76
  go_wp2_with fail
  go_loopw [0, 3] (fun m b wr => ∃ (k : Nat) (acc : List UInt8), m = .int .u64 (k : Int) ∧ k < 18446744073709551616 ∧ acc ++ uvarint k = uvarint n ∧ wr.ownsRow w.heap.size 5 1 b acc.length (byteVals acc) ∧ Below w.heap.size w wr) (fun m _ _ => (intOf m).toNat)
  case atStart => exact ⟨n, [], rfl, HN.out, rfl, World.ownsRow_nil _ _ _ _, Below.refl _ _⟩
  case round =>
    obtain ⟨k, acc, rfl, hk, hacc, hown, hbel⟩ := hrel
    have hlen := len_of hacc HN.out
    have HA := hidden hacc
    have HO := hidden hown
    have HB := hidden hbel
    have hzr := hbel.size
    clear hacc hown hbel
    by_cases h : (k : Int) ≥ 128
    · have hor := u8_or128_any ((k : Int) % 256) (by omega) (by omega)
      go_wp2_with (first | (at_builtin; refine wpList_append_own_at _ rfl _ _ 24 rfl w.heap.size 5 i0 (.int .u8 0) 1 1 Tryz.underlying24 hi hz0 hz1' hz2 rfl (by decide) _ _ _ rfl (HO.out.alloc _) ⟨wr.heap.size, 0, none⟩ 1 1 [.int .u8 ((k : Int) % 128 + 128)] rfl rfl ?c1 ?c2 ?c3 ?c4 ?c5 ?_))
      case c1 => exact cell_one_new _ _ _
      case c2 => first | rfl | (intro u hu; simp at hu; subst hu; rfl)
      case c3 => unfold maxLen; omega
      case c4 => omega
      case c5 => first | omega | (simp; omega)
      intro v1 w2 o1 g1 _ e1
      have HO1 := hidden o1
      have HB1 := hidden ((HB.out.alloc (by omega) _).grown g1 (by simp; omega) (fun k hk => (HO.out.lt k hk).1))
      clear o1 g1 e1
      go_wp2_with fail
      go_roundw
      case rel =>
        refine ⟨k / 128, acc ++ [(k % 128 + 128).toUInt8], by go_num, by omega, ?_, ?_, HB1.out⟩
        · rw [← HA.out, uvarint_big (x := k) (by omega)]; simp
        · rw [byteVals_append, List.length_append]
          rw [byteVals_one (by omega)]
          exact HO1.out
      case measure => simp [intOf]; omega
    · have hsm : uvarint k = [k.toUInt8] := uvarint_small (by omega)
      have HS := hidden hsm
      clear hsm
      go_wp2_with (first | (at_builtin; refine wpList_append_own_at _ rfl _ _ 24 rfl w.heap.size 5 i0 (.int .u8 0) 1 1 Tryz.underlying24 hi hz0 hz1' hz2 rfl (by decide) _ _ _ rfl (HO.out.alloc _) ⟨wr.heap.size, 0, none⟩ 1 1 [.int .u8 (k : Int)] rfl rfl ?c1 ?c2 ?c3 ?c4 ?c5 ?_))
      case c2 => first | rfl | (intro u hu; simp at hu; subst hu; rfl)
      case c3 => unfold maxLen; omega
      case c4 => omega
      case c5 => first | omega | (simp; omega)
      intro v1 w2 o1 g1 _ e1
      have HO1 := hidden o1
      have HB1 := hidden ((HB.out.alloc (by omega) _).grown g1 (by simp; omega) (fun k hk => (HO.out.lt k hk).1))
      clear o1 g1 e1
      go_wp2_with fail
      go_ret
      refine ⟨⟨_, rfl, ?_⟩, HB1.out⟩
      have h1 := HO1.out
      rw [← HA.out, HS.out, byteVals_append, List.length_append]
      rw [byteVals_one (by omega)]
      exact h1
end Go.Proofs.YtcmmednihoaekaaGreat
set_option linter.unusedVariables false
set_option linter.unusedSimpArgs false
namespace Go.Proofs.YtcmmednihoaekaaGreat
open Go.RowKit Go.Lib

theorem byteVals_oneCell (l : List UInt8) : ∀ u ∈ byteVals l, u.oneCell' = true := by
  intro u hu
  obtain ⟨b, _, rfl⟩ := List.mem_map.1 hu
  rfl

set_option maxRecDepth 100000 in
set_option maxHeartbeats 2000000 in
theorem refPut_all : ∀ (N n : Nat), n ≤ N → n < 18446744073709551616 → ∀ w : World,
    Calls Tryz.prog 35 #[.int .u64 (n : Int)] w fun e w' => (∃ v, e = .returned v ∧ w'.ownsRow w.heap.size 5 1 v (uvarint n).length (byteVals (uvarint n))) ∧ Below w.heap.size w w' := by
  intro N
  induction N with
  | zero =>
    intro n h0 hn w
    obtain rfl : n = 0 := by omega
    have HS := hidden (uvarint_small (x := 0) (by omega))
    go_enter Tryz.func35, Tryz.ntmps35
    go_wp2_with fail
    go_ret
    refine ⟨⟨_, rfl, ?_⟩, (Below.refl _ _).alloc (Nat.le_refl _) _⟩
    rw [HS.out]
    exact World.ownsRow_lit w #[.int .u8 0] 1 (Nat.le_refl _) (by unfold maxLen; omega) rfl
  | succ N ih =>
    intro n h0 hn w
    obtain ⟨i0, hi, hz0, hz1', hz2⟩ := info_parts info5
    by_cases h : (n : Int) < 128
    · have HS := hidden (uvarint_small (x := n) (by omega))
      have HV := hidden (byteVals_one (x := n) (by omega))
      clear ih
      go_enter Tryz.func35, Tryz.ntmps35
      go_wp2_with fail
      go_ret
      refine ⟨⟨_, rfl, ?_⟩, (Below.refl _ _).alloc (Nat.le_refl _) _⟩
      rw [HS.out, HV.out]
      exact World.ownsRow_lit w #[.int .u8 (n : Int)] 1 (Nat.le_refl _) (by unfold maxLen; omega) rfl
    · have HS := hidden (uvarint_big (x := n) (by omega))
      have HL := hidden (uvarint_length64 (x := n / 128) (by omega))
      have HP := hidden (uvarint_pos (n / 128))
      have HV := hidden (byteVals_one (x := n % 128 + 128) (by omega))
      have HI := hidden (ih (n / 128) (by omega) (by omega))
      have hlit : ∀ B, B ≤ w.heap.size → (w.alloc (.cells #[.int .u8 ((n : Int) % 128 + 128)] 5)).ownsRow B 5 1 (.slice (some ⟨w.heap.size, 0, none⟩) 1 1) 1 [.int .u8 ((n : Int) % 128 + 128)] := fun B hB => World.ownsRow_lit w #[.int .u8 ((n : Int) % 128 + 128)] 1 hB (by unfold maxLen; omega) rfl
      have HLit := hidden hlit
      clear ih hlit
      go_enter Tryz.func35, Tryz.ntmps35
      go_wp2_with fail
      refine (HI.out _).mono ?_
      rintro e w2 ⟨⟨v, rfl, hown⟩, hb⟩
      obtain ⟨g, cap, rfl, hg, hgB, hc⟩ := (vown_form hown).2 HP.out
      have HC := hidden hc
      have HO := hidden (own_kept (HLit.out w.heap.size (Nat.le_refl _)) hb)
      have HB := hidden (((Below.refl w.heap.size w).alloc (Nat.le_refl _) (.cells #[.int .u8 ((n : Int) % 128 + 128)] 5)).trans (hb.mono (by simp)))
      have hz := hb.size
      simp at hz
      clear hc hown hb
      have hlen := HL.out
      go_wp2_with (first | (at_builtin; refine wpList_append_own_at _ rfl _ _ 24 rfl w.heap.size 5 i0 (.int .u8 0) 1 1 Tryz.underlying24 hi hz0 hz1' hz2 rfl (by decide) _ _ _ rfl HO.out ⟨g, 0, none⟩ (uvarint (n / 128)).length cap (byteVals (uvarint (n / 128))) rfl (by rw [byteVals_length]; omega) ?c1 ?c2 ?c3 ?c4 ?c5 ?_))
      case c1 => intro j u hu; rw [add0]; exact HC.out j u hu
      case c2 => exact byteVals_oneCell _
      case c3 => unfold maxLen; omega
      case c4 => omega
      case c5 => omega
      intro v1 w3 o1 g1 _ e1
      have HO1 := hidden o1
      have HB1 := hidden (HB.out.grown g1 (by omega) (fun k hk => (HO.out.lt k hk).1))
      clear o1 g1 e1
      go_wp2_with fail
      go_ret
      refine ⟨⟨_, rfl, ?_⟩, HB1.out⟩
      have h1 := HO1.out
      rw [HS.out]
      have e2 : byteVals ((n % 128 + 128).toUInt8 :: uvarint (n / 128)) = [.int .u8 ((n : Int) % 128 + 128)] ++ byteVals (uvarint (n / 128)) := by
        rw [← List.singleton_append, byteVals_append, HV.out]
        rfl
      rw [e2, List.length_cons, Nat.add_comm]
      exact h1

theorem refPut_any (n : Nat) (hn : n < 18446744073709551616) (w : World) :
    Calls Tryz.prog 35 #[.int .u64 (n : Int)] w fun e w' => (∃ v, e = .returned v ∧ w'.ownsRow w.heap.size 5 1 v (uvarint n).length (byteVals (uvarint n))) ∧ Below w.heap.size w w' :=
  refPut_all n n (Nat.le_refl _) hn w

theorem i64_xor (x : Int) (h0 : -9223372036854775808 ≤ x) (h1 : x ≤ 9223372036854775807) : bits .xor .i64 (-1) x = -x - 1 := by
  by_cases h : x < 0
  · show IntKind.i64.wrap ((BitVec.ofInt 64 (-1) ^^^ BitVec.ofInt 64 x).toNat : Int) = _
    have e1 : (BitVec.ofInt 64 (-1)).toNat = 2 ^ 64 - 1 := by decide
    have e2 : (BitVec.ofInt 64 x).toNat = (x + 18446744073709551616).toNat := by
      rw [BitVec.toNat_ofInt]; omega
    rw [BitVec.toNat_xor, e1, e2, xor_ones64 _ (by omega), IntKind.wrap_i64]
    omega
  · obtain ⟨n, rfl⟩ := Int.eq_ofNat_of_zero_le (a := x) (by omega)
    exact i64_not n (by omega)

theorem zig_or {z : Int} (h0 : -9223372036854775808 ≤ z) (h : z < 0) : bits .or .u64 (IntKind.u64.wrap (IntKind.u64.wrap (-z - 1) * 2)) 1 = ((zigzag z : Nat) : Int) := by
  have e : IntKind.u64.wrap (IntKind.u64.wrap (-z - 1) * 2) = (-z - 1) * 2 := by rw [IntKind.wrap_u64, IntKind.wrap_u64]; omega
  rw [e, bits_join .u64 64 (by decide) wraps_u64 1 _ _ (by omega) (by omega) (by omega) (by omega) (by omega) (by omega)]
  unfold zigzag
  rw [if_neg (by omega)]
  omega

set_option maxRecDepth 100000 in
theorem putInt_any (z : Int) (h0 : -9223372036854775808 ≤ z) (h1 : z ≤ 9223372036854775807) (w : World) :
    Calls Tryz.prog 108 #[.int .i64 z] w fun e w' => (∃ v, e = .returned v ∧ w'.ownsRow w.heap.size 5 1 v (uvarint (zigzag z)).length (byteVals (uvarint (zigzag z)))) ∧ Below w.heap.size w w' := by
  have HP := hidden (vput_any (zigzag z) (zigzag_lt h0 h1))
  by_cases h : z < 0
  · have hx := i64_xor z h0 h1
    have HE := hidden (zig_or h0 h)
    go_enter Tryz.func108, Tryz.ntmps108
    go_wp2_with fail
    rw [HE.out]
    refine (HP.out _).mono ?_
    rintro e w2 ⟨⟨v, rfl, hown⟩, hb⟩
    have HO := hidden hown
    clear hown
    go_wp2_with fail
    go_ret
    exact ⟨⟨_, rfl, HO.out⟩, hb⟩
  · have HE := hidden (zigzag_nonneg (x := z) (by omega))
    go_enter Tryz.func108, Tryz.ntmps108
    go_wp2_with fail
    rw [← HE.out]
    refine (HP.out _).mono ?_
    rintro e w2 ⟨⟨v, rfl, hown⟩, hb⟩
    have HO := hidden hown
    clear hown
    go_wp2_with fail
    go_ret
    exact ⟨⟨_, rfl, HO.out⟩, hb⟩

set_option maxRecDepth 100000 in
theorem refPutInt_any (z : Int) (h0 : -9223372036854775808 ≤ z) (h1 : z ≤ 9223372036854775807) (w : World) :
    Calls Tryz.prog 79 #[.int .i64 z] w fun e w' => (∃ v, e = .returned v ∧ w'.ownsRow w.heap.size 5 1 v (uvarint (zigzag z)).length (byteVals (uvarint (zigzag z)))) ∧ Below w.heap.size w w' := by
  have HP := hidden (refPut_any (zigzag z) (zigzag_lt h0 h1))
  by_cases h : z ≥ 0
  · have HE := hidden (zigzag_nonneg (x := z) (by omega))
    go_enter Tryz.func79, Tryz.ntmps79
    go_wp2_with fail
    rw [Int.mul_comm, ← HE.out]
    refine (HP.out _).mono ?_
    rintro e w2 ⟨⟨v, rfl, hown⟩, hb⟩
    have HO := hidden hown
    clear hown
    go_wp2_with fail
    go_ret
    exact ⟨⟨_, rfl, HO.out⟩, hb⟩
  · have he : 2 * -(z + 1) + 1 = ((zigzag z : Nat) : Int) := by unfold zigzag; rw [if_neg (by omega)]; omega
    have HE := hidden he
    clear he
    go_enter Tryz.func79, Tryz.ntmps79
    go_wp2_with fail
    rw [HE.out]
    refine (HP.out _).mono ?_
    rintro e w2 ⟨⟨v, rfl, hown⟩, hb⟩
    have HO := hidden hown
    clear hown
    go_wp2_with fail
    go_ret
    exact ⟨⟨_, rfl, HO.out⟩, hb⟩
end Go.Proofs.YtcmmednihoaekaaGreat
set_option linter.unusedVariables false
set_option linter.unusedSimpArgs false
namespace Go.Proofs.YtcmmednihoaekaaGreat
open Go.RowKit Go.Lib

/-- A slice whose bytes are l. -/
def Sl (W : World) (v : Value) (l : List UInt8) : Prop :=
  ∃ a cap, v = .slice a l.length cap ∧ l.length ≤ cap ∧ cap ≤ maxLen ∧
    (0 < l.length → ∃ b off, a = some ⟨b, off, none⟩ ∧ b < W.heap.size ∧ ∀ j (h : j < l.length), W.cell? ⟨b, off + j, none⟩ = some (.int .u8 (l[j].toNat : Int)))

theorem Sl.kept {W W' : World} {v : Value} {l : List UInt8} (h : Sl W v l) (hb : Below W.heap.size W W') : Sl W' v l := by
  obtain ⟨a, cap, rfl, h1, h2, h3⟩ := h
  refine ⟨a, cap, rfl, h1, h2, fun h0 => ?_⟩
  obtain ⟨b, off, rfl, h4, h5⟩ := h3 h0
  exact ⟨b, off, rfl, Nat.lt_of_lt_of_le h4 hb.size, fun j hj => (hb.cell (p := ⟨b, off + j, none⟩) h4).trans (h5 j hj)⟩

theorem Sl.of_own {W : World} {B n : Nat} {v : Value} {l : List UInt8} (h : W.ownsRow B 5 1 v n (byteVals l)) : Sl W v l := by
  have hl : l.length = n := by have := h.1; simpa [byteVals] using this
  obtain ⟨_, h1⟩ := id h
  rcases h1 with ⟨rfl, rfl⟩ | ⟨g, cap, cur, rfl, hb, hg, h4, h5, _⟩
  · exact ⟨none, 0, by rw [hl], by omega, by unfold maxLen; omega, fun h0 => by omega⟩
  · refine ⟨_, cap, by rw [hl], by omega, h5, fun _ => ⟨g, 0, rfl, (Array.getElem?_eq_some_iff.1 hg).1, fun j hj => ?_⟩⟩
    have := h.cells (g := g) rfl j _ (byteVals_get hj)
    rw [add0] at this
    rwa [Nat.zero_add]

theorem Sl.conv {W : World} {v : Value} {l : List UInt8} (h : Sl W v l) (hp : 0 < l.length) : (convert 24 9 v).run Tryz.prog W = .ok (.string ⟨l.toArray⟩) W := by
  obtain ⟨a, cap, rfl, h1, h2, h3⟩ := h
  obtain ⟨b, off, rfl, h4, h5⟩ := h3 hp
  refine run_convert_bytes_back W 24 9 5 ⟨b, off, none⟩ cap l Tryz.underlying24 Tryz.underlying5 Tryz.underlying9 fun j hj => ?_
  have hadd : (⟨b, off, none⟩ : Addr).add j = ⟨b, off + j, none⟩ := by unfold Addr.add; split <;> simp_all
  rw [hadd]
  exact h5 j hj

/-- The answers of a Get. -/
def tell (k : IntKind) (x : Int) (u e : Nat) : Ending := .returned (.tuple #[.int k x, .int .i64 (u : Int), .int .i64 (e : Int)])

theorem tell_eq {k : IntKind} {x y : Int} {u v e f : Nat} (h1 : x = y) (h2 : u = v) (h3 : e = f) : tell k x u e = tell k y v f := by rw [h1, h2, h3]

set_option maxRecDepth 100000 in
theorem short_any (n used : Nat) (c : UInt8) (hu : used ≤ 10) (w : World) :
    Calls Tryz.prog 171 #[.int .u64 (n : Int), .int .i64 (used : Int), .int .u8 (c.toNat : Int)] w fun e w' =>
      e = (if c.toNat = 0 ∧ 1 < used then tell .u64 0 0 31 else tell .u64 (n : Int) used 0) ∧ w' = w := by
  by_cases h1 : ((c.toNat : Int) == 0) = true
  · have h1' : c.toNat = 0 := by simpa using h1
    by_cases h2 : (used : Int) > 1
    · rw [if_pos ⟨h1', by omega⟩]
      clear h1'
      go_enter Tryz.func171, Tryz.ntmps171
      go_wp2_with fail
      go_ret3
      exact ⟨rfl, rfl⟩
    · rw [if_neg (fun h => by omega)]
      clear h1'
      go_enter Tryz.func171, Tryz.ntmps171
      go_wp2_with fail
      go_ret3
      exact ⟨rfl, rfl⟩
  · have h1' : ((c.toNat : Int) == 0) = false := by simpa using h1
    rw [if_neg (fun h => h1 (by simpa using h.1))]
    clear h1
    go_enter Tryz.func171, Tryz.ntmps171
    go_wp2_with fail
    go_ret3
    exact ⟨rfl, rfl⟩

theorem get_empty (a : Option Addr) (cap : Nat) (w : World) : Calls Tryz.prog 155 #[.slice a 0 cap] w fun e w' => e = tell .u64 0 0 30 ∧ w' = w := by
  go_enter Tryz.func155, Tryz.ntmps155
  go_wp2_with fail
  refine wp_loop_rounds 1 ?_
  rw [rounds_succ]
  go_wp2_with fail
  go_ret3
  exact ⟨rfl, rfl⟩

theorem shl_eq {c k : Nat} : ((c : Nat) : Int) * 2 ^ (7 * k) = ((c * 128 ^ k : Nat) : Int) := by
  rw [← pow7]
  simp

theorem join_eq {l : List UInt8} {k : Nat} (h : k < l.length) (h9 : k ≤ 9) (h64 : val (l.take (k + 1)) < 18446744073709551616) :
    bits .or .u64 (val (l.take k) : Int) (IntKind.u64.wrap ((l[k].toNat : Int) % 128 * 2 ^ (7 * k))) = (val (l.take (k + 1)) : Int) := by
  have hv := val_take_succ h
  have hl := val_lt (l.take k)
  rw [List.length_take, Nat.min_eq_left (by omega)] at hl
  have e : (l[k].toNat : Int) % 128 * 2 ^ (7 * k) = ((l[k].toNat % 128 * 128 ^ k : Nat) : Int) := by
    rw [← shl_eq]; simp
  rw [e, wraps_u64 _ (by omega) (by omega), or_shift h9 hl (by omega), hv]

theorem used_eq {k : Nat} {n : Int} {c : UInt8} (hu : k + 1 ≤ 10) (w : World) {P : Ending → World → Prop} (h : Calls Tryz.prog 171 #[.int .u64 n, .int .i64 ((k + 1 : Nat) : Int), .int .u8 (c.toNat : Int)] w P) :
    Calls Tryz.prog 171 #[.int .u64 n, .int .i64 ((k : Int) + 1), .int .u8 (c.toNat : Int)] w P := by
  have e : ((k + 1 : Nat) : Int) = (k : Int) + 1 := by omega
  rwa [e] at h

set_option maxRecDepth 100000 in
set_option maxHeartbeats 2000000 in
theorem get_full (b off cap : Nat) (l : List UInt8) (w : World) (hmax : l.length ≤ maxLen) (hcap : l.length ≤ cap)
    (hc : ∀ j (h : j < l.length), w.cell? ⟨b, off + j, none⟩ = some (.int .u8 (l[j].toNat : Int))) :
    Calls Tryz.prog 155 #[.slice (some ⟨b, off, none⟩) l.length cap] w fun e w' => e = tell .u64 ((getL l).1 : Int) (getL l).2.1 (getL l).2.2 ∧ w' = w := by
  have hm : l.length ≤ 9223372036854775807 := by unfold maxLen at hmax; omega
  have HC := hidden hc
  clear hc hmax
  go_enter Tryz.func155, Tryz.ntmps155
  go_wp2_with fail
  go_loopw [5, 10] (fun n i w' => w' = w ∧ ∃ k : Nat, k ≤ 9 ∧ k ≤ l.length ∧ k ≤ lead l ∧ i = .int .i64 (k : Int) ∧ n = .int .u64 (val (l.take k) : Int)) (fun _ i _ => l.length - (intOf i).toNat)
  case atStart => exact ⟨rfl, 0, by omega, by omega, by omega, rfl, rfl⟩
  case round =>
    obtain ⟨rfl, k, h9, hk, hlead, rfl, rfl⟩ := hrel
    by_cases hlt : k < l.length
    · have hck := HC.out k hlt
      have hval := val_take_succ hlt
      have hvlt := val_lt (l.take k)
      rw [List.length_take, Nat.min_eq_left (by omega)] at hvlt
      have HT := hidden (fun (e : k = 9) (h : 1 < l[k].toNat) => getL_tenth (l := l) (by omega) (by omega) (by subst e; exact h))
      have HL := hidden (fun h1 h2 => getL_last (l := l) hlead h9 hlt h1 h2)
      have HN := hidden (lead_succ hlead hlt)
      have h64 := fun h => join_eq (l := l) hlt h9 (val64 (l := l) h9 hlt h)
      have hcl := l[k].toNat_lt
      have han := u8_andNot l[k]
      have HLE := hidden hlead
      have HSA := hidden (fun w => used_eq (k := k) (by omega) w (short_any (val (l.take (k + 1))) (k + 1) l[k] (by omega) w))
      clear hlead
      generalize l[k] = c at *
      by_cases hk9 : ((k : Int) == 9) = true
      · have hk9' : k = 9 := by have : (k : Int) = 9 := by simpa using hk9
                                omega
        by_cases hc1 : (c.toNat : Int) > 1
        · have HE := hidden (HT.out hk9' (by omega))
          clear HT HL HN h64 hval hvlt han hk9'
          go_wp2_with fail
          go_ret3
          rw [HE.out]
          exact ⟨rfl, rfl⟩
        · have HJ := hidden (h64 (fun _ => by omega))
          have HF := hidden (HL.out (by omega) (fun _ => by omega))
          clear HT HL HN h64 hval hvlt hk9'
          go_wp2_with fail
          rw [HJ.out]
          refine (HSA.out _).mono ?_
          rintro e w1 ⟨rfl, rfl⟩
          have HF2 : Hid ((if c.toNat = 0 ∧ 1 < k + 1 then tell .u64 0 0 31 else tell .u64 (val (l.take (k + 1)) : Int) (k + 1) 0) = tell .u64 ((getL l).1 : Int) (getL l).2.1 (getL l).2.2) := by
            show _ = _
            rw [HF.out]
            by_cases h : c.toNat = 0 ∧ 0 < k
            · rw [if_pos h, if_pos ⟨h.1, by omega⟩]; rfl
            · rw [if_neg h, if_neg (fun h1 => h ⟨h1.1, by omega⟩)]
          rw [HF2.out]
          unfold tell
          go_wp2_with fail
          go_ret3
          exact ⟨rfl, rfl⟩
      · have hk9' : ((k : Int) == 9) = false := by simpa using hk9
        have hk8 : k ≤ 8 := by have : ¬ (k : Int) = 9 := by simpa using hk9
                               omega
        have HJ := hidden (h64 (fun _ => by omega))
        clear hk9
        by_cases hc1 : (c.toNat : Int) < 128
        · have HF := hidden (HL.out (by omega) (fun _ => by omega))
          clear HT HL HN h64 hval hvlt
          go_wp2_with fail
          rw [HJ.out]
          refine (HSA.out _).mono ?_
          rintro e w1 ⟨rfl, rfl⟩
          have HF2 : Hid ((if c.toNat = 0 ∧ 1 < k + 1 then tell .u64 0 0 31 else tell .u64 (val (l.take (k + 1)) : Int) (k + 1) 0) = tell .u64 ((getL l).1 : Int) (getL l).2.1 (getL l).2.2) := by
            show _ = _
            rw [HF.out]
            by_cases h : c.toNat = 0 ∧ 0 < k
            · rw [if_pos h, if_pos ⟨h.1, by omega⟩]; rfl
            · rw [if_neg h, if_neg (fun h1 => h ⟨h1.1, by omega⟩)]
          rw [HF2.out]
          unfold tell
          go_wp2_with fail
          go_ret3
          exact ⟨rfl, rfl⟩
        · have HF := hidden (HN.out (by omega))
          clear HT HL HN h64 hval hvlt
          go_wp2_with fail
          rw [HJ.out]
          go_roundw
          case rel => exact ⟨trivial, k + 1, by omega, by omega, HF.out, by go_num, rfl⟩
          case measure => simp [intOf]; omega
    · have HE := hidden (getL_end hlead h9 hlt)
      clear hlead
      go_wp2_with fail
      go_ret3
      rw [HE.out]
      exact ⟨rfl, rfl⟩
end Go.Proofs.YtcmmednihoaekaaGreat
set_option linter.unusedVariables false
set_option linter.unusedSimpArgs false
namespace Go.Proofs.YtcmmednihoaekaaGreat
open Go.RowKit Go.Lib

theorem get_any {w : World} {v : Value} {l : List UInt8} (h : Sl w v l) : Calls Tryz.prog 155 #[v] w fun e w' => e = tell .u64 ((getL l).1 : Int) (getL l).2.1 (getL l).2.2 ∧ w' = w := by
  obtain ⟨a, cap, rfl, h1, h2, h3⟩ := h
  cases l with
  | nil => exact get_empty a cap w
  | cons x r =>
    obtain ⟨b, off, rfl, _, h5⟩ := h3 (by simp)
    exact get_full b off cap (x :: r) w (by omega) h1 h5

/-- The lead of bytes that aren't refused by the tenth one. -/
theorem lead_nine {l : List UInt8} (h : ¬ (9 ≤ lead l ∧ 9 < l.length ∧ 1 < (l.getD 9 0).toNat)) (hl : lead l < l.length) : lead l ≤ 9 ∧ (lead l = 9 → l[lead l].toNat ≤ 1) := by
  have h9 : lead l ≤ 9 := by
    rcases Nat.lt_or_ge 9 (lead l) with h1 | h1
    · exfalso
      apply h
      refine ⟨by omega, by omega, ?_⟩
      rw [getD_at (by omega)]
      have := lead_big l 9 (by omega) h1
      omega
    · exact h1
  refine ⟨h9, fun e => ?_⟩
  have h3 : ¬ 1 < (l.getD 9 0).toNat := fun h2 => h ⟨by omega, by omega, h2⟩
  rw [getD_at (by omega)] at h3
  simp only [e]
  omega

theorem getL_form (l : List UInt8) : (getL l).1 < 18446744073709551616 ∧ (getL l).2.1 ≤ l.length ∧ (getL l).2.1 ≤ 10 ∧ ((getL l).2.2 = 0 ∨ (((getL l).2.2 = 30 ∨ (getL l).2.2 = 31) ∧ (getL l).1 = 0 ∧ (getL l).2.1 = 0)) := by
  have hle := lead_le l
  unfold getL
  split
  · simp
  · rename_i h1
    split
    · simp
    · rename_i h2
      have hl : lead l < l.length := by omega
      obtain ⟨h9, ht⟩ := lead_nine h1 hl
      split
      · simp
      · refine ⟨val64 h9 hl ht, ?_, ?_, Or.inl rfl⟩ <;> simp only <;> omega

theorem err_code {e : Nat} (h : e = 0 ∨ e = 30 ∨ e = 31) (h0 : ¬ e = 0) : ((e : Int) != 0) = true := by simp; omega

set_option maxRecDepth 100000 in
theorem getInt_any {w : World} {v : Value} {l : List UInt8} (h : Sl w v l) : Calls Tryz.prog 176 #[v] w fun e w' => e = tell .i64 (unzig (getL l).1) (getL l).2.1 (getL l).2.2 ∧ w' = w := by
  have HG := hidden (get_any h)
  obtain ⟨f1, f2, f3, f4⟩ := getL_form l
  clear h
  generalize getL l = x at *
  obtain ⟨n, u, c⟩ := x
  simp only at *
  unfold tell at *
  clear f2
  go_enter Tryz.func176, Tryz.ntmps176
  go_wp2_with fail
  refine HG.out.mono ?_
  rintro e w1 ⟨rfl, rfl⟩
  by_cases h0 : c = 0
  · subst h0
    clear f4
    have HU : Hid (∀ m : Int, m = unzig n → m = unzig n) := fun m h => h
    have ha := u64_and1 (n : Int) (by omega) (by omega)
    by_cases hp : n % 2 = 0
    · have hb : ((n : Int) % 2 == 1) = false := by simp; omega
      go_wp2_with fail
      go_ret3
      unfold unzig
      rw [if_pos hp]
      exact ⟨rfl, rfl⟩
    · have hb : ((n : Int) % 2 == 1) = true := by simp; omega
      have hx := i64_xor ((n : Int) / 2) (by omega) (by omega)
      go_wp2_with fail
      go_ret3
      unfold unzig
      rw [if_neg hp]
      exact ⟨rfl, rfl⟩
  · have hne : ((c : Int) != 0) = true := err_code (by omega) h0
    obtain ⟨rfl, rfl⟩ : n = 0 ∧ u = 0 := by omega
    go_wp2_with fail
    go_ret3
    exact ⟨rfl, rfl⟩
end Go.Proofs.YtcmmednihoaekaaGreat
set_option linter.unusedVariables false
set_option linter.unusedSimpArgs false
namespace Go.Proofs.YtcmmednihoaekaaGreat
open Go.RowKit Go.Lib

theorem refGet_empty (a : Option Addr) (cap : Nat) (w : World) : Calls Tryz.prog 61 #[.slice a 0 cap] w fun e w' => e = tell .u64 0 0 30 ∧ Below w.heap.size w w' := by
  go_enter Tryz.func61, Tryz.ntmps61
  go_wp2_with fail
  refine wp_loop_rounds 1 ?_
  rw [rounds_succ]
  go_wp2_with fail
  go_ret3
  exact ⟨rfl, Below.refl _ _⟩

theorem getL_ten {l : List UInt8} (h : 10 ≤ lead l) : getL l = (0, 0, 31) := by
  have hle := lead_le l
  have := lead_big l 9 (by omega) (by omega)
  exact getL_tenth (by omega) (by omega) (by omega)

theorem conv_part {W : World} {b off cap k : Nat} {l : List UInt8} (hk : 0 < k) (hkl : k ≤ l.length) (hcap : l.length ≤ cap) (hm : cap ≤ maxLen) (hb : b < W.heap.size)
    (hc : ∀ j (h : j < l.length), W.cell? ⟨b, off + j, none⟩ = some (.int .u8 (l[j].toNat : Int))) :
    (convert 24 9 (.slice (some ⟨b, off, none⟩) k cap)).run Tryz.prog W = .ok (.string ⟨(l.take k).toArray⟩) W := by
  have hl : (l.take k).length = k := by simp; omega
  refine Sl.conv (l := l.take k) ⟨_, cap, by rw [hl], by omega, hm, fun _ => ⟨b, off, rfl, hb, fun j hj => ?_⟩⟩ (by omega)
  rw [hc j (by omega)]
  simp

theorem spare_eq {l : List UInt8} {k : Nat} {c : UInt8} (h : k < l.length) (hc : l[k] = c) (hl : lead l = k) :
    (¬ (c.toNat = 0 ∧ 0 < k) → (uvarint (val (l.take (k + 1))) == l.take (k + 1)) = true) ∧ ((c.toNat = 0 ∧ 0 < k) → (uvarint (val (l.take (k + 1))) == l.take (k + 1)) = false) := by
  have hlen : (l.take (k + 1)).length = k + 1 := by rw [List.length_take]; omega
  have hsm := lead_small l (by omega)
  have e1 : lead (l.take (k + 1)) = k := by
    have h1 : k ≤ lead (l.take (k + 1)) := by
      have h2 := lead_take l k (by omega)
      rcases Nat.lt_or_ge (lead (l.take (k + 1))) k with h3 | h3
      · exfalso
        have h4 := lead_small (l.take (k + 1)) (by omega)
        have h5 := lead_big l (lead (l.take (k + 1))) (by omega) (by omega)
        simp at h4
        omega
      · exact h3
    refine lead_eq h1 (by omega) ?_
    simp only [hl] at hsm
    simpa using hsm
  have h6 := uv_spare (l := l.take (k + 1)) (by omega)
  have e2 : (l.take (k + 1))[lead (l.take (k + 1))] = c := by
    simp only [e1]
    simpa using hc
  rw [e2, e1] at h6
  refine ⟨fun h7 => ?_, fun h7 => ?_⟩
  · simpa using h6.2 h7
  · rw [beq_eq_false_iff_ne]
    exact fun h8 => h6.1 h8 h7

theorem step_eq {l : List UInt8} {k j : Nat} (hj : j ≤ k) (hk : k < l.length) : val ((l.take (k + 1)).drop (j + 1)) * 128 + l[j].toNat % 128 = val ((l.take (k + 1)).drop j) := by
  have h : j < (l.take (k + 1)).length := by simp; omega
  rw [val_drop h]
  simp
  omega

set_option maxRecDepth 100000 in
set_option maxHeartbeats 2000000 in
theorem refGet_full (b off cap : Nat) (l : List UInt8) (w : World) (hp : 0 < l.length) (hmax : cap ≤ maxLen) (hcap : l.length ≤ cap) (hbw : b < w.heap.size)
    (hc : ∀ j (h : j < l.length), w.cell? ⟨b, off + j, none⟩ = some (.int .u8 (l[j].toNat : Int))) :
    Calls Tryz.prog 61 #[.slice (some ⟨b, off, none⟩) l.length cap] w fun e w' => e = tell .u64 ((getL l).1 : Int) (getL l).2.1 (getL l).2.2 ∧ Below w.heap.size w w' := by
  have hm : cap ≤ 9223372036854775807 := by unfold maxLen at hmax; omega
  have HC := hidden hc
  have HM := hidden hmax
  clear hc hmax
  go_enter Tryz.func61, Tryz.ntmps61
  go_wp2_with fail
  go_loopw [5] (fun i w' => w' = w ∧ ∃ k : Nat, k ≤ 10 ∧ k ≤ l.length ∧ k ≤ lead l ∧ i = .int .i64 (k : Int)) (fun i _ => l.length - (intOf i).toNat)
  case atStart => exact ⟨rfl, 0, by omega, by omega, by omega, rfl⟩
  case round =>
    obtain ⟨rfl, k, h10, hk, hlead, rfl⟩ := hrel
    by_cases hk10 : k = 10
    · subst hk10
      have HE := hidden (getL_ten hlead)
      clear hlead
      by_cases hlt : 10 < l.length
      · have hck := HC.out 10 hlt
        go_wp2_with fail
        go_ret3
        rw [HE.out]
        exact ⟨rfl, Below.refl _ _⟩
      · go_wp2_with fail
        go_ret3
        rw [HE.out]
        exact ⟨rfl, Below.refl _ _⟩
    · by_cases hlt : k < l.length
      · have hck := HC.out k hlt
        have hcl := l[k].toNat_lt
        have HT := hidden (fun (e : k = 9) (h : 1 < l[k].toNat) => getL_tenth (l := l) (by omega) (by omega) (by subst e; exact h))
        have HL := hidden (fun h1 h2 => getL_last (l := l) hlead (by omega) hlt h1 h2)
        have HEQ := hidden (fun h1 => lead_eq (l := l) hlead hlt h1)
        have HN := hidden (lead_succ hlead hlt)
        have H64 := hidden (fun h => val64 (l := l) (k := k) (by omega) hlt h)
        have HGK : Hid (l[k] = l[k]) := rfl
        generalize hgc : l[k] = c at *
        have HGC := hidden hgc
        clear hgc HGK
        have HLE := hidden hlead
        clear hlead
        by_cases hc1 : (c.toNat : Int) ≥ 128
        · have HN1 := hidden (HN.out (by omega))
          go_wp2_with fail
          go_roundw
          case rel => exact ⟨trivial, k + 1, by omega, by omega, HN1.out, by go_num⟩
          case measure => simp [intOf]; omega
        · by_cases hk9 : k = 9
          · have hk9b : ((k : Int) == 9) = true := by simp; omega
            have hk10b : ((k : Int) == 10) = false := by simp; omega
            have hkl : ((k : Int) == (l.length : Int)) = false := by simp; omega
            have hl9 : (l.length : Int) > 9 := by omega
            have hck9 : wr.cell? ⟨b, off + 9, none⟩ = some (.int .u8 (c.toNat : Int)) := by rw [← hck, hk9]
            by_cases hc2 : (c.toNat : Int) > 1
            · have HE := hidden (HT.out hk9 (by omega))
              clear hk9
              go_wp2_with fail
              go_ret3
              rw [HE.out]
              exact ⟨rfl, Below.refl _ _⟩
            · have HF := hidden (HL.out (by omega) (fun h => by omega))
              have H641 := hidden (H64.out (fun h => by omega))
              have HP := hidden (refPut_any (val (l.take (k + 1))) H641.out)
              have HCV := hidden (fun (w2 : World) (B : Nat) (v : Value) (h : w2.ownsRow B 5 1 v (uvarint (val (l.take (k + 1)))).length (byteVals (uvarint (val (l.take (k + 1)))))) => (Sl.of_own h).conv (uvarint_pos _))
              have HCS := hidden (fun (w2 : World) (h : Below wr.heap.size wr w2) => conv_part (W := w2) (b := b) (off := off) (cap := cap) (l := l) (k := k + 1) (by omega) (by omega) hcap HM.out (Nat.lt_of_lt_of_le hbw h.size) (fun j hj => (h.cell (p := ⟨b, off + j, none⟩) hbw).trans (HC.out j hj)))
              have hcs := HCS.out wr.drew (Below.refl _ _).drew
              have hkc1 : (0 : Int) ≤ (k : Int) + 1 := by omega
              have hkc2 : (k : Int) + 1 ≤ (cap : Int) := by omega
              have hkc3 : IntKind.i64.wrap ((k : Int) + 1) = (k : Int) + 1 := by rw [IntKind.wrap_i64]; omega
              have hkc4 : ((k : Int) + 1).toNat = k + 1 := by omega
              have HQ := hidden (spare_eq (l := l) (k := k) (c := c) hlt HGC.out (HEQ.out (by omega)))
              clear HT HL HN H64 HEQ
              clear hk9
              go_wp2_with fail
              go_loopw [6, 7] (fun n i w' => w' = wr ∧ ∃ m : Nat, m ≤ k + 1 ∧ i = .int .i64 ((m : Int) - 1) ∧ n = .int .u64 (val ((l.take (k + 1)).drop m) : Int)) (fun _ i _ => (intOf i + 1).toNat)
              case atStart => exact ⟨rfl, k + 1, Nat.le_refl _, by go_num, by rw [List.drop_of_length_le (by rw [List.length_take]; omega)]; rfl⟩
              case round =>
                obtain ⟨rfl, m, hmk, rfl, rfl⟩ := hrel
                cases m with
                | succ j =>
                  have e1 : (((j + 1 : Nat) : Int) - 1) = (j : Int) := by omega
                  rw [e1]
                  have hcj := HC.out j (by omega)
                  have hbj : l[j].toNat < 256 := l[j].toNat_lt
                  have HST := hidden (step_eq (l := l) (k := k) (j := j) (by omega) (by omega))
                  have hst : val ((l.take (k + 1)).drop (j + 1)) * 128 + l[j].toNat % 128 < 18446744073709551616 := by
                    rw [HST.out]; exact Nat.lt_of_le_of_lt (val_drop_le _ _) H641.out
                  generalize l[j] = d at *
                  generalize val ((l.take (k + 1)).drop (j + 1)) = X at *
                  clear e1
                  go_wp2_with fail
                  go_roundw
                  case rel => exact ⟨trivial, j, by omega, by go_num, by rw [← HST.out]; go_num⟩
                  case measure => simp [intOf]
                | zero =>
                  rw [List.drop_zero]
                  go_wp2_with fail
                  go_region_with (first | (go_at_call 35; refine (HP.out _).mono ?_; rintro e w2 ⟨⟨v, rfl, hown⟩, hb2⟩; have hcv := HCV.out _ _ _ hown; have hk2 := HCS.out _ ((Below.refl _ _).drew.trans hb2); clear hown))
                  all_goals
                    have HB := hidden ((Below.refl wr.heap.size wr).drew.trans hb2)
                    clear hb2 hcv hk2 hcs
                    have hq := HQ.out
                    generalize (uvarint (val (l.take (k + 1))) == l.take (k + 1)) = q at hq ⊢
                    have HQ2 := hidden hq
                    clear hq HQ
                    cases q with
                    | false =>
                      have hz : c.toNat = 0 ∧ 0 < k := Decidable.byContradiction (fun h => by have := HQ2.out.1 h; cases this)
                      rw [if_pos hz] at HF
                      clear hz HQ2
                      go_wp2_with fail
                      go_ret3
                      rw [HF.out]
                      exact ⟨rfl, HB.out⟩
                    | true =>
                      have hz : ¬ (c.toNat = 0 ∧ 0 < k) := fun h => by have := HQ2.out.2 h; cases this
                      rw [if_neg hz] at HF
                      clear hz HQ2
                      go_wp2_with fail
                      go_ret3
                      rw [HF.out]
                      exact ⟨rfl, HB.out⟩
          · have hk9b : ((k : Int) == 9) = false := by simp; omega
            have hk10b : ((k : Int) == 10) = false := by simp; omega
            have hkl : ((k : Int) == (l.length : Int)) = false := by simp; omega
            have HF := hidden (HL.out (by omega) (fun h => by omega))
            have H641 := hidden (H64.out (fun h => by omega))
            have HP := hidden (refPut_any (val (l.take (k + 1))) H641.out)
            have HCV := hidden (fun (w2 : World) (B : Nat) (v : Value) (h : w2.ownsRow B 5 1 v (uvarint (val (l.take (k + 1)))).length (byteVals (uvarint (val (l.take (k + 1)))))) => (Sl.of_own h).conv (uvarint_pos _))
            have HCS := hidden (fun (w2 : World) (h : Below wr.heap.size wr w2) => conv_part (W := w2) (b := b) (off := off) (cap := cap) (l := l) (k := k + 1) (by omega) (by omega) hcap HM.out (Nat.lt_of_lt_of_le hbw h.size) (fun j hj => (h.cell (p := ⟨b, off + j, none⟩) hbw).trans (HC.out j hj)))
            have hcs := HCS.out wr.drew (Below.refl _ _).drew
            have hkc1 : (0 : Int) ≤ (k : Int) + 1 := by omega
            have hkc2 : (k : Int) + 1 ≤ (cap : Int) := by omega
            have hkc3 : IntKind.i64.wrap ((k : Int) + 1) = (k : Int) + 1 := by rw [IntKind.wrap_i64]; omega
            have hkc4 : ((k : Int) + 1).toNat = k + 1 := by omega
            have HQ := hidden (spare_eq (l := l) (k := k) (c := c) hlt HGC.out (HEQ.out (by omega)))
            clear HT HL HN H64 HEQ
            go_wp2_with fail
            go_loopw [6, 7] (fun n i w' => w' = wr ∧ ∃ m : Nat, m ≤ k + 1 ∧ i = .int .i64 ((m : Int) - 1) ∧ n = .int .u64 (val ((l.take (k + 1)).drop m) : Int)) (fun _ i _ => (intOf i + 1).toNat)
            case atStart => exact ⟨rfl, k + 1, Nat.le_refl _, by go_num, by rw [List.drop_of_length_le (by rw [List.length_take]; omega)]; rfl⟩
            case round =>
              obtain ⟨rfl, m, hmk, rfl, rfl⟩ := hrel
              cases m with
              | succ j =>
                have e1 : (((j + 1 : Nat) : Int) - 1) = (j : Int) := by omega
                rw [e1]
                have hcj := HC.out j (by omega)
                have hbj : l[j].toNat < 256 := l[j].toNat_lt
                have HST := hidden (step_eq (l := l) (k := k) (j := j) (by omega) (by omega))
                have hst : val ((l.take (k + 1)).drop (j + 1)) * 128 + l[j].toNat % 128 < 18446744073709551616 := by
                  rw [HST.out]; exact Nat.lt_of_le_of_lt (val_drop_le _ _) H641.out
                generalize l[j] = d at *
                generalize val ((l.take (k + 1)).drop (j + 1)) = X at *
                clear e1
                go_wp2_with fail
                go_roundw
                case rel => exact ⟨trivial, j, by omega, by go_num, by rw [← HST.out]; go_num⟩
                case measure => simp [intOf]
              | zero =>
                rw [List.drop_zero]
                go_wp2_with fail
                go_region_with (first | (go_at_call 35; refine (HP.out _).mono ?_; rintro e w2 ⟨⟨v, rfl, hown⟩, hb2⟩; have hcv := HCV.out _ _ _ hown; have hk2 := HCS.out _ ((Below.refl _ _).drew.trans hb2); clear hown))
                all_goals
                  have HB := hidden ((Below.refl wr.heap.size wr).drew.trans hb2)
                  clear hb2 hcv hk2 hcs
                  have hq := HQ.out
                  generalize (uvarint (val (l.take (k + 1))) == l.take (k + 1)) = q at hq ⊢
                  have HQ2 := hidden hq
                  clear hq HQ
                  cases q with
                  | false =>
                    have hz : c.toNat = 0 ∧ 0 < k := Decidable.byContradiction (fun h => by have := HQ2.out.1 h; cases this)
                    rw [if_pos hz] at HF
                    clear hz HQ2
                    go_wp2_with fail
                    go_ret3
                    rw [HF.out]
                    exact ⟨rfl, HB.out⟩
                  | true =>
                    have hz : ¬ (c.toNat = 0 ∧ 0 < k) := fun h => by have := HQ2.out.2 h; cases this
                    rw [if_neg hz] at HF
                    clear hz HQ2
                    go_wp2_with fail
                    go_ret3
                    rw [HF.out]
                    exact ⟨rfl, HB.out⟩
      · have HE := hidden (getL_end hlead (by omega) hlt)
        have hkl : k = l.length := by omega
        subst hkl
        have hk10b : ((l.length : Int) == 10) = false := by simp; omega
        clear hlead
        by_cases hk9 : ((l.length : Int) == 9) = true
        · go_wp2_with fail
          go_ret3
          rw [HE.out]
          exact ⟨rfl, Below.refl _ _⟩
        · have hk9b : ((l.length : Int) == 9) = false := by simpa using hk9
          clear hk9
          go_wp2_with fail
          go_ret3
          rw [HE.out]
          exact ⟨rfl, Below.refl _ _⟩
end Go.Proofs.YtcmmednihoaekaaGreat
