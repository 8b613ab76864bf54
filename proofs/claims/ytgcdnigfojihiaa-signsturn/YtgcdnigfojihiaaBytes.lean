/- Contracts: the document's Bytes and Above. -/
import Derived.Test.YtgcdnigfojihiaaMatch
set_option linter.unusedVariables false
set_option linter.unusedSimpArgs false
namespace Go.Proofs.Ytgcdnigfojihiaa
open Go.RowKit

def byteVals (l : List UInt8) : List Value := l.map fun b => Value.int .u8 (b.toNat : Int)

theorem ownBytes {w : World} {B : Nat} {cs : Array Value} {l : List UInt8} (hB : B ≤ w.heap.size) (hl : l.length ≤ 4) (h : cs.toList = byteVals l) :
    (w.alloc (.cells cs 5)).ownsRow B 5 1 (.slice (some ⟨w.heap.size, 0, none⟩) l.length l.length) l.length (byteVals l) := by
  rw [← h]
  have hs : cs.size = l.length * 1 := by rw [← Array.length_toList, h]; simp [byteVals]
  exact World.ownsRow_lit w cs l.length hB (by unfold maxLen; omega) hs

set_option maxRecDepth 100000 in
theorem bytes_any (c : Nat) (h : c ≤ 1114111) (w : World) :
    Calls Try.prog 24 #[.int .i64 (c : Int)] w fun e w' => (∃ v, e = .returned v ∧ w'.ownsRow w.heap.size 5 1 v (encL c).length (byteVals (encL c))) ∧ Below w.heap.size w w' := by
  by_cases h1 : (c : Int) < 128
  · have he : encL c = [bt c] := by unfold encL; rw [if_pos (by omega)]
    rw [he]
    have e0 := bt_toNat (n := c) (by omega)
    have HE := hidden e0
    clear he e0
    go_enter Try.func24, Try.ntmps24
    go_wp2_with fail
    go_ret
    refine ⟨⟨_, rfl, ?_⟩, (Below.refl _ _).alloc (Nat.le_refl _) _⟩
    exact ownBytes (l := [bt c]) (Nat.le_refl _) (by simp) (by simp [byteVals, HE.out])
  · by_cases h2 : (c : Int) < 2048
    · have he : encL c = [bt (192 + c / 64), bt (128 + c % 64)] := by unfold encL; rw [if_neg (by omega), if_pos (by omega)]
      rw [he]
      have HE := hidden (And.intro (bt_toNat (n := 192 + c / 64) (by omega)) (bt_toNat (n := 128 + c % 64) (by omega)))
      clear he
      go_enter Try.func24, Try.ntmps24
      go_wp2_with fail
      go_ret
      refine ⟨⟨_, rfl, ?_⟩, (Below.refl _ _).alloc (Nat.le_refl _) _⟩
      refine ownBytes (l := [bt (192 + c / 64), bt (128 + c % 64)]) (Nat.le_refl _) (by simp) ?_
      simp [byteVals, HE.out.1, HE.out.2]
    · by_cases h3 : (c : Int) < 65536
      · have he : encL c = [bt (224 + c / 4096), bt (128 + c / 64 % 64), bt (128 + c % 64)] := by unfold encL; rw [if_neg (by omega), if_neg (by omega), if_pos (by omega)]
        rw [he]
        have HE := hidden (And.intro (bt_toNat (n := 224 + c / 4096) (by omega)) (And.intro (bt_toNat (n := 128 + c / 64 % 64) (by omega)) (bt_toNat (n := 128 + c % 64) (by omega))))
        clear he
        go_enter Try.func24, Try.ntmps24
        go_wp2_with fail
        go_ret
        refine ⟨⟨_, rfl, ?_⟩, (Below.refl _ _).alloc (Nat.le_refl _) _⟩
        refine ownBytes (l := [bt (224 + c / 4096), bt (128 + c / 64 % 64), bt (128 + c % 64)]) (Nat.le_refl _) (by simp) ?_
        simp [byteVals, HE.out.1, HE.out.2.1, HE.out.2.2]
      · have he : encL c = [bt (240 + c / 262144), bt (128 + c / 4096 % 64), bt (128 + c / 64 % 64), bt (128 + c % 64)] := by unfold encL; rw [if_neg (by omega), if_neg (by omega), if_neg (by omega)]
        rw [he]
        have HE := hidden (And.intro (bt_toNat (n := 240 + c / 262144) (by omega)) (And.intro (bt_toNat (n := 128 + c / 4096 % 64) (by omega)) (And.intro (bt_toNat (n := 128 + c / 64 % 64) (by omega)) (bt_toNat (n := 128 + c % 64) (by omega)))))
        clear he
        go_enter Try.func24, Try.ntmps24
        go_wp2_with fail
        go_ret
        refine ⟨⟨_, rfl, ?_⟩, (Below.refl _ _).alloc (Nat.le_refl _) _⟩
        refine ownBytes (l := [bt (240 + c / 262144), bt (128 + c / 4096 % 64), bt (128 + c / 64 % 64), bt (128 + c % 64)]) (Nat.le_refl _) (by simp) ?_
        simp [byteVals, HE.out.1, HE.out.2.1, HE.out.2.2.1, HE.out.2.2.2]
end Go.Proofs.Ytgcdnigfojihiaa
