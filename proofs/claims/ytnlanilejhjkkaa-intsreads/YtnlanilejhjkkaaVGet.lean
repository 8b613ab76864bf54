/- Contracts: the program's Get and GetInt. -/
import Derived.Test.YtnlanilejhjkkaaVPuts
set_option linter.unusedVariables false
set_option linter.unusedSimpArgs false
namespace Go.Proofs.Ytnlanilejhjkkaa
open Go.RowKit Go.Lib

/-- A slice whose bytes are l. -/
def Sl (W : World) (v : Value) (l : List UInt8) : Prop :=
  ∃ a cap, v = .slice a l.length cap ∧ l.length ≤ cap ∧ cap ≤ maxLen ∧
    (0 < l.length → ∃ b off, a = some ⟨b, off, none⟩ ∧ b < W.heap.size ∧ ∀ j (h : j < l.length), W.cell? ⟨b, off + j, none⟩ = some (.int .u8 (l[j].toNat : Int)))

theorem Sl.kept {W W' : World} {v : Value} {l : List UInt8} (h : Sl W v l) (hb : Below W.heap.size W W') : Sl W' v l := by
  obtain ⟨a, cap, rfl, h1, h2, h3⟩ := h
  refine ⟨a, cap, rfl, h1, h2, fun h0 => ?_⟩
  obtain ⟨b, off, rfl, h4, h5⟩ := h3 h0
  exact ⟨b, off, rfl, Nat.lt_of_lt_of_le h4 hb.size, fun j hj => (hb.cell (p := ⟨b, off + j, none⟩) h4).trans (h5 j hj)⟩

theorem Sl.of_own {W : World} {B n : Nat} {v : Value} {l : List UInt8} (h : W.ownsRow B 5 1 v n (byteVals l)) : Sl W v l := by
  have hl : l.length = n := by have := h.1; simpa [byteVals] using this
  obtain ⟨_, h1⟩ := id h
  rcases h1 with ⟨rfl, rfl⟩ | ⟨g, cap, cur, rfl, hb, hg, h4, h5, _⟩
  · exact ⟨none, 0, by rw [hl], by omega, by unfold maxLen; omega, fun h0 => by omega⟩
  · refine ⟨_, cap, by rw [hl], by omega, h5, fun _ => ⟨g, 0, rfl, (Array.getElem?_eq_some_iff.1 hg).1, fun j hj => ?_⟩⟩
    have := h.cells (g := g) rfl j _ (byteVals_get hj)
    rw [add0] at this
    rwa [Nat.zero_add]

theorem Sl.conv {W : World} {v : Value} {l : List UInt8} (h : Sl W v l) (hp : 0 < l.length) : (convert 24 9 v).run Try.prog W = .ok (.string ⟨l.toArray⟩) W := by
  obtain ⟨a, cap, rfl, h1, h2, h3⟩ := h
  obtain ⟨b, off, rfl, h4, h5⟩ := h3 hp
  refine run_convert_bytes_back W 24 9 5 ⟨b, off, none⟩ cap l Try.underlying24 Try.underlying5 Try.underlying9 fun j hj => ?_
  have hadd : (⟨b, off, none⟩ : Addr).add j = ⟨b, off + j, none⟩ := by unfold Addr.add; split <;> simp_all
  rw [hadd]
  exact h5 j hj

/-- The answers of a Get. -/
def tell (k : IntKind) (x : Int) (u e : Nat) : Ending := .returned (.tuple #[.int k x, .int .i64 (u : Int), .int .i64 (e : Int)])

theorem tell_eq {k : IntKind} {x y : Int} {u v e f : Nat} (h1 : x = y) (h2 : u = v) (h3 : e = f) : tell k x u e = tell k y v f := by rw [h1, h2, h3]

set_option maxRecDepth 100000 in
theorem short_any (n used : Nat) (c : UInt8) (hu : used ≤ 10) (w : World) :
    Calls Try.prog 85 #[.int .u64 (n : Int), .int .i64 (used : Int), .int .u8 (c.toNat : Int)] w fun e w' =>
      e = (if c.toNat = 0 ∧ 1 < used then tell .u64 0 0 31 else tell .u64 (n : Int) used 0) ∧ w' = w := by
  by_cases h1 : ((c.toNat : Int) == 0) = true
  · have h1' : c.toNat = 0 := by simpa using h1
    by_cases h2 : (used : Int) > 1
    · rw [if_pos ⟨h1', by omega⟩]
      clear h1'
      go_enter Try.func85, Try.ntmps85
      go_wp2_with fail
      go_ret3
      exact ⟨rfl, rfl⟩
    · rw [if_neg (fun h => by omega)]
      clear h1'
      go_enter Try.func85, Try.ntmps85
      go_wp2_with fail
      go_ret3
      exact ⟨rfl, rfl⟩
  · have h1' : ((c.toNat : Int) == 0) = false := by simpa using h1
    rw [if_neg (fun h => h1 (by simpa using h.1))]
    clear h1
    go_enter Try.func85, Try.ntmps85
    go_wp2_with fail
    go_ret3
    exact ⟨rfl, rfl⟩

theorem get_empty (a : Option Addr) (cap : Nat) (w : World) : Calls Try.prog 68 #[.slice a 0 cap] w fun e w' => e = tell .u64 0 0 30 ∧ w' = w := by
  go_enter Try.func68, Try.ntmps68
  go_wp2_with fail
  refine wp_loop_rounds 1 ?_
  rw [rounds_succ]
  go_wp2_with fail
  go_ret3
  exact ⟨rfl, rfl⟩

theorem shl_eq {c k : Nat} : ((c : Nat) : Int) * 2 ^ (7 * k) = ((c * 128 ^ k : Nat) : Int) := by
  rw [← pow7]
  simp

theorem join_eq {l : List UInt8} {k : Nat} (h : k < l.length) (h9 : k ≤ 9) (h64 : val (l.take (k + 1)) < 18446744073709551616) :
    bits .or .u64 (val (l.take k) : Int) (IntKind.u64.wrap ((l[k].toNat : Int) % 128 * 2 ^ (7 * k))) = (val (l.take (k + 1)) : Int) := by
  have hv := val_take_succ h
  have hl := val_lt (l.take k)
  rw [List.length_take, Nat.min_eq_left (by omega)] at hl
  have e : (l[k].toNat : Int) % 128 * 2 ^ (7 * k) = ((l[k].toNat % 128 * 128 ^ k : Nat) : Int) := by
    rw [← shl_eq]; simp
  rw [e, wraps_u64 _ (by omega) (by omega), or_shift h9 hl (by omega), hv]

theorem used_eq {k : Nat} {n : Int} {c : UInt8} (hu : k + 1 ≤ 10) (w : World) {P : Ending → World → Prop} (h : Calls Try.prog 85 #[.int .u64 n, .int .i64 ((k + 1 : Nat) : Int), .int .u8 (c.toNat : Int)] w P) :
    Calls Try.prog 85 #[.int .u64 n, .int .i64 ((k : Int) + 1), .int .u8 (c.toNat : Int)] w P := by
  have e : ((k + 1 : Nat) : Int) = (k : Int) + 1 := by omega
  rwa [e] at h

set_option maxRecDepth 100000 in
set_option maxHeartbeats 2000000 in
theorem get_full (b off cap : Nat) (l : List UInt8) (w : World) (hmax : l.length ≤ maxLen) (hcap : l.length ≤ cap)
    (hc : ∀ j (h : j < l.length), w.cell? ⟨b, off + j, none⟩ = some (.int .u8 (l[j].toNat : Int))) :
    Calls Try.prog 68 #[.slice (some ⟨b, off, none⟩) l.length cap] w fun e w' => e = tell .u64 ((getL l).1 : Int) (getL l).2.1 (getL l).2.2 ∧ w' = w := by
  have hm : l.length ≤ 9223372036854775807 := by unfold maxLen at hmax; omega
  have HC := hidden hc
  clear hc hmax
  go_enter Try.func68, Try.ntmps68
  go_wp2_with fail
  go_loopw [5, 10] (fun n i w' => w' = w ∧ ∃ k : Nat, k ≤ 9 ∧ k ≤ l.length ∧ k ≤ lead l ∧ i = .int .i64 (k : Int) ∧ n = .int .u64 (val (l.take k) : Int)) (fun _ i _ => l.length - (intOf i).toNat)
  case atStart => exact ⟨rfl, 0, by omega, by omega, by omega, rfl, rfl⟩
  case round =>
    obtain ⟨rfl, k, h9, hk, hlead, rfl, rfl⟩ := hrel
    by_cases hlt : k < l.length
    · have hck := HC.out k hlt
      have hval := val_take_succ hlt
      have hvlt := val_lt (l.take k)
      rw [List.length_take, Nat.min_eq_left (by omega)] at hvlt
      have HT := hidden (fun (e : k = 9) (h : 1 < l[k].toNat) => getL_tenth (l := l) (by omega) (by omega) (by subst e; exact h))
      have HL := hidden (fun h1 h2 => getL_last (l := l) hlead h9 hlt h1 h2)
      have HN := hidden (lead_succ hlead hlt)
      have h64 := fun h => join_eq (l := l) hlt h9 (val64 (l := l) h9 hlt h)
      have hcl := l[k].toNat_lt
      have han := u8_andNot l[k]
      have HLE := hidden hlead
      have HSA := hidden (fun w => used_eq (k := k) (by omega) w (short_any (val (l.take (k + 1))) (k + 1) l[k] (by omega) w))
      clear hlead
      generalize l[k] = c at *
      by_cases hk9 : ((k : Int) == 9) = true
      · have hk9' : k = 9 := by have : (k : Int) = 9 := by simpa using hk9
                                omega
        by_cases hc1 : (c.toNat : Int) > 1
        · have HE := hidden (HT.out hk9' (by omega))
          clear HT HL HN h64 hval hvlt han hk9'
          go_wp2_with fail
          go_ret3
          rw [HE.out]
          exact ⟨rfl, rfl⟩
        · have HJ := hidden (h64 (fun _ => by omega))
          have HF := hidden (HL.out (by omega) (fun _ => by omega))
          clear HT HL HN h64 hval hvlt hk9'
          go_wp2_with fail
          rw [HJ.out]
          refine (HSA.out _).mono ?_
          rintro e w1 ⟨rfl, rfl⟩
          have HF2 : Hid ((if c.toNat = 0 ∧ 1 < k + 1 then tell .u64 0 0 31 else tell .u64 (val (l.take (k + 1)) : Int) (k + 1) 0) = tell .u64 ((getL l).1 : Int) (getL l).2.1 (getL l).2.2) := by
            show _ = _
            rw [HF.out]
            by_cases h : c.toNat = 0 ∧ 0 < k
            · rw [if_pos h, if_pos ⟨h.1, by omega⟩]; rfl
            · rw [if_neg h, if_neg (fun h1 => h ⟨h1.1, by omega⟩)]
          rw [HF2.out]
          unfold tell
          go_wp2_with fail
          go_ret3
          exact ⟨rfl, rfl⟩
      · have hk9' : ((k : Int) == 9) = false := by simpa using hk9
        have hk8 : k ≤ 8 := by have : ¬ (k : Int) = 9 := by simpa using hk9
                               omega
        have HJ := hidden (h64 (fun _ => by omega))
        clear hk9
        by_cases hc1 : (c.toNat : Int) < 128
        · have HF := hidden (HL.out (by omega) (fun _ => by omega))
          clear HT HL HN h64 hval hvlt
          go_wp2_with fail
          rw [HJ.out]
          refine (HSA.out _).mono ?_
          rintro e w1 ⟨rfl, rfl⟩
          have HF2 : Hid ((if c.toNat = 0 ∧ 1 < k + 1 then tell .u64 0 0 31 else tell .u64 (val (l.take (k + 1)) : Int) (k + 1) 0) = tell .u64 ((getL l).1 : Int) (getL l).2.1 (getL l).2.2) := by
            show _ = _
            rw [HF.out]
            by_cases h : c.toNat = 0 ∧ 0 < k
            · rw [if_pos h, if_pos ⟨h.1, by omega⟩]; rfl
            · rw [if_neg h, if_neg (fun h1 => h ⟨h1.1, by omega⟩)]
          rw [HF2.out]
          unfold tell
          go_wp2_with fail
          go_ret3
          exact ⟨rfl, rfl⟩
        · have HF := hidden (HN.out (by omega))
          clear HT HL HN h64 hval hvlt
          go_wp2_with fail
          rw [HJ.out]
          go_roundw
          case rel => exact ⟨trivial, k + 1, by omega, by omega, HF.out, by go_num, rfl⟩
          case measure => simp [intOf]; omega
    · have HE := hidden (getL_end hlead h9 hlt)
      clear hlead
      go_wp2_with fail
      go_ret3
      rw [HE.out]
      exact ⟨rfl, rfl⟩
end Go.Proofs.Ytnlanilejhjkkaa
