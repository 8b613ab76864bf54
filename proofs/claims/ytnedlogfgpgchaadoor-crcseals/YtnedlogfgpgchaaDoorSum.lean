/- Contracts: dropHalf, More, Of; the document's More. -/
import Derived.Test.YtnedlogfgpgchaaDoorLay
import Derived.Laws.BitsAllLaws
set_option linter.unusedVariables false
set_option linter.unusedSimpArgs false
namespace Go.Proofs.YtnedlogfgpgchaaDoor
open Go.RowKit Go.Lib

set_option maxRecDepth 100000 in
set_option maxHeartbeats 4000000 in
theorem drop_any {w : World} (ht : Tab w) (s : Nat) (hs : s < 4294967296) : Calls Tryd.prog 16 #[.int .u32 (s : Int)] w fun e w' => e = .returned (.int .u32 ((stpN 4 s : Nat) : Int)) ∧ w' = w := by
  have hc := ht.2 (s % 16) (Nat.mod_lt _ (by omega))
  have hlk := stpN_look 4 s
  have hlt := stpN_lt 4 (c := s % 16) (by omega)
  have hx := u32_xor_nat (s / 16) (stpN 4 (s % 16)) (by omega) hlt
  rw [Nat.xor_comm, ← hlk] at hx
  clear hlk
  obtain ⟨r, hr⟩ : ∃ r, s % 16 = r := ⟨_, rfl⟩
  obtain ⟨q, hq⟩ : ∃ q, s / 16 = q := ⟨_, rfl⟩
  have hr16 : r < 16 := by omega
  have ha : bits .and .u32 (s : Int) 15 = (r : Int) := by
    have := u32_and_nat s 15 hs (by omega)
    rw [nat_mask4, hr] at this
    exact this
  have hq2 : (s : Int) / 16 = (q : Int) := by omega
  rw [hr] at hc hx
  rw [hq] at hx
  generalize stpN 4 r = t at *
  generalize stpN 4 s = u at *
  clear hr hq
  go_enter Tryd.func16, Tryd.ntmps16
  go_wp2_with fail
  go_ret
  exact ⟨rfl, rfl⟩

theorem take_run {c : Nat} {l : List Nat} {k : Nat} (h : k < l.length) : run c (l.take (k + 1)) = byt (run c (l.take k)) l[k] := by
  rw [List.take_succ_eq_append_getElem h, run_snoc]
theorem Bs.take {l : List Nat} (h : Bs l) (k : Nat) : Bs (l.take k) := fun x hx => h x (List.mem_of_mem_take hx)
theorem Bs.get {l : List Nat} (h : Bs l) {k : Nat} (hk : k < l.length) : l[k] < 256 := h _ (List.getElem_mem hk)
theorem Bs.append {a b : List Nat} (ha : Bs a) (hb : Bs b) : Bs (a ++ b) := fun x hx => (List.mem_append.1 hx).elim (ha x) (hb x)
theorem Bs.le4 (s : Nat) : Bs (le4 s) := le4_bytes s
theorem Bs.seal {b : List Nat} (h : Bs b) : Bs (sealM b) := h.append (Bs.le4 _)

set_option maxRecDepth 100000 in
set_option maxHeartbeats 4000000 in
theorem more_any {w : World} {v : Value} {l : List Nat} (ht : Tab w) (hs : Sv w v l) (h8 : Bs l) (c : Nat) (hc : c < 4294967296) :
    Calls Tryd.prog 11 #[.int .u32 (c : Int), v] w fun e w' => e = .returned (.int .u32 ((crcM c l : Nat) : Int)) ∧ w' = w := by
  obtain ⟨a, cap, rfl, h1, h2, _, hcl⟩ := hs
  have hm2 : l.length ≤ 9223372036854775807 := by unfold maxLen at h2; omega
  have HC := hidden hcl
  have H8 := hidden h8
  have HT := hidden ht
  have hx0 : bits .xor .u32 IntKind.u32.max (c : Int) = ((c ^^^ 4294967295 : Nat) : Int) := by
    have := u32_xor_nat 4294967295 c (by omega) hc
    rw [Nat.xor_comm] at this
    exact this
  have hs0 : c ^^^ 4294967295 < 4294967296 := xor32_lt hc (by omega)
  have HE : Hid (crcM c l = run (c ^^^ 4294967295) l ^^^ 4294967295) := hidden rfl
  have HE := HE
  generalize crcM c l = R at *
  generalize c ^^^ 4294967295 = s0 at *
  clear hcl h8 ht h1 h2
  go_enter Tryd.func11, Tryd.ntmps11
  go_wp2_with fail
  go_loopw [5, 12] (fun st i w' => w' = w ∧ ∃ k : Nat, k ≤ l.length ∧ i = .int .i64 (k : Int) ∧ st = .int .u32 ((run s0 (l.take k) : Nat) : Int)) (fun _ i _ => l.length - (intOf i).toNat)
  case atStart => exact ⟨rfl, 0, by omega, rfl, rfl⟩
  case round =>
    obtain ⟨rfl, k, hk, rfl, rfl⟩ := hrel
    by_cases hlt : k < l.length
    · obtain ⟨b, off, rfl, hb, hcell⟩ := HC.out (by omega)
      have hck := hcell k hlt
      have hx8 := H8.out.get hlt
      have hsl : run s0 (l.take k) < 4294967296 := run_lt hs0 (H8.out.take k)
      have HN : Hid (run s0 (l.take (k + 1)) = stpN 4 (stpN 4 (run s0 (l.take k) ^^^ l[k]))) := by
        show _ = _
        rw [take_run hlt]
        exact stpN_add 4 4 _
      clear hcell
      generalize l[k] = x at *
      generalize run s0 (l.take k) = s at *
      have hxx := u32_xor_nat s x hsl (by omega)
      have hyl : s ^^^ x < 4294967296 := xor32_lt hsl (by omega)
      generalize s ^^^ x = y at *
      have hy1 : stpN 4 y < 4294967296 := stpN_lt 4 hyl
      go_wp2_with fail
      refine (drop_any HT.out y hyl).mono ?_
      rintro e w1 ⟨rfl, rfl⟩
      generalize stpN 4 y = y1 at *
      go_wp2_with fail
      refine (drop_any HT.out y1 hy1).mono ?_
      rintro e w2 ⟨rfl, rfl⟩
      generalize stpN 4 y1 = y2 at *
      go_wp2_with fail
      go_roundw
      case rel => exact ⟨trivial, k + 1, by omega, by go_num, by rw [HN.out]⟩
      case measure => simp [intOf]; omega
    · obtain rfl : k = l.length := by omega
      rw [List.take_length]
      have hsl : run s0 l < 4294967296 := run_lt hs0 H8.out
      have hxx := u32_xor_nat 4294967295 (run s0 l) (by omega) hsl
      rw [Nat.xor_comm, ← HE.out] at hxx
      have hxx' : bits .xor .u32 IntKind.u32.max ((run s0 l : Nat) : Int) = (R : Int) := hxx
      clear hxx
      generalize run s0 l = s at *
      go_wp2_with fail
      go_ret
      exact ⟨rfl, rfl⟩

set_option maxRecDepth 100000 in
set_option maxHeartbeats 4000000 in
theorem of_any {w : World} {v : Value} {l : List Nat} (ht : Tab w) (hs : Sv w v l) (h8 : Bs l) :
    Calls Tryd.prog 9 #[v] w fun e w' => e = .returned (.int .u32 ((crcM 0 l : Nat) : Int)) ∧ w' = w := by
  have HM := hidden (more_any ht hs h8 0 (by omega))
  obtain ⟨a, cap, rfl, h1, h2⟩ := hs.form
  clear hs h8 ht
  generalize crcM 0 l = R at *
  go_enter Tryd.func9, Tryd.ntmps9
  go_wp2_with fail
  refine HM.out.mono ?_
  rintro e w1 ⟨rfl, rfl⟩
  go_wp2_with fail
  go_ret
  exact ⟨rfl, rfl⟩
end Go.Proofs.YtnedlogfgpgchaaDoor
