/- Contracts: the document's More and Seal. -/
import Derived.Test.YtnedlogfgpgchaaDoorSeal
set_option linter.unusedVariables false
set_option linter.unusedSimpArgs false
namespace Go.Proofs.YtnedlogfgpgchaaDoor
open Go.RowKit Go.Lib

/-- An operation that is guarded, and whose guard says yes, is walked as one without a guard. -/
theorem wpList_guarded {P : Program} {ops : Array Oper} {rest : List Oper} {o : Oper} {a : Act} {w : World} {Q : Exit → Act → World → Prop} (hw : Region.wanted o (yielded ops a.tmps) = true)
    (h : wpList P ops Q ({ o with guard := none } :: rest) a w) : wpList P ops Q (o :: rest) a w := by
  unfold wpList at h ⊢
  rw [if_pos hw]
  have hn : Region.wanted { o with guard := none } (yielded ops a.tmps) = true := by simp [Region.wanted]
  rw [if_pos hn] at h
  exact h

set_option maxRecDepth 100000 in
set_option maxHeartbeats 4000000 in
theorem refMore_any {w : World} {v : Value} {l : List Nat} (hs : Sv w v l) (h8 : Bs l) (c : Nat) (hc : c < 4294967296) :
    Calls Tryd.prog 10 #[.int .u32 (c : Int), v] w fun e w' => e = .returned (.int .u32 ((crcM c l : Nat) : Int)) ∧ w' = w := by
  obtain ⟨a, cap, rfl, h1, h2, _, hcl⟩ := hs
  have hm2 : l.length ≤ 9223372036854775807 := by unfold maxLen at h2; omega
  have HC := hidden hcl
  have H8 := hidden h8
  have hx0 : bits .xor .u32 (c : Int) 4294967295 = ((c ^^^ 4294967295 : Nat) : Int) := u32_xor_nat c 4294967295 hc (by omega)
  have hs0 : c ^^^ 4294967295 < 4294967296 := xor32_lt hc (by omega)
  have HE : Hid (crcM c l = run (c ^^^ 4294967295) l ^^^ 4294967295) := hidden rfl
  generalize crcM c l = R at *
  generalize c ^^^ 4294967295 = s0 at *
  clear hcl h8 h1 h2
  go_enter Tryd.func10, Tryd.ntmps10
  go_wp2_with fail
  go_loopw [0, 5] (fun st i w' => w' = w ∧ ∃ k : Nat, k ≤ l.length ∧ i = .int .i64 (k : Int) ∧ st = .int .u32 ((run s0 (l.take k) : Nat) : Int)) (fun _ i _ => l.length - (intOf i).toNat)
  case atStart => exact ⟨rfl, 0, by omega, rfl, rfl⟩
  case round =>
    obtain ⟨rfl, k, hk, rfl, rfl⟩ := hrel
    by_cases hlt : k < l.length
    · obtain ⟨b, off, rfl, hb, hcell⟩ := HC.out (by omega)
      have hck := hcell k hlt
      have hx8 := H8.out.get hlt
      have hsl : run s0 (l.take k) < 4294967296 := run_lt hs0 (H8.out.take k)
      have HN : Hid (run s0 (l.take (k + 1)) = stpN 8 (run s0 (l.take k) ^^^ l[k])) := hidden (take_run hlt)
      clear hcell
      generalize l[k] = x at *
      generalize run s0 (l.take k) = s at *
      have hxx := u32_xor_nat s x hsl (by omega)
      have hyl : s ^^^ x < 4294967296 := xor32_lt hsl (by omega)
      generalize s ^^^ x = y at *
      go_wp2_with fail
      go_loopw [0, 6] (fun st i w' => w' = wr ∧ ∃ j : Nat, j ≤ 8 ∧ i = .int .i64 (j : Int) ∧ st = .int .u32 ((stpN j y : Nat) : Int)) (fun _ i _ => 8 - (intOf i).toNat)
      case atStart => exact ⟨rfl, 0, by omega, rfl, rfl⟩
      case round =>
        obtain ⟨rfl, j, hj, rfl, rfl⟩ := hrel
        by_cases hj8 : j < 8
        · have hzl : stpN j y < 4294967296 := stpN_lt j hyl
          have HSt := hidden (stpN_succ j y)
          generalize stpN j y = z at *
          have hand : bits .and .u32 (z : Int) 1 = ((z % 2 : Nat) : Int) := by
            have := u32_and_nat z 1 hzl (by omega)
            rw [nat_mask1] at this
            exact this
          have hdv : (z : Int) / 2 = ((z / 2 : Nat) : Int) := by omega
          have hxp := u32_xor_nat (z / 2) 3988292384 (by omega) (by omega)
          have hjj : (j : Int) < 8 := by omega
          by_cases hr : z % 2 = 1
          · have HS2 : Hid (stp z = z / 2 ^^^ 3988292384) := by show _ = _; unfold stp; rw [if_pos hr]
            rw [hr] at hand
            have hxp' : bits .xor .u32 ((z / 2 : Nat) : Int) 3988292384 = ((z / 2 ^^^ 3988292384 : Nat) : Int) := hxp
            clear hxp hr
            generalize z / 2 ^^^ 3988292384 = q at *
            generalize z / 2 = h at *
            go_wp2_with fail
            go_roundw
            case rel => exact ⟨trivial, j + 1, by omega, by go_num, by rw [HSt.out, HS2.out]⟩
            case measure => simp [intOf]; omega
          · have hr0 : z % 2 = 0 := by omega
            have HS2 : Hid (stp z = z / 2) := by show _ = _; unfold stp; rw [if_neg hr, Nat.xor_zero]
            rw [hr0] at hand
            clear hxp hr hr0
            generalize z / 2 = h at *
            go_wp2_with fail
            go_roundw
            case rel => exact ⟨trivial, j + 1, by omega, by go_num, by rw [HSt.out, HS2.out]⟩
            case measure => simp [intOf]; omega
        · obtain rfl : j = 8 := by omega
          obtain ⟨Z, hZ⟩ : ∃ Z, run s0 (l.take (k + 1)) = Z := ⟨_, rfl⟩
          rw [← HN.out, hZ]
          have HZ := hidden hZ
          clear HN hZ
          go_wp2_with fail
          go_roundw
          case rel => exact ⟨trivial, k + 1, by omega, by go_num, by rw [HZ.out]⟩
          case measure => simp [intOf]; omega
    · obtain rfl : k = l.length := by omega
      rw [List.take_length]
      have hsl : run s0 l < 4294967296 := run_lt hs0 H8.out
      have hxx := u32_xor_nat (run s0 l) 4294967295 hsl (by omega)
      rw [← HE.out] at hxx
      have hxx' : bits .xor .u32 ((run s0 l : Nat) : Int) 4294967295 = (R : Int) := hxx
      clear hxx
      generalize run s0 l = s at *
      go_wp2_with fail
      go_ret
      exact ⟨rfl, rfl⟩

/-- The first k bytes of a number, the lowest first. -/
def dig : Nat → Nat → List Nat
  | 0, _ => []
  | k + 1, c => dig k c ++ [c / 256 ^ k % 256]
theorem dig_four (c : Nat) : dig 4 c = le4 c := by
  simp [dig, le4]
theorem dig_length : ∀ k c, (dig k c).length = k
  | 0, _ => rfl
  | k + 1, c => by rw [dig, List.length_append, dig_length k c]; rfl

theorem lit_one (w : World) (d : Nat) : OwnB (w.alloc (.cells #[.int .u8 (d : Int)] 5)) w.heap.size (.slice (some ⟨w.heap.size, 0, none⟩) 1 1) [d] := lit_bytes w [d] (by unfold maxLen; simp)

set_option maxRecDepth 100000 in
set_option maxHeartbeats 4000000 in
theorem refSeal_any {w : World} {v : Value} {l : List Nat} (hs : Sv w v l) (h8 : Bs l) (hl : l.length ≤ 30000) :
    Calls Tryd.prog 15 #[v] w (Told w (sealM l)) := by
  have HS := hidden hs
  have H8 := hidden h8
  have HE : Hid (sealM l = l ++ dig 4 (crcM 0 l)) := by show _ = _; rw [dig_four]; rfl
  have hc := crcM_lt (c := 0) (by omega) h8
  have HM := hidden (fun (W : World) (h : Sv W v l) => refMore_any h H8.out 0 (by omega))
  obtain ⟨a, cap, rfl, h1, h2⟩ := hs.form
  clear hs h8 h1 h2
  generalize crcM 0 l = c at *
  have HN := hidden (OwnB.nil w w.heap.size)
  go_enter Tryd.func15, Tryd.ntmps15
  go_wp2_with (first | (at_builtin; refine wpList_append_sv rfl _ _ rfl w.heap.size _ _ [] l rfl ?q1 rfl ?q2 ?c1 ?c2 ?_))
  case q1 => exact HN.out
  case q2 => exact HS.out
  case c1 => simp; omega
  case c2 => omega
  intro v1 w1 o1 hb1
  have o1' : OwnB w1 w.heap.size v1 l := o1
  have HO1 := hidden o1'
  have HB1 := hidden hb1
  have HM1 := hidden (HM.out w1 (HS.out.kept hb1))
  clear o1 o1' hb1
  go_wp2_with fail
  refine HM1.out.mono ?_
  rintro e w2 ⟨rfl, rfl⟩
  go_wp2_with fail
  go_loopw [3, 4, 5] (fun out s i wr => ∃ k : Nat, k ≤ 4 ∧ i = .int .i64 (k : Int) ∧ s = .int .u32 ((c / 256 ^ k : Nat) : Int) ∧ OwnB wr w.heap.size out (l ++ dig k c) ∧ Below w.heap.size w wr) (fun _ _ i _ => 4 - (intOf i).toNat)
  case atStart => exact ⟨0, by omega, rfl, by simp, by rw [dig, List.append_nil]; exact HO1.out, HB1.out⟩
  case round =>
    obtain ⟨k, hk, rfl, rfl, how, hbel⟩ := hrel
    have HB := hidden hbel
    have hsz := hbel.size
    by_cases hlt : k < 4
    · have hkk : (k : Int) < 4 := by omega
      have hq : ((c / 256 ^ k : Nat) : Int) / 256 = ((c / 256 ^ k / 256 : Nat) : Int) := by omega
      have hw8 := u8_of (c / 256 ^ k)
      have HD : Hid (l ++ dig (k + 1) c = l ++ dig k c ++ [c / 256 ^ k % 256]) := by show _ = _; rw [dig, List.append_assoc]
      have HQ : Hid (c / 256 ^ (k + 1) = c / 256 ^ k / 256) := by show _ = _; rw [Nat.pow_succ, Nat.div_div_eq_div_mul]
      have hzl : c / 256 ^ k < 4294967296 := Nat.lt_of_le_of_lt (Nat.div_le_self _ _) hc
      have HLEN : Hid ((l ++ dig k c).length ≤ 30004) := by show _ ≤ _; rw [List.length_append, dig_length]; omega
      have HL := hidden (lit_one wr (c / 256 ^ k % 256))
      have HO := hidden (how.kept (below_alloc wr (.cells #[.int .u8 ((c / 256 ^ k % 256 : Nat) : Int)] 5)))
      have HBA := hidden (HB.out.trans ((below_alloc wr (.cells #[.int .u8 ((c / 256 ^ k % 256 : Nat) : Int)] 5)).mono hsz))
      have HD' := HD
      generalize l ++ dig k c = m at *
      generalize c / 256 ^ k % 256 = d at *
      generalize c / 256 ^ k / 256 = z2 at *
      generalize c / 256 ^ k = z at *
      clear how hbel
      go_wp2_with (first | (at_builtin; refine wpList_append_sv rfl _ _ rfl w.heap.size _ _ m [d] rfl ?q3 rfl ?q4 ?c3 ?c4 ?_))
      case q3 => exact HO.out
      case q4 => exact HL.out.sv
      case c3 => have := HLEN.out; simp; omega
      case c4 => rw [World.size_alloc]; omega
      intro v3 w3 o3 hb3
      rw [← HD.out] at o3
      have HO3 := hidden o3
      have HB3 := hidden (HBA.out.trans hb3)
      clear o3 hb3
      go_wp2_with fail
      go_roundw
      case rel => exact ⟨k + 1, by omega, by go_num, by rw [HQ.out], HO3.out, HB3.out⟩
      case measure => simp [intOf]; omega
    · obtain rfl : k = 4 := by omega
      rw [← HE.out] at how
      have HO := hidden how
      clear how hbel
      generalize c / 256 ^ 4 = z at *
      go_wp2_with fail
      go_ret
      exact ⟨⟨_, rfl, HO.out⟩, HB.out⟩
end Go.Proofs.YtnedlogfgpgchaaDoor
