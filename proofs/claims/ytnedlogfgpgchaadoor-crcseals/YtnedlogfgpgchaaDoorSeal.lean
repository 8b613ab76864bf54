/- Contracts: Seal, Open, bytes.Equal, bytes.Clone. -/
import Derived.Test.YtnedlogfgpgchaaDoorSum
set_option linter.unusedVariables false
set_option linter.unusedSimpArgs false
namespace Go.Proofs.YtnedlogfgpgchaaDoor
open Go.RowKit Go.Lib

theorem u8_of (x : Nat) : IntKind.u8.wrap ((x : Nat) : Int) = ((x % 256 : Nat) : Int) := by rw [IntKind.wrap_u8]; omega

set_option maxRecDepth 100000 in
set_option maxHeartbeats 4000000 in
theorem seal_any {w : World} {v : Value} {l : List Nat} (ht : Tab w) (hs : Sv w v l) (h8 : Bs l) (hl : l.length ≤ 30000) :
    Calls Tryd.prog 12 #[v] w (Told w (sealM l)) := by
  have HO := hidden (of_any ht hs h8)
  have HS := hidden hs
  have HE : Hid (sealM l = l ++ le4 (crcM 0 l)) := hidden rfl
  have hc := crcM_lt (c := 0) (by omega) h8
  obtain ⟨a, cap, rfl, h1, h2⟩ := hs.form
  clear hs h8 ht h1 h2
  generalize crcM 0 l = c at *
  have hq1 : (c : Int) / 256 = ((c / 256 : Nat) : Int) := by omega
  have hq2 : (c : Int) / 65536 = ((c / 65536 : Nat) : Int) := by omega
  have hq3 : (c : Int) / 16777216 = ((c / 16777216 : Nat) : Int) := by omega
  have HD : Hid (le4 c = [c % 256, c / 256 % 256, c / 65536 % 256, c / 16777216 % 256]) := hidden rfl
  have g0 := u8_of c
  have g1 := u8_of (c / 256)
  have g2 := u8_of (c / 65536)
  have g3 := u8_of (c / 16777216)
  generalize c / 256 = c1 at *
  generalize c / 65536 = c2 at *
  generalize c / 16777216 = c3 at *
  generalize c % 256 = d0 at *
  generalize c1 % 256 = d1 at *
  generalize c2 % 256 = d2 at *
  generalize c3 % 256 = d3 at *
  obtain ⟨i0, hi, hz0, hz1', hz2⟩ := info_parts info5
  go_enter Tryd.func12, Tryd.ntmps12
  go_wp2_with fail
  refine HO.out.mono ?_
  rintro e w1 ⟨rfl, rfl⟩
  go_wp2_with (first | (refine wpList_make_own _ rfl _ _ 23 rfl w1.heap.size 5 i0 (.int .u8 0) 1 Tryd.underlying23 hi hz0 hz1' .i64 .i64 _ (l.length + 4) rfl rfl ?m1 ?m2 ?m3 ?m4 ?_))
  case m1 => first | rfl | omega
  case m2 => rw [hz2]; omega
  case m3 => unfold maxLen; omega
  case m4 => omega
  intro w2 ho2 hg2
  have hb2 : Below w1.heap.size w1 w2 := (Below.refl _ _).grown hg2 (Nat.le_refl _) (fun k hk => by cases hk)
  have ho2' : OwnB w2 w1.heap.size (.slice (some ⟨w1.heap.size, 0, none⟩) 0 (l.length + 4)) [] := ho2
  have HO2 := hidden ho2'
  have HB2 := hidden hb2
  have HS2 := hidden (HS.out.kept hb2)
  have hsz := hb2.size
  clear ho2 hg2 hb2 ho2'
  go_wp2_with (first | (at_builtin; refine wpList_append_sv rfl _ _ rfl w1.heap.size _ _ [] l rfl HO2.out rfl HS2.out ?c1 ?c2 ?_))
  case c1 => simp; omega
  case c2 => omega
  intro v3 w3 o3 hb3
  have HO3 := hidden o3
  have HB3 := hidden (HB2.out.trans hb3)
  have hsz3 := hb3.size
  clear o3 hb3
  have HL3 : Hid (OwnB (w3.alloc (.cells #[.int .u8 (d0 : Int), .int .u8 (d1 : Int), .int .u8 (d2 : Int), .int .u8 (d3 : Int)] 5)) w3.heap.size (.slice (some ⟨w3.heap.size, 0, none⟩) 4 4) [d0, d1, d2, d3]) := hidden (lit_bytes w3 [d0, d1, d2, d3] (by unfold maxLen; simp))
  have HO4 := hidden (HO3.out.kept (below_alloc w3 (.cells #[.int .u8 (d0 : Int), .int .u8 (d1 : Int), .int .u8 (d2 : Int), .int .u8 (d3 : Int)] 5)))
  go_wp2_with (first | (at_builtin; refine wpList_append_sv rfl _ _ rfl w1.heap.size _ _ ([] ++ l) [d0, d1, d2, d3] rfl ?q1 rfl ?q2 ?c3 ?c4 ?_))
  case q1 => exact HO4.out
  case q2 => exact HL3.out.sv
  case c3 => simp; omega
  case c4 => rw [World.size_alloc]; omega
  intro v5 w5 o5 hb5
  try rw [List.nil_append] at o5
  rw [← HD.out, ← HE.out] at o5
  have HO5 := hidden o5
  have HB5 := hidden (HB3.out.trans (((below_alloc w3 (.cells #[.int .u8 (d0 : Int), .int .u8 (d1 : Int), .int .u8 (d2 : Int), .int .u8 (d3 : Int)] 5)).mono (by omega)).trans hb5))
  clear o5 hb5
  go_wp2_with fail
  go_ret
  exact ⟨⟨_, rfl, HO5.out⟩, HB5.out⟩

theorem txt_beq {a b : List Nat} (ha : Bs a) (hb : Bs b) : (a.map Nat.toUInt8 == b.map Nat.toUInt8) = decide (a = b) := by
  rw [Bool.eq_iff_iff]
  simp only [beq_iff_eq, decide_eq_true_eq]
  exact ⟨map_u8_inj ha hb, fun h => by rw [h]⟩

set_option maxRecDepth 100000 in
set_option maxHeartbeats 4000000 in
theorem equal_any {w : World} {v u : Value} {a b : List Nat} (ha : Sv w v a) (hb : Sv w u b) (ha8 : Bs a) (hb8 : Bs b) :
    Calls Tryd.prog 17 #[v, u] w fun e w' => e = .returned (.bool (decide (a = b))) ∧ w' = w := by
  have hc1 := ha.conv ha8
  have hc2 := hb.conv hb8
  have HE := hidden (txt_beq ha8 hb8)
  obtain ⟨a1, cap1, rfl, _, _⟩ := ha.form
  obtain ⟨a2, cap2, rfl, _, _⟩ := hb.form
  unfold txt at hc1 hc2
  generalize a.map Nat.toUInt8 = x at *
  generalize b.map Nat.toUInt8 = y at *
  generalize decide (a = b) = t at *
  clear ha hb ha8 hb8
  go_enter Tryd.func17, Tryd.ntmps17
  go_wp2_with fail
  go_ret
  refine ⟨?_, rfl⟩
  rw [← HE.out]
  simp

set_option maxRecDepth 100000 in
set_option maxHeartbeats 4000000 in
theorem clone_any {w : World} {v : Value} {l : List Nat} (hs : Sv w v l) (hl : l.length ≤ 30000) :
    Calls Tryd.prog 18 #[v] w (Told w l) := by
  have HS := hidden hs
  obtain ⟨ad, cap, rfl, h1, h2, h3, _⟩ := hs
  cases ad with
  | none =>
    have hc := h3 rfl
    subst hc
    have hl0 : l = [] := List.eq_nil_of_length_eq_zero (by omega)
    subst hl0
    have hq : (binOp .eql 23 (.slice none 0 0) (.slice none 0 0)).run Tryd.prog w = .ok (.bool true) w := run_eql_slice_nil w 23 5 none 0 0 0 0 Tryd.underlying23
    go_enter Tryd.func18, Tryd.ntmps18
    go_wp2_with fail
    go_ret
    exact ⟨⟨_, rfl, OwnB.nil _ _⟩, Below.refl _ _⟩
  | some ad =>
    have HN := hidden (lit_none w)
    have HS2 := hidden (HS.out.kept (below_alloc w (.cells #[] 5)))
    clear h3
    have hq : (binOp .eql 23 (.slice (some ad) l.length cap) (.slice none 0 0)).run Tryd.prog w = .ok (.bool false) w := run_eql_slice_nil w 23 5 (some ad) l.length cap 0 0 Tryd.underlying23
    go_enter Tryd.func18, Tryd.ntmps18
    go_wp2_with (first | (at_builtin; refine wpList_append_sv rfl _ _ rfl w.heap.size _ _ [] l rfl ?q1 rfl ?q2 ?c1 ?c2 ?_))
    case q1 => exact HN.out
    case q2 => exact HS2.out
    case c1 => simp; omega
    case c2 => rw [World.size_alloc]; omega
    intro v3 w3 o3 hb3
    have HO3 := hidden o3
    have HB3 := hidden ((below_alloc w (.cells #[] 5)).trans hb3)
    clear o3 hb3
    go_wp2_with fail
    go_ret
    exact ⟨⟨_, rfl, HO3.out⟩, HB3.out⟩

/-- What Open tells. -/
def Opened (w : World) (o : Option (List Nat)) (e : Ending) (w' : World) : Prop := (∃ v, e = .returned (.tuple #[v, .bool o.isSome]) ∧ OwnB w' w.heap.size v (o.getD [])) ∧ Below w.heap.size w w'

theorem openM_short {l : List Nat} (h : l.length < 4) : openM l = none := by
  unfold openM
  rw [if_neg (by omega)]

set_option maxRecDepth 100000 in
set_option maxHeartbeats 4000000 in
theorem open_any {w : World} {v : Value} {l : List Nat} (ht : Tab w) (hs : Sv w v l) (h8 : Bs l) (hl : l.length ≤ 30000) :
    Calls Tryd.prog 13 #[v] w (Opened w (openM l)) := by
  have HS := hidden hs
  obtain ⟨a, cap, rfl, h1, h2⟩ := hs.form
  have hm2 : l.length ≤ 9223372036854775807 := by omega
  by_cases h4 : l.length < 4
  · rw [openM_short h4]
    have hlt : (l.length : Int) - 4 < 0 := by omega
    clear hs h8 ht h1 h2
    go_enter Tryd.func13, Tryd.ntmps13
    go_wp2_with fail
    go_ret2
    exact ⟨⟨_, rfl, OwnB.nil _ _⟩, Below.refl _ _⟩
  · obtain ⟨n, hn⟩ : ∃ n, l.length = n + 4 := ⟨l.length - 4, by omega⟩
    have hn0 : ¬ (n : Int) < 0 := by omega
    have hkn : n ≤ l.length := by omega
    have hA := hs.take hkn
    have HA := hidden hA
    have H8 := hidden h8
    have H8t := hidden (h8.take n)
    have HSE := hidden (seal_any ht hA (h8.take n) (by rw [List.length_take]; omega))
    have HOP : Hid (openM l = if sealM (l.take n) = l then some (l.take n) else none) := by
      show _ = _
      unfold openM
      rw [hn, Nat.add_sub_cancel]
      simp
    have hle : (l.length : Int) - 4 = (n : Int) := by omega
    have hlen : (l.take n).length ≤ 30000 := by rw [List.length_take]; omega
    have hncap : n ≤ cap := by omega
    rw [hn] at HS
    rw [hn]
    clear hs h8 ht h1 h2 hA hm2
    have H8s := hidden H8t.out.seal
    generalize openM l = R at *
    generalize l.take n = m at *
    go_enter Tryd.func13, Tryd.ntmps13
    go_wp2_with fail
    refine HSE.out.mono ?_
    rintro e w1 ⟨⟨v1, rfl, o1⟩, hb1⟩
    have HE1 := hidden (equal_any (HS.out.kept hb1) o1.sv H8.out H8s.out)
    have HA1 := hidden (HA.out.kept hb1)
    have HB1 := hidden hb1
    clear o1 hb1
    by_cases hyes : sealM m = l
    · rw [hyes, decide_eq_true rfl] at HE1
      have HR : Hid (R = some m) := by show _ = _; rw [HOP.out, if_pos hyes]
      clear hyes HOP H8s
      go_wp2_with fail
      refine HE1.out.mono ?_
      rintro e w2 ⟨rfl, rfl⟩
      go_wp2_with fail
      refine (clone_any HA1.out hlen).mono ?_
      rintro e w3 ⟨⟨v3, rfl, o3⟩, hb3⟩
      have HO3 := hidden o3
      have HB3 := hidden hb3
      clear o3 hb3
      go_wp2_with fail
      go_ret2
      rw [HR.out]
      refine ⟨⟨_, rfl, ?_⟩, below_then HB1.out HB3.out⟩
      exact HO3.out.low HB1.out.size
    · rw [decide_eq_false (fun h => hyes h.symm)] at HE1
      have HR : Hid (R = none) := by show _ = _; rw [HOP.out, if_neg hyes]
      clear hyes HOP H8s
      go_wp2_with fail
      refine HE1.out.mono ?_
      rintro e w2 ⟨rfl, rfl⟩
      go_wp2_with fail
      go_ret2
      rw [HR.out]
      exact ⟨⟨_, rfl, OwnB.nil _ _⟩, HB1.out⟩
end Go.Proofs.YtnedlogfgpgchaaDoor
