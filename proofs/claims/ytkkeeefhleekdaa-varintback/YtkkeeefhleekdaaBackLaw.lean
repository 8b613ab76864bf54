/- VarintBack: for every number and every bytes the law returns true: the number is read back whatever stands behind it, as a number and as a whole one, and what is cut off is not; nothing that was there is written. No condition. -/
import Derived.Test.YtkkeeefhleekdaaGrow
import Derived.SizedLaws
set_option linter.unusedVariables false
namespace Go.Proofs.Ytkkeeefhleekdaa
namespace BackLaw
open Go.ChangeShapes Go.WideShapes Go.ChangeAt Go.RowKit Go.Lib

theorem below_then {a w w2 : World} (h : Below a.heap.size a w) (h2 : Below w.heap.size w w2) : Below a.heap.size a w2 := h.trans (h2.mono h.size)

set_option maxRecDepth 100000 in
set_option maxHeartbeats 4000000 in
theorem walk (n : Nat) (hn : n < 18446744073709551616) {vb : Value} {l : List UInt8} {W0 : World} (hsl : Sn W0 vb l) (hlen : l.length ≤ 140737488351232) (w : World) (hw : w = W0) :
    Calls Try.prog 5 #[.int .u64 (n : Int), vb] w fun e w' => e = .returned (.bool true) ∧ Below w.heap.size w w' := by
  subst hw
  obtain ⟨z, hz⟩ : ∃ z : Int, IntKind.i64.wrap (n : Int) = z := ⟨_, rfl⟩
  have hz1 : -9223372036854775808 ≤ z ∧ z ≤ 9223372036854775807 := by
    rw [IntKind.wrap_i64] at hz
    omega
  have hzl := zigzag_lt hz1.1 hz1.2
  have HP := hidden (put_any n hn)
  have HI := hidden (putInt_any z hz1.1 hz1.2)
  have HG1 := hidden (get_put n hn l)
  have HG2 := hidden (get_put (zigzag z) hzl l)
  have HU := hidden (unzig_zig z)
  have HC := hidden (get_cut n hn)
  have hp := uvarint_pos n
  have hl10 := uvarint_length64 hn
  have hl10z := uvarint_length64 hzl
  have HS := hidden hsl
  clear hsl hz1 hzl
  go_enter Try.func5, Try.ntmps5
  go_wp2_with fail
  refine (alive_any _).mono ?_
  rintro e w1 ⟨rfl, hb1⟩
  have HS1 := hidden (HS.out.kept hb1)
  have HB1 := hidden hb1
  clear hb1 HS
  go_wp2_with fail
  refine (HP.out _).mono ?_
  rintro e w2 ⟨⟨v2, rfl, o2⟩, hb2⟩
  obtain ⟨g, cap, rfl, hg, _, _⟩ := (own_form o2).2 hp
  have HS2 := hidden (HS1.out.kept hb2)
  have HB2 := hidden (below_then HB1.out hb2)
  have HO2 := hidden o2
  clear o2 hb2 HS1 HB1
  have hlit : (w2.alloc (.cells #[] 5)).ownsRow w2.heap.size 5 1 (.slice (some ⟨w2.heap.size, 0, none⟩) 0 0) 0 (byteVals []) := World.ownsRow_lit w2 #[] 0 (Nat.le_refl _) (by unfold maxLen; omega) rfl
  have HLit := hidden hlit
  have hba : Below w2.heap.size w2 (w2.alloc (.cells #[] 5)) := (Below.refl _ _).alloc (Nat.le_refl _) _
  have HBA := hidden hba
  clear hlit hba
  go_wp2_with (first | (at_builtin; refine wpList_append_sn rfl _ _ rfl w2.heap.size _ _ _ [] (uvarint n) rfl HLit.out rfl (Sn.of_own (own_kept HO2.out HBA.out)) ?_ ?_ ?_))
  · omega
  · simp
  intro v3 w3 o3 hb3
  have HBB3 := hidden (HBA.out.trans hb3)
  have HO3 := hidden o3
  have HS3 := hidden (HS2.out.kept HBB3.out)
  have hz3 := HBB3.out.size
  clear o3 hb3 HLit HBA
  go_wp2_with (first | (at_builtin; refine wpList_append_sn rfl _ _ rfl w2.heap.size _ _ _ (uvarint n) l rfl HO3.out rfl HS3.out ?_ ?_ ?_))
  · omega
  · omega
  intro v4 w4 o4 hb4
  have HBB4 := hidden (HBB3.out.trans hb4)
  have HO4 := hidden (Sl.of_own o4)
  have HS4 := hidden (HS2.out.kept HBB4.out)
  have HX4 := hidden (own_kept HO2.out HBB4.out)
  have HB4 := hidden (below_then HB2.out HBB4.out)
  have HT1 : Hid (tell .u64 ((getL (uvarint n ++ l)).1 : Int) (getL (uvarint n ++ l)).2.1 (getL (uvarint n ++ l)).2.2 = .returned (.tuple #[.int .u64 (n : Int), .int .i64 ((uvarint n).length : Int), .int .i64 0])) := by
    show _ = _
    rw [HG1.out]; rfl
  have HT2 : Hid (tell .i64 (unzig (getL (uvarint (zigzag z) ++ l)).1) (getL (uvarint (zigzag z) ++ l)).2.1 (getL (uvarint (zigzag z) ++ l)).2.2 = .returned (.tuple #[.int .i64 z, .int .i64 ((uvarint (zigzag z)).length : Int), .int .i64 0])) := by
    show _ = _
    rw [HG2.out, HU.out]; rfl
  clear o4 hb4 HBB3 HBB4 HO3 HS3 HS2 HO2 HB2 HG1 HG2 HU hz3
  go_wp2_with fail
  refine (get_any HO4.out).mono ?_
  rintro e w5 ⟨rfl, rfl⟩
  rw [HT1.out]
  go_wp2_with fail
  refine (HI.out _).mono ?_
  rintro e w6 ⟨⟨v6, rfl, o6⟩, hb6⟩
  have HO6 := hidden o6
  have HS6 := hidden (HS4.out.kept hb6)
  have hz6 := hb6.size
  have HB6 := hidden hb6
  clear o6 hb6 HS4 HO4
  go_wp2_with (first | (at_builtin; refine wpList_append_sn rfl _ _ rfl w5.heap.size _ _ _ (uvarint (zigzag z)) l rfl HO6.out rfl HS6.out ?_ ?_ ?_))
  · omega
  · omega
  intro v7 w7 o7 hb7
  have HO7 := hidden (Sl.of_own o7)
  have HBB7 := hidden (HB6.out.trans hb7)
  have HX7 := hidden (own_kept HX4.out HBB7.out)
  have HB7 := hidden (below_then HB4.out HBB7.out)
  clear o7 hb7 HS6 HO6 HB6 HBB7 HX4 HB4 hz6
  go_wp2_with fail
  refine (getInt_any HO7.out).mono ?_
  rintro e w8 ⟨rfl, rfl⟩
  rw [HT2.out]
  clear HO7 HT1 HT2
  go_wp2_with fail
  refine (HI.out _).mono ?_
  rintro e w9 ⟨⟨v9, rfl, o9⟩, hb9⟩
  obtain ⟨⟨ad9, cap9, rfl, _⟩, _⟩ := own_form o9
  have HX9 := hidden (Sl.of_own (own_kept HX7.out hb9))
  have HB9 := hidden (below_then HB7.out hb9)
  have hcap : (uvarint n).length ≤ cap := by
    obtain ⟨_, _, h1, h2, _⟩ := HX9.out
    simp only [Value.slice.injEq] at h1
    omega
  clear o9 hb9 HX7 HB7
  go_wp2_with fail
  go_loopw [13] (fun i w' => w' = w9 ∧ ∃ j : Nat, i = .int .i64 (j : Int) ∧ j ≤ (uvarint n).length) (fun i _ => (uvarint n).length - (intOf i).toNat)
  case atStart => exact ⟨rfl, 0, rfl, by omega⟩
  case round =>
    obtain ⟨rfl, j, rfl, hj⟩ := hrel
    by_cases hjl : j < (uvarint n).length
    · have HJ := hidden (get_any (HX9.out.take (k := j) (by omega)))
      have HE : Hid (tell .u64 ((getL ((uvarint n).take j)).1 : Int) (getL ((uvarint n).take j)).2.1 (getL ((uvarint n).take j)).2.2 = .returned (.tuple #[.int .u64 0, .int .i64 0, .int .i64 30])) := by
        show _ = _
        rw [HC.out j hjl]; rfl
      have hjc : (j : Int) ≤ (cap : Int) := by omega
      go_wp2_with fail
      refine HJ.out.mono ?_
      rintro e w10 ⟨rfl, rfl⟩
      rw [HE.out]
      go_wp2_with fail
      go_roundw
      case rel => exact ⟨trivial, j + 1, by go_num, by omega⟩
      case measure => simp [intOf]; omega
    · go_wp2_with fail
      go_ret
      exact ⟨rfl, HB9.out⟩

set_option maxRecDepth 100000 in
theorem lifted (os : Os) (started : os.Started) (H : Type) (enc : TypeId × Value → H) :
    ReturnsInHanded {} Try.checked os 5 .any (Rows.varintBackSpec.pre6 enc Try.prog Try.f5 Rows.varintBackRow.domain false) (Rows.varintBackSpec.post enc Try.prog Try.f5 false true false false) := by
  refine returnsInHanded_of_change_sized (C := Try.checked) own started (by kernel_rfl) Try.func5
    (ChangeSpec.witness6 (enc := enc) (C := Try.checked) false ⟨#[], #[.int .u64 0, .slice none 0 0], []⟩ 8 (by kernel_rfl) (by kernel_rfl) (by kernel_rfl) (by kernel_rfl)) ?_
  intro W base args ds gs before hval0 hW hcnd hsz _
  have hval : ∀ (j : Nat) t v, Try.f5.params[j]? = some t → args[j]? = some v → Value.okWide Try.prog W .any base t v := hval0
  have hW' := hW
  obtain ⟨p, q, hA0, hV, rfl, hfz, hnd⟩ := hW
  have hA : DataW.TrodAll enc Try.prog W 0 (fun _ => true) true Try.f5.params.toList args.toList ds p := hA0
  rw [Try.params5] at hA hval
  obtain ⟨v0, vs0, d0, ds0, p0, q0, hargs, rfl, rfl, h0, r0⟩ := trodAll_cons hA
  obtain ⟨v1, vs1, d1, ds1, p1, q1, rfl, rfl, rfl, h1, r1⟩ := trodAll_cons r0
  obtain ⟨rfl, rfl, rfl⟩ := trodAll_nil r1
  obtain rfl : args = #[v0, v1] := by cases args; simp_all
  obtain ⟨rfl, rfl⟩ := trodVars_none hV
  obtain ⟨a0, rfl, rfl, rfl, w0⟩ := open_int Try.underlying22 (hval 0 22 v0 rfl rfl) h0
  have g0 := bounds_u64 w0
  obtain ⟨n0, rfl⟩ := Int.eq_ofNat_of_zero_le g0.1
  obtain ⟨a1, len1, cap1, rfl⟩ := okWide_slice Try.underlying24 (hval 1 24 v1 rfl rfl)
  have lt1 : ∀ x ∈ p1, x.block < W.heap.size := by obtain ⟨m, hm⟩ := h1; exact DataW.trod_lt m _ _ _ hm
  obtain ⟨⟨l1, hl1, hlen1⟩, hd1⟩ := open_bytes_n h1
  have hreach : len1 ≤ 140737488351232 := by
    rcases hd1 with ⟨_, h0⟩ | ⟨es, sp, rfl, hes⟩
    · omega
    · have := sized_slice hsz (j := 1) (t := 24) (e := 5) rfl rfl Try.underlying24
      have hb5 : Try.checked.prog.bytesOf 5 = 1 := by kernel_rfl
      rw [hb5] at this
      simp only [reachBytes] at this
      omega
  clear hA0 hval0
  refine (walk n0 (by omega) hl1 (by omega) W rfl).mono fun e W' ⟨he, bel⟩ => ?_
  subst he
  exact ⟨_, rfl, _, _, _, [], _, [], hW', trodAll_mk1 (shut_bool Try.underlying4 _), (trodAll_cons_mk (shut_int Try.underlying22 w0) (trodAll_cons_mk (Below.trod laidOut (by kernel_rfl) (of_decide_eq_true (by kernel_rfl)) h1 bel lt1) trodAll_mk0)), rfl, bel.frame _, fun h => by cases h⟩

theorem proved : Rows.VarintBackSaid :=
  OpenClaim.holds_of_wide 5 Try.f5 rfl rfl rfl rfl rfl rfl rfl ⟨rfl, rfl, rfl, rfl, rfl⟩ rfl rfl rfl rfl rfl (by kernel_rfl) Try.func5 (by kernel_rfl)
    (of_decide_eq_true (by kernel_rfl)) (by unfold Func.isWrapper; first | (rw [if_pos (by decide +kernel)]; kernel_rfl) | (rw [if_neg (by decide +kernel)]; exact ⟨rfl, rfl⟩))
    (fun os started H enc _ => lifted os started H enc)
end BackLaw
theorem varintBack_holds : Rows.VarintBackSaid := BackLaw.proved
#print axioms varintBack_holds
end Go.Proofs.Ytkkeeefhleekdaa
