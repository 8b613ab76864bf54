/- ColumnNulls: for every byte and every list of cells the law returns true: nulls among values cost a bit each, and nothing else. No condition. -/
import Derived.Test.YtcmmednihoaekaaGreatLift
import Derived.Test.YtcmmednihoaekaaGreatOnly
set_option linter.unusedVariables false
namespace Go.Proofs.YtcmmednihoaekaaGreat
namespace NullsLaw
open Go.ChangeShapes Go.WideShapes Go.ChangeAt Go.RowKit Go.Lib

theorem col_own {k : Nat} {X : List (Nat × Int × List Nat)} (h : Col k X) : Col k (ownC X) := ⟨h.1, Nat.le_trans (ownC_length X) h.2.1, fun c hc => h.2.2 c (ownC_mem hc).1⟩

theorem own_full {X : List (Nat × Int × List Nat)} (h : (ownC X).length = X.length) : ownC X = X := by
  unfold ownC at h ⊢
  exact List.filter_eq_self.2 (List.length_filter_eq_length_iff.1 h)

theorem own_some {X : List (Nat × Int × List Nat)} (h : (ownC X).length ≠ X.length) : 0 ∈ there X := by
  by_cases h0 : 0 ∈ there X
  · exact h0
  · exfalso
    apply h
    have : ownC X = X := ownC_all (fun c hc e => h0 (by
      unfold there
      exact List.mem_map.2 ⟨c, hc, by rw [if_pos e]⟩))
    rw [this]

theorem nulls_form {k : Nat} {X : List (Nat × Int × List Nat)} (hc : Col k X) (h : (ownC X).length ≠ X.length) :
    ∃ P T, colM k X = 1 :: (P ++ T) ∧ colM k (ownC X) = 0 :: T ∧ P.length = by8 X.length := by
  refine ⟨packR (there X) 1, tailB k X, ?_, col_ownC k X, ?_⟩
  · unfold colM
    rw [headB_yes (own_some h)]
    rfl
  · have := bits_length (there_two X) (by rw [there_length]; exact hc.2.1)
    rwa [there_length] at this

theorem nulls_none {k : Nat} {X : List (Nat × Int × List Nat)} (h : (ownC X).length = X.length) : ∃ T, colM k X = 0 :: T ∧ colM k (ownC X) = 0 :: T := by
  refine ⟨tailB k X, ?_, col_ownC k X⟩
  have := col_ownC k X
  rw [own_full h] at this
  exact this

set_option maxRecDepth 100000 in
set_option maxHeartbeats 4000000 in
theorem walk (c : Nat) (hc : c < 256) {v : Value} {l : List (Nat × Int × List Nat)} {w : World} (hl : Sc w v l ∧ ∀ c ∈ l, Okc c) (_ : World) :
    Calls Tryz.prog 7 #[.int .u8 (c : Int), v] w fun e w' => e = .returned (.bool true) ∧ Below w.heap.size w w' := by
  obtain ⟨hs, hok⟩ := hl
  have HS := hidden hs
  obtain ⟨a, cap, rfl, _, _⟩ := hs.form
  obtain ⟨d, hd⟩ : ∃ d, c % 3 = d := ⟨_, rfl⟩
  have hd2 : d ≤ 2 := by omega
  have hdm : (c : Int) % 3 = (d : Int) := by omega
  have hdt : (c : Int).tmod 3 = (d : Int) := by rw [Int.tmod_eq_emod_of_nonneg (by omega)]; exact hdm
  obtain ⟨k, hk⟩ : ∃ k, 1 + d = k := ⟨_, rfl⟩
  have hk3 : 1 ≤ k ∧ k ≤ 3 := by omega
  have hkw : IntKind.u8.wrap (1 + (d : Int)) = (k : Int) := by rw [IntKind.wrap_u8]; omega
  have hke : 1 + (d : Int) = (k : Int) := by omega
  obtain ⟨X, hX⟩ : ∃ X, (l.take 256).map (onlyC k) = X := ⟨_, rfl⟩
  have HON := hidden (fun (W : World) (h : Sc W (.slice a l.length cap) l) => only_any h k)
  rw [hX] at HON
  have hcol : Col k X := by rw [← hX]; exact only_col hk3 hok
  have HCOL := hidden hcol
  have HP := hidden (only_written hcol)
  have hxl := hcol.2.1
  have HP2 := hidden (only_written (col_own hcol))
  have HNF := hidden (nulls_form hcol)
  have HNN := hidden (nulls_none (k := k) (X := X))
  have HZ1 := hidden (col_size hcol)
  have HZ2 := hidden (col_size (col_own hcol))
  have hol := ownC_length X
  clear hs hX hcol hok hd hk
  go_enter Tryz.func7, Tryz.ntmps7
  go_wp2_with fail
  refine (alive_any _).mono ?_
  rintro e w1 ⟨rfl, hb1⟩
  have HB1 := hidden hb1
  clear hb1
  go_wp2_with fail
  refine (HON.out _ (HS.out.kept HB1.out)).mono ?_
  rintro e w2 ⟨⟨v2, rfl, o2⟩, hb2⟩
  have HO2 := hidden o2
  have HB2 := hidden (below_then HB1.out hb2)
  obtain ⟨a2, c2, rfl, _, hm2⟩ := own_slice o2
  have hm2' : c2 ≤ 9223372036854775807 := by unfold maxLen at hm2; omega
  have HVB : Hid (∀ j, (Value.slice a2 X.length c2).ownBlock = some j → j < w2.heap.size) := hidden (fun j hj => (o2.lt j hj).2)
  clear o2 hb2 hm2
  go_wp2_with fail
  go_loopw [6, 7] (fun o i wr => ∃ j : Nat, j ≤ X.length ∧ i = .int .i64 (j : Int) ∧ OwnC wr w2.heap.size o (ownC (X.take j)) ∧ Below w2.heap.size w2 wr) (fun _ i _ => X.length - (intOf i).toNat)
  case atStart => exact ⟨0, by omega, rfl, OwnC.nil _ _, Below.refl _ _⟩
  case round =>
    obtain ⟨j, hj, rfl, hown, hbel⟩ := hrel
    have HO := hidden hown
    have HB := hidden hbel
    have hzr := hbel.size
    clear hown hbel
    by_cases hlt : j < X.length
    · obtain ⟨g, off, rfl, hg, c0, c1, c2'⟩ := (HO2.out.sc.kept HB.out).at hlt
      have hlt' : (j : Int) < (X.length : Int) := by omega
      have HT := hidden (ownC_take_succ hlt)
      have hlen' : (ownC (X.take j)).length ≤ 100000 := by have := ownC_take_len X j; omega
      rw [txt_eq] at c2'
      generalize X[j] = xc at *
      obtain ⟨xk, xn, xs⟩ := xc
      simp only at *
      generalize ownC (X.take j) = LL at *
      by_cases hx0 : xk = 0
      · subst hx0
        rw [if_pos rfl, List.append_nil] at HT
        go_wp2_with fail
        go_roundw
        case rel => exact ⟨j + 1, by omega, by go_num, by rw [HT.out]; exact HO.out, HB.out⟩
        case measure => simp [intOf]; omega
      · have hx0' : ((xk : Int) != 0) = true := by
          have : (xk : Int) ≠ 0 := by omega
          simpa using this
        rw [if_neg hx0] at HT
        have HCN := hidden (cell_new3 wr (.int .u8 (xk : Int)) (.int .i64 xn) (.string (bytesT xs)) 45)
        clear hx0
        go_wp2_with (first | (at_builtin; refine wpList_append_c rfl _ _ rfl w2.heap.size _ _ (xk, xn, xs) LL rfl (HO.out.kept (below_one _ _)) rfl HCN.out.1 HCN.out.2.1 HCN.out.2.2 hlen' ?c2 ?_))
        case c2 => first | omega | (rw [World.size_alloc]; omega)
        intro v' w5 o5 b5
        have HO5 := hidden o5
        have HB5 := hidden ((HB.out.alloc hzr _).trans b5)
        clear o5 b5
        go_wp2_with fail
        go_roundw
        case rel => exact ⟨j + 1, by omega, by go_num, by rw [HT.out]; exact HO5.out, HB5.out⟩
        case measure => simp [intOf]; omega
    · obtain rfl : j = X.length := by omega
      rw [List.take_length] at HO
      have hge : ¬ ((X.length : Nat) : Int) < (X.length : Int) := by omega
      have HX3 := hidden (HO2.out.kept HB.out)
      have HB3 := hidden (below_then HB2.out HB.out)
      obtain ⟨a3, c3, hv3, _, _⟩ := own_slice HO.out
      subst hv3
      have HP := HP
      generalize hY : ownC X = Y at *
      have HY := hidden hY
      clear hY
      go_wp2_with fail
      refine ((HP.out).1 _ _ HX3.out.sc).mono ?_
      rintro e w4 ⟨⟨v4, rfl, o4⟩, hb4⟩
      have HO4 := hidden o4
      have HY4 := hidden (HO.out.kept hb4)
      have HB4 := hidden (below_then HB3.out hb4)
      clear o4 hb4
      go_wp2_with fail
      refine ((HP.out).2 _ _ _ HO4.out).mono ?_
      rintro e w5 ⟨⟨v5, rfl, o5⟩, hb5⟩
      have HO5 := hidden o5
      have HY5 := hidden (HY4.out.kept hb5)
      have HB5 := hidden (below_then HB4.out hb5)
      clear o5 hb5
      go_wp2_with fail
      refine ((HP2.out).1 _ _ HY5.out.sc).mono ?_
      rintro e w6 ⟨⟨v6, rfl, o6⟩, hb6⟩
      have HO6 := hidden o6
      have HC6 := hidden (HO5.out.kept hb6)
      have HB6 := hidden (below_then HB5.out hb6)
      clear o6 hb6
      go_wp2_with fail
      refine ((HP2.out).2 _ _ _ HO6.out).mono ?_
      rintro e w7 ⟨⟨v7, rfl, o7⟩, hb7⟩
      have HC7 := hidden (HC6.out.kept hb7)
      have HO7 := hidden o7
      have HB7 := hidden (below_then HB6.out hb7)
      clear o7 hb7
      by_cases hfull : Y.length = X.length
      · obtain ⟨T, hT1, hT2⟩ := HNN.out hfull
        rw [hT1] at HC7 HZ1
        rw [hT2] at HO7 HZ2
        have hcv1 := HC7.out.sv.conv HZ1.out.2
        have hcv2 := HO7.out.sv.conv HZ2.out.2
        obtain ⟨a7, c7, rfl, hc7, hm7⟩ := own_slice HC7.out
        have hm7' : c7 ≤ 9223372036854775807 := by unfold maxLen at hm7; omega
        obtain ⟨g7, off7, rfl, _, hcell⟩ := HC7.out.sv.at1 (k := 0) (x := .int .u8 0) rfl
        have hfl : (((Y.length : Nat) : Int) == (X.length : Int)) = true := by simp [hfull]
        clear HNF HNN hT1 hT2 hm7 hfull
        rw [Nat.add_zero] at hcell
        unfold txt at hcv1 hcv2
        generalize (0 :: T).map Nat.toUInt8 = U at *
        have hlp : ((0 :: T).length : Int) > 0 := by simp
        generalize hL : (0 :: T).length = L at *
        go_wp2_with fail
        go_ret
        refine ⟨?_, HB7.out⟩
        simp
      · obtain ⟨P, T, hT1, hT2, hPl⟩ := HNF.out hfull
        rw [hT1] at HC7 HZ1
        rw [hT2] at HO7 HZ2
        have hz1 := HZ1.out.1
        have hz2 := HZ2.out.1
        have hbT : Bs T := fun x hx => HZ2.out.2 x (by simp [hx])
        obtain ⟨a5, c5, rfl, hc5, hm5⟩ := own_slice HC7.out
        obtain ⟨a7, c7, rfl, hc7, hm7⟩ := own_slice HO7.out
        have hm5' : c5 ≤ 9223372036854775807 := by unfold maxLen at hm5; omega
        have hm7' : c7 ≤ 9223372036854775807 := by unfold maxLen at hm7; omega
        obtain ⟨g5, off5, rfl, _, hcell5⟩ := HC7.out.sv.at1 (k := 0) (x := .int .u8 1) rfl
        obtain ⟨g7, off7, rfl, _, _⟩ := HO7.out.sv.at1 (k := 0) (x := .int .u8 0) rfl
        rw [Nat.add_zero] at hcell5
        have hbd : ∀ q, Below w7.heap.size w7 (w7.drewN q) := fun q => below_drewN (Below.refl _ _) q
        have hcell5n : ∀ q, (w7.drewN q).cell? ⟨g5, off5, none⟩ = some (.int .u8 1) := fun q => hcell5
        have hl5 : (1 :: (P ++ T)).length = 1 + P.length + T.length := by simp; omega
        have hl7 : (0 :: T).length = 1 + T.length := by simp; omega
        have hS5 := (HC7.out.sv.dropG (k := 1 + P.length) (by rw [vals_length]; omega))
        have hS7 := (HO7.out.sv.dropG (k := 1) (by rw [vals_length]; omega))
        have hd5 : (vals .u8 (1 :: (P ++ T))).drop (1 + P.length) = vals .u8 T := by
          unfold vals
          rw [← List.map_drop, Nat.add_comm 1, List.drop_succ_cons, List.drop_left]
        have hd7 : (vals .u8 (0 :: T)).drop 1 = vals .u8 T := rfl
        rw [hd5, vals_length, hl5] at hS5
        rw [hd7, vals_length, hl7] at hS7
        rw [show 1 + P.length + T.length - (1 + P.length) = T.length by omega] at hS5
        rw [show 1 + T.length - 1 = T.length by omega] at hS7
        have e5 : (if c5 = 1 + P.length then (some ⟨g5, off5, none⟩ : Option Addr) else (some ⟨g5, off5, none⟩ : Option Addr).map fun x => x.add (1 + P.length)) = (if c5 = 1 + P.length then some ⟨g5, off5, none⟩ else some ⟨g5, off5 + (1 + P.length), none⟩) := by simp [addj]
        have e7 : (if c7 = 1 then (some ⟨g7, off7, none⟩ : Option Addr) else (some ⟨g7, off7, none⟩ : Option Addr).map fun x => x.add 1) = (if c7 = 1 then some ⟨g7, off7, none⟩ else some ⟨g7, off7 + 1, none⟩) := by simp [addj]
        rw [e5] at hS5
        rw [e7] at hS7
        obtain ⟨A5, hA5⟩ : ∃ A5, (if c5 = 1 + P.length then (some ⟨g5, off5, none⟩ : Option Addr) else some ⟨g5, off5 + (1 + P.length), none⟩) = A5 := ⟨_, rfl⟩
        obtain ⟨A7, hA7⟩ : ∃ A7, (if c7 = 1 then (some ⟨g7, off7, none⟩ : Option Addr) else some ⟨g7, off7 + 1, none⟩) = A7 := ⟨_, rfl⟩
        rw [hA5] at hS5
        rw [hA7] at hS7
        have hcv5 := fun q => (hS5.kept (hbd q)).conv hbT
        have hcv7 := fun q => (hS7.kept (hbd q)).conv hbT
        rw [hl5] at hc5
        rw [hl7] at hc7
        have hfl : (((Y.length : Nat) : Int) == (X.length : Int)) = false := by
          have : (Y.length : Int) ≠ (X.length : Int) := by omega
          simpa using this
        have hq : ((X.length : Int) + 7) / 8 = (P.length : Int) := by rw [hPl]; unfold by8; omega
        have hq2 : ((X.length : Int) + 7).tdiv 8 = (P.length : Int) := by rw [Int.tdiv_eq_ediv_of_nonneg (by omega)]; exact hq
        rw [hl5] at *
        rw [hl7] at *
        unfold txt at hcv5 hcv7
        clear HNF HNN hT1 hT2 hm5 hm7 hfull hS5 hS7 e5 e7 hd5 hd7 hl5 hl7 hbT hPl hbd HZ1 HZ2
        generalize P.length = p at *
        generalize T.length = t at *
        generalize T.map Nat.toUInt8 = U at *
        generalize hn5 : 1 + p + t = n5 at *
        generalize hn7 : 1 + t = n7 at *
        generalize hp1 : 1 + p = p1 at *
        have hg1 : ((n5 : Int) == (n7 : Int) + (p : Int)) = true := by
          have : (n5 : Int) = (n7 : Int) + (p : Int) := by omega
          simpa using this
        have hw1 : IntKind.i64.wrap ((X.length : Int) + 7) = (X.length : Int) + 7 := by rw [IntKind.wrap_i64]; omega
        have hw2 : IntKind.i64.wrap ((n7 : Int) + (p : Int)) = (n7 : Int) + (p : Int) := by rw [IntKind.wrap_i64]; omega
        have hw3 : IntKind.i64.wrap (1 + (p : Int)) = (p1 : Int) := by rw [IntKind.wrap_i64]; omega
        have hw4 : 1 + (p : Int) = (p1 : Int) := by omega
        have hw5 : IntKind.i64.wrap (p : Int) = (p : Int) := by rw [IntKind.wrap_i64]; omega
        have hk5 : p1 ≤ n5 := by omega
        have hk7 : 1 ≤ n7 := by omega
        have hp5 : 0 < n5 := by omega
        have hr5 : n5 - p1 = t := by omega
        have hr7 : n7 - 1 = t := by omega
        have HN := hidden hn5
        clear hn5 hn7 hp1
        go_wp2_with fail
        go_quiet (fail)
        go_wp2_with fail
        go_ret
        exact ⟨rfl, HB7.out.trans ⟨rfl, rfl, rfl, Nat.le_refl _, fun _ _ => rfl⟩⟩


set_option maxRecDepth 100000 in
theorem lifted (os : Os) (started : os.Started) (H : Type) (enc : TypeId × Value → H) :
    ReturnsInHanded {} Tryz.checked os 7 .any (Rows.columnNullsSpec.pre6 enc Tryz.prog Tryz.f7 Rows.columnNullsRow.domain false) (Rows.columnNullsSpec.post enc Tryz.prog Tryz.f7 false true false false) := by
  refine returnsInHanded_of_change (C := Tryz.checked) own started (by kernel_rfl) Tryz.func7
    (ChangeSpec.witness6 (enc := enc) (C := Tryz.checked) false ⟨#[], #[.int .u8 0, .slice none 0 0], []⟩ 8 (by kernel_rfl) (by kernel_rfl) (by kernel_rfl) (by kernel_rfl)) ?_
  intro W base args ds gs before hval0 hW hcnd _
  have hval : ∀ (j : Nat) t v, Tryz.f7.params[j]? = some t → args[j]? = some v → Value.okWide Tryz.prog W .any base t v := hval0
  have hW' := hW
  obtain ⟨p, q, hA0, hV, rfl, hfz, hnd⟩ := hW
  have hA : DataW.TrodAll enc Tryz.prog W 0 (fun _ => true) true Tryz.f7.params.toList args.toList ds p := hA0
  rw [Tryz.params7] at hA hval
  obtain ⟨v0, vs0, d0, ds0, p0, q0, hargs, rfl, rfl, h0, r0⟩ := trodAll_cons hA
  obtain ⟨v1, vs1, d1, ds1, p1, q1, rfl, rfl, rfl, h1, r1⟩ := trodAll_cons r0
  obtain ⟨rfl, rfl, rfl⟩ := trodAll_nil r1
  obtain rfl : args = #[v0, v1] := by cases args; simp_all
  obtain ⟨rfl, rfl⟩ := trodVars_none hV
  obtain ⟨a0, rfl, rfl, rfl, w0⟩ := open_int Tryz.underlying5 (hval 0 5 v0 rfl rfl) h0
  have g0 := bounds_u8 w0
  obtain ⟨n0, rfl⟩ := Int.eq_ofNat_of_zero_le g0.1
  obtain ⟨a1, len1, cap1, rfl⟩ := okWide_slice Tryz.underlying22 (hval 1 22 v1 rfl rfl)
  have lt1 : ∀ x ∈ p1, x.block < W.heap.size := by obtain ⟨m, hm⟩ := h1; exact DataW.trod_lt m _ _ _ hm
  obtain ⟨l1, hl1⟩ := open_cells h1
  clear hA0 hval0
  refine (walk n0 (by omega) hl1 W).mono fun e W' ⟨he, bel⟩ => ?_
  subst he
  exact ⟨_, rfl, _, _, _, [], _, [], hW', trodAll_mk1 (shut_bool Tryz.underlying4 _), (trodAll_cons_mk (shut_int Tryz.underlying5 w0) (trodAll_cons_mk (Below.trod laidOut (by kernel_rfl) (of_decide_eq_true (by kernel_rfl)) h1 bel lt1) trodAll_mk0)), rfl, bel.frame _, fun h => by cases h⟩

theorem proved : Rows.ColumnNullsSaid :=
  OpenClaim.holds_of_wide 7 Tryz.f7 rfl rfl rfl rfl rfl rfl rfl ⟨rfl, rfl, rfl, rfl, rfl⟩ rfl rfl rfl rfl rfl (by kernel_rfl) Tryz.func7 (by kernel_rfl)
    (of_decide_eq_true (by kernel_rfl)) (by unfold Func.isWrapper; first | (rw [if_pos (by decide +kernel)]; kernel_rfl) | (rw [if_neg (by decide +kernel)]; exact ⟨rfl, rfl⟩))
    (fun os started H enc _ => lifted os started H enc)
end NullsLaw
theorem columnNulls_holds : Rows.ColumnNullsSaid := NullsLaw.proved
#print axioms columnNulls_holds
end Go.Proofs.YtcmmednihoaekaaGreat
