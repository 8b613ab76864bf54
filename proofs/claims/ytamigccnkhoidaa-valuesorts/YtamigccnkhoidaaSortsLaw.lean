/- ValueSorts: whatever list of cells is handed in, the law returns true: of the values of up to 60 cells (null, where one is no value's cell) the least one by Compare is ahead of none of the others, and equal ones are the same cell; nothing that was there is written. No condition. -/
import Derived.Test.YtamigccnkhoidaaRowC
import Derived.Test.YtamigccnkhoidaaRef
namespace Go.Proofs.Ytamigccnkhoidaa
namespace SortsLaw
open Go.ChangeShapes Go.WideShapes Go.ChangeAt Go.RowKit

theorem walk_short (a : Option Addr) (len cap : Nat) (w : World) (hlen : len = 0 ∨ 60 < len) :
    Calls Try.prog 8 #[.slice a len cap] w fun e w' => e = .returned (.bool true) ∧ Below w.heap.size w w' := by
  rcases hlen with rfl | hlen
  all_goals
    go_enter Try.func8, Try.ntmps8
    go_wp2_with fail
    refine (alive_any _).mono ?_
    rintro e w1 ⟨rfl, hb1⟩
    go_wp2_with fail
    go_ret
    exact ⟨rfl, hb1⟩

theorem first_least (K N : Nat → Int) (T : Nat → ByteArray) : Hid (∀ q, q < 1 → cv (K 0) (N 0) (T 0) (K q) (N q) (T q) ≤ 0) := fun q hq => by
  obtain rfl : q = 0 := by omega
  exact Int.le_of_eq ((cv_zero _ _ _ _ _ _).2 ⟨rfl, rfl, rfl⟩)

theorem ne_ways {K N K' N' : Int} {T T' : ByteArray} (h : ¬ (K = K' ∧ N = N' ∧ T = T')) : (¬ K = K') ∨ (K = K' ∧ ¬ N = N') ∨ (K = K' ∧ N = N' ∧ ¬ T.toList = T'.toList) := by
  by_cases h1 : K = K'
  · by_cases h2 : N = N'
    · exact Or.inr (Or.inr ⟨h1, h2, fun h3 => h ⟨h1, h2, bytes_ext h3⟩⟩)
    · exact Or.inr (Or.inl ⟨h1, h2⟩)
  · exact Or.inl h1

/-- What a value and the least one are to each other. -/
theorem two_ways {c k n k' n' : Int} {s s' : ByteArray} (hc : cv k n s k' n' s' = c) (h : cv k' n' s' k n s ≤ 0) : (c = 0 ∧ k = k' ∧ n = n' ∧ s = s') ∨ (c = 1 ∧ ¬ k = k') ∨ (c = 1 ∧ k = k' ∧ ¬ n = n') ∨ (c = 1 ∧ k = k' ∧ n = n' ∧ ¬ s.toList = s'.toList) := by
  have h1 := cv_range k n s k' n' s'
  have h2 := cv_swap k n s k' n' s'
  have h3 := cv_zero k n s k' n' s'
  rw [hc] at h1 h2 h3
  have h4 : c = 0 ∨ c = 1 := by omega
  rcases h4 with rfl | rfl
  · exact Or.inl ⟨rfl, h3.1 rfl⟩
  · have hne : ¬ (k = k' ∧ n = n' ∧ s = s') := fun h => by have := h3.2 h; omega
    rcases ne_ways hne with h | h | h
    · exact Or.inr (Or.inl ⟨rfl, h⟩)
    · exact Or.inr (Or.inr (Or.inl ⟨rfl, h⟩))
    · exact Or.inr (Or.inr (Or.inr ⟨rfl, h⟩))

set_option maxHeartbeats 2000000 in
theorem walk_long (b off len cap : Nat) (f : Nat → Int × Int × ByteArray) (w : World) (hpos : 0 < len) (hlen : len ≤ 60) (hbw : b < w.heap.size) (hrow : RowAt w b off len f) :
    Calls Try.prog 8 #[.slice (some ⟨b, off, none⟩) len cap] w fun e w' => e = .returned (.bool true) ∧ Below w.heap.size w w' := by
  have HR := hidden hrow
  clear hrow
  have e0 : ((len : Int) == 0) = false := by simp; omega
  have e1 : (len : Int) ≤ 60 := by omega
  go_enter Try.func8, Try.ntmps8
  go_wp2_with fail
  refine (alive_any _).mono ?_
  rintro e w1 ⟨rfl, hb1⟩
  have hz1 := hb1.size
  have HR1 : Hid (RowAt w1 b off len f) := fun i hi => by
    obtain ⟨q0, q1, q2, q3⟩ := HR.out i hi
    exact ⟨q0, (hb1.cell (p := ⟨b, off + i * 3, none⟩) hbw).trans q1, (hb1.cell (p := ⟨b, off + i * 3 + 1, none⟩) hbw).trans q2, (hb1.cell (p := ⟨b, off + i * 3 + 2, none⟩) hbw).trans q3⟩
  clear HR
  go_wp2_with fail
  refine (row_any b off len cap f w1 hlen (by omega) HR1.out).mono ?_
  rintro e w2 ⟨⟨v, xs, rfl, hown, hval⟩, hb2⟩
  obtain ⟨g, cp, rfl⟩ : ∃ g cp, v = .slice (some ⟨g, 0, none⟩) len cp := by
    rcases hown.2 with ⟨_, h⟩ | ⟨g, cp, _, h, _⟩
    · omega
    · exact ⟨g, cp, h⟩
  have hxl : xs.length = len := by have := hown.1; omega
  have hcell : ∀ i, i < len → w2.cell? ⟨g, i, none⟩ = some (xs.getD i .nilIface) := fun i hi => by
    rw [hown.cellAt i (by omega), List.getD_eq_getElem?_getD, List.getElem?_eq_getElem (by omega)]; rfl
  have hg : g < w2.heap.size := (hown.lt g rfl).2
  obtain ⟨V, K, N, T, HV, HC⟩ : ∃ (V : Nat → Value) (K N : Nat → Int) (T : Nat → ByteArray), Hid (∀ i, i < len → Val (V i) (K i) (N i) (T i)) ∧ Hid (∀ i, i < len → w2.cell? ⟨g, i, none⟩ = some (V i)) :=
    ⟨_, fun i => fk (f i).1 (f i).2.1 (f i).2.2, fun i => fn (f i).1 (f i).2.1 (f i).2.2, fun i => fs (f i).1 (f i).2.1 (f i).2.2, hval, hcell⟩
  have HB := hidden (hb1.trans (hb2.mono hz1))
  have hz2 := HB.out.size
  clear hown hb1 hb2 HR1 hcell hxl hz1 hval
  have c0 := HC.out 0 hpos
  go_wp2_with fail
  clear c0 e0
  go_loopw [4, 5] (fun l i wr => ∃ j m : Nat, 1 ≤ j ∧ j ≤ len ∧ m < len ∧ i = .int .i64 j ∧ l = V m ∧ Hid (∀ q, q < j → cv (K m) (N m) (T m) (K q) (N q) (T q) ≤ 0) ∧ Below w2.heap.size w2 wr) (fun _ i _ => len - (intOf i).toNat)
  case atStart => exact ⟨1, 0, by omega, by omega, hpos, rfl, rfl, first_least K N T, Below.refl _ _⟩
  case round =>
    obtain ⟨j, m, hj1, hj2, hm, rfl, rfl, hmin, hbr⟩ := hrel
    by_cases hlt : j < len
    · have hcj := (hbr.cell (p := ⟨g, j, none⟩) hg).trans (HC.out j hlt)
      have hzr := hbr.size
      have HBR := hidden hbr
      have gC : ∀ w : World, Calls Try.prog 17 #[V j, V m] w fun e w' => e = .returned (.int .i64 (cv (K j) (N j) (T j) (K m) (N m) (T m))) ∧ Below w.heap.size w w' := compare_cv (HV.out j hlt) (HV.out m hm)
      have hsw := cv_swap (K j) (N j) (T j) (K m) (N m) (T m)
      have htr := fun q => cv_trans (K j) (N j) (T j) (K m) (N m) (T m) (K q) (N q) (T q)
      obtain ⟨c, hc⟩ : ∃ c, cv (K j) (N j) (T j) (K m) (N m) (T m) = c := ⟨_, rfl⟩
      rw [hc] at gC hsw
      have GC := hidden gC
      by_cases hneg : c < 0
      · have HM : Hid (∀ q, q < j + 1 → cv (K j) (N j) (T j) (K q) (N q) (T q) ≤ 0) := fun q hq => by
          by_cases hqj : q < j
          · exact htr q (by omega) (hmin.out q hqj)
          · obtain rfl : q = j := by omega
            exact Int.le_of_eq ((cv_zero _ _ _ _ _ _).2 ⟨rfl, rfl, rfl⟩)
        clear hbr gC hsw htr hc hmin
        go_wp2_with fail
        refine (GC.out _).mono ?_
        rintro e w3 ⟨rfl, hb3⟩
        have hc3 := (hb3.cell (p := ⟨g, j, none⟩) (by show g < _; omega)).trans hcj
        clear hcj
        go_wp2_with fail
        go_roundw
        case rel => exact ⟨j + 1, j, by omega, by omega, hlt, by go_num, rfl, HM, HBR.out.trans (hb3.mono hzr)⟩
        case measure => simp [intOf]; omega
      · have HM : Hid (∀ q, q < j + 1 → cv (K m) (N m) (T m) (K q) (N q) (T q) ≤ 0) := fun q hq => by
          by_cases hqj : q < j
          · exact hmin.out q hqj
          · obtain rfl : q = j := by omega
            omega
        have hge : 0 ≤ c := by omega
        clear hbr gC hsw htr hc hmin hneg
        go_wp2_with fail
        refine (GC.out _).mono ?_
        rintro e w3 ⟨rfl, hb3⟩
        clear hcj
        go_wp2_with fail
        go_roundw
        case rel => exact ⟨j + 1, m, by omega, by omega, hm, by go_num, rfl, HM, HBR.out.trans (hb3.mono hzr)⟩
        case measure => simp [intOf]; omega
    · obtain rfl : j = len := by omega
      have HBR := hidden hbr
      clear hbr hj1 hj2
      have hzr := HBR.out.size
      go_wp2_with fail
      go_loopw [6] (fun i wr => ∃ q : Nat, q ≤ j ∧ i = .int .i64 q ∧ Below w2.heap.size w2 wr) (fun i _ => j - (intOf i).toNat)
      case atStart => exact ⟨0, by omega, rfl, HBR.out⟩
      case round =>
        obtain ⟨q, hq, rfl, hbq⟩ := hrel
        by_cases hlq : q < j
        · have hcq := (hbq.cell (p := ⟨g, q, none⟩) hg).trans (HC.out q hlq)
          have hzq := hbq.size
          have HBQ := hidden hbq
          have GC : Hid (∀ w : World, Calls Try.prog 17 #[V q, V m] w fun e w' => e = .returned (.int .i64 (cv (K q) (N q) (T q) (K m) (N m) (T m))) ∧ Below w.heap.size w w') := compare_cv (HV.out q hlq) (HV.out m hm)
          have GX : Hid (∀ w : World, Calls Try.prog 14 #[V q] w fun e w' => e = .returned (.tuple #[.agg #[.int .u8 (K q), .int .i64 (N q), .string (T q)], .bool true]) ∧ Below w.heap.size w w') := fun w => cell_any (HV.out q hlq) w
          have GY : Hid (∀ w : World, Calls Try.prog 14 #[V m] w fun e w' => e = .returned (.tuple #[.agg #[.int .u8 (K m), .int .i64 (N m), .string (T m)], .bool true]) ∧ Below w.heap.size w w') := fun w => cell_any (HV.out m hm) w
          have hle := hmin.out q hlq
          generalize hc : cv (K q) (N q) (T q) (K m) (N m) (T m) = c at GC
          have hways := two_ways hc hle
          clear hbq hle hc
          generalize K q = k1 at *
          generalize N q = n1 at *
          generalize T q = t1 at *
          generalize K m = k2 at *
          generalize N m = n2 at *
          generalize T m = t2 at *
          rcases hways with ⟨rfl, rfl, rfl, rfl⟩ | ⟨rfl, hk⟩ | ⟨rfl, rfl, hk⟩ | ⟨rfl, rfl, rfl, hk⟩
          all_goals
            go_wp2_with fail
            refine (GC.out _).mono ?_
            rintro e w3 ⟨rfl, hb3⟩
            have hz3 := hb3.size
            have hc3 := (hb3.cell (p := ⟨g, q, none⟩) (by show g < _; omega)).trans hcq
            go_wp2_with fail
            refine (GX.out _).mono ?_
            rintro e w4 ⟨rfl, hb4⟩
            have hz4 := hb4.size
            go_wp2_with fail
            refine (GY.out _).mono ?_
            rintro e w5 ⟨rfl, hb5⟩
            have hz5 : w4.heap.size < w5.heap.size := by have := hb5.size; simp at this; omega
            obtain ⟨hc5, hf5⟩ := bcell hb5
            have p0 := hc5 w4.heap.size 0 (by simp)
            have p1 := hc5 w4.heap.size 1 (by simp)
            have p2 := hc5 w4.heap.size 2 (by simp)
            simp [go_sem] at p0 p1 p2
            clear hc5 hf5 hcq hc3
            go_wp2_with fail
            go_roundw
            case rel => exact ⟨q + 1, by omega, by go_num, ((((HBQ.out.trans (hb3.mono hzq)).trans (hb4.mono (by omega))).alloc (by omega) _).trans (hb5.mono (by simp; omega))).alloc (by omega) _⟩
            case measure => simp [intOf]; omega
        · go_wp2_with fail
          go_ret
          exact ⟨rfl, HB.out.trans (hbq.mono (by omega))⟩

set_option maxRecDepth 100000 in
theorem lifted (os : Os) (started : os.Started) (H : Type) (enc : TypeId × Value → H) :
    ReturnsInHanded {} Try.checked os 8 .any (Rows.valueSortsSpec.pre6 enc Try.prog Try.f8 Rows.valueSortsRow.domain false) (Rows.valueSortsSpec.post enc Try.prog Try.f8 false true false false) := by
  refine returnsInHanded_of_change (C := Try.checked) own started (by kernel_rfl) Try.func8
    (ChangeSpec.witness6 (enc := enc) (C := Try.checked) false ⟨#[], #[.slice none 0 0], []⟩ 8 (by kernel_rfl) (by kernel_rfl) (by kernel_rfl) (by kernel_rfl)) ?_
  intro W base args ds gs before hval0 hW hcnd _
  have hval : ∀ (j : Nat) t v, Try.f8.params[j]? = some t → args[j]? = some v → Value.okWide Try.prog W .any base t v := hval0
  have hW' := hW
  obtain ⟨p, q, hA0, hV, rfl, hfz, hnd⟩ := hW
  have hA : DataW.TrodAll enc Try.prog W 0 (fun _ => true) true Try.f8.params.toList args.toList ds p := hA0
  rw [Try.params8] at hA hval
  obtain ⟨v0, vs0, d0, ds0, p0, q0, hargs, rfl, rfl, h0, r0⟩ := trodAll_cons hA
  obtain ⟨rfl, rfl, rfl⟩ := trodAll_nil r0
  obtain rfl : args = #[v0] := by cases args; simp_all
  obtain ⟨rfl, rfl⟩ := trodVars_none hV
  obtain ⟨a, len, cap, rfl⟩ := okWide_slice Try.underlying57 (hval 0 57 v0 rfl rfl)
  have lt0 : ∀ x ∈ p0, x.block < W.heap.size := by obtain ⟨m, hm⟩ := h0; exact DataW.trod_lt m _ _ _ hm
  clear hA0 hval0
  have hwalk : Calls Try.prog 8 #[.slice a len cap] W fun e w' => e = .returned (.bool true) ∧ Below W.heap.size W w' := by
    by_cases hlen : len = 0 ∨ 60 < len
    · exact walk_short a len cap W hlen
    · obtain ⟨b, off, f, rfl, hb, hrow⟩ := open_row h0 (by omega)
      exact walk_long b off len cap f W (by omega) (by omega) hb hrow
  refine hwalk.mono fun e W' ⟨he, bel⟩ => ?_
  subst he
  exact ⟨_, rfl, _, _, _, [], _, [], hW', trodAll_mk1 (shut_bool Try.underlying4 _), (trodAll_cons_mk (Below.trod laidOut (by kernel_rfl) (of_decide_eq_true (by kernel_rfl)) h0 bel lt0) trodAll_mk0), rfl, bel.frame _, fun h => by cases h⟩

theorem proved : Rows.ValueSortsSaid :=
  OpenClaim.holds_of_wide 8 Try.f8 rfl rfl rfl rfl rfl rfl rfl ⟨rfl, rfl, rfl, rfl, rfl⟩ rfl rfl rfl rfl rfl (by kernel_rfl) Try.func8 (by kernel_rfl)
    (of_decide_eq_true (by kernel_rfl)) (by unfold Func.isWrapper; first | (rw [if_pos (by decide +kernel)]; kernel_rfl) | (rw [if_neg (by decide +kernel)]; exact ⟨rfl, rfl⟩))
    (fun os started H enc _ => lifted os started H enc)
end SortsLaw
theorem valueSorts_holds : Rows.ValueSortsSaid := SortsLaw.proved
#print axioms valueSorts_holds
end Go.Proofs.Ytamigccnkhoidaa
