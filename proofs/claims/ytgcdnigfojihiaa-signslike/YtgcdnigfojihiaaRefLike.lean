/- Contract: the document's like, by rows of which beginnings of the text fit. -/
import Derived.Test.YtgcdnigfojihiaaAlive
import Derived.BigRegion
set_option linter.unusedVariables false
set_option linter.unusedSimpArgs false
namespace Go.Proofs.Ytgcdnigfojihiaa
open Go.RowKit

def BR (m : Nat) (f : Nat → Bool) : List Value := (List.range (m + 1)).map fun t => Value.bool (f t)

theorem BR_congr {m : Nat} {f g : Nat → Bool} (h : ∀ t, t ≤ m → f t = g t) : BR m f = BR m g := by
  unfold BR
  apply List.map_congr_left
  intro t ht
  rw [h t (by simp at ht; omega)]

theorem BR_get {m t : Nat} {f : Nat → Bool} (h : t ≤ m) : (BR m f)[t]? = some (.bool (f t)) := by
  simp [BR, show t < m + 1 by omega]

theorem BR_length (m : Nat) (f : Nat → Bool) : (BR m f).length = m + 1 := by simp [BR]

theorem BR_set {m i : Nat} {f : Nat → Bool} (b : Bool) (h : i ≤ m) : (BR m f).set i (.bool b) = BR m (fun t => if t = i then b else f t) := by
  apply List.ext_getElem?
  intro t
  rw [List.getElem?_set]
  by_cases ht : t ≤ m
  · rw [BR_get ht, BR_get ht]
    by_cases hi : i = t
    · subst hi; simp [BR_length]; omega
    · rw [if_neg hi, if_neg (fun h => hi h.symm)]
  · rw [List.getElem?_eq_none (by rw [BR_length]; omega), List.getElem?_eq_none (by rw [BR_length]; omega)]
    split
    · split
      · rw [BR_length] at *; omega
      · rfl
    · rfl

theorem star_row (A T : List Nat) {i : Nat} (h : i ≤ T.length) : (List.range (i + 1)).any (fun q => lk A (T.take q)) = lk (A ++ [37]) (T.take i) := by
  rw [Bool.eq_iff_iff, lk_snoc_any, List.any_eq_true]
  constructor
  · rintro ⟨q, hq, h1⟩
    simp at hq
    exact ⟨q, by simp; omega, by rw [List.take_take, Nat.min_eq_left (by omega)]; exact h1⟩
  · rintro ⟨q, hq, h1⟩
    simp at hq
    rw [List.take_take, Nat.min_eq_left (by omega)] at h1
    exact ⟨q, by simp; omega, h1⟩

theorem one_row (A T : List Nat) {i c x : Nat} (hc : c ≠ 37) (hx : T[i]? = some x) : lk (A ++ [c]) (T.take (i + 1)) = (lk A (T.take i) && fit c x) := by
  rw [List.take_add_one, hx]
  exact lk_snoc_one hc A (T.take i) x

theorem zero_row (A T : List Nat) {c : Nat} (hc : c ≠ 37) : lk (A ++ [c]) (T.take 0) = false := by
  rw [List.take_zero]
  exact lk_snoc_nil hc A

theorem take_snoc {P : List Nat} {k c : Nat} (h : P[k]? = some c) : P.take (k + 1) = P.take k ++ [c] := by
  rw [List.take_add_one, h]
  rfl

theorem any_succ (J : Nat) (f : Nat → Bool) : (List.range (J + 1)).any f = ((List.range J).any f || f J) := by
  rw [List.range_succ, List.any_append]; simp

theorem info4 : (Try.prog.info? 4).map (fun i => (i.zero, i.size, i.bytes)) = some (some (.bool false), 1, 1) := by kernel_rfl

/-- A row of bools of the call's own. -/
def Row (w : World) (B m g : Nat) (f : Nat → Bool) : Prop := w.ownsRow B 4 1 (.slice (some ⟨g, 0, none⟩) (m + 1) (m + 1)) (m + 1) (BR m f)

theorem Row.cell {w : World} {B m g t : Nat} {f : Nat → Bool} (h : Row w B m g f) (ht : t ≤ m) : w.cell? ⟨g, t, none⟩ = some (.bool (f t)) := by
  have := World.ownsRow.cellAt h t (by omega)
  rw [this, BR_get ht]
theorem Row.free {w : World} {B m g : Nat} {f : Nat → Bool} (h : Row w B m g f) (t : Nat) : w.frozen? ⟨g, t, none⟩ = false := World.ownsRow.frozenAt h t
theorem Row.put {w : World} {B m g i : Nat} {f : Nat → Bool} (h : Row w B m g f) (b : Bool) (hi : i ≤ m) : Row (w.setCell ⟨g, i, none⟩ (.bool b)) B m g (fun t => if t = i then b else f t) := by
  unfold Row
  rw [← BR_set b hi]
  exact (World.ownsRow.stored h i (.bool b)).1
theorem Row.other {w : World} {B m g g2 i : Nat} {f : Nat → Bool} (h : Row w B m g f) (hg : g ≠ g2) (u : Value) : Row (w.setCell ⟨g2, i, none⟩ u) B m g f :=
  World.ownsRow.kept (row := some g2) h ⟨rfl, rfl, rfl, by simp, fun k _ hk => heap_setCell_other w ⟨g2, i, none⟩ k u (fun e => hk (by simp [e]))⟩ (Or.inr (by simp [Value.ownBlock]; exact hg))
theorem Row.eq {w : World} {B m g : Nat} {f f' : Nat → Bool} (h : Row w B m g f) (he : ∀ t, t ≤ m → f t = f' t) : Row w B m g f' := by
  unfold Row
  rw [← BR_congr he]
  exact h
theorem Row.drew' {w : World} {B m g : Nat} {f : Nat → Bool} (h : Row w B m g f) : Row w.drew B m g f := World.ownsRow.drew h
theorem Row.lt {w : World} {B m g : Nat} {f : Nat → Bool} (h : Row w B m g f) : B ≤ g ∧ g < w.heap.size := World.ownsRow.lt h g rfl

theorem made (m : Nat) : (madeCells #[Value.bool false] (m + 1)).toList = BR m (fun _ => false) := by
  rw [toList_madeCells_one]
  apply List.ext_getElem?
  intro t
  by_cases ht : t ≤ m
  · rw [BR_get ht, List.getElem?_replicate, if_pos (by omega)]
  · rw [List.getElem?_eq_none (by simp; omega), List.getElem?_eq_none (by rw [BR_length]; omega)]

theorem below_set' {B : Nat} {a w : World} (h : Below B a w) {g j : Nat} (hg : B ≤ g) (u : Value) : Below B a (w.setCell ⟨g, j, none⟩ u) := h.setCell hg u

/-- A list of ints that the callers own: what its slice is, and its cells. -/
def IntRow (w : World) (g : Nat) (Q : List Nat) : Prop := ∀ (j c : Nat), Q[j]? = some c → w.cell? ⟨g, j, none⟩ = some (.int .i64 (c : Int))

set_option maxRecDepth 100000 in
set_option maxHeartbeats 4000000 in
theorem refMatch_any (T P : List Nat) (a1 a2 : Option Addr) (g1 g2 c1 c2 : Nat) (hT : T.length ≤ 100000) (hP : P.length ≤ 100000) (w : World)
    (h1 : 0 < T.length → a1 = some ⟨g1, 0, none⟩ ∧ g1 < w.heap.size ∧ IntRow w g1 T) (h2 : 0 < P.length → a2 = some ⟨g2, 0, none⟩ ∧ g2 < w.heap.size ∧ IntRow w g2 P) :
    Calls Try.prog 26 #[.slice a1 T.length c1, .slice a2 P.length c2] w fun e w' => e = .returned (.bool (lk P T)) ∧ Below w.heap.size w w' := by
  obtain ⟨i0, hi, hz0, hz1', hz2⟩ := info_parts info4
  have H1 := hidden h1
  have H2 := hidden h2
  clear h1 h2
  go_enter Try.func26, Try.ntmps26
  go_wp2_with (first | (refine wpList_make_full _ rfl _ _ 46 rfl w.heap.size 4 i0 (.bool false) 1 Try.underlying46 hi hz0 hz1' .i64 .i64 _ _ (T.length + 1) rfl rfl ?m1 ?m2 ?m3 ?m4 ?m5 ?_))
  case m1 => omega
  case m2 => omega
  case m3 => rw [hz2]; omega
  case m4 => unfold maxLen; omega
  case m5 => omega
  intro w1 ho1 hg1
  rw [made] at ho1
  have hr1 : Row w1 w.heap.size T.length w.heap.size (fun _ => false) := ho1
  have hb1 : Below w.heap.size w w1 := (Below.refl _ _).grown hg1 (Nat.le_refl _) (fun k hk => by cases hk)
  have hz1 := hb1.size
  have hc0 := hr1.cell (t := 0) (by omega)
  have hf0 := hr1.free 0
  have HR1 := hidden (hr1.put true (i := 0) (by omega))
  have HB1 := hidden (below_set' hb1 (Nat.le_refl _) (j := 0) (.bool true))
  have hlt1 := hr1.lt.2
  clear ho1 hg1 hr1 hb1
  go_wp2_with fail
  clear hc0 hf0
  go_loopw [5, 6] (fun v kk wr => ∃ K g : Nat, v = .slice (some ⟨g, 0, none⟩) (T.length + 1) (T.length + 1) ∧ kk = .int .i64 K ∧ K ≤ P.length ∧ Row wr w.heap.size T.length g (fun t => lk (P.take K) (T.take t)) ∧ Below w.heap.size w wr) (fun _ kk _ => P.length - (intOf kk).toNat)
  case atStart =>
    refine ⟨0, w.heap.size, rfl, rfl, by omega, HR1.out.eq (fun t ht => ?_), HB1.out⟩
    rw [List.take_zero]
    show _ = (T.take t).isEmpty
    by_cases h0 : t = 0
    · subst h0; simp
    · rw [if_neg h0]
      cases T with
      | nil => simp at ht; omega
      | cons x T => cases t with
        | zero => omega
        | succ t => rfl
  case round =>
    obtain ⟨K, g, rfl, rfl, hK, hrow, hbel⟩ := hrel
    clear HR1 HB1 hlt1
    have hzr := hbel.size
    have hgl := hrow.lt
    by_cases hKl : K < P.length
    · obtain ⟨rfl, hg2, hP2⟩ := H2.out (by omega)
      have hcK : P[K]? = some P[K] := List.getElem?_eq_getElem hKl
      have HPC := hidden (hP2 K _ hcK)
      have HTK := hidden (take_snoc hcK)
      clear hP2 hcK
      generalize P[K] = c at *
      have HROW := hidden hrow
      have HBEL := hidden hbel
      clear hrow hbel
      go_wp2_with (first | (refine wpList_make_full _ rfl _ _ 46 rfl w.heap.size 4 i0 (.bool false) 1 Try.underlying46 hi hz0 hz1' .i64 .i64 _ _ (T.length + 1) rfl rfl ?n1 ?n2 ?n3 ?n4 ?n5 ?_))
      any_goals first | omega | (rw [hz2]; omega) | (unfold maxLen; omega)
      intro w2 ho2 hg2'
      rw [made] at ho2
      have hr2 : Row w2 w.heap.size T.length wr.heap.size (fun _ => false) := ho2
      have hra : Row w2 w.heap.size T.length g (fun t => lk (P.take K) (T.take t)) := World.ownsRow.kept HROW.out hg2' (Or.inr (by simp [Value.ownBlock]))
      have hb2 : Below w.heap.size w w2 := HBEL.out.grown hg2' hzr (fun k hk => by cases hk)
      have hne : g ≠ wr.heap.size := by omega
      have HR2 := hidden hr2
      have HRA := hidden hra
      have HB2 := hidden hb2
      clear ho2 hg2' hr2 hra hb2 HROW HBEL
      generalize hgn : wr.heap.size = gn at *
      clear hgn
      go_wp2_with fail
      go_loopw [8] (fun ii wr => ∃ I : Nat, ii = .int .i64 I ∧ I ≤ T.length + 1 ∧ Row wr w.heap.size T.length g (fun t => lk (P.take K) (T.take t)) ∧ Row wr w.heap.size T.length gn (fun t => decide (t < I) && lk (P.take (K + 1)) (T.take t)) ∧ Below w.heap.size w wr) (fun ii _ => T.length + 1 - (intOf ii).toNat)
      case atStart => exact ⟨0, rfl, by omega, HRA.out, HR2.out.eq (fun t ht => by simp), HB2.out⟩
      case round =>
        obtain ⟨I, rfl, hI, hrA, hrN, hbI⟩ := hrel
        clear HRA HR2 HB2
        have HRA := hidden hrA
        have HRN := hidden hrN
        have HBI := hidden hbI
        have hcp := (hbI.cell (p := ⟨g2, K, none⟩) hg2).trans HPC.out
        have hgz := hrA.lt
        have hgnz := hrN.lt
        clear hrA hrN hbI
        by_cases hIl : I ≤ T.length
        · by_cases h37 : c = 37
          · subst h37
            have hIl2 : (I : Int) ≤ T.length := by omega
            go_wp2_with fail
            clear hcp
            go_loopw [9] (fun jj wj => ∃ J : Nat, jj = .int .i64 J ∧ J ≤ I + 1 ∧ Row wj w.heap.size T.length g (fun t => lk (P.take K) (T.take t)) ∧ Row wj w.heap.size T.length gn (fun t => if t = I then (List.range J).any (fun q => lk (P.take K) (T.take q)) else decide (t < I) && lk (P.take (K + 1)) (T.take t)) ∧ Below w.heap.size w wj) (fun jj _ => I + 1 - (intOf jj).toNat)
            case atStart =>
              refine ⟨0, rfl, by omega, HRA.out, HRN.out.eq (fun t ht => ?_), HBI.out⟩
              by_cases h0 : t = I
              · subst h0; simp
              · rw [if_neg h0]
            case round =>
              obtain ⟨J, rfl, hJ, hjA, hjN, hbJ⟩ := hrel
              clear HRA HRN HBI
              by_cases hJl : J ≤ I
              · have hJl2 : (J : Int) ≤ I := by omega
                have ccN := hjN.cell (t := I) hIl
                rw [if_pos rfl] at ccN
                have ccA := hjA.cell (t := J) (by omega)
                have cfN := hjN.free I
                have HSU := hidden (any_succ J (fun q => lk (P.take K) (T.take q)))
                have HJA := hidden hjA
                have HJN := hidden hjN
                have HBJ := hidden hbJ
                clear hjA hjN hbJ
                generalize hb1 : (List.range J).any (fun q => lk (P.take K) (T.take q)) = b1 at *
                generalize hb2 : lk (P.take K) (T.take J) = b2 at *
                have HF1 : Hid ((List.range J).any (fun q => lk (P.take K) (T.take q)) = b1) := hb1
                clear hb1 hb2
                cases b1 with
                | true =>
                  go_wp2_with fail
                  go_roundw
                  case rel =>
                    refine ⟨J + 1, by go_num, by omega, HJA.out.other hne _, (HJN.out.put true hIl).eq (fun t ht => ?_), below_set' HBJ.out hgnz.1 _⟩
                    by_cases h0 : t = I
                    · rw [if_pos h0, if_pos h0, HSU.out]; rfl
                    · rw [if_neg h0, if_neg h0, if_neg h0]
                  case measure => simp [intOf]; omega
                | false =>
                  go_wp2_with fail
                  go_roundw
                  case rel =>
                    refine ⟨J + 1, by go_num, by omega, HJA.out.other hne _, (HJN.out.put b2 hIl).eq (fun t ht => ?_), below_set' HBJ.out hgnz.1 _⟩
                    by_cases h0 : t = I
                    · rw [if_pos h0, if_pos h0, HSU.out]; simp
                    · rw [if_neg h0, if_neg h0, if_neg h0]
                  case measure => simp [intOf]; omega
              · have hJl2 : ¬ (J : Int) ≤ I := by omega
                have hJe : J = I + 1 := by omega
                subst hJe
                have HJA := hidden hjA
                have HJN := hidden hjN
                have HBJ := hidden hbJ
                clear hjA hjN hbJ
                go_wp2_with fail
                go_roundw
                case rel =>
                  refine ⟨I + 1, by go_num, by omega, HJA.out, HJN.out.eq (fun t ht => ?_), HBJ.out⟩
                  by_cases h0 : t = I
                  · subst h0
                    rw [if_pos rfl, star_row _ _ hIl, HTK.out]
                    simp
                  · rw [if_neg h0]
                    by_cases h3 : t < I
                    · rw [decide_eq_true h3, decide_eq_true (show t < I + 1 by omega)]
                    · rw [decide_eq_false h3, decide_eq_false (show ¬ t < I + 1 by omega)]
                case measure => simp [intOf]; omega
          · have h37b : ((c : Int) == 37) = false := by simp; omega
            have hIl2 : (I : Int) ≤ T.length := by omega
            cases I with
            | zero =>
              go_wp2_with fail
              go_roundw
              case rel =>
                refine ⟨1, by go_num, by omega, HRA.out, HRN.out.eq (fun t ht => ?_), HBI.out⟩
                by_cases h0 : t = 0
                · subst h0
                  rw [HTK.out, zero_row _ _ h37]
                  simp
                · simp [h0]
              case measure => simp [intOf]
            | succ I =>
              obtain ⟨rfl, hg1z, hT1⟩ := H1.out (by omega)
              have hIT : I < T.length := by omega
              have hx : T[I]? = some T[I] := List.getElem?_eq_getElem hIT
              have hcx := (HBI.out.cell (p := ⟨g1, I, none⟩) hg1z).trans (hT1 I _ hx)
              have hONE := one_row (P.take K) T h37 hx
              rw [← HTK.out] at hONE
              clear hT1 hx
              generalize T[I] = x at *
              have ccA := HRA.out.cell (t := I) (by omega)
              have ccN := HRN.out.cell (t := I + 1) (by omega)
              have cfN := HRN.out.free (I + 1)
              rw [decide_eq_false (by omega), Bool.false_and] at ccN
              have e1 : (((I + 1 : Nat) : Int)) = (I : Int) + 1 := by omega
              have HFIN : Hid (∀ r : Bool, r = (lk (P.take K) (T.take I) && fit c x) → ∀ t, (if t = I + 1 then r else decide (t < I + 1) && lk (P.take (K + 1)) (T.take t)) = (decide (t < I + 1 + 1) && lk (P.take (K + 1)) (T.take t))) := fun r hr t => by
                by_cases h0 : t = I + 1
                · subst h0; rw [if_pos rfl, hr, ← hONE]; simp
                · rw [if_neg h0]
                  by_cases h3 : t < I + 1
                  · rw [decide_eq_true h3, decide_eq_true (show t < I + 1 + 1 by omega)]
                  · rw [decide_eq_false h3, decide_eq_false (show ¬ t < I + 1 + 1 by omega)]
              clear hONE
              generalize hq : lk (P.take K) (T.take I) = q at *
              clear hq
              cases q with
              | false =>
                go_wp2_with fail
                go_region
                all_goals
                  go_wp2_with fail
                  go_roundw
                  case rel =>
                    refine ⟨I + 1 + 1, by go_num, by omega, (HRA.out.other hne _).drew', ((HRN.out.put false hIl).eq (fun t ht => ?_)).drew', (below_set' HBI.out hgnz.1 _).drew⟩
                    exact HFIN.out false (by simp [fit]) t
                  case measure => simp [intOf]; omega
              | true =>
                by_cases h95 : c = 95
                · subst h95
                  go_wp2_with fail
                  go_region
                  all_goals
                    go_wp2_with fail
                    go_roundw
                    case rel =>
                      refine ⟨I + 1 + 1, by go_num, by omega, (HRA.out.other hne _).drew', ((HRN.out.put true hIl).eq (fun t ht => ?_)).drew', (below_set' HBI.out hgnz.1 _).drew⟩
                      exact HFIN.out true (by simp [fit]) t
                    case measure => simp [intOf]; omega
                · have h95b : ((c : Int) == 95) = false := by simp; omega
                  by_cases hcx2 : c = x
                  · subst hcx2
                    go_wp2_with fail
                    go_region
                    all_goals
                      go_wp2_with fail
                      go_roundw
                      case rel =>
                        refine ⟨I + 1 + 1, by go_num, by omega, (HRA.out.other hne _).drew', ((HRN.out.put true hIl).eq (fun t ht => ?_)).drew', (below_set' HBI.out hgnz.1 _).drew⟩
                        exact HFIN.out true (by simp [fit]) t
                      case measure => simp [intOf]; omega
                  · have hcxb : ((c : Int) == (x : Int)) = false := by simp; omega
                    go_wp2_with fail
                    go_region
                    all_goals
                      go_wp2_with fail
                      go_roundw
                      case rel =>
                        refine ⟨I + 1 + 1, by go_num, by omega, (HRA.out.other hne _).drew', ((HRN.out.put false hIl).eq (fun t ht => ?_)).drew', (below_set' HBI.out hgnz.1 _).drew⟩
                        exact HFIN.out false (by simp [fit, h95, hcx2]) t
                      case measure => simp [intOf]; omega

        · have hIl2 : ¬ (I : Int) ≤ T.length := by omega
          go_wp2_with fail
          go_roundw
          case rel =>
            refine ⟨K + 1, gn, rfl, by go_num, by omega, HRN.out.eq (fun t ht => ?_), HBI.out⟩
            rw [decide_eq_true (by omega)]
            simp
          case measure => simp [intOf]; omega
    · have hKe : K = P.length := by omega
      subst hKe
      have hcm := hrow.cell (t := T.length) (Nat.le_refl _)
      rw [List.take_length, List.take_length] at hcm
      have HB := hidden hbel
      clear hrow hbel
      go_wp2_with fail
      go_ret
      exact ⟨rfl, HB.out⟩
end Go.Proofs.Ytgcdnigfojihiaa
