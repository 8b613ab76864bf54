/- Contracts: onlyAnySigns, matches, Like. -/
import Derived.Test.YtgcdnigfojihiaaAbove
import Derived.Test.YtgcdnigfojihiaaLk
import Derived.BigQuiet
set_option linter.unusedVariables false
set_option linter.unusedSimpArgs false
namespace Go.Proofs.Ytgcdnigfojihiaa
open Go.RowKit

/-- The cells of a list of runes, from an address on. -/
def RuneRow (w : World) (g off : Nat) (Q : List Nat) : Prop := ∀ (j c : Nat), Q[j]? = some c → w.cell? ⟨g, off + j, none⟩ = some (.int .i32 (c : Int))

theorem only_any (Q : List Nat) (g off cap : Nat) (hQ : Q.length ≤ 100000) (w : World) (hr : 0 < Q.length → RuneRow w g off Q) :
    Calls Try.prog 30 #[.slice (some ⟨g, off, none⟩) Q.length cap] w fun e w' => e = .returned (.bool (Q.all (· == 37))) ∧ w' = w := by
  have HR := hidden hr
  clear hr
  go_enter Try.func30, Try.ntmps30
  go_wp2_with fail
  go_loopw [7] (fun i w' => w' = w ∧ ∃ k : Nat, i = .int .i64 k ∧ k ≤ Q.length ∧ (Q.take k).all (· == 37) = true) (fun i _ => Q.length - (intOf i).toNat)
  case atStart => exact ⟨rfl, 0, rfl, by omega, by simp⟩
  case round =>
    obtain ⟨rfl, k, rfl, hk, hall⟩ := hrel
    by_cases hlt : k < Q.length
    · have hg : Q[k]? = some Q[k] := List.getElem?_eq_getElem hlt
      have hcell := HR.out (by omega) k _ hg
      have HT : Hid (∀ (h : Q.take (k + 1) = Q.take k ++ [Q[k]]), True) := fun _ => trivial
      have HTk := hidden (List.take_succ_eq_append_getElem hlt)
      have HM := hidden (List.getElem_mem hlt)
      have HA := hidden hall
      clear hall hg
      generalize Q[k] = c at *
      by_cases hc : c = 37
      · subst hc
        go_wp2_with fail
        go_roundw
        case rel => exact ⟨trivial, k + 1, by go_num, by omega, by rw [HTk.out, List.all_append, HA.out]; rfl⟩
        case measure => simp [intOf]; omega
      · have hne : ((c : Int) != 37) = true := by simp; omega
        go_wp2_with fail
        go_ret
        refine ⟨ret_bool ?_, rfl⟩
        symm
        rw [List.all_eq_false]
        exact ⟨c, HM.out, by simpa using hc⟩
    · have hkl : k = Q.length := by omega
      have HK := hidden hkl
      clear hkl
      go_wp2_with fail
      go_ret
      refine ⟨ret_bool ?_, rfl⟩
      rw [HK.out, List.take_length] at hall
      exact hall.symm

theorem below_drewN {B : Nat} {a w : World} (h : Below B a w) (q : Nat) : Below B a (w.drewN q) := h.trans ⟨rfl, rfl, rfl, Nat.le_refl _, fun _ _ => rfl⟩

set_option maxRecDepth 100000 in
set_option maxHeartbeats 2000000 in
theorem matches_any (T P : List Nat) (g1 c1 g2 c2 : Nat) (hT : T.length ≤ 100000) (hP : P.length ≤ 100000) (hc2 : P.length ≤ c2) (w : World) (hg1 : g1 < w.heap.size) (hg2 : g2 < w.heap.size) (h1 : RuneRow w g1 0 T) (h2 : RuneRow w g2 0 P) :
    Calls Try.prog 25 #[.slice (some ⟨g1, 0, none⟩) T.length c1, .slice (some ⟨g2, 0, none⟩) P.length c2] w fun e w' => e = .returned (.bool (lk P T)) ∧ Below w.heap.size w w' := by
  have H1 := hidden h1
  have H2 := hidden h2
  clear h1 h2
  go_enter Try.func25, Try.ntmps25
  go_wp2_with fail
  go_loopw [5, 6, 7, 8] (fun a b c d wr => Below w.heap.size w wr ∧ ∃ (t p f : Nat) (ag : Int), a = .int .i64 t ∧ b = .int .i64 p ∧ c = .int .i64 ag ∧ d = .int .i64 f ∧ Stand P T t p ag f) (fun a b c d _ => far (P.length + 1 - intOf c).toNat (T.length + 1 - (intOf d).toNat) (T.length + 1 - (intOf a).toNat) (T.length + 2))
  case atStart => exact ⟨Below.refl _ _, 0, 0, 0, -1, rfl, rfl, rfl, rfl, Stand.zero P T⟩
  case round =>
    obtain ⟨hbel, t, p, f, ag, rfl, rfl, rfl, rfl, hst⟩ := hrel
    have HB := hidden hbel
    have HS := hidden hst
    have ht := hst.1
    have hp := hst.2.1
    have hf := hst.2.2.1
    have hag : -1 ≤ ag ∧ ag ≤ p := by
      rcases hst.2.2.2 with ⟨h, _⟩ | ⟨a, h, h2, _⟩
      · omega
      · omega
    have H1r : Hid (∀ (j c : Nat), T[j]? = some c → wr.cell? ⟨g1, j, none⟩ = some (.int .i32 (c : Int))) := fun j c hj => by
      have := H1.out j c hj
      rw [Nat.zero_add] at this
      exact (hbel.cell (p := ⟨g1, j, none⟩) hg1).trans this
    have H2r : Hid (∀ (j c : Nat), P[j]? = some c → wr.cell? ⟨g2, j, none⟩ = some (.int .i32 (c : Int))) := fun j c hj => by
      have := H2.out j c hj
      rw [Nat.zero_add] at this
      exact (hbel.cell (p := ⟨g2, j, none⟩) hg2).trans this
    have hagc : ag = -1 ∨ ∃ a : Nat, ag = a := by
      rcases hst.2.2.2 with ⟨h, _⟩ | ⟨a, h, h2, _⟩
      · exact Or.inl h
      · exact Or.inr ⟨a, h⟩
    clear hbel hst
    by_cases hlt : t < T.length
    · have hx : T[t]? = some T[t] := List.getElem?_eq_getElem hlt
      have hcx := H1r.out t _ hx
      have HX := hidden hx
      clear hx
      generalize T[t] = x at *
      by_cases hpl : p < P.length
      · have hc : P[p]? = some P[p] := List.getElem?_eq_getElem hpl
        have hcc := H2r.out p _ hc
        have HC := hidden hc
        clear hc
        generalize P[p] = c at *
        by_cases h37 : c = 37
        · subst h37
          go_wp2_with fail
          go_roundw
          case rel => exact ⟨HB.out, t, p + 1, t, ((p + 1 : Nat) : Int), rfl, by go_num, by go_num, rfl, HS.out.star HC.out⟩
          case measure => simp [intOf]; exact far_a (by omega) (by omega) (by omega)
        · have h37b : ((c : Int) == 37) = false := by simp; omega
          by_cases h95 : c = 95
          · subst h95
            go_wp2_with fail
            go_quiet (fail)
            go_wp2_with fail
            go_roundw
            case rel => exact ⟨below_drewN HB.out _, t + 1, p + 1, f, ag, by go_num, by go_num, rfl, rfl, HS.out.step HC.out HX.out h37 rfl⟩
            case measure => simp [intOf]; exact far_g (by omega)
          · have h95b : ((c : Int) == 95) = false := by simp; omega
            by_cases hcx2 : c = x
            · subst hcx2
              go_wp2_with fail
              go_quiet (fail)
              go_wp2_with fail
              go_roundw
              case rel => exact ⟨below_drewN HB.out _, t + 1, p + 1, f, ag, by go_num, by go_num, rfl, rfl, HS.out.step HC.out HX.out h37 (by simp [fit])⟩
              case measure => simp [intOf]; exact far_g (by omega)
            · have hcxb : ((c : Int) == (x : Int)) = false := by simp; omega
              have HMS : Hid (∀ c', P[p]? = some c' → c' ≠ 37 ∧ fit c' x = false) := fun c' h' => by
                  have hq := HC.out.symm.trans h'
                  obtain rfl := Option.some.inj hq
                  exact ⟨h37, by simp [fit, h95, hcx2]⟩
              rcases hagc with hagc | ⟨a, hagc⟩
              · subst hagc
                go_wp2_with fail
                go_quiet (fail)
                go_wp2_with fail
                go_ret
                exact ⟨ret_bool (HS.out.fail HX.out HMS.out).symm, below_drewN HB.out _⟩
              · subst hagc
                have hag0 : ((a : Int) ≥ 0) := by omega
                go_wp2_with fail
                go_quiet (fail)
                go_wp2_with fail
                go_roundw
                case rel => exact ⟨below_drewN HB.out _, f + 1, a, f + 1, (a : Int), by go_num, rfl, rfl, by go_num, HS.out.back HX.out HMS.out⟩
                case measure => simp [intOf]; exact far_f (by omega) (by omega)
      · have hnone : P[p]? = none := List.getElem?_eq_none (by omega)
        have HN := hidden hnone
        clear hnone
        have HMS : Hid (∀ c', P[p]? = some c' → c' ≠ 37 ∧ fit c' x = false) := fun c' h' => by
            rw [HN.out] at h'
            cases h'
        rcases hagc with hagc | ⟨a, hagc⟩
        · subst hagc
          go_wp2_with fail
          go_quiet (fail)
          go_wp2_with fail
          go_ret
          exact ⟨ret_bool (HS.out.fail HX.out HMS.out).symm, below_drewN HB.out _⟩
        · subst hagc
          have hag0 : ((a : Int) ≥ 0) := by omega
          go_wp2_with fail
          go_quiet (fail)
          go_wp2_with fail
          go_roundw
          case rel => exact ⟨below_drewN HB.out _, f + 1, a, f + 1, (a : Int), by go_num, rfl, rfl, by go_num, HS.out.back HX.out HMS.out⟩
          case measure => simp [intOf]; exact far_f (by omega) (by omega)
    · have hte : t = T.length := by omega
      have hst := HS.out
      rw [hte] at hst
      have HE := hidden hst.end
      have hln : (P.drop p).length = P.length - p := by simp
      by_cases hpc : p = c2
      · subst hpc
        have hrow : 0 < (P.drop p).length → RuneRow wr g2 0 (P.drop p) := fun h => by omega
        have hcall := only_any (P.drop p) g2 0 0 (by omega) wr hrow
        rw [hln, show P.length - p = 0 by omega] at hcall
        have HCL := hidden hcall
        clear hte hst hrow hln hcall
        go_wp2_with fail
        refine HCL.out.mono ?_
        rintro e w1 ⟨rfl, rfl⟩
        go_wp2_with fail
        go_ret
        exact ⟨ret_bool HE.out.symm, HB.out⟩
      · have hrow : 0 < (P.drop p).length → RuneRow wr g2 p (P.drop p) := fun _ j c hj => by
          rw [List.getElem?_drop] at hj
          exact H2r.out (p + j) c hj
        have hcall := only_any (P.drop p) g2 p (c2 - p) (by omega) wr hrow
        rw [hln] at hcall
        have HCL := hidden hcall
        clear hte hst hrow hln hcall
        go_wp2_with fail
        refine HCL.out.mono ?_
        rintro e w1 ⟨rfl, rfl⟩
        go_wp2_with fail
        go_ret
        exact ⟨ret_bool HE.out.symm, HB.out⟩

/-- The model's own list of runes. -/
theorem runesFrom_eq (s : ByteArray) : ∀ (b p : Nat) (acc : Array Value), s.size ≤ p + b → (Conv.runesFrom s b p acc).toList = acc.toList ++ (V ((lb s).drop p)).map fun u => Value.int .i32 (u.1 : Int) := by
  have hL := lb_size s
  intro b
  induction b with
  | zero =>
    intro p acc h
    have hd : (lb s).drop p = [] := List.drop_eq_nil_of_le (by omega)
    rw [hd]
    simp [Conv.runesFrom]
  | succ b ih =>
    intro p acc h
    unfold Conv.runesFrom
    by_cases hp : p < s.size
    · rw [if_pos hp]
      have hne := drop_ne (l := lb s) (p := p) (by omega)
      have hw := unit_width _ hne
      simp only [decode_lb]
      rw [ih _ _ (by omega), V_step hne, List.drop_drop]
      simp
    · rw [if_neg hp]
      have hd : (lb s).drop p = [] := List.drop_eq_nil_of_le (by omega)
      rw [hd]
      simp

theorem runes_row (s : ByteArray) : (Conv.runesFrom s s.size 0 #[]).toList = (runes (lb s)).map fun (r : Nat) => Value.int .i32 (r : Int) := by
  rw [runesFrom_eq s s.size 0 #[] (by omega)]
  simp [runes]

theorem runes_len (l : List UInt8) : (runes l).length = (V l).length := by simp [runes]

theorem new_row {w : World} {C : Array Value} {e : TypeId} {Q : List Nat} {n : Nat} {z : Value} (h : C.toList = Q.map fun (r : Nat) => Value.int .i32 (r : Int)) : RuneRow (w.alloc (.cells (C ++ Array.replicate n z) e)) w.heap.size 0 Q := by
  intro j c hj
  rw [Nat.zero_add]
  have hjl : j < Q.length := (List.getElem?_eq_some_iff.1 hj).1
  have hcl : C.size = Q.length := by rw [← Array.length_toList, h]; simp
  have h1 : (w.alloc (.cells (C ++ Array.replicate n z) e)).cell? ⟨w.heap.size, j, none⟩ = (C ++ Array.replicate n z)[j]? := World.cell?_alloc_mark w _ e (0, 0) j
  rw [h1, Array.getElem?_append_left (by omega), ← Array.getElem?_toList, h, List.getElem?_map, hj]
  rfl

set_option maxRecDepth 100000 in
theorem like_any (s p : ByteArray) (hs : s.size ≤ 100000) (hp : p.size ≤ 100000) (w : World) :
    Calls Try.prog 17 #[.string s, .string p] w fun e w' => e = .returned (.bool (lk (runes (lb p)) (runes (lb s)))) ∧ Below w.heap.size w w' := by
  have hcs : ∀ w : World, (convert 9 41 (.string s)).run Try.prog w = _ := fun w => run_runes_of_string w 9 41 21 s Try.underlying9 Try.underlying41 Try.underlying21 (by have := size_runesFrom s s.size 0 #[]; simp at this; omega)
  have hcp : ∀ w : World, (convert 9 41 (.string p)).run Try.prog w = _ := fun w => run_runes_of_string w 9 41 21 p Try.underlying9 Try.underlying41 Try.underlying21 (by have := size_runesFrom p p.size 0 #[]; simp at this; omega)
  have hR1 := runes_row s
  have hR2 := runes_row p
  have l1 := V_le (lb s)
  have l2 := V_le (lb p)
  rw [lb_size, ← runes_len] at l1 l2
  generalize hA : Conv.runesFrom s s.size 0 #[] = A at *
  generalize hB : Conv.runesFrom p p.size 0 #[] = B at *
  clear hA hB
  have hAs : A.size = (runes (lb s)).length := by rw [← Array.length_toList, hR1]; simp
  have hBs : B.size = (runes (lb p)).length := by rw [← Array.length_toList, hR2]; simp
  rw [hAs] at hcs
  rw [hBs] at hcp
  have HR1 := hidden hR1
  have HR2 := hidden hR2
  clear hR1 hR2 hAs hBs
  generalize runes (lb s) = T at *
  generalize runes (lb p) = P at *
  go_enter Try.func17, Try.ntmps17
  go_wp2_with fail
  generalize hca : grownCap w T.length 0 21 = ca at *
  generalize hwa : w.alloc (Obj.cells (A ++ Array.replicate (ca - T.length) (Value.int IntKind.i32 0)) 21) = wa
  have hra : RuneRow wa w.heap.size 0 T := by rw [← hwa]; exact new_row HR1.out
  have hza : wa.heap.size = w.heap.size + 1 := by rw [← hwa]; simp
  have hba : Below w.heap.size w wa := by rw [← hwa]; exact (Below.refl _ _).alloc (Nat.le_refl _) _
  have hcb := grownCap_ge wa.drew P.length 0 21
  generalize grownCap wa.drew P.length 0 21 = cb at *
  generalize hwb : wa.alloc (Obj.cells (B ++ Array.replicate (cb - P.length) (Value.int IntKind.i32 0)) 21) = wb
  have hrb : RuneRow wb (w.heap.size + 1) 0 P := by rw [← hwb, ← hza]; exact new_row HR2.out
  have hbb : Below wa.heap.size wa wb := by rw [← hwb]; exact (Below.refl _ _).alloc (Nat.le_refl _) _
  have hzb : wb.heap.size = w.heap.size + 2 := by rw [← hwb, World.alloc]; simp [hza]
  have hra2 : RuneRow wb w.heap.size 0 T := fun j c hj => (hbb.cell (p := ⟨w.heap.size, 0 + j, none⟩) (by show w.heap.size < wa.heap.size; omega)).trans (hra j c hj)
  have HA2 : Hid (RuneRow wb.drew.drew w.heap.size 0 T) := hra2
  have HB2 : Hid (RuneRow wb.drew.drew (w.heap.size + 1) 0 P) := hrb
  have HBW : Hid (Below w.heap.size w wb.drew.drew) := (hba.trans (hbb.mono (by omega))).trans ⟨rfl, rfl, rfl, Nat.le_refl _, fun _ _ => rfl⟩
  have hzd : wb.drew.drew.heap.size = w.heap.size + 2 := hzb
  clear hra hba hrb hbb hra2
  refine (matches_any T P w.heap.size ca (w.heap.size + 1) cb (by omega) (by omega) hcb wb.drew.drew (by omega) (by omega) HA2.out HB2.out).mono ?_
  rintro e w1 ⟨rfl, hb1⟩
  go_wp2_with fail
  go_ret
  exact ⟨rfl, HBW.out.trans (hb1.mono (by omega))⟩
end Go.Proofs.Ytgcdnigfojihiaa
