/- Contracts: each, steps. -/
import Derived.Test.YtnlanilejhjkkaaGoes
set_option linter.unusedVariables false
set_option linter.unusedSimpArgs false
namespace Go.Proofs.Ytnlanilejhjkkaa
open Go.RowKit Go.Lib

/-- A list was read: numbers of the call's own; the reading goes on behind it. -/
def LPost (D : Except Nat (List Int × List Nat)) (G : List Int → List Nat → Except Nat (List Int × List Nat)) (p n : Nat) (w : World) (r : Ending) (w' : World) : Prop :=
  ∃ (l : List Int) (b' : List Nat) (f' : Nat), (∃ v, r = .returned v ∧ OwnI w' w.heap.size v l) ∧ Is l ∧ l.length ≤ n ∧ St 53 w' p b' f' ∧ Goes D (G l) b' f' ∧ Fr p w.heap.size w w'

theorem rd0_step (G : List Int → List Nat → Except Nat (List Int × List Nat)) (ys : List Int) (m : Nat) : bindR (rd0 (m + 1)) (fun l => G (ys ++ l)) = bindR wh (fun x => bindR (rd0 m) (fun l => G ((ys ++ [x]) ++ l))) := by
  have : rd0 (m + 1) = bindR wh (fun x => bindR (rd0 m) (fun l r => .ok (x :: l, r))) := by funext b; rfl
  rw [this, bindR_assoc]
  congr 1
  funext x
  rw [bindR_assoc]
  congr 1
  funext l
  rw [bindR_ok_left]
  simp

theorem rd0_end (G : List Int → List Nat → Except Nat (List Int × List Nat)) (ys : List Int) : bindR (rd0 0) (fun l => G (ys ++ l)) = G ys := by
  have : rd0 0 = fun b => .ok ([], b) := by funext b; rfl
  rw [this, bindR_ok_left, List.append_nil]

theorem rd1_step (G : List Int → List Nat → Except Nat (List Int × List Nat)) (ys : List Int) (m : Nat) (last : Int) : bindR (rd1 (m + 1) last) (fun l => G (ys ++ l)) = bindR wh (fun x => bindR (rd1 m (w64 (last + x))) (fun l => G ((ys ++ [w64 (last + x)]) ++ l))) := by
  have : rd1 (m + 1) last = bindR wh (fun d => bindR (rd1 m (w64 (last + d))) (fun l r => .ok (w64 (last + d) :: l, r))) := by funext b; rfl
  rw [this, bindR_assoc]
  congr 1
  funext x
  rw [bindR_assoc]
  congr 1
  funext l
  rw [bindR_ok_left]
  simp

theorem rd1_end (G : List Int → List Nat → Except Nat (List Int × List Nat)) (ys : List Int) (last : Int) : bindR (rd1 0 last) (fun l => G (ys ++ l)) = G ys := by
  have : rd1 0 last = fun b => .ok ([], b) := by funext b; rfl
  rw [this, bindR_ok_left, List.append_nil]

/-- Numbers, and zeros behind them. -/
def padI (ys : List Int) (n : Nat) : List Int := ys ++ List.replicate (n - ys.length) 0

theorem padI_set {ys : List Int} {n : Nat} (h : ys.length < n) (z : Int) : (padI ys n).set ys.length z = padI (ys ++ [z]) n := by
  unfold padI
  obtain ⟨m, hm⟩ : ∃ m, n - ys.length = m + 1 := ⟨n - ys.length - 1, by omega⟩
  rw [hm, List.length_append, List.length_singleton, show n - (ys.length + 1) = m by omega, List.replicate_succ]
  simp

theorem padI_length {ys : List Int} {n : Nat} (h : ys.length ≤ n) : (padI ys n).length = n := by unfold padI; simp; omega
theorem padI_full {ys : List Int} {n : Nat} (h : ys.length = n) : padI ys n = ys := by unfold padI; simp [h]
theorem made_ivals (n : Nat) : (madeCells #[Value.int .i64 0] n).toList = ivals (padI [] n) := by
  rw [toList_madeCells_one]
  simp [ivals, padI]

theorem Is.snoc {ys : List Int} {x : Int} (h : Is ys) (hx : I64 x) : Is (ys ++ [x]) := fun y hy => by
  rcases List.mem_append.1 hy with hy | hy
  · exact h y hy
  · have : y = x := by simpa using hy
    subst this
    exact hx

set_option maxRecDepth 100000 in
set_option maxHeartbeats 2000000 in
theorem each_any {D : Except Nat (List Int × List Nat)} {G : List Int → List Nat → Except Nat (List Int × List Nat)} {w : World} {p n f : Nat} {b : List Nat} (h : St 53 w p b f) (hn : n ≤ 256) (hg : Goes D (bindR (rd0 n) G) b f) :
    Calls Try.prog 34 #[.pointer (some ⟨p, 0, none⟩), .int .i64 (n : Int)] w (LPost D G p n w) := by
  obtain ⟨i0, hi, hz0, hz1', hz2⟩ := info_parts info2
  have HS := hidden h
  have HG := hidden hg
  have hlt := h.lt
  clear h hg
  go_enter Try.func34, Try.ntmps34
  go_wp2_with (first | (refine wpList_make_full _ rfl _ _ 22 rfl w.heap.size 2 i0 (.int .i64 0) 1 Try.underlying22 hi hz0 hz1' .i64 .i64 _ _ n rfl rfl ?m1 ?m2 ?m3 ?m4 ?m5 ?_))
  case m1 => rfl
  case m2 => rfl
  case m3 => rw [hz2]; omega
  case m4 => unfold maxLen; omega
  case m5 => omega
  intro w4 ho4 hg4
  have hb4 : Below w.heap.size w w4 := (Below.refl _ _).grown hg4 (Nat.le_refl _) (fun k hk => by cases hk)
  have ho4' : w4.ownsRow w.heap.size 2 1 (.slice (some ⟨w.heap.size, 0, none⟩) n n) n (ivals (padI [] n)) := by
    rw [← made_ivals]
    simpa using ho4
  have HO4 := hidden ho4'
  have HB4 := hidden hb4
  clear ho4 hg4 hb4 ho4'
  go_wp2_with fail
  go_loopw [11] (fun i wr => ∃ (ys : List Int) (b' : List Nat) (f' : Nat), i = .int .i64 (ys.length : Int) ∧ ys.length ≤ n ∧ Is ys ∧ wr.ownsRow w.heap.size 2 1 (.slice (some ⟨w.heap.size, 0, none⟩) n n) n (ivals (padI ys n)) ∧ St 53 wr p b' f' ∧ Goes D (bindR (rd0 (n - ys.length)) (fun l => G (ys ++ l))) b' f' ∧ Fr p w.heap.size w wr) (fun i _ => n - (intOf i).toNat)
  case atStart => exact ⟨[], b, f, rfl, by simp, fun x hx => by simp at hx, HO4.out, HS.out.kept HB4.out hlt, HG.out, Fr.of_below HB4.out⟩
  case round =>
    obtain ⟨ys, b', f', rfl, hk, hys, how, hst, hgo, hfr⟩ := hrel
    have HYS := hidden hys
    have HO := hidden how
    have HST := hidden hst
    have HGO := hidden hgo
    have HFR := hidden hfr
    have hzr := hfr.size
    clear hys how hst hgo hfr
    by_cases hlt2 : ys.length < n
    · obtain ⟨m, hm⟩ : ∃ m, n - ys.length = m + 1 := ⟨n - ys.length - 1, by omega⟩
      have hgo2 := HGO.out
      rw [hm, rd0_step] at hgo2
      have HGO2 := hidden hgo2.wh
      have HX := hidden (unzig_i64 (gt_form b').1)
      have HW := hidden (whole_any HST.out)
      have HM := hidden hm
      clear hgo2 hm HGO
      generalize unzig (gt b').1 = x at *
      go_wp2_with fail
      refine HW.out.mono ?_
      rintro e w5 ⟨rfl, hs5, hf5⟩
      have ho5 := hf5.own HO.out hlt
      have HFR5 := hidden (HFR.out.trans (hf5.mono hzr))
      have hfl : ys.length < (padI ys n).length := by rw [padI_length (by omega)]; exact hlt2
      have hck5 := (ho5.cellAt ys.length (by omega)).trans (ivals_get hfl)
      have hfr5 := ho5.frozenAt ys.length
      have hST := ho5.stored ys.length (.int .i64 x)
      rw [ivals_set, padI_set hlt2] at hST
      have HSTO := hidden hST
      have hgz := (ho5.lt w.heap.size rfl).2
      have HS5 := hidden (hs5.set_other (g := w.heap.size) hlt ys.length (.int .i64 x))
      have hz5 := HFR5.out.size
      clear hST hs5 hf5 ho5
      generalize (padI ys n)[ys.length] = y at *
      go_wp2_with fail
      go_roundw
      case rel =>
        refine ⟨ys ++ [x], _, _, ?_, ?_, HYS.out.snoc HX.out, HSTO.out.1, HS5.out, ?_, ?_⟩
        · simp
        · simp; omega
        · have e : n - (ys ++ [x]).length = m := by have := HM.out; simp; omega
          rw [e]
          exact HGO2.out
        · exact HFR5.out.then ((Below.refl _ _).setCell (p := ⟨w.heap.size, ys.length, none⟩) (Nat.le_refl _) _)
      case measure => simp [intOf]; omega
    · have hyl : ys.length = n := by omega
      have hgo2 := HGO.out
      rw [show n - ys.length = 0 by omega, rd0_end] at hgo2
      have HGO2 := hidden hgo2
      have HO' : Hid (OwnI wr w.heap.size (.slice (some ⟨w.heap.size, 0, none⟩) n n) ys) := hidden (by
        have := HO.out
        rw [padI_full hyl] at this
        unfold OwnI
        rw [hyl]
        exact this)
      clear hgo2 HGO hyl
      go_wp2_with fail
      go_ret
      exact ⟨ys, b', f', ⟨_, rfl, HO'.out⟩, HYS.out, by omega, HST.out, HGO2.out, HFR.out⟩
set_option maxRecDepth 100000 in
set_option maxHeartbeats 2000000 in
theorem steps_any {D : Except Nat (List Int × List Nat)} {G : List Int → List Nat → Except Nat (List Int × List Nat)} {w : World} {p n f : Nat} {b : List Nat} (h : St 53 w p b f) (hn : n ≤ 256) (hg : Goes D (bindR (rd1 n 0) G) b f) :
    Calls Try.prog 35 #[.pointer (some ⟨p, 0, none⟩), .int .i64 (n : Int)] w (LPost D G p n w) := by
  obtain ⟨i0, hi, hz0, hz1', hz2⟩ := info_parts info2
  have HS := hidden h
  have HG := hidden hg
  have hlt := h.lt
  clear h hg
  go_enter Try.func35, Try.ntmps35
  go_wp2_with (first | (refine wpList_make_full _ rfl _ _ 22 rfl w.heap.size 2 i0 (.int .i64 0) 1 Try.underlying22 hi hz0 hz1' .i64 .i64 _ _ n rfl rfl ?m1 ?m2 ?m3 ?m4 ?m5 ?_))
  case m1 => rfl
  case m2 => rfl
  case m3 => rw [hz2]; omega
  case m4 => unfold maxLen; omega
  case m5 => omega
  intro w4 ho4 hg4
  have hb4 : Below w.heap.size w w4 := (Below.refl _ _).grown hg4 (Nat.le_refl _) (fun k hk => by cases hk)
  have ho4' : w4.ownsRow w.heap.size 2 1 (.slice (some ⟨w.heap.size, 0, none⟩) n n) n (ivals (padI [] n)) := by
    rw [← made_ivals]
    simpa using ho4
  have HO4 := hidden ho4'
  have HB4 := hidden hb4
  clear ho4 hg4 hb4 ho4'
  go_wp2_with fail
  go_loopw [6, 12] (fun ah i wr => ∃ (last : Int) (ys : List Int) (b' : List Nat) (f' : Nat), ah = .int .i64 last ∧ I64 last ∧ i = .int .i64 (ys.length : Int) ∧ ys.length ≤ n ∧ Is ys ∧ wr.ownsRow w.heap.size 2 1 (.slice (some ⟨w.heap.size, 0, none⟩) n n) n (ivals (padI ys n)) ∧ St 53 wr p b' f' ∧ Goes D (bindR (rd1 (n - ys.length) last) (fun l => G (ys ++ l))) b' f' ∧ Fr p w.heap.size w wr) (fun _ i _ => n - (intOf i).toNat)
  case atStart => exact ⟨0, [], b, f, rfl, by unfold I64; omega, rfl, by simp, fun x hx => by simp at hx, HO4.out, HS.out.kept HB4.out hlt, HG.out, Fr.of_below HB4.out⟩
  case round =>
    obtain ⟨last, ys, b', f', rfl, hlast, rfl, hk, hys, how, hst, hgo, hfr⟩ := hrel
    have HYS := hidden hys
    have HO := hidden how
    have HST := hidden hst
    have HGO := hidden hgo
    have HFR := hidden hfr
    have hzr := hfr.size
    clear hys how hst hgo hfr
    by_cases hlt2 : ys.length < n
    · obtain ⟨m, hm⟩ : ∃ m, n - ys.length = m + 1 := ⟨n - ys.length - 1, by omega⟩
      have hgo2 := HGO.out
      rw [hm, rd1_step] at hgo2
      have HGO2 := hidden hgo2.wh
      have HX := hidden (w64_i64 (last + unzig (gt b').1))
      have hwr := wrap_w64 (last + unzig (gt b').1)
      have HW := hidden (whole_any HST.out)
      have HM := hidden hm
      clear hgo2 hm HGO
      generalize unzig (gt b').1 = x0 at *
      generalize w64 (last + x0) = x at *
      go_wp2_with fail
      refine HW.out.mono ?_
      rintro e w5 ⟨rfl, hs5, hf5⟩
      have ho5 := hf5.own HO.out hlt
      have HFR5 := hidden (HFR.out.trans (hf5.mono hzr))
      have hfl : ys.length < (padI ys n).length := by rw [padI_length (by omega)]; exact hlt2
      have hck5 := (ho5.cellAt ys.length (by omega)).trans (ivals_get hfl)
      have hfr5 := ho5.frozenAt ys.length
      have hST := ho5.stored ys.length (.int .i64 x)
      rw [ivals_set, padI_set hlt2] at hST
      have HSTO := hidden hST
      have hgz := (ho5.lt w.heap.size rfl).2
      have HS5 := hidden (hs5.set_other (g := w.heap.size) hlt ys.length (.int .i64 x))
      have hz5 := HFR5.out.size
      clear hST hs5 hf5 ho5
      generalize (padI ys n)[ys.length] = y at *
      go_wp2_with fail
      go_roundw
      case rel =>
        refine ⟨x, ys ++ [x], _, _, rfl, HX.out, ?_, ?_, HYS.out.snoc HX.out, HSTO.out.1, HS5.out, ?_, ?_⟩
        · simp
        · simp; omega
        · have e : n - (ys ++ [x]).length = m := by have := HM.out; simp; omega
          rw [e]
          exact HGO2.out
        · exact HFR5.out.then ((Below.refl _ _).setCell (p := ⟨w.heap.size, ys.length, none⟩) (Nat.le_refl _) _)
      case measure => simp [intOf]; omega
    · have hyl : ys.length = n := by omega
      have hgo2 := HGO.out
      rw [show n - ys.length = 0 by omega, rd1_end] at hgo2
      have HGO2 := hidden hgo2
      have HO' : Hid (OwnI wr w.heap.size (.slice (some ⟨w.heap.size, 0, none⟩) n n) ys) := hidden (by
        have := HO.out
        rw [padI_full hyl] at this
        unfold OwnI
        rw [hyl]
        exact this)
      clear hgo2 HGO hyl
      go_wp2_with fail
      go_ret
      exact ⟨ys, b', f', ⟨_, rfl, HO'.out⟩, HYS.out, by omega, HST.out, HGO2.out, HFR.out⟩
end Go.Proofs.Ytnlanilejhjkkaa
