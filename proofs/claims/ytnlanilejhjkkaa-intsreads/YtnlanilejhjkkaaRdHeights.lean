/- Contracts: heights, list. -/
import Derived.Test.YtnlanilejhjkkaaRdPlaces
set_option linter.unusedVariables false
set_option linter.unusedSimpArgs false
namespace Go.Proofs.Ytnlanilejhjkkaa
open Go.RowKit Go.Lib

theorem rd4_num (n : Nat) (hn : n ≠ 0) (G : List Int → List Nat → Except Nat (List Int × List Nat)) : bindR (rd4 n) G = bindR wh (fun x => bindR num (fun w => if 64 < w then (fun _ => .error 40) else bindR (pkd n w) (fun p => G (p.map (fun (q : Nat) => w64 (x + (q : Int))))))) := by
  have : rd4 n = bindR wh (fun x => bindR num (fun w => if 64 < w then (fun _ => .error 40) else bindR (pkd n w) (fun p r => .ok (p.map (fun (q : Nat) => w64 (x + (q : Int))), r)))) := by
    funext b
    unfold rd4
    rw [if_neg hn]
  rw [this, bindR_assoc]
  congr 1
  funext x
  rw [bindR_assoc]
  congr 1
  funext w
  split
  · rfl
  · rw [bindR_assoc]
    rfl

theorem rd4_none (G : List Int → List Nat → Except Nat (List Int × List Nat)) : bindR (rd4 0) G = G [] := by
  have : rd4 0 = fun b => .ok ([], b) := by funext b; rfl
  rw [this, bindR_ok_left]

set_option maxRecDepth 100000 in
set_option maxHeartbeats 4000000 in
theorem heights_any {D : Except Nat (List Int × List Nat)} {G : List Int → List Nat → Except Nat (List Int × List Nat)} {w : World} {p n f : Nat} {b : List Nat} (h : St 53 w p b f) (hn : n ≤ 256) (hg : Goes D (bindR (rd4 n) G) b f) :
    Calls Try.prog 38 #[.pointer (some ⟨p, 0, none⟩), .int .i64 (n : Int)] w (LPost D G p n w) := by
  have HS := hidden h
  have hlt := h.lt
  by_cases hn0 : n = 0
  · subst hn0
    rw [rd4_none] at hg
    have HG := hidden hg
    clear h hg
    go_enter Try.func38, Try.ntmps38
    go_wp2_with fail
    go_ret
    exact ⟨[], b, f, ⟨_, rfl, OwnI.nil _ _⟩, fun x hx => by simp at hx, by simp, HS.out, HG.out, Fr.refl _ _ _⟩
  · have hn1 : ((n : Int) == 0) = false := beq_eq_false_iff_ne.2 (by omega)
    rw [rd4_num n hn0] at hg
    have hg1 := hg.wh
    have HX := hidden (unzig_i64 (gt_form b).1)
    have HW := hidden (whole_any h)
    clear h hg
    generalize unzig (gt b).1 = x at *
    generalize b.drop (gt b).2.1 = b1 at *
    generalize orf f (gt b).2.2 = f1 at *
    have hg2 := Goes.num (lo := 0) (hi := 64) (fun v => by constructor <;> (intro h; omega)) hg1
    have HN1 : Hid (∀ W, St 53 W p b1 f1 → Calls Try.prog 57 #[.pointer (some ⟨p, 0, none⟩), .int .u64 (0 : Int), .int .u64 (64 : Int)] W fun r w' => r = .returned (.int .u64 (within 0 64 (gt b1).1 : Int)) ∧ St 53 w' p (b1.drop (gt b1).2.1) (withinF 0 64 (gt b1).1 (orf f1 (gt b1).2.2)) ∧ Fr p W.heap.size W w') := fun W h => number_any h 0 64 (by omega) (by omega)
    have hwle : within 0 64 (gt b1).1 ≤ 64 := by
      unfold within
      split <;> omega
    clear hg1 hn0
    generalize within 0 64 (gt b1).1 = ww at *
    generalize withinF 0 64 (gt b1).1 (orf f1 (gt b1).2.2) = f2 at *
    generalize b1.drop (gt b1).2.1 = b2 at *
    have HG3 := hidden hg2.pkd
    have HPL := hidden (pkL_length (n := n) (w := ww) (b := b2))
    have HPX := hidden (pkL_lt (n := n) (w := ww) (b := b2))
    have HPK : Hid (∀ W, St 53 W p b2 f2 → Calls Try.prog 59 #[.pointer (some ⟨p, 0, none⟩), .int .i64 (n : Int), .int .i64 (ww : Int)] W fun r w' => (∃ v, r = .returned v ∧ OwnU w' W.heap.size v (pkL n ww b2)) ∧ St 53 w' p (pkB n ww b2) (pkF n ww b2 f2) ∧ Fr p W.heap.size W w') := fun W h => packed_any h n ww hn hwle
    clear hg2
    generalize pkL n ww b2 = P at *
    generalize pkB n ww b2 = b3 at *
    generalize pkF n ww b2 f2 = f3 at *
    go_enter Try.func38, Try.ntmps38
    go_wp2_with fail
    refine HW.out.mono ?_
    rintro e w1 ⟨rfl, hs1, hf1⟩
    have HS1 := hidden hs1
    have HF1 := hidden hf1
    have hz1 := hf1.size
    clear hs1 hf1
    go_wp2_with fail
    refine (HN1.out _ HS1.out).mono ?_
    rintro e w2 ⟨rfl, hs2, hf2⟩
    have HS2 := hidden hs2
    have HF2 := hidden (HF1.out.trans (hf2.mono hz1))
    have hz2 := hf2.size
    clear hs2 hf2
    go_wp2_with fail
    refine (HPK.out _ HS2.out).mono ?_
    rintro e w4 ⟨⟨v4, rfl, ho4⟩, hs4, hf4⟩
    have HP4 := hidden ho4
    have HS4 := hidden hs4
    have HF4 := hidden (HF2.out.trans (hf4.mono (by omega)))
    have hz4 := hf4.size
    have hlt4 := hs4.lt
    obtain ⟨a4, c4, rfl⟩ := ho4.len
    have hPl := HPL.out
    clear ho4 hs4 hf4
    go_wp2_with fail
    go_loopw [7, 22] (fun v i wr => ∃ k : Nat, k ≤ P.length ∧ i = .int .i64 (k : Int) ∧ OwnI wr w4.heap.size v ((P.take k).map fun (q : Nat) => w64 (x + (q : Int))) ∧ Below w4.heap.size w4 wr) (fun _ i _ => P.length - (intOf i).toNat)
    case atStart => exact ⟨0, by omega, rfl, OwnI.nil _ _, Below.refl _ _⟩
    case round =>
      obtain ⟨k, hk, rfl, how, hbel⟩ := hrel
      have HO := hidden how
      have HB := hidden hbel
      have hzr := hbel.size
      obtain ⟨av, cv, rfl⟩ := how.len
      clear how hbel
      by_cases hlk : k < P.length
      · have hlk3 : (k : Int) < (P.length : Int) := by omega
        obtain ⟨bp, op, hbp, hbp2, hckp⟩ := (HP4.out.kept HB.out).sv.atU hlk
        cases hbp
        have hqx := HPX.out P[k] (List.getElem_mem hlk)
        have HTK := hidden (List.take_succ_eq_append_getElem hlk)
        have hyl : ((P.take k).map fun (q : Nat) => w64 (x + (q : Int))).length ≤ 256 := by rw [List.length_map, List.length_take]; omega
        generalize P[k] = q at *
        obtain ⟨y, hy⟩ : ∃ y, IntKind.i64.wrap (q : Int) = y := ⟨_, rfl⟩
        obtain ⟨z, hz⟩ : ∃ z, w64 (x + (q : Int)) = z := ⟨_, rfl⟩
        have hyz : IntKind.i64.wrap (x + y) = z := by
          rw [← hy, ← hz, ← wrap_w64, IntKind.wrap_i64, IntKind.wrap_i64, IntKind.wrap_i64]
          omega
        have HZ := hidden hz
        obtain ⟨ys, hys⟩ : ∃ ys, ((P.take k).map fun (q : Nat) => w64 (x + (q : Int))) = ys := ⟨_, rfl⟩
        rw [hys] at HO hyl ⊢
        have HYS := hidden hys
        clear hys hz
        have HOA := hidden (HO.out.kept ((Below.refl _ _).alloc (Nat.le_refl _) (.cells #[.int .i64 z] 2)))
        have HBA := hidden (HB.out.alloc hzr (.cells #[.int .i64 z] 2))
        go_wp2_with (first | (at_builtin; refine wpList_append_i rfl _ _ rfl w4.heap.size _ _ z ys rfl HOA.out rfl (cell_new _ _ _) ?c2 ?c3 ?_))
        case c2 => omega
        case c3 => first | omega | (rw [World.size_alloc]; omega)
        intro v7 w7 o7 b7
        have HO7 := hidden o7
        have HB7 := hidden (HBA.out.trans b7)
        clear o7 b7
        go_wp2_with fail
        go_roundw
        case rel =>
          refine ⟨k + 1, by omega, by go_num, ?_, HB7.out⟩
          rw [HTK.out, List.map_append, HYS.out, List.map_singleton, HZ.out]
          exact HO7.out
        case measure => simp [intOf]; omega
      · obtain rfl : k = P.length := by omega
        have hlk3 : ¬ (P.length : Int) < (P.length : Int) := by omega
        rw [List.take_length] at HO
        have HFE := hidden (HF4.out.then (HB.out.mono (by omega)))
        have hoe := HO.out.low (show w.heap.size ≤ w4.heap.size by omega)
        rw [List.length_map] at hoe
        have HOE := hidden hoe
        clear hoe
        have HISE : Hid (Is (P.map fun (q : Nat) => w64 (x + (q : Int)))) := hidden (fun y hy => by
          obtain ⟨q, hq, rfl⟩ := List.mem_map.1 hy
          exact w64_i64 _)
        have HLE : Hid ((P.map fun (q : Nat) => w64 (x + (q : Int))).length ≤ n) := hidden (by rw [List.length_map]; exact hPl)
        go_wp2_with fail
        go_ret
        exact ⟨_, _, _, ⟨_, rfl, HOE.out⟩, HISE.out, HLE.out, HS4.out.kept HB.out hlt4, HG3.out, HFE.out⟩

set_option maxRecDepth 100000 in
set_option maxHeartbeats 4000000 in
theorem list_any {D : Except Nat (List Int × List Nat)} {G : List Int → List Nat → Except Nat (List Int × List Nat)} (hG : ∀ r : List Nat, r.length ≠ 0 → G [] r = .error 32) {w : World} {p n f c : Nat} {b : List Nat} (h : St 53 w p b f) (hn : n ≤ 256) (hc : c ≤ 4) (hg : Goes D (bindR (rdC c n) G) b f) :
    Calls Try.prog 24 #[.pointer (some ⟨p, 0, none⟩), .int .u8 (c : Int), .int .i64 (n : Int)] w (LPost D G p n w) := by
  obtain rfl | rfl | rfl | rfl | rfl : c = 0 ∨ c = 1 ∨ c = 2 ∨ c = 3 ∨ c = 4 := by omega
  · have HC := hidden (each_any h hn hg)
    clear h hg hG
    go_enter Try.func24, Try.ntmps24
    go_wp2_with fail
    refine HC.out.mono ?_
    rintro e w1 ⟨l, b', f', ⟨v, rfl, ho⟩, hr⟩
    have HO := hidden ho
    have HR := hidden hr
    clear ho hr
    go_wp2_with fail
    go_ret
    exact ⟨l, b', f', ⟨_, rfl, HO.out⟩, HR.out⟩
  · have HC := hidden (steps_any h hn hg)
    clear h hg hG
    go_enter Try.func24, Try.ntmps24
    go_wp2_with fail
    refine HC.out.mono ?_
    rintro e w1 ⟨l, b', f', ⟨v, rfl, ho⟩, hr⟩
    have HO := hidden ho
    have HR := hidden hr
    clear ho hr
    go_wp2_with fail
    go_ret
    exact ⟨l, b', f', ⟨_, rfl, HO.out⟩, HR.out⟩
  · have HC := hidden (runs_any h hn hg)
    clear h hg hG
    go_enter Try.func24, Try.ntmps24
    go_wp2_with fail
    refine HC.out.mono ?_
    rintro e w1 ⟨l, b', f', ⟨v, rfl, ho⟩, hr⟩
    have HO := hidden ho
    have HR := hidden hr
    clear ho hr
    go_wp2_with fail
    go_ret
    exact ⟨l, b', f', ⟨_, rfl, HO.out⟩, HR.out⟩
  · have HC := hidden (places_any hG h hn hg)
    clear h hg hG
    go_enter Try.func24, Try.ntmps24
    go_wp2_with fail
    refine HC.out.mono ?_
    rintro e w1 ⟨l, b', f', ⟨v, rfl, ho⟩, hr⟩
    have HO := hidden ho
    have HR := hidden hr
    clear ho hr
    go_wp2_with fail
    go_ret
    exact ⟨l, b', f', ⟨_, rfl, HO.out⟩, HR.out⟩
  · have HC := hidden (heights_any h hn hg)
    clear h hg hG
    go_enter Try.func24, Try.ntmps24
    go_wp2_with fail
    refine HC.out.mono ?_
    rintro e w1 ⟨l, b', f', ⟨v, rfl, ho⟩, hr⟩
    have HO := hidden ho
    have HR := hidden hr
    clear ho hr
    go_wp2_with fail
    go_ret
    exact ⟨l, b', f', ⟨_, rfl, HO.out⟩, HR.out⟩
end Go.Proofs.Ytnlanilejhjkkaa
