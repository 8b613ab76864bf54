/- Contracts: runs. -/
import Derived.Test.YtnlanilejhjkkaaRdEach
import Derived.Test.YtnlanilejhjkkaaPutPacked
set_option linter.unusedVariables false
set_option linter.unusedSimpArgs false
namespace Go.Proofs.Ytnlanilejhjkkaa
open Go.RowKit Go.Lib

theorem Goes.any {D : Except Nat (List Int × List Nat)} {K K' : List Nat → Except Nat (List Int × List Nat)} {b : List Nat} {f : Nat} (h : Goes D K b f) (hf : f ≠ 0) : Goes D K' b f := ⟨fun e => absurd e hf, h.2⟩

theorem withinF_bad {lo hi v f : Nat} (h : v < lo ∨ hi < v) : withinF lo hi v f ≠ 0 := by
  unfold withinF orf
  rw [if_pos h]
  split <;> omega

theorem rd2_step (G : List Int → List Nat → Except Nat (List Int × List Nat)) (ys : List Int) (fu m : Nat) (hm : m ≠ 0) : bindR (rd2 (fu + 1) m) (fun l => G (ys ++ l)) =
    bindR wh (fun x => bindR num (fun k => if k = 0 ∨ m < k then (fun _ => .error 40) else bindR (rd2 fu (m - k)) (fun l => G ((ys ++ List.replicate k x) ++ l)))) := by
  have : rd2 (fu + 1) m = bindR wh (fun x => bindR num (fun k => if k = 0 ∨ m < k then (fun _ => .error 40) else bindR (rd2 fu (m - k)) (fun l r => .ok (List.replicate k x ++ l, r)))) := by
    funext b
    rw [rd2, if_neg hm]
  rw [this, bindR_assoc]
  congr 1
  funext x
  rw [bindR_assoc]
  congr 1
  funext k
  split
  · rfl
  · rw [bindR_assoc]
    congr 1
    funext l
    rw [bindR_ok_left]
    simp

theorem rd2_end (G : List Int → List Nat → Except Nat (List Int × List Nat)) (ys : List Int) (fu : Nat) : bindR (rd2 fu 0) (fun l => G (ys ++ l)) = G ys := by
  have : rd2 fu 0 = fun b => .ok ([], b) := by funext b; exact rd2_zero fu b
  rw [this, bindR_ok_left, List.append_nil]

theorem cell_new (w : World) (v : Value) (t : Nat) : (w.alloc (.cells #[v] t)).cell? ⟨w.heap.size, 0, none⟩ = some v := by
  have := cell_one_new w v t 0 v rfl
  rw [add0] at this
  exact this

def lenOf : Value → Nat
  | .slice _ n _ => n
  | _ => 0

/-- The fault of the reader in the block p is none. -/
def calm (p : Nat) (W : World) : Nat :=
  match W.cell? ⟨p, 1, none⟩ with
  | some (.int _ n) => if n = 0 then 1 else 0
  | _ => 0

theorem calm_zero {T : Nat} {W : World} {p : Nat} {b : List Nat} {f : Nat} (h : St T W p b f) (hf : f = 0) : calm p W = 1 := by
  obtain ⟨_, _, _, _, h1, _⟩ := h.cells
  unfold calm
  rw [h1, hf]
  rfl

theorem calm_not {T : Nat} {W : World} {p : Nat} {b : List Nat} {f : Nat} (h : St T W p b f) (hf : f ≠ 0) : calm p W = 0 := by
  obtain ⟨_, _, _, _, h1, _⟩ := h.cells
  unfold calm
  rw [h1]
  simp only
  rw [if_neg (by omega)]

theorem calm_le (p : Nat) (W : World) : calm p W ≤ 1 := by
  unfold calm
  split
  · split <;> omega
  · omega

set_option maxRecDepth 100000 in
set_option maxHeartbeats 4000000 in
theorem runs_any {D : Except Nat (List Int × List Nat)} {G : List Int → List Nat → Except Nat (List Int × List Nat)} {w : World} {p n f : Nat} {b : List Nat} (h : St 53 w p b f) (hn : n ≤ 256) (hg : Goes D (bindR (rd2 n n) G) b f) :
    Calls Try.prog 36 #[.pointer (some ⟨p, 0, none⟩), .int .i64 (n : Int)] w (LPost D G p n w) := by
  have HS := hidden h
  have HG := hidden hg
  have hlt := h.lt
  clear h hg
  go_enter Try.func36, Try.ntmps36
  go_wp2_with fail
  go_loopw [5] (fun v wr => ∃ (fu : Nat) (ys : List Int) (b' : List Nat) (f' : Nat), ys.length ≤ n ∧ Is ys ∧ OwnI wr w.heap.size v ys ∧ St 53 wr p b' f' ∧ (f' = 0 → n - ys.length ≤ fu) ∧ Goes D (bindR (rd2 fu (n - ys.length)) (fun l => G (ys ++ l))) b' f' ∧ Fr p w.heap.size w wr) (fun v wr => 2 * (n - lenOf v) + calm p wr)
  case atStart => exact ⟨n, [], b, f, by simp, fun x hx => by simp at hx, OwnI.nil _ _, HS.out, fun _ => by simp, HG.out, Fr.refl _ _ _⟩
  case round =>
    obtain ⟨fu, ys, b', f', hk, hys, how, hst, hfu, hgo, hfr⟩ := hrel
    have HYS := hidden hys
    have HO := hidden how
    have HST := hidden hst
    have HGO := hidden hgo
    have HFR := hidden hfr
    have HFU := hidden hfu
    have hzr := hfr.size
    obtain ⟨av, cv, rfl⟩ := how.len
    obtain ⟨g, off, cap, c0, c1, c2, c3, c4, c5, c6, c7, c8, c9⟩ := hst.cells
    clear hys how hst hgo hfr hfu c0 c2 c3 c4 c5 c6 c7 c8 c9
    by_cases hlt2 : (ys.length : Int) < (n : Int)
    · by_cases hf0 : ((f' : Int) == 0) = true
      · have hf0' : f' = 0 := by simpa using hf0
        have hm : n - ys.length ≠ 0 := by omega
        have hfu2 := HFU.out hf0'
        obtain ⟨fu', rfl⟩ : ∃ q, fu = q + 1 := ⟨fu - 1, by omega⟩
        have hgo2 := HGO.out
        rw [rd2_step _ _ _ _ hm] at hgo2
        have hgo3 := hgo2.wh
        have HX := hidden (unzig_i64 (gt_form b').1)
        have HW := hidden (whole_any HST.out)
        have HC1 := hidden (calm_zero HST.out hf0')
        clear hgo2 HGO
        generalize unzig (gt b').1 = x at *
        generalize b'.drop (gt b').2.1 = b1 at *
        generalize orf f' (gt b').2.2 = f1 at *
        have hgo4 := Goes.num (lo := 1) (hi := n - ys.length) (fun v => by constructor <;> (intro h; omega)) hgo3
        obtain ⟨g1, g2, g3, g4⟩ := gt_form b1
        have hsub : (n : Int) - (ys.length : Int) = ((n - ys.length : Nat) : Int) := by omega
        have hbad : within 1 (n - ys.length) (gt b1).1 = 0 → withinF 1 (n - ys.length) (gt b1).1 (orf f1 (gt b1).2.2) ≠ 0 := by
          intro h0
          unfold within at h0
          split at h0
          · next hb => exact withinF_bad hb
          · next hb => omega
        have hkle : within 1 (n - ys.length) (gt b1).1 ≤ n - ys.length := by
          unfold within
          split <;> omega
        have HN1 : Hid (∀ W, St 53 W p b1 f1 → Calls Try.prog 57 #[.pointer (some ⟨p, 0, none⟩), .int .u64 (1 : Int), .int .u64 ((n - ys.length : Nat) : Int)] W fun r w' => r = .returned (.int .u64 (within 1 (n - ys.length) (gt b1).1 : Int)) ∧ St 53 w' p (b1.drop (gt b1).2.1) (withinF 1 (n - ys.length) (gt b1).1 (orf f1 (gt b1).2.2)) ∧ Fr p W.heap.size W w') := fun W h => number_any h 1 (n - ys.length) (by omega) (by omega)
        have HGO4 := hidden hgo4
        have HBAD := hidden hbad
        clear hgo3 hgo4 g1 g2 g3 g4 hbad HFU
        generalize within 1 (n - ys.length) (gt b1).1 = k at *
        generalize withinF 1 (n - ys.length) (gt b1).1 (orf f1 (gt b1).2.2) = f2 at *
        generalize b1.drop (gt b1).2.1 = b2 at *
        clear hf0'
        go_wp2_with fail
        refine HW.out.mono ?_
        rintro e w5 ⟨rfl, hs5, hf5⟩
        have HS5 := hidden hs5
        have HO5 := hidden (HO.out.fr hf5 hlt)
        have HFR5 := hidden (HFR.out.trans (hf5.mono hzr))
        have hz5 := HFR5.out.size
        clear hs5 hf5 c1
        go_wp2_with fail
        refine (HN1.out _ HS5.out).mono ?_
        rintro e w6 ⟨rfl, hs6, hf6⟩
        have HS6 := hidden hs6
        have HO6 := hidden (HO5.out.fr hf6 hlt)
        have HFR6 := hidden (HFR5.out.trans (hf6.mono hz5))
        have hz6 := HFR6.out.size
        clear hs6 hf6
        go_wp2_with fail
        go_loopw [5, 29] (fun v j wq => ∃ i : Nat, i ≤ k ∧ j = .int .u64 (i : Int) ∧ OwnI wq w.heap.size v (ys ++ List.replicate i x) ∧ St 53 wq p b2 f2 ∧ Fr p w.heap.size w wq) (fun _ j _ => k - (intOf j).toNat)
        case atStart => exact ⟨0, by omega, rfl, by simpa using HO6.out, HS6.out, HFR6.out⟩
        case round =>
          obtain ⟨i, hik, rfl, hoq, hsq, hfq⟩ := hrel
          have HOQ := hidden hoq
          have HSQ := hidden hsq
          have HFQ := hidden hfq
          have hzq := hfq.size
          obtain ⟨aq, cq, rfl⟩ := hoq.len
          clear hoq hsq hfq
          by_cases hij : (i : Int) < (k : Int)
          · have HOA := hidden (HOQ.out.kept ((Below.refl _ _).alloc (Nat.le_refl _) (.cells #[.int .i64 x] 2)))
            have HSA := hidden (HSQ.out.kept ((Below.refl _ _).alloc (Nat.le_refl _) (.cells #[.int .i64 x] 2)) HSQ.out.lt)
            have HFA := hidden (HFQ.out.then ((Below.refl w.heap.size _).alloc hzq (.cells #[.int .i64 x] 2)))
            have hlen : (ys ++ List.replicate i x).length ≤ 256 := by simp; omega
            go_wp2_with (first | (at_builtin; refine wpList_append_i rfl _ _ rfl w.heap.size _ _ x (ys ++ List.replicate i x) rfl HOA.out rfl ?c1 ?c2 ?c3 ?_))
            case c1 => exact cell_new _ _ _
            case c2 => omega
            case c3 => rw [World.size_alloc]; omega
            intro v7 w7 o7 b7
            have e7 : ys ++ (List.replicate i x ++ [x]) = ys ++ List.replicate (i + 1) x := by rw [List.replicate_succ']
            rw [e7] at o7
            have HO7 := hidden o7
            have HS7 := hidden (HSA.out.kept b7 hlt)
            have HF7 := hidden (HFA.out.then b7)
            clear o7 b7 e7
            go_wp2_with fail
            go_roundw
            case rel => exact ⟨i + 1, by omega, by go_num, HO7.out, HS7.out, HF7.out⟩
            case measure => simp [intOf]; omega
          · obtain rfl : i = k := by omega
            have HNEW : Hid (∃ fu2, (f2 = 0 → n - (ys ++ List.replicate i x).length ≤ fu2) ∧ Goes D (bindR (rd2 fu2 (n - (ys ++ List.replicate i x).length)) (fun l => G ((ys ++ List.replicate i x) ++ l))) b2 f2) := hidden (by
              have hsum : n - (ys ++ List.replicate i x).length = n - ys.length - i := by simp; omega
              rw [hsum]
              by_cases hf2 : f2 = 0
              · have hi0 : i ≠ 0 := fun e => HBAD.out e hf2
                exact ⟨fu', fun _ => by omega, HGO4.out⟩
              · exact ⟨0, fun e => absurd e hf2, HGO4.out.any hf2⟩)
            have HME : Hid (2 * (n - (ys ++ List.replicate i x).length) + calm p wr < 2 * (n - ys.length) + 1) := hidden (by
              have hsum : (ys ++ List.replicate i x).length = ys.length + i := by simp
              rw [hsum]
              by_cases hf2 : f2 = 0
              · have hi0 : i ≠ 0 := fun e => HBAD.out e hf2
                have := calm_le p wr
                omega
              · rw [calm_not HSQ.out hf2]
                omega)
            have HISN : Hid (Is (ys ++ List.replicate i x)) := fun y hy => by
              rcases List.mem_append.1 hy with hy | hy
              · exact HYS.out y hy
              · rw [List.eq_of_mem_replicate hy]
                exact HX.out
            have HLE : Hid ((ys ++ List.replicate i x).length ≤ n) := hidden (by simp; omega)
            go_wp2_with fail
            go_roundw
            case rel =>
              obtain ⟨fu2, h1, h2⟩ := HNEW.out
              exact ⟨fu2, _, _, _, HLE.out, HISN.out, HOQ.out, HSQ.out, h1, h2, HFQ.out⟩
            case measure =>
              have h1 := HME.out
              have h2 := HC1.out
              simp only [lenOf]
              rw [h2]
              exact h1
      · have hff : ((f' : Int) == 0) = false := by simpa using hf0
        have hne : f' ≠ 0 := fun e => hf0 (by simp [e])
        have HGE := hidden (HGO.out.any (K' := G ys) hne)
        clear hf0 hne
        go_wp2_with fail
        go_ret
        exact ⟨ys, b', f', ⟨_, rfl, HO.out⟩, HYS.out, hk, HST.out, HGE.out, HFR.out⟩
    · have hgo2 := HGO.out
      rw [show n - ys.length = 0 by omega, rd2_end] at hgo2
      have HGE := hidden hgo2
      clear hgo2
      go_wp2_with fail
      go_ret
      exact ⟨ys, b', f', ⟨_, rfl, HO.out⟩, HYS.out, hk, HST.out, HGE.out, HFR.out⟩
end Go.Proofs.Ytnlanilejhjkkaa
