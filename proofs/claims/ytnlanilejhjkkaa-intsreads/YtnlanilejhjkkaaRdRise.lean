/- Contracts: rising. -/
import Derived.Test.YtnlanilejhjkkaaRdRuns
set_option linter.unusedVariables false
set_option linter.unusedSimpArgs false
namespace Go.Proofs.Ytnlanilejhjkkaa
open Go.RowKit Go.Lib

theorem rdU_step (G : List Int → List Nat → Except Nat (List Int × List Nat)) (us : List Int) (q : Nat) (last : Int) : bindR (rdU (q + 1) last) (fun u => G (us ++ u)) =
    bindR num (fun (d : Nat) => if d = 0 ∨ 9223372036854775807 - last < (d : Int) then (fun _ => .error 40) else bindR (rdU q (last + d)) (fun u => G ((us ++ [last + d]) ++ u))) := by
  have : rdU (q + 1) last = bindR num (fun (d : Nat) => if d = 0 ∨ 9223372036854775807 - last < (d : Int) then (fun _ => .error 40) else bindR (rdU q (last + d)) (fun l r => .ok ((last + d) :: l, r))) := by
    funext b
    rw [rdU]
  rw [this, bindR_assoc]
  congr 1
  funext d
  split
  · rfl
  · rw [bindR_assoc]
    congr 1
    funext l
    rw [bindR_ok_left]
    simp

theorem rdU_end (G : List Int → List Nat → Except Nat (List Int × List Nat)) (us : List Int) (last : Int) : bindR (rdU 0 last) (fun u => G (us ++ u)) = G us := by
  have : rdU 0 last = fun b => .ok ([], b) := by funext b; rfl
  rw [this, bindR_ok_left, List.append_nil]

/-- What goes on while rising numbers are read. -/
def riseK (G : List Int → List Nat → Except Nat (List Int × List Nat)) (m : Nat) (us : List Int) (last : Int) : List Nat → Except Nat (List Int × List Nat) :=
  if us.length = 0 then (if m = 0 then G [] else bindR wh (fun x => bindR (rdU (m - 1) x) (fun u => G (x :: u)))) else bindR (rdU (m - us.length) last) (fun u => G (us ++ u))

theorem riseK_end (G : List Int → List Nat → Except Nat (List Int × List Nat)) (us : List Int) (last : Int) : riseK G us.length us last = G us := by
  unfold riseK
  by_cases h : us.length = 0
  · rw [if_pos h, if_pos h, List.eq_nil_of_length_eq_zero h]
  · rw [if_neg h, Nat.sub_self, rdU_end]

theorem riseK_first (G : List Int → List Nat → Except Nat (List Int × List Nat)) {m : Nat} (hm : 0 < m) (last : Int) : riseK G m [] last = bindR wh (fun x => riseK G m [x] x) := by
  unfold riseK
  rw [if_pos (show ([] : List Int).length = 0 from rfl), if_neg (by omega)]
  congr 1

theorem riseK_next (G : List Int → List Nat → Except Nat (List Int × List Nat)) {m : Nat} {us : List Int} (h0 : 0 < us.length) (hm : us.length < m) (last : Int) : riseK G m us last =
    bindR num (fun (d : Nat) => if d = 0 ∨ 9223372036854775807 - last < (d : Int) then (fun _ => .error 40) else riseK G m (us ++ [last + d]) (last + d)) := by
  unfold riseK
  obtain ⟨q, hq⟩ : ∃ q, m - us.length = q + 1 := ⟨m - us.length - 1, by omega⟩
  rw [if_neg (by omega), hq, rdU_step]
  congr 1
  funext d
  rw [if_neg (show ¬ (us ++ [last + (d : Int)]).length = 0 by simp), show m - (us ++ [last + (d : Int)]).length = q by simp; omega]

set_option maxRecDepth 100000 in
set_option maxHeartbeats 4000000 in
theorem rising_any {D : Except Nat (List Int × List Nat)} {G : List Int → List Nat → Except Nat (List Int × List Nat)} {w : World} {p m f : Nat} {b : List Nat} (h : St 53 w p b f) (hm : m ≤ 256) (hg : Goes D (riseK G m [] 0) b f) :
    Calls Try.prog 58 #[.pointer (some ⟨p, 0, none⟩), .int .i64 (m : Int)] w fun r w' => ∃ (l : List Int) (b' : List Nat) (f' : Nat), (∃ v, r = .returned v ∧ OwnI w' w.heap.size v l) ∧ Is l ∧ l.length = m ∧ St 53 w' p b' f' ∧ Goes D (G l) b' f' ∧ Fr p w.heap.size w w' := by
  have HS := hidden h
  have HG := hidden hg
  have hlt := h.lt
  clear h hg
  go_enter Try.func58, Try.ntmps58
  go_wp2_with fail
  go_loopw [5, 6, 9] (fun v la i wr => ∃ (us : List Int) (last : Int) (b' : List Nat) (f' : Nat), i = .int .i64 (us.length : Int) ∧ la = .int .i64 last ∧ us.length ≤ m ∧ Is us ∧ I64 last ∧ OwnI wr w.heap.size v us ∧ St 53 wr p b' f' ∧ Goes D (riseK G m us last) b' f' ∧ Fr p w.heap.size w wr) (fun _ _ i _ => m - (intOf i).toNat)
  case atStart => exact ⟨[], 0, b, f, rfl, rfl, by simp, fun x hx => by simp at hx, by unfold I64; omega, OwnI.nil _ _, HS.out, HG.out, Fr.refl _ _ _⟩
  case round =>
    obtain ⟨us, last, b', f', rfl, rfl, hk, hus, hla, how, hst, hgo, hfr⟩ := hrel
    have HUS := hidden hus
    have HO := hidden how
    have HST := hidden hst
    have HGO := hidden hgo
    have HFR := hidden hfr
    have HLA := hidden hla
    have hzr := hfr.size
    obtain ⟨av, cv, rfl⟩ := how.len
    clear hus how hst hgo hfr hla
    by_cases hlt2 : us.length < m
    · have hlt3 : (us.length : Int) < (m : Int) := by omega
      by_cases hz : us.length = 0
      · obtain rfl : us = [] := List.eq_nil_of_length_eq_zero hz
        have hgo2 := HGO.out
        rw [riseK_first G (by omega)] at hgo2
        have HGO2 := hidden hgo2.wh
        have HX := hidden (unzig_i64 (gt_form b').1)
        have HW := hidden (whole_any HST.out)
        clear hgo2 HGO hz hlt2
        generalize unzig (gt b').1 = x at *
        generalize b'.drop (gt b').2.1 = b1 at *
        generalize orf f' (gt b').2.2 = f1 at *
        rw [List.length_nil] at *
        go_wp2_with fail
        refine HW.out.mono ?_
        rintro e w5 ⟨rfl, hs5, hf5⟩
        have hz5 := hf5.size
        have HO5 := hidden ((HO.out.fr hf5 hlt).kept ((Below.refl _ _).alloc (Nat.le_refl _) (.cells #[.int .i64 x] 2)))
        have HS5 := hidden (hs5.kept ((Below.refl _ _).alloc (Nat.le_refl _) (.cells #[.int .i64 x] 2)) hs5.lt)
        have HFR5 := hidden ((HFR.out.trans (hf5.mono hzr)).then ((Below.refl w.heap.size _).alloc (by omega) (.cells #[.int .i64 x] 2)))
        clear hs5 hf5
        go_wp2_with (first | (at_builtin; refine wpList_append_i rfl _ _ rfl w.heap.size _ _ x [] rfl HO5.out rfl ?c1 ?c2 ?c3 ?_))
        case c1 => exact cell_new _ _ _
        case c2 => simp
        case c3 => rw [World.size_alloc]; omega
        intro v7 w7 o7 b7
        have HO7 := hidden o7
        have HS7 := hidden (HS5.out.kept b7 hlt)
        have HF7 := hidden (HFR5.out.then b7)
        clear o7 b7
        go_wp2_with fail
        go_roundw
        case rel => exact ⟨[x], x, _, _, rfl, rfl, by simp; omega, fun y hy => by rw [List.mem_singleton.1 hy]; exact HX.out, HX.out, HO7.out, HS7.out, HGO2.out, HF7.out⟩
        case measure => simp [intOf]; omega
      · have hz0 : ((us.length : Int) == 0) = false := beq_eq_false_iff_ne.2 (by omega)
        have hgo2 := HGO.out
        rw [riseK_next G (by omega) hlt2] at hgo2
        have hl1 := HLA.out.1
        have hl2 := HLA.out.2
        have hgo4 := Goes.num (lo := 1) (hi := (9223372036854775807 - last).toNat) (fun v => by constructor <;> (intro h; omega)) hgo2
        have HD := hidden (fun W => distance_up (a := last) (b := 9223372036854775807) HLA.out (by unfold I64; omega) hl2 W)
        have HN1 : Hid (∀ W, St 53 W p b' f' → Calls Try.prog 57 #[.pointer (some ⟨p, 0, none⟩), .int .u64 (1 : Int), .int .u64 ((9223372036854775807 - last).toNat : Int)] W fun r w' => r = .returned (.int .u64 (within 1 (9223372036854775807 - last).toNat (gt b').1 : Int)) ∧ St 53 w' p (b'.drop (gt b').2.1) (withinF 1 (9223372036854775807 - last).toNat (gt b').1 (orf f' (gt b').2.2)) ∧ Fr p W.heap.size W w') := fun W h => number_any h 1 _ (by omega) (by omega)
        have hkle : within 1 (9223372036854775807 - last).toNat (gt b').1 ≤ (9223372036854775807 - last).toNat := by
          unfold within
          split <;> omega
        have HGO4 := hidden hgo4
        clear hgo2 hgo4 HGO hz
        generalize within 1 (9223372036854775807 - last).toNat (gt b').1 = d at *
        generalize withinF 1 (9223372036854775807 - last).toNat (gt b').1 (orf f' (gt b').2.2) = f1 at *
        generalize b'.drop (gt b').2.1 = b1 at *
        have HX : Hid (I64 (last + (d : Int))) := hidden (by unfold I64; omega)
        obtain ⟨y, hy⟩ : ∃ y, IntKind.i64.wrap (d : Int) = y := ⟨_, rfl⟩
        have hyz : IntKind.i64.wrap (last + y) = last + (d : Int) := by
          rw [← hy, IntKind.wrap_i64, IntKind.wrap_i64]
          omega
        generalize last + (d : Int) = x at *
        generalize (9223372036854775807 - last).toNat = hi at *
        clear hkle
        go_wp2_with fail
        refine (HD.out _).mono ?_
        rintro e w1 ⟨rfl, rfl⟩
        go_wp2_with fail
        refine (HN1.out _ HST.out).mono ?_
        rintro e w5 ⟨rfl, hs5, hf5⟩
        have hz5 := hf5.size
        have HO5 := hidden ((HO.out.fr hf5 hlt).kept ((Below.refl _ _).alloc (Nat.le_refl _) (.cells #[.int .i64 x] 2)))
        have HS5 := hidden (hs5.kept ((Below.refl _ _).alloc (Nat.le_refl _) (.cells #[.int .i64 x] 2)) hs5.lt)
        have HFR5 := hidden ((HFR.out.trans (hf5.mono hzr)).then ((Below.refl w.heap.size _).alloc (by omega) (.cells #[.int .i64 x] 2)))
        clear hs5 hf5
        go_wp2_with (first | (at_builtin; refine wpList_append_i rfl _ _ rfl w.heap.size _ _ x us rfl HO5.out rfl ?c1 ?c2 ?c3 ?_))
        case c1 => exact cell_new _ _ _
        case c2 => omega
        case c3 => rw [World.size_alloc]; omega
        intro v7 w7 o7 b7
        have HO7 := hidden o7
        have HS7 := hidden (HS5.out.kept b7 hlt)
        have HF7 := hidden (HFR5.out.then b7)
        clear o7 b7
        go_wp2_with fail
        go_roundw
        case rel => exact ⟨us ++ [x], x, _, _, by simp, rfl, by simp; omega, HUS.out.snoc HX.out, HX.out, HO7.out, HS7.out, HGO4.out, HF7.out⟩
        case measure => simp [intOf]; omega
    · obtain rfl : us.length = m := by omega
      have hgo2 := HGO.out
      rw [riseK_end] at hgo2
      have HGE := hidden hgo2
      clear hgo2 HGO
      go_wp2_with fail
      go_ret
      exact ⟨us, b', f', ⟨_, rfl, HO.out⟩, HUS.out, rfl, HST.out, HGE.out, HFR.out⟩
end Go.Proofs.Ytnlanilejhjkkaa
