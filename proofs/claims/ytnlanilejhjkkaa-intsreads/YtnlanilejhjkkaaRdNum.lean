/- Contracts: numberWithin, packed. -/
import Derived.Test.YtnlanilejhjkkaaRd
set_option linter.unusedVariables false
set_option linter.unusedSimpArgs false
namespace Go.Proofs.Ytnlanilejhjkkaa
open Go.RowKit Go.Lib

/-- A number from lo to hi, or 0; the fault behind it. -/
def within (lo hi v : Nat) : Nat := if v < lo ∨ hi < v then 0 else v
def withinF (lo hi v f : Nat) : Nat := if v < lo ∨ hi < v then orf f 40 else f

set_option maxRecDepth 100000 in
set_option maxHeartbeats 2000000 in
theorem number_any {w : World} {p f : Nat} {b : List Nat} (h : St 53 w p b f) (lo hi : Nat) (hlo : lo < 18446744073709551616) (hhi : hi < 18446744073709551616) :
    Calls Try.prog 57 #[.pointer (some ⟨p, 0, none⟩), .int .u64 (lo : Int), .int .u64 (hi : Int)] w fun r w' => r = .returned (.int .u64 (within lo hi (gt b).1 : Int)) ∧ St 53 w' p (b.drop (gt b).2.1) (withinF lo hi (gt b).1 (orf f (gt b).2.2)) ∧ Fr p w.heap.size w w' := by
  have HS := hidden h
  have HB := hidden h.bs
  obtain ⟨g, off, cap, h0, h1, h2, h3, h4, h5, h6, h7, h8, h9⟩ := h.cells
  obtain ⟨g1, g2, g3, g4⟩ := gt_form b
  have HG := hidden (get_sv HB.out h6)
  clear h h6 h8 h9 g4
  generalize gt b = x at *
  obtain ⟨n, u, c⟩ := x
  simp only at *
  unfold tell at HG
  by_cases hb : n < lo ∨ hi < n
  · have HW : Hid (within lo hi n = 0 ∧ withinF lo hi n (orf f c) = orf (orf f c) 40) := ⟨if_pos hb, if_pos hb⟩
    by_cases hl : (n : Int) < (lo : Int)
    · clear hb
      go_enter Try.func57, Try.ntmps57
      go_wp2_with fail
      refine HG.out.mono ?_
      rintro e w1 ⟨rfl, rfl⟩
      go_wp2_with fail
      refine (refuse_any HS.out c).mono ?_
      rintro e w2 ⟨rfl, hs2, hf2⟩
      obtain ⟨G, Off, Cap, k0, k1, k2, k3, k4, k5, k6, k7, k8, k9⟩ := hs2.cells
      obtain ⟨A, hA, hSA⟩ := k9 u g2
      have HSA := hidden hSA
      have HF2 := hidden (hf2.set 0 (.slice A (b.length - u) (Cap - u)))
      clear hs2 hf2 k8 k9 k6 hSA h0 h1 h2 h3
      go_wp2_with fail
      refine (refuse_any HSA.out 40).mono ?_
      rintro e w3 ⟨rfl, hs3, hf3⟩
      have HS3 := hidden hs3
      have HF3 := hidden (HF2.out.trans (hf3.mono HF2.out.size))
      clear hs3 hf3
      go_wp2_with fail
      go_ret
      rw [HW.out.1, HW.out.2]
      exact ⟨rfl, HS3.out, HF3.out⟩
    · have hh : (n : Int) > (hi : Int) := by omega
      clear hb
      go_enter Try.func57, Try.ntmps57
      go_wp2_with fail
      refine HG.out.mono ?_
      rintro e w1 ⟨rfl, rfl⟩
      go_wp2_with fail
      refine (refuse_any HS.out c).mono ?_
      rintro e w2 ⟨rfl, hs2, hf2⟩
      obtain ⟨G, Off, Cap, k0, k1, k2, k3, k4, k5, k6, k7, k8, k9⟩ := hs2.cells
      obtain ⟨A, hA, hSA⟩ := k9 u g2
      have HSA := hidden hSA
      have HF2 := hidden (hf2.set 0 (.slice A (b.length - u) (Cap - u)))
      clear hs2 hf2 k8 k9 k6 hSA h0 h1 h2 h3
      go_wp2_with fail
      refine (refuse_any HSA.out 40).mono ?_
      rintro e w3 ⟨rfl, hs3, hf3⟩
      have HS3 := hidden hs3
      have HF3 := hidden (HF2.out.trans (hf3.mono HF2.out.size))
      clear hs3 hf3
      go_wp2_with fail
      go_ret
      rw [HW.out.1, HW.out.2]
      exact ⟨rfl, HS3.out, HF3.out⟩
  · have HW : Hid (within lo hi n = n ∧ withinF lo hi n (orf f c) = orf f c) := ⟨if_neg hb, if_neg hb⟩
    have hl : ¬ (n : Int) < (lo : Int) := by omega
    have hh : ¬ (n : Int) > (hi : Int) := by omega
    clear hb
    go_enter Try.func57, Try.ntmps57
    go_wp2_with fail
    refine HG.out.mono ?_
    rintro e w1 ⟨rfl, rfl⟩
    go_wp2_with fail
    refine (refuse_any HS.out c).mono ?_
    rintro e w2 ⟨rfl, hs2, hf2⟩
    obtain ⟨G, Off, Cap, k0, k1, k2, k3, k4, k5, k6, k7, k8, k9⟩ := hs2.cells
    obtain ⟨A, hA, hSA⟩ := k9 u g2
    have HSA := hidden hSA
    have HF2 := hidden (hf2.set 0 (.slice A (b.length - u) (Cap - u)))
    clear hs2 hf2 k8 k9 k6 hSA h0 h1 h2 h3
    go_wp2_with fail
    go_ret
    rw [HW.out.1, HW.out.2]
    exact ⟨rfl, HSA.out, HF2.out⟩

/-- What packed tells, and the state behind it. -/
def pkL (n w : Nat) (b : List Nat) : List Nat := if b.length < by8 (n * w) then [] else unR (b.take (by8 (n * w))) n w
def pkB (n w : Nat) (b : List Nat) : List Nat := if b.length < by8 (n * w) then b else b.drop (by8 (n * w))
def pkF (n w : Nat) (b : List Nat) (f : Nat) : Nat :=
  if b.length < by8 (n * w) then orf f 30 else orf (orf f (if (b.drop (by8 (n * w))).length = 0 then 0 else 32)) (unE (b.take (by8 (n * w))) n w)

theorem vals_take (k : IntKind) (l : List Nat) (n : Nat) : vals k (l.take n) = (vals k l).take n := by simp [vals, List.map_take]

set_option maxRecDepth 100000 in
set_option maxHeartbeats 2000000 in
theorem packed_any {w : World} {p f : Nat} {b : List Nat} (h : St 53 w p b f) (n ww : Nat) (hn : n ≤ 256) (hww : ww ≤ 64) :
    Calls Try.prog 59 #[.pointer (some ⟨p, 0, none⟩), .int .i64 (n : Int), .int .i64 (ww : Int)] w fun r w' => (∃ v, r = .returned v ∧ OwnU w' w.heap.size v (pkL n ww b)) ∧ St 53 w' p (pkB n ww b) (pkF n ww b f) ∧ Fr p w.heap.size w w' := by
  have HS := hidden h
  have HB := hidden h.bs
  have hlt := h.lt
  obtain ⟨g, off, cap, h0, h1, h2, h3, h4, h5, h6, h7, h8, h9⟩ := h.cells
  have hc : n * ww ≤ 16384 := Nat.le_trans (Nat.mul_le_mul hn hww) (by omega)
  have hmul : (n : Int) * (ww : Int) = ((n * ww : Nat) : Int) := by simp
  have hby2 : (((n * ww : Nat) : Int) + 8 - 1) / 8 = ((by8 (n * ww) : Nat) : Int) := by unfold by8; omega
  have hbl : by8 (n * ww) ≤ 2048 := by unfold by8; omega
  have HL : Hid (pkL n ww b = if b.length < by8 (n * ww) then [] else unR (b.take (by8 (n * ww))) n ww) := rfl
  have HBB : Hid (pkB n ww b = if b.length < by8 (n * ww) then b else b.drop (by8 (n * ww))) := rfl
  have HFF : Hid (pkF n ww b f = if b.length < by8 (n * ww) then orf f 30 else orf (orf f (if (b.drop (by8 (n * ww))).length = 0 then 0 else 32)) (unE (b.take (by8 (n * ww))) n ww)) := rfl
  have HSV := hidden h6
  clear h h6 h8 h9
  generalize by8 (n * ww) = L at *
  generalize n * ww = c at *
  generalize pkL n ww b = RL at *
  generalize pkB n ww b = RB at *
  generalize pkF n ww b f = RF at *
  by_cases hshort : (b.length : Int) < (L : Int)
  · have hs' : b.length < L := by omega
    rw [if_pos hs'] at HL HBB HFF
    clear hs'
    go_enter Try.func59, Try.ntmps59
    go_wp2_with fail
    refine (refuse_any HS.out 30).mono ?_
    rintro e w1 ⟨rfl, hs1, hf1⟩
    have HS1 := hidden hs1
    have HF1 := hidden hf1
    clear hs1 hf1
    go_wp2_with fail
    go_ret
    rw [HL.out, HBB.out, HFF.out]
    exact ⟨⟨_, rfl, OwnU.nil _ _⟩, HS1.out, HF1.out⟩
  · have hs' : ¬ b.length < L := by omega
    rw [if_neg hs'] at HL HBB HFF
    have HTK := hidden (HSV.out.take (k := L) (by rw [vals_length]; omega))
    rw [← vals_take] at HTK
    have HBT : Hid (Bs (b.take L)) := fun x hx => HB.out x (List.mem_of_mem_take hx)
    obtain ⟨g', off', cap', k0, k1, k2, k3, k4, k5, k6, k7, k8, k9⟩ := HS.out.cells
    rw [h0] at k0
    cases k0
    obtain ⟨A, hA, hSA⟩ := k9 L (by omega)
    have HSA := hidden hSA
    have HF2 := hidden ((Fr.refl p w.heap.size w).set 0 (.slice A (b.length - L) (cap - L)))
    clear hs' hSA k9 k8 k6 k1 k2 k3 k4 k5 k7
    go_enter Try.func59, Try.ntmps59
    go_wp2_with fail
    refine (end_any HSA.out).mono ?_
    rintro e w3 ⟨rfl, hs3, hf3⟩
    have HS3 := hidden hs3
    have hFr3 := HF2.out.trans (hf3.mono HF2.out.size)
    have HF3 := hidden hFr3
    have hz3 := hFr3.size
    have HTK3 : Hid (Sv w3 (.slice (some ⟨g, off, none⟩) L cap) (vals .u8 (b.take L))) := hidden (by
      obtain ⟨a', c', e1, e2, e3, e4, e5⟩ := HTK.out
      refine ⟨a', c', e1, e2, e3, e4, fun hp => ?_⟩
      obtain ⟨G, O, f1, f2, f3⟩ := e5 hp
      simp only [Value.slice.injEq] at e1
      rw [← e1.1] at f1
      cases f1
      refine ⟨g, off, e1.1.symm, by omega, fun j x hj => ?_⟩
      rw [World.cell?_of_block (w := w) (hFr3.block g (by omega) (by omega))]
      exact f3 j x hj)
    clear hs3 hf3 hFr3 h0 h1 h2 h3
    go_wp2_with fail
    refine (unpack_any HTK3.out.sx HBT.out (n : Int) (ww : Int)).mono ?_
    rintro e w4 ⟨v4, rfl, ho4, hb4⟩
    have HO4 := hidden ho4
    have hz4 := hb4.size
    have HS4 := hidden (HS3.out.kept hb4 (by omega))
    have HF4 := hidden (HF3.out.trans (Fr.of_below (hb4.mono hz3)))
    clear ho4 hb4
    go_wp2_with fail
    refine (refuse_any HS4.out _).mono ?_
    rintro e w5 ⟨rfl, hs5, hf5⟩
    have HS5 := hidden hs5
    have HO5 : Hid (OwnU w5 w.heap.size v4 (unR (b.take L) n ww)) := hidden (by
      have h1 : OwnU w4 w.heap.size v4 (unR (b.take L) n ww) := by
        obtain ⟨q1, q2⟩ := HO4.out
        refine ⟨q1, ?_⟩
        rcases q2 with q | ⟨a1, a2, a3, a4, a5, a6⟩
        · exact Or.inl q
        · exact Or.inr ⟨a1, a2, a3, a4, Nat.le_trans hz3 a5, a6⟩
      exact hf5.own h1 hlt)
    have HF5 := hidden (HF4.out.trans (hf5.mono (by omega)))
    clear hs5 hf5
    go_wp2_with fail
    go_ret
    rw [HL.out, HBB.out, HFF.out]
    exact ⟨⟨_, rfl, HO5.out⟩, HS5.out, HF5.out⟩
end Go.Proofs.Ytnlanilejhjkkaa
