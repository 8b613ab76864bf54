/- Contract: the document's Open. -/
import Derived.Test.YtnedlogfgpgchaaDoorRef
import Derived.Deep.RegionWith
import Derived.Deep.RegionHeld3
set_option linter.unusedVariables false
set_option linter.unusedSimpArgs false
namespace Go.Proofs.YtnedlogfgpgchaaDoor
open Go.RowKit Go.Lib

theorem below_drewN {B : Nat} {w w' : World} (h : Below B w w') : ∀ n, Below B w (w'.drewN n)
  | 0 => h
  | n + 1 => (below_drewN h n).drew

set_option maxRecDepth 100000 in
set_option maxHeartbeats 4000000 in
theorem refOpen_any {w : World} {v : Value} {l : List Nat} (hs : Sv w v l) (h8 : Bs l) (hl : l.length ≤ 30000) :
    Calls Tryd.prog 14 #[v] w fun e w' => (∃ u, e = .returned (.tuple #[u, .bool (openM l).isSome]) ∧ Sv w' u ((openM l).getD [])) ∧ Below w.heap.size w w' := by
  have HS := hidden hs
  have H8 := hidden h8
  obtain ⟨a, cap, rfl, h1, h2⟩ := hs.form
  have hm2 : l.length ≤ 9223372036854775807 := by omega
  by_cases h4 : l.length < 4
  · rw [openM_short h4]
    have hlt : (l.length : Int) < 4 := by omega
    have hl4 : l.length ≤ 4 := by omega
    clear hs h8 h1 h2 h4 HS H8 hm2
    generalize l.length = L at *
    go_enter Tryd.func14, Tryd.ntmps14
    go_wp2_with fail
    go_quiet (fail)
    go_wp2_with fail
    go_ret2
    exact ⟨⟨_, rfl, Sv.nil _⟩, below_drewN (Below.refl _ _) _⟩
  · obtain ⟨n, hn⟩ : ∃ n, l.length = n + 4 := ⟨l.length - 4, by omega⟩
    have hkn : n ≤ l.length := by omega
    obtain ⟨ad, rfl⟩ : ∃ ad, a = some ad := by
      obtain ⟨a', c', e1, _, _, _, h5⟩ := hs
      simp only [Value.slice.injEq] at e1
      obtain ⟨rfl, _, _⟩ := e1
      obtain ⟨b, off, h6, _⟩ := h5 (by omega)
      exact ⟨_, h6⟩
    have hA := hs.take hkn
    have HA := hidden hA
    have HOP : Hid (openM l = if sealM (l.take n) = l then some (l.take n) else none) := by
      show _ = _
      unfold openM
      rw [hn, Nat.add_sub_cancel]
      simp
    have hlen : (l.take n).length ≤ 30000 := by rw [List.length_take]; omega
    have HSE := hidden (refSeal_any (hA.kept (Below.refl w.heap.size w).drew) (h8.take n) hlen)
    have HBS := hidden (h8.take n).seal
    have HEQ := hidden (txt_beq HBS.out h8)
    have HCV := hidden (fun (W : World) (h : Below w.heap.size w W) => (HS.out.kept h).conv H8.out)
    have HCS := hidden (fun (W : World) (u : Value) (h : Sv W u (sealM (l.take n))) => h.conv HBS.out)
    unfold txt at HCV HCS
    have hncap : n ≤ cap := by omega
    obtain ⟨L, hL⟩ : ∃ L, l.length = L := ⟨_, rfl⟩
    have hlt : ¬ (L : Int) < 4 := by omega
    have hlt2 : (4 : Int) ≤ (L : Int) := by omega
    have hdec : decide ((L : Int) < 4) = false := decide_eq_false hlt
    have hwr : IntKind.i64.wrap ((L : Int) - 4) = (L : Int) - 4 := by rw [IntKind.wrap_i64]; omega
    have hb1 : (0 : Int) ≤ (L : Int) - 4 := by omega
    have hb2 : (L : Int) - 4 ≤ (cap : Int) := by omega
    have hb3 : ((L : Int) - 4).toNat = n := by omega
    have hnn : (0 : Int) ≤ (n : Int) := by omega
    have hcap0 : ¬ cap = 0 := by omega
    have hnc : (n : Int) ≤ (cap : Int) := by omega
    have hL9 : L ≤ 30004 := by omega
    rw [hL] at HS HCV ⊢
    have hcs := HCV.out w.drew (Below.refl _ _).drew
    generalize openM l = R at *
    generalize sealM (l.take n) = M at *
    generalize l.take n = m at *
    clear hs h8 h1 h2 hA hm2 hlen hL hn hkn h4 hl
    go_enter Tryd.func14, Tryd.ntmps14
    go_wp2_with fail
    refine wp_region_noPanic ?_
    go_region_held (fun w' => (convert 23 9 (.slice (some ad) L cap)).run Tryd.prog w' = .ok (.string ⟨(l.map Nat.toUInt8).toArray⟩) w') (first | assumption | go_keep) (first | (go_at_call 15; refine HSE.out.mono ?_; rintro e w2 ⟨⟨u2, rfl, o2⟩, hb2⟩; have hcv := HCS.out _ _ o2.sv; have hk2 := HCV.out _ ((Below.refl _ _).drew.trans hb2); clear o2))
    refine NoPanic.normal ?_
    have HB2 := hidden ((Below.refl w.heap.size w).drew.trans hb2)
    have HA2 := hidden (HA.out.kept HB2.out)
    rw [HEQ.out]
    clear hcv hk2 hcs HCV HCS HEQ HSE hb2
    by_cases hyes : M = l
    · have HR : Hid (R = some m) := by show _ = _; rw [HOP.out, if_pos hyes]
      rw [decide_eq_true hyes]
      clear hyes HOP
      go_wp2_with fail
      go_ret2
      rw [HR.out]
      exact ⟨⟨_, rfl, HA2.out⟩, HB2.out⟩
    · have HR : Hid (R = none) := by show _ = _; rw [HOP.out, if_neg hyes]
      rw [decide_eq_false hyes]
      clear hyes HOP
      go_wp2_with fail
      go_ret2
      rw [HR.out]
      exact ⟨⟨_, rfl, Sv.nil _⟩, HB2.out⟩
end Go.Proofs.YtnedlogfgpgchaaDoor
