/- For any schema, names, kinds and row: what grew by fields may be; a row that fits, lifted, fits it and begins as it was; in two steps or in one is the same. No conditions. -/
import Derived.Test.YtkohejjkpofmgaaAlive
import Derived.Test.YtkohejjkpofmgaaAdd
import Derived.Test.YtkohejjkpofmgaaFit2
import Derived.Test.YtkohejjkpofmgaaLift
import Derived.Test.YtkohejjkpofmgaaGreat
import Derived.Test.YtkohejjkpofmgaaOpen
import Derived.Test.YtkohejjkpofmgaaStrs
import Derived.Test.YtkohejjkpofmgaaChk2
set_option linter.unusedVariables false
set_option linter.unusedSimpArgs false
namespace Go.Proofs.Ytkohejjkpofmgaa
namespace GrowsLaw
open Go.ChangeShapes Go.WideShapes Go.ChangeAt Go.RowKit Go.Lib
open Go.ChangeMaps (open_string shut_string)

set_option maxRecDepth 100000 in
set_option maxHeartbeats 8000000 in
theorem walk {w : World} {u : Value} {l : List Fd} (hs : Sf w u l) (ho : ∀ f ∈ l, Okf f) (id : Nat) (hid : id < 4294967296) {nv : Value} {nm : List ByteArray} (hn : Sv w nv (svals nm)) {kv : Value} {ks : List Nat} (hkv : Sv w kv (vals .u8 ks)) (hks : Bs ks) {cv : Value} {r : List (Nat × Int × List Nat)} (hc : Sc w cv r) (hoc : ∀ c ∈ r, Okc c) :
    Calls Try.prog 6 #[.agg #[.int .u32 (id : Int), u], nv, kv, cv] w fun e w' => e = .returned (.bool true) ∧ Below w.heap.size w w' := by
  have HO := hidden ho
  have HOC := hidden hoc
  have HKS := hidden hks
  obtain ⟨a, cap, rfl, hcap, hcm⟩ := hs.form
  obtain ⟨na, ncap, rfl, hncap, hncm⟩ := hn.form1
  obtain ⟨ka, kcap, rfl, hkcap, hkcm⟩ := hkv.form1
  obtain ⟨ca, ccap, rfl, hccap, hccm⟩ := hc.form
  rw [svals_length] at *
  rw [vals_length] at *
  have hb0 := below_one w (.cells #[.int .u32 (id : Int), .slice a l.length cap] 25)
  have hz : w.heap.size < (w.alloc (.cells #[.int .u32 (id : Int), .slice a l.length cap] 25)).heap.size := by rw [World.size_alloc]; omega
  have HT : Hid (∀ U, Below (w.alloc (.cells #[.int .u32 (id : Int), .slice a l.length cap] 25)).heap.size (w.alloc (.cells #[.int .u32 (id : Int), .slice a l.length cap] 25)) U → Sf U (.slice a l.length cap) l ∧ Sv U (.slice na nm.length ncap) (svals nm) ∧ Sv U (.slice ka ks.length kcap) (vals .u8 ks) ∧ Sc U (.slice ca r.length ccap) r ∧ U.cell? ⟨w.heap.size, 0, none⟩ = some (.int .u32 (id : Int)) ∧ U.cell? ⟨w.heap.size, 1, none⟩ = some (.slice a l.length cap)) := hidden (fun U h => by
    obtain ⟨c0, c1⟩ := cell_new2 w (.int .u32 (id : Int)) (.slice a l.length cap) 25
    exact ⟨(hs.kept hb0).kept h, (hn.kept hb0).kept h, (hkv.kept hb0).kept h, (hc.kept hb0).kept h, (h.cell (p := ⟨w.heap.size, 0, none⟩) hz).trans c0, (h.cell (p := ⟨w.heap.size, 1, none⟩) hz).trans c1⟩)
  have HB0 := hidden hb0
  have HSW := hidden hs
  have HZ := hidden hz
  clear hs hb0 ho hcap hcm hn hkv hks hc hoc hncap hncm hkcap hkcm hccap hccm hz
  generalize hW : w.alloc (.cells #[.int .u32 (id : Int), .slice a l.length cap] 25) = W at *
  go_enter Try.func6, Try.ntmps6
  go_wp2_with fail
  try rw [hW]
  clear hW
  refine (alive_any _).mono ?_
  rintro e w1 ⟨rfl, hb1⟩
  have HX1 := hidden hb1
  obtain ⟨hsf, _, _, _, c0, c1⟩ := HT.out _ hb1
  have HG := hidden (great_any hsf id)
  clear hb1 hsf
  go_wp2_with fail
  refine HG.out.mono ?_
  rintro e w2 ⟨⟨g, rfl, hg⟩, hb2⟩
  have HX2 := hidden (below_then HX1.out hb2)
  have HB2 := hidden (below_then HB0.out HX2.out)
  have HGG := hidden hg
  clear hg hb2 c0 c1 HG
  cases g with
  | true =>
    go_wp2_with fail
    go_ret
    exact ⟨rfl, HB2.out⟩
  | false =>
    by_cases hrl : (r.length : Int) > 100
    · go_wp2_with fail
      go_ret
      exact ⟨rfl, HB2.out⟩
    · have hr600 : r.length ≤ 600 := by omega
      have HFIN : Hid (∀ c ∈ r.map fixC, Fine c) := hidden (fun c hc => by
        obtain ⟨x, hx, rfl⟩ := List.mem_map.1 hc
        exact fixC_fine (HOC.out x hx))
      have HRW := hidden (row6_any (HT.out _ HX2.out).2.2.2.1 HOC.out hr600)
      generalize hFR : r.map fixC = FR at *
      clear hFR
      go_wp2_with fail
      refine HRW.out.mono ?_
      rintro e w3 ⟨⟨v3, rfl, o3⟩, hb3⟩
      obtain ⟨a3, cap3, rfl, _, _⟩ := own_slice o3
      have HX3 := hidden (below_then HX2.out hb3)
      have HO3 := hidden o3.sv
      clear hb3 o3 HRW
      obtain ⟨hsf, _, _, _, c0, c1⟩ := HT.out _ HX3.out
      have HFT := hidden (fit_any hsf HO3.out HFIN.out id)
      clear hsf
      go_wp2_with fail
      refine HFT.out.mono ?_
      rintro e w4 ⟨rfl, hb4⟩
      have HX4 := hidden (below_then HX3.out hb4)
      have HX34 := hidden hb4
      have HB4 := hidden (below_then HB0.out HX4.out)
      clear hb4 c0 c1 HFT
      by_cases hfit : fitM l FR = 0
      · have hfa : ((fitM l FR : Int) != 0) = false := by simp [hfit]
        have HFITM := hidden hfit
        clear hfit
        obtain ⟨hsf, _, _, _, c0, c1⟩ := HT.out _ HX4.out
        have HCK := hidden (check_sch hsf id)
        clear hsf
        go_wp2_with fail
        refine HCK.out.mono ?_
        rintro e w5 ⟨rfl, hb5⟩
        have HX5 := hidden (below_then HX4.out hb5)
        have HX35 := hidden (below_then HX34.out hb5)
        have HB5 := hidden (below_then HB0.out HX5.out)
        clear hb5 c0 c1 HCK
        by_cases hch : chk id l = 0
        · have hca : ((chk id l : Int) != 0) = false := by simp [hch]
          have HCHK := hidden hch
          clear hch
          obtain ⟨hsf, _, _, _, c0, c1⟩ := HT.out _ HX5.out
          clear hsf
          go_wp2_with fail
          have HLEN := hidden (fit_len HFITM.out)
          have HG0 : Hid (Gr w5 (w5.alloc (.cells #[.int .u32 (id : Int), .slice a l.length cap] 25)) (.slice a3 FR.length cap3) l FR id (.slice a l.length cap)) := by
            have hb := below_one w5 (.cells #[.int .u32 (id : Int), .slice a l.length cap] 25)
            have hs5 := (HT.out _ HX5.out).1
            have hv5 := HO3.out.kept HX35.out
            exact hidden ⟨hb, heap_alloc_new w5 _, hs5.kept hb, hs5.off (Nat.le_refl _), hv5.kept hb, hv5.off (Nat.le_refl _)⟩
          go_loopw [11, 12] (fun nv i wr => ∃ (k : Nat) (T : List Fd) (N : List Cl) (id' : Nat) (ta : Option Addr) (tcap : Nat) (va : Option Addr) (vcap : Nat), k ≤ 12 ∧ i = .int .i64 (k : Int) ∧ nv = .slice va N.length vcap ∧ Gr w5 wr nv T N id' (.slice ta T.length tcap) ∧ Grw l FR T N id') (fun _ i _ => 12 - (intOf i).toNat)
          case atStart => exact ⟨0, l, FR, id, a, cap, a3, cap3, by omega, rfl, rfl, HG0.out, Grw.start HO.out HCHK.out hid⟩
          case round =>
            obtain ⟨k, T, N, id', ta, tcap, va, vcap, hk12, rfl, rfl, hgr, hgw⟩ := hrel
            have HGR := hidden hgr
            have HGW := hidden hgw
            have HXR := hidden (below_then HX5.out hgr.1)
            obtain ⟨⟨t0, t1⟩, z0, z1⟩ := hgr.facts
            obtain ⟨_, hsn, hsk, _, c0, c1⟩ := HT.out _ HXR.out
            obtain ⟨hT8, hT0, hNT, hl8⟩ := hgw.sizes HLEN.out
            obtain ⟨hok', hchk', hid'⟩ := hgw.okf
            have HOK' := hidden hok'
            have HCH' := hidden hchk'
            have HNT := hidden hNT
            clear hgr hgw hok' hchk' hNT
            by_cases hb1 : k < nm.length ∧ k < 12 ∧ k < ks.length
            · obtain ⟨hk1, hk2, hk3⟩ := hb1
              have hk1' : (k : Int) < (nm.length : Int) := by omega
              have hk2' : (k : Int) < 12 := by omega
              have hk3' : (k : Int) < (ks.length : Int) := by omega
              have hk0' : (0 : Int) ≤ (k : Int) := by omega
              have hkn : ((k : Int)).toNat = k := by omega
              obtain ⟨nb, noff, rfl, hnb, hnc⟩ := hsn.at1 (svals_get hk1)
              obtain ⟨kb, koff, rfl, hkb, hkc⟩ := hsk.at1 (vals_get hk3)
              have HK256 : Hid (ks[k] < 256) := hidden (HKS.out _ (List.getElem_mem _))
              have HADD : Hid (∀ U, Below wr.heap.size wr U → Calls Try.prog 11 #[.agg #[.int .u32 (id' : Int), .slice ta T.length tcap], .string nm[k], .int .u8 (ks[k] : Int)] U (AddPost U (addM id' T nm[k] ks[k]))) := hidden (fun U h => add_any (HGR.out.kept h).2.2.1 id' hid' HOK'.out _ _)
              have HNX := hidden (fun (he : (addM id' T nm[k] ks[k]).2.2 = 0) => HGW.out.next HLEN.out HK256.out he)
              have hnz : nm[k].size ≤ 9223372036854775807 ∨ True := .inr trivial
              generalize nm[k] = nk at *
              generalize ks[k] = kk at *
              clear hsn hsk hnz
              by_cases hn1000 : (nk.size : Int) > 1000
              · go_wp2_with fail
                go_ret
                exact ⟨rfl, below_then HB0.out HXR.out⟩
              · obtain ⟨ri, rl, re, hR⟩ : ∃ ri rl re, addM id' T nk kk = (ri, rl, re) := ⟨_, _, _, rfl⟩
                rw [hR] at HADD HNX
                clear hR
                have hqlt := HGR.out.lt
                have hne1 : ¬ wr.heap.size = w5.heap.size := by omega
                have hne2 : ¬ wr.heap.size = nb := by omega
                have hne3 : ¬ wr.heap.size = kb := by omega
                have HKEEP : Hid (∀ U, Below wr.heap.size wr U → U.cell? ⟨w5.heap.size, 0, none⟩ = some (.int .u32 (id' : Int)) ∧ U.cell? ⟨w5.heap.size, 1, none⟩ = some (.slice ta T.length tcap) ∧ U.cell? ⟨nb, noff + k, none⟩ = some (.string nk) ∧ U.cell? ⟨kb, koff + k, none⟩ = some (.int .u8 (kk : Int))) := hidden (fun U h => ⟨(h.cell (p := ⟨w5.heap.size, 0, none⟩) hqlt).trans t0, (h.cell (p := ⟨w5.heap.size, 1, none⟩) hqlt).trans t1, (h.cell (p := ⟨nb, noff + k, none⟩) hnb).trans hnc, (h.cell (p := ⟨kb, koff + k, none⟩) hkb).trans hkc⟩)
                have HCL : Hid (∀ m, Calls Try.prog 11 #[.agg #[.int .u32 (id' : Int), .slice ta T.length tcap], .string nk, .int .u8 (kk : Int)] (wr.drewN m) fun e w' => ∃ va' vc', e = .returned (.tuple #[.agg #[.int .u32 (ri : Int), .slice va' rl.length vc'], .int .i64 (re : Int)]) ∧ OwnF w' wr.heap.size (.slice va' rl.length vc') rl ∧ Below wr.heap.size wr w' ∧ (¬ w'.heap.size = w5.heap.size ∧ ¬ w'.heap.size = nb ∧ ¬ w'.heap.size = kb) ∧ (w'.cell? ⟨w5.heap.size, 0, none⟩ = some (.int .u32 (id' : Int)) ∧ w'.cell? ⟨w5.heap.size, 1, none⟩ = some (.slice ta T.length tcap) ∧ w'.cell? ⟨nb, noff + k, none⟩ = some (.string nk) ∧ w'.cell? ⟨kb, koff + k, none⟩ = some (.int .u8 (kk : Int)))) := hidden (fun m => by
                  have hbd : Below wr.heap.size wr (wr.drewN m) := below_drewN (Below.refl wr.heap.size wr) m
                  refine (HADD.out _ hbd).mono ?_
                  rintro e w' ⟨⟨v', rfl, o'⟩, hb'⟩
                  obtain ⟨va', vc', rfl, _, _⟩ := own_slice o'
                  have hb2 := below_then hbd hb'
                  have hz2 := hb2.size
                  exact ⟨va', vc', rfl, own_low o' hbd.size, hb2, ⟨by omega, by omega, by omega⟩, HKEEP.out _ hb2⟩)
                have HCL2 : Hid (∀ U, Below (wr.alloc (.cells #[.int .u32 0, .slice none 0 0] 25)).heap.size (wr.alloc (.cells #[.int .u32 0, .slice none 0 0] 25)) U → Calls Try.prog 11 #[.agg #[.int .u32 (id' : Int), .slice ta T.length tcap], .string nk, .int .u8 (kk : Int)] U fun e w' => ∃ va' vc', e = .returned (.tuple #[.agg #[.int .u32 (ri : Int), .slice va' rl.length vc'], .int .i64 (re : Int)]) ∧ OwnF w' (wr.heap.size + 1) (.slice va' rl.length vc') rl ∧ Below wr.heap.size wr w' ∧ w'.heap[wr.heap.size]? = some (.cells #[.int .u32 0, .slice none 0 0] 25) ∧ (w'.frozen? ⟨wr.heap.size, 0, none⟩ = false ∧ w'.frozen? ⟨wr.heap.size, 1, none⟩ = false ∧ w'.cell? ⟨wr.heap.size, 0, none⟩ = some (.int .u32 0) ∧ w'.cell? ⟨wr.heap.size, 1, none⟩ = some (.slice none 0 0)) ∧ (w'.cell? ⟨w5.heap.size, 0, none⟩ = some (.int .u32 (id' : Int)) ∧ w'.cell? ⟨w5.heap.size, 1, none⟩ = some (.slice ta T.length tcap) ∧ w'.cell? ⟨nb, noff + k, none⟩ = some (.string nk) ∧ w'.cell? ⟨kb, koff + k, none⟩ = some (.int .u8 (kk : Int)))) := hidden (fun U hU => by
                  have hbd : Below wr.heap.size wr U := below_then (below_one wr _) hU
                  refine (HADD.out _ hbd).mono ?_
                  rintro e w' ⟨⟨v', rfl, o'⟩, hb'⟩
                  obtain ⟨va', vc', rfl, _, _⟩ := own_slice o'
                  have hb2 := below_then hbd hb'
                  have hzz : (wr.alloc (.cells #[.int .u32 0, .slice none 0 0] 25)).heap.size = wr.heap.size + 1 := World.size_alloc _ _
                  have hh : w'.heap[wr.heap.size]? = some (.cells #[.int .u32 0, .slice none 0 0] 25) := ((below_then hU hb').block _ (by omega)).trans (heap_alloc_new wr _)
                  exact ⟨va', vc', rfl, own_low o' (by have := hU.size; omega), hb2, hh, ⟨by simp [World.frozen?, hh], by simp [World.frozen?, hh], by rw [cell_block hh]; rfl, by rw [cell_block hh]; rfl⟩, HKEEP.out _ hb2⟩)
                go_wp2_with fail
                go_region_held3 (fun w' => w'.cell? ⟨w5.heap.size, 0, none⟩ = some (.int .u32 (id' : Int)) ∧ w'.cell? ⟨w5.heap.size, 1, none⟩ = some (.slice ta T.length tcap) ∧ w'.cell? ⟨nb, noff + k, none⟩ = some (.string nk) ∧ w'.cell? ⟨kb, koff + k, none⟩ = some (.int .u8 (kk : Int))) (first | assumption | go_keep) (first
                  | (go_at_call 11; refine (HCL.out _).mono ?_; rintro e w6 ⟨va6, vc6, rfl, o6, hb6, ⟨h61, h62, h63⟩, hkk⟩; have HO6 := hidden o6; have HB6 := hidden hb6; clear o6 hb6)
                  | (go_at_call 11; refine (HCL2.out _ (Below.refl _ _).drew).mono ?_; rintro e w6 ⟨va6, vc6, rfl, o6, hb6, hh6, ⟨y0, y1, y2, y3⟩, hkk⟩; have HO6 := hidden o6; have HB6 := hidden hb6; have HH6 := hidden hh6; clear o6 hb6 hh6))
                · clear hkk hnc hkc t0 t1 z0 z1 c0 c1 h61 h62 h63 hne1 hne2 hne3
                  have HUX := hidden (Ux.one (ri := ri) HO6.out HB6.out)
                  generalize hX : w6.alloc (.cells #[.int .u32 (ri : Int), .slice va6 rl.length vc6] 25) = X at *
                  generalize w6.heap.size = p at *
                  obtain ⟨x0, x1⟩ := HUX.out.facts
                  obtain ⟨⟨t0, t1⟩, z0, z1⟩ := (HGR.out.kept HUX.out.1).facts
                  by_cases hre : re = 0
                  · have hrea : ((re : Int) != 0) = false := by simp [hre]
                    obtain ⟨f, hR2, hgw2, hlift, hT7, hchk2, hid2⟩ := HNX.out hre
                    simp only [Prod.mk.injEq] at hR2
                    obtain ⟨hri, hrl, _⟩ := hR2
                    have hwid : IntKind.u32.wrap ((id' : Int) + 1) = (ri : Int) := by rw [IntKind.wrap_u32, hri]; omega
                    have hll : rl.length = T.length + 1 := by rw [hrl]; simp
                    have hwl : IntKind.i64.wrap ((T.length : Int) + 1) = (rl.length : Int) := by rw [IntKind.wrap_i64, hll]; omega
                    have hl100 : rl.length ≤ 100 := by omega
                    have HCK := hidden (check_sch HUX.out.2.2.2.sf ri)
                    have HLIFT : Hid (liftM T rl N = N ++ [nul]) := by rw [hrl]; exact hidden hlift
                    have HGW2 : Hid (Grw l FR rl (N ++ [nul]) ri) := by rw [hrl, hri]; exact hidden hgw2
                    have hce : chk ri rl = 0 := by rw [hrl, hri]; exact hchk2
                    rw [hce] at HCK
                    clear hce hchk2 hgw2 hlift hri hrl hre hll HNX
                    go_wp2_with fail
                    try rw [hX]
                    clear hX
                    refine HCK.out.mono ?_
                    rintro e w7 ⟨rfl, hb7⟩
                    have HUX7 := hidden (HUX.out.kept hb7)
                    have HGR7 := hidden ((HGR.out.kept HUX.out.1).kept hb7)
                    clear hb7 x0 x1 t0 t1 z0 z1
                    obtain ⟨x0, x1⟩ := HUX7.out.facts
                    obtain ⟨⟨t0, t1⟩, z0, z1⟩ := HGR7.out.facts
                    have HLF := hidden (lift_any HGR7.out.2.2.1 HUX7.out.2.2.2.sf HGR7.out.2.2.2.2.1 hl100 id' ri)
                    rw [HLIFT.out] at HLF
                    go_wp2_with fail
                    refine HLF.out.mono ?_
                    rintro e w8 ⟨⟨v8, rfl, o8⟩, hb8⟩
                    obtain ⟨a8, cap8, hv8, _, _⟩ := own_slice o8
                    subst hv8
                    have HUX8 := hidden (HUX7.out.kept hb8)
                    have HGR8 := hidden (HGR7.out.kept hb8)
                    have HSV8 := hidden o8.sv
                    have HOF8 := hidden (own_off (q := w5.heap.size) o8 HGR7.out.lt)
                    have HOT8 := hidden (own_off (q := w5.heap.size) HUX8.out.2.2.2 hqlt)
                    clear hb8 o8 x0 x1 t0 t1 z0 z1
                    obtain ⟨x0, x1⟩ := HUX8.out.facts
                    obtain ⟨⟨t0, t1⟩, z0, z1⟩ := HGR8.out.facts
                    have hwk : IntKind.i64.wrap ((k : Int) + 1) = ((k + 1 : Nat) : Int) := by rw [IntKind.wrap_i64]; omega
                    go_wp2_with fail
                    exact ⟨⟨k + 1, rl, N ++ [nul], ri, va6, vc6, a8, cap8, by omega, rfl, by simp, by first | exact HGR8.out.next HUX8.out.2.2.2.sf HOT8.out HSV8.out HOF8.out | simpa using HGR8.out.next HUX8.out.2.2.2.sf HOT8.out HSV8.out HOF8.out, HGW2.out⟩, by simp only [intOf]; omega⟩
                  · have hrea : ((re : Int) != 0) = true := by simp [hre]
                    have hwk : IntKind.i64.wrap ((k : Int) + 1) = ((k + 1 : Nat) : Int) := by rw [IntKind.wrap_i64]; omega
                    clear hre HNX
                    go_wp2_with fail
                    try rw [hX]
                    exact ⟨⟨k + 1, T, N, id', ta, tcap, va, vcap, by omega, rfl, rfl, HGR.out.kept HUX.out.1, HGW.out⟩, by simp only [intOf]; omega⟩
                · clear hkk hnc hkc t0 t1 z0 z1 c0 c1 y0 y1 y2 y3 hne1 hne2 hne3
                  have HUX := hidden (Ux.two (ri := ri) HO6.out HB6.out HH6.out)
                  generalize hX : (w6.setCell ⟨wr.heap.size, 0, none⟩ (.int .u32 (ri : Int))).setCell ⟨wr.heap.size, 1, none⟩ (.slice va6 rl.length vc6) = X at *
                  obtain ⟨x0, x1⟩ := HUX.out.facts
                  obtain ⟨⟨t0, t1⟩, z0, z1⟩ := (HGR.out.kept HUX.out.1).facts
                  by_cases hre : re = 0
                  · have hrea : ((re : Int) != 0) = false := by simp [hre]
                    obtain ⟨f, hR2, hgw2, hlift, hT7, hchk2, hid2⟩ := HNX.out hre
                    simp only [Prod.mk.injEq] at hR2
                    obtain ⟨hri, hrl, _⟩ := hR2
                    have hwid : IntKind.u32.wrap ((id' : Int) + 1) = (ri : Int) := by rw [IntKind.wrap_u32, hri]; omega
                    have hll : rl.length = T.length + 1 := by rw [hrl]; simp
                    have hwl : IntKind.i64.wrap ((T.length : Int) + 1) = (rl.length : Int) := by rw [IntKind.wrap_i64, hll]; omega
                    have hl100 : rl.length ≤ 100 := by omega
                    have HCK := hidden (check_sch HUX.out.2.2.2.sf ri)
                    have HLIFT : Hid (liftM T rl N = N ++ [nul]) := by rw [hrl]; exact hidden hlift
                    have HGW2 : Hid (Grw l FR rl (N ++ [nul]) ri) := by rw [hrl, hri]; exact hidden hgw2
                    have hce : chk ri rl = 0 := by rw [hrl, hri]; exact hchk2
                    rw [hce] at HCK
                    clear hce hchk2 hgw2 hlift hri hrl hre hll HNX
                    go_wp2_with fail
                    try rw [hX]
                    clear hX
                    refine HCK.out.mono ?_
                    rintro e w7 ⟨rfl, hb7⟩
                    have HUX7 := hidden (HUX.out.kept hb7)
                    have HGR7 := hidden ((HGR.out.kept HUX.out.1).kept hb7)
                    clear hb7 x0 x1 t0 t1 z0 z1
                    obtain ⟨x0, x1⟩ := HUX7.out.facts
                    obtain ⟨⟨t0, t1⟩, z0, z1⟩ := HGR7.out.facts
                    have HLF := hidden (lift_any HGR7.out.2.2.1 HUX7.out.2.2.2.sf HGR7.out.2.2.2.2.1 hl100 id' ri)
                    rw [HLIFT.out] at HLF
                    go_wp2_with fail
                    refine HLF.out.mono ?_
                    rintro e w8 ⟨⟨v8, rfl, o8⟩, hb8⟩
                    obtain ⟨a8, cap8, hv8, _, _⟩ := own_slice o8
                    subst hv8
                    have HUX8 := hidden (HUX7.out.kept hb8)
                    have HGR8 := hidden (HGR7.out.kept hb8)
                    have HSV8 := hidden o8.sv
                    have HOF8 := hidden (own_off (q := w5.heap.size) o8 HGR7.out.lt)
                    have HOT8 := hidden (own_off (q := w5.heap.size) HUX8.out.2.2.2 hqlt)
                    clear hb8 o8 x0 x1 t0 t1 z0 z1
                    obtain ⟨x0, x1⟩ := HUX8.out.facts
                    obtain ⟨⟨t0, t1⟩, z0, z1⟩ := HGR8.out.facts
                    have hwk : IntKind.i64.wrap ((k : Int) + 1) = ((k + 1 : Nat) : Int) := by rw [IntKind.wrap_i64]; omega
                    go_wp2_with fail
                    exact ⟨⟨k + 1, rl, N ++ [nul], ri, va6, vc6, a8, cap8, by omega, rfl, by simp, by first | exact HGR8.out.next HUX8.out.2.2.2.sf HOT8.out HSV8.out HOF8.out | simpa using HGR8.out.next HUX8.out.2.2.2.sf HOT8.out HSV8.out HOF8.out, HGW2.out⟩, by simp only [intOf]; omega⟩
                  · have hrea : ((re : Int) != 0) = true := by simp [hre]
                    have hwk : IntKind.i64.wrap ((k : Int) + 1) = ((k + 1 : Nat) : Int) := by rw [IntKind.wrap_i64]; omega
                    clear hre HNX
                    go_wp2_with fail
                    try rw [hX]
                    exact ⟨⟨k + 1, T, N, id', ta, tcap, va, vcap, by omega, rfl, rfl, HGR.out.kept HUX.out.1, HGW.out⟩, by simp only [intOf]; omega⟩
            · obtain ⟨he1, he2, he3, he4⟩ := HGW.out.ends HFITM.out
              have HFN := hidden (HGW.out.fine HFIN.out)
              have hN600 : N.length ≤ 600 := by have := HNT.out; omega
              have hF600 : FR.length ≤ 600 := by have := HLEN.out; omega
              have hT100 : T.length ≤ 100 := by omega
              have hl100 : l.length ≤ 100 := by omega
              have HALL : Hid (∀ U, Below wr.heap.size wr U → (U.cell? ⟨w.heap.size, 0, none⟩ = some (.int .u32 (id : Int)) ∧ U.cell? ⟨w.heap.size, 1, none⟩ = some (.slice a l.length cap)) ∧ (U.cell? ⟨w5.heap.size, 0, none⟩ = some (.int .u32 (id' : Int)) ∧ U.cell? ⟨w5.heap.size, 1, none⟩ = some (.slice ta T.length tcap)) ∧ Sf U (.slice a l.length cap) l ∧ Sf U (.slice ta T.length tcap) T ∧ Sv U (.slice va N.length vcap) (vvals N) ∧ Sv U (.slice a3 FR.length cap3) (vvals FR)) := hidden (fun U h => by
                obtain ⟨g1, _, _, _, g2, g3⟩ := HT.out _ (below_then HXR.out h)
                have g := HGR.out.kept h
                exact ⟨⟨g2, g3⟩, g.facts.1, g1, g.2.2.1, g.2.2.2.2.1, (HO3.out.kept (below_then HX35.out HGR.out.1)).kept h⟩)
              have HC1 : Hid (∀ U, Below wr.heap.size wr U → Calls Try.prog 18 #[.agg #[.int .u32 (id' : Int), .slice ta T.length tcap], .slice va N.length vcap] U fun e w' => e = .returned (.int .i64 0) ∧ Below wr.heap.size wr w') := hidden (fun U h => by
                obtain ⟨_, _, g1, g2, g3, g4⟩ := HALL.out U h
                have hc := fit_any g2 g3 HFN.out id'
                rw [he1] at hc
                exact hc.mono (by rintro e w' ⟨rfl, hb⟩; exact ⟨rfl, below_then h hb⟩))
              have HC2 : Hid (∀ U, Below wr.heap.size wr U → Calls Try.prog 24 #[.agg #[.int .u32 (id : Int), .slice a l.length cap], .agg #[.int .u32 (id' : Int), .slice ta T.length tcap], .slice a3 FR.length cap3] U fun e w' => ∃ v', e = .returned v' ∧ Sv w' v' (vvals N) ∧ Below wr.heap.size wr w') := hidden (fun U h => by
                obtain ⟨_, _, g1, g2, g3, g4⟩ := HALL.out U h
                have hc := lift_any g1 g2 g4 hT100 id id'
                rw [he2] at hc
                exact hc.mono (by rintro e w' ⟨⟨v', rfl, o⟩, hb⟩; exact ⟨v', rfl, o.sv, below_then h hb⟩))
              have HC3 : Hid (∀ U v, Below wr.heap.size wr U → Sv U v (vvals N) → Calls Try.prog 26 #[.slice va N.length vcap, v] U fun e w' => e = .returned (.bool true) ∧ Below wr.heap.size wr w') := hidden (fun U v h hv => by
                obtain ⟨_, _, g1, g2, g3, g4⟩ := HALL.out U h
                have hc := alike_any g3 hv HFN.out HFN.out hN600 hN600
                rw [decide_eq_true rfl] at hc
                exact hc.mono (by rintro e w' ⟨rfl, hb⟩; exact ⟨rfl, below_then h hb⟩))
              have HC4 : Hid (∀ U, Below wr.heap.size wr U → Calls Try.prog 24 #[.agg #[.int .u32 (id : Int), .slice a l.length cap], .agg #[.int .u32 (id : Int), .slice a l.length cap], .slice a3 FR.length cap3] U fun e w' => ∃ v', e = .returned v' ∧ Sv w' v' (vvals FR) ∧ Below wr.heap.size wr w') := hidden (fun U h => by
                obtain ⟨_, _, g1, g2, g3, g4⟩ := HALL.out U h
                have hc := lift_any g1 g1 g4 hl100 id id
                rw [he3] at hc
                exact hc.mono (by rintro e w' ⟨⟨v', rfl, o⟩, hb⟩; exact ⟨v', rfl, o.sv, below_then h hb⟩))
              have HC5 : Hid (∀ U v, Below wr.heap.size wr U → Sv U v (vvals FR) → Calls Try.prog 26 #[v, .slice a3 FR.length cap3] U fun e w' => e = .returned (.bool true) ∧ Below wr.heap.size wr w') := hidden (fun U v h hv => by
                obtain ⟨_, _, g1, g2, g3, g4⟩ := HALL.out U h
                have hc := alike_any hv g4 HFIN.out HFIN.out hF600 hF600
                rw [decide_eq_true rfl] at hc
                exact hc.mono (by rintro e w' ⟨rfl, hb⟩; exact ⟨rfl, below_then h hb⟩))
              have HC6 : Hid (∀ U, Below wr.heap.size wr U → Calls Try.prog 24 #[.agg #[.int .u32 (id' : Int), .slice ta T.length tcap], .agg #[.int .u32 (id : Int), .slice a l.length cap], .slice va N.length vcap] U fun e w' => ∃ v', e = .returned v' ∧ Sv w' v' (vvals FR) ∧ Below wr.heap.size wr w') := hidden (fun U h => by
                obtain ⟨_, _, g1, g2, g3, g4⟩ := HALL.out U h
                have hc := lift_any g2 g1 g3 hl100 id' id
                rw [he4] at hc
                exact hc.mono (by rintro e w' ⟨⟨v', rfl, o⟩, hb⟩; exact ⟨v', rfl, o.sv, below_then h hb⟩))
              clear hsn hsk he1 he2 he3 he4 z0 z1
              by_cases hk1 : k < nm.length
              · have hk1' : (k : Int) < (nm.length : Int) := by omega
                by_cases hk2 : k < 12
                · have hk2' : (k : Int) < 12 := by omega
                  have hk3' : ¬ (k : Int) < (ks.length : Int) := by omega
                  go_wp2_with fail
                  refine (HC1.out _ (Below.refl _ _)).mono ?_
                  rintro e w6 ⟨rfl, hx6⟩
                  have HX6 := hidden hx6
                  obtain ⟨⟨c0, c1⟩, ⟨t0, t1⟩, _⟩ := HALL.out _ hx6
                  clear hx6
                  go_wp2_with fail
                  refine (HC2.out _ HX6.out).mono ?_
                  rintro e w7 ⟨v7, rfl, hs7, hx7⟩
                  have HX7 := hidden hx7
                  have HS7 := hidden hs7
                  clear hx7 hs7 c0 c1 t0 t1
                  go_wp2_with fail
                  refine (HC3.out _ _ HX7.out HS7.out).mono ?_
                  rintro e w8 ⟨rfl, hx8⟩
                  have HX8 := hidden hx8
                  obtain ⟨⟨c0, c1⟩, ⟨t0, t1⟩, _⟩ := HALL.out _ hx8
                  clear hx8
                  go_wp2_with fail
                  refine (HC4.out _ HX8.out).mono ?_
                  rintro e w9 ⟨v9, rfl, hs9, hx9⟩
                  have HX9 := hidden hx9
                  have HS9 := hidden hs9
                  clear hx9 hs9 c0 c1 t0 t1
                  go_wp2_with fail
                  refine (HC5.out _ _ HX9.out HS9.out).mono ?_
                  rintro e w10 ⟨rfl, hx10⟩
                  have HX10 := hidden hx10
                  obtain ⟨⟨c0, c1⟩, ⟨t0, t1⟩, _⟩ := HALL.out _ hx10
                  clear hx10
                  go_wp2_with fail
                  refine (HC6.out _ HX10.out).mono ?_
                  rintro e w11 ⟨v11, rfl, hs11, hx11⟩
                  have HX11 := hidden hx11
                  have HS11 := hidden hs11
                  clear hx11 hs11 c0 c1 t0 t1
                  go_wp2_with fail
                  refine (HC5.out _ _ HX11.out HS11.out).mono ?_
                  rintro e w12 ⟨rfl, hx12⟩
                  have HX12 := hidden (below_then HB0.out (below_then HXR.out hx12))
                  clear hx12
                  go_wp2_with fail
                  go_ret
                  exact ⟨rfl, HX12.out⟩
                · have hk2' : ¬ (k : Int) < 12 := by omega
                  go_wp2_with fail
                  refine (HC1.out _ (Below.refl _ _)).mono ?_
                  rintro e w6 ⟨rfl, hx6⟩
                  have HX6 := hidden hx6
                  obtain ⟨⟨c0, c1⟩, ⟨t0, t1⟩, _⟩ := HALL.out _ hx6
                  clear hx6
                  go_wp2_with fail
                  refine (HC2.out _ HX6.out).mono ?_
                  rintro e w7 ⟨v7, rfl, hs7, hx7⟩
                  have HX7 := hidden hx7
                  have HS7 := hidden hs7
                  clear hx7 hs7 c0 c1 t0 t1
                  go_wp2_with fail
                  refine (HC3.out _ _ HX7.out HS7.out).mono ?_
                  rintro e w8 ⟨rfl, hx8⟩
                  have HX8 := hidden hx8
                  obtain ⟨⟨c0, c1⟩, ⟨t0, t1⟩, _⟩ := HALL.out _ hx8
                  clear hx8
                  go_wp2_with fail
                  refine (HC4.out _ HX8.out).mono ?_
                  rintro e w9 ⟨v9, rfl, hs9, hx9⟩
                  have HX9 := hidden hx9
                  have HS9 := hidden hs9
                  clear hx9 hs9 c0 c1 t0 t1
                  go_wp2_with fail
                  refine (HC5.out _ _ HX9.out HS9.out).mono ?_
                  rintro e w10 ⟨rfl, hx10⟩
                  have HX10 := hidden hx10
                  obtain ⟨⟨c0, c1⟩, ⟨t0, t1⟩, _⟩ := HALL.out _ hx10
                  clear hx10
                  go_wp2_with fail
                  refine (HC6.out _ HX10.out).mono ?_
                  rintro e w11 ⟨v11, rfl, hs11, hx11⟩
                  have HX11 := hidden hx11
                  have HS11 := hidden hs11
                  clear hx11 hs11 c0 c1 t0 t1
                  go_wp2_with fail
                  refine (HC5.out _ _ HX11.out HS11.out).mono ?_
                  rintro e w12 ⟨rfl, hx12⟩
                  have HX12 := hidden (below_then HB0.out (below_then HXR.out hx12))
                  clear hx12
                  go_wp2_with fail
                  go_ret
                  exact ⟨rfl, HX12.out⟩
              · have hk1' : ¬ (k : Int) < (nm.length : Int) := by omega
                go_wp2_with fail
                refine (HC1.out _ (Below.refl _ _)).mono ?_
                rintro e w6 ⟨rfl, hx6⟩
                have HX6 := hidden hx6
                obtain ⟨⟨c0, c1⟩, ⟨t0, t1⟩, _⟩ := HALL.out _ hx6
                clear hx6
                go_wp2_with fail
                refine (HC2.out _ HX6.out).mono ?_
                rintro e w7 ⟨v7, rfl, hs7, hx7⟩
                have HX7 := hidden hx7
                have HS7 := hidden hs7
                clear hx7 hs7 c0 c1 t0 t1
                go_wp2_with fail
                refine (HC3.out _ _ HX7.out HS7.out).mono ?_
                rintro e w8 ⟨rfl, hx8⟩
                have HX8 := hidden hx8
                obtain ⟨⟨c0, c1⟩, ⟨t0, t1⟩, _⟩ := HALL.out _ hx8
                clear hx8
                go_wp2_with fail
                refine (HC4.out _ HX8.out).mono ?_
                rintro e w9 ⟨v9, rfl, hs9, hx9⟩
                have HX9 := hidden hx9
                have HS9 := hidden hs9
                clear hx9 hs9 c0 c1 t0 t1
                go_wp2_with fail
                refine (HC5.out _ _ HX9.out HS9.out).mono ?_
                rintro e w10 ⟨rfl, hx10⟩
                have HX10 := hidden hx10
                obtain ⟨⟨c0, c1⟩, ⟨t0, t1⟩, _⟩ := HALL.out _ hx10
                clear hx10
                go_wp2_with fail
                refine (HC6.out _ HX10.out).mono ?_
                rintro e w11 ⟨v11, rfl, hs11, hx11⟩
                have HX11 := hidden hx11
                have HS11 := hidden hs11
                clear hx11 hs11 c0 c1 t0 t1
                go_wp2_with fail
                refine (HC5.out _ _ HX11.out HS11.out).mono ?_
                rintro e w12 ⟨rfl, hx12⟩
                have HX12 := hidden (below_then HB0.out (below_then HXR.out hx12))
                clear hx12
                go_wp2_with fail
                go_ret
                exact ⟨rfl, HX12.out⟩
        · have hca : ((chk id l : Int) != 0) = true := by simp [hch]
          go_wp2_with fail
          go_ret
          exact ⟨rfl, HB5.out⟩
      · have hfa : ((fitM l FR : Int) != 0) = true := by simp [hfit]
        go_wp2_with fail
        go_ret
        exact ⟨rfl, HB4.out⟩

set_option maxRecDepth 100000 in
theorem lifted (os : Os) (started : os.Started) (H : Type) (enc : TypeId × Value → H) :
    ReturnsInHanded {} Try.checked os 6 .any (Rows.schemaGrowsSpec.pre6 enc Try.prog Try.f6 Rows.schemaGrowsRow.domain false) (Rows.schemaGrowsSpec.post enc Try.prog Try.f6 false true false false) := by
  refine returnsInHanded_of_change (C := Try.checked) own started (by kernel_rfl) Try.func6
    (ChangeSpec.witness6 (enc := enc) (C := Try.checked) false ⟨#[], #[.agg #[.int .u32 0, .slice none 0 0], .slice none 0 0, .slice none 0 0, .slice none 0 0], []⟩ 8 (by kernel_rfl) (by kernel_rfl) (by kernel_rfl) (by kernel_rfl)) ?_
  intro W base args ds gs before hval0 hW hcnd _
  have hval : ∀ (j : Nat) t v, Try.f6.params[j]? = some t → args[j]? = some v → Value.okWide Try.prog W .any base t v := hval0
  have hW' := hW
  obtain ⟨p, q, hA0, hV, rfl, hfz, hnd⟩ := hW
  have hA : DataW.TrodAll enc Try.prog W 0 (fun _ => true) true Try.f6.params.toList args.toList ds p := hA0
  rw [Try.params6] at hA hval
  obtain ⟨v0, vs0, d0, ds0, p0, q0, hargs, rfl, rfl, h0, r0⟩ := trodAll_cons hA
  obtain ⟨v1, vs1, d1, ds1, p1, q1, rfl, rfl, rfl, h1, r1⟩ := trodAll_cons r0
  obtain ⟨v2, vs2, d2, ds2, p2, q2, rfl, rfl, rfl, h2, r2⟩ := trodAll_cons r1
  obtain ⟨v3, vs3, d3, ds3, p3, q3, rfl, rfl, rfl, h3, r3⟩ := trodAll_cons r2
  obtain ⟨rfl, rfl, rfl⟩ := trodAll_nil r3
  obtain rfl : args = #[v0, v1, v2, v3] := by cases args; simp_all
  obtain ⟨rfl, rfl⟩ := trodVars_none hV
  have lt0 : ∀ x ∈ p0, x.block < W.heap.size := by obtain ⟨m, hm⟩ := h0; exact DataW.trod_lt m _ _ _ hm
  obtain ⟨id0, u0, l0, rfl, hid0, hl0, ho0⟩ := open_schema (hval 0 25 v0 rfl rfl) h0
  have lt1 : ∀ x ∈ p1, x.block < W.heap.size := by obtain ⟨m, hm⟩ := h1; exact DataW.trod_lt m _ _ _ hm
  obtain ⟨a1, len1, cap1, rfl⟩ := okWide_slice Try.underlying53 (hval 1 53 v1 rfl rfl)
  obtain ⟨l1, hl1⟩ := open_strs h1
  have lt2 : ∀ x ∈ p2, x.block < W.heap.size := by obtain ⟨m, hm⟩ := h2; exact DataW.trod_lt m _ _ _ hm
  obtain ⟨a2, len2, cap2, rfl⟩ := okWide_slice Try.underlying54 (hval 2 54 v2 rfl rfl)
  obtain ⟨l2, hl2, ho2⟩ := open_bytes h2
  have lt3 : ∀ x ∈ p3, x.block < W.heap.size := by obtain ⟨m, hm⟩ := h3; exact DataW.trod_lt m _ _ _ hm
  obtain ⟨a3, len3, cap3, rfl⟩ := okWide_slice Try.underlying38 (hval 3 38 v3 rfl rfl)
  obtain ⟨l3, hl3, ho3⟩ := open_cells h3
  clear hA0 hval0
  refine (walk hl0 ho0 id0 hid0 hl1 hl2 ho2 hl3 ho3).mono fun e W' ⟨he, bel⟩ => ?_
  subst he
  exact ⟨_, rfl, _, _, _, [], _, [], hW', trodAll_mk1 (shut_bool Try.underlying4 _), (trodAll_cons_mk (Below.trod laidOut (by kernel_rfl) (of_decide_eq_true (by kernel_rfl)) h0 bel lt0) (trodAll_cons_mk (Below.trod laidOut (by kernel_rfl) (of_decide_eq_true (by kernel_rfl)) h1 bel lt1) (trodAll_cons_mk (Below.trod laidOut (by kernel_rfl) (of_decide_eq_true (by kernel_rfl)) h2 bel lt2) (trodAll_cons_mk (Below.trod laidOut (by kernel_rfl) (of_decide_eq_true (by kernel_rfl)) h3 bel lt3) trodAll_mk0)))), rfl, bel.frame _, fun h => by cases h⟩

theorem proved : Rows.SchemaGrowsSaid :=
  OpenClaim.holds_of_wide 6 Try.f6 rfl rfl rfl rfl rfl rfl rfl ⟨rfl, rfl, rfl, rfl, rfl⟩ rfl rfl rfl rfl rfl (by kernel_rfl) Try.func6 (by kernel_rfl)
    (of_decide_eq_true (by kernel_rfl)) (by unfold Func.isWrapper; first | (rw [if_pos (by decide +kernel)]; kernel_rfl) | (rw [if_neg (by decide +kernel)]; exact ⟨rfl, rfl⟩))
    (fun os started H enc _ => lifted os started H enc)
end GrowsLaw
theorem schemaGrows_holds : Rows.SchemaGrowsSaid := GrowsLaw.proved
#print axioms schemaGrows_holds
end Go.Proofs.Ytkohejjkpofmgaa
