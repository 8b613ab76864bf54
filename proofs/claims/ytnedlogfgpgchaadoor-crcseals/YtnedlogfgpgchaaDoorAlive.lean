/- The document's examples; how the laws' arguments are opened; the table out of the row's condition; a start that meets it. -/
import Derived.Test.YtnedlogfgpgchaaDoorSeal
import Derived.Test.YtnedlogfgpgchaaDoorCards
import Derived.Test.YtnedlogfgpgchaaDoorTie
import Derived.ProofKit
import Derived.OpenShut
import Derived.ShutString
import Derived.ChangeOld
import Derived.ChangeMaps5
import Derived.Below
import Derived.Deep.Slices
import Derived.LaidMore
import Derived.Lib.LaidTab
import Derived.Lib.SlBytesConst
import Derived.Stop.Joined
import Derived.SevenTiedAt
set_option linter.unusedVariables false
set_option linter.unusedSimpArgs false
namespace Go.Proofs.YtnedlogfgpgchaaDoor
open Go.ChangeShapes Go.WideShapes Go.ChangeAt Go.RowKit Go.Lib

theorem seal_a : sealM [97] = [97, 67, 190, 183, 232] := by decide +kernel
theorem of_nine : crcM 0 [49, 50, 51, 52, 53, 54, 55, 56, 57] = 3421780262 := by decide +kernel
theorem open_a : openM [97, 67, 190, 183, 232] = some [97] := by rw [← seal_a]; exact openM_seal _

theorem bs_a : Bs [97] := by unfold Bs; decide
theorem bs_s : Bs [97, 67, 190, 183, 232] := by unfold Bs; decide
theorem bs_n : Bs [49, 50, 51, 52, 53, 54, 55, 56, 57] := by unfold Bs; decide

theorem lit_mark (w : World) (l : List Nat) (fr : Nat × Nat) (hl : l.length ≤ maxLen) : Sv (w.alloc (.cells (vals .u8 l).toArray 5 fr)) (.slice (some ⟨w.heap.size, 0, none⟩) l.length l.length) l := by
  refine ⟨_, _, rfl, Nat.le_refl _, hl, fun h => (by cases h), fun _ => ⟨w.heap.size, 0, rfl, by rw [World.size_alloc]; omega, fun j hj => ?_⟩⟩
  rw [World.cell?_alloc_mark, Nat.zero_add]
  simp [vals, hj]
theorem lit_a (w : World) : Sv (w.alloc (.cells #[.int .u8 97] 5 (1, 2))) (.slice (some ⟨w.heap.size, 0, none⟩) 1 1) [97] := lit_mark w [97] (1, 2) (by unfold maxLen; simp)
theorem lit_n (w : World) : Sv (w.alloc (.cells #[.int .u8 49, .int .u8 50, .int .u8 51, .int .u8 52, .int .u8 53, .int .u8 54, .int .u8 55, .int .u8 56, .int .u8 57] 5 (9, 10))) (.slice (some ⟨w.heap.size, 0, none⟩) 9 9) [49, 50, 51, 52, 53, 54, 55, 56, 57] := lit_mark w [49, 50, 51, 52, 53, 54, 55, 56, 57] (9, 10) (by unfold maxLen; simp)
theorem conv_a (w : World) : (convert 23 23 (.slice (some ⟨w.heap.size, 0, none⟩) 1 1)).run Tryd.prog (w.alloc (.cells #[.int .u8 97] 5)) = .ok (.slice (some ⟨w.heap.size, 0, none⟩) 1 1) (w.alloc (.cells #[.int .u8 97] 5 (1, 2))) :=
  run_convert_bytes_const w 23 5 #[.int .u8 97] 1 1 Tryd.underlying23 Tryd.underlying5
theorem conv_n (w : World) : (convert 23 23 (.slice (some ⟨w.heap.size, 0, none⟩) 9 9)).run Tryd.prog (w.alloc (.cells #[.int .u8 49, .int .u8 50, .int .u8 51, .int .u8 52, .int .u8 53, .int .u8 54, .int .u8 55, .int .u8 56, .int .u8 57] 5)) = .ok (.slice (some ⟨w.heap.size, 0, none⟩) 9 9) (w.alloc (.cells #[.int .u8 49, .int .u8 50, .int .u8 51, .int .u8 52, .int .u8 53, .int .u8 54, .int .u8 55, .int .u8 56, .int .u8 57] 5 (9, 10))) :=
  run_convert_bytes_const w 23 5 #[.int .u8 49, .int .u8 50, .int .u8 51, .int .u8 52, .int .u8 53, .int .u8 54, .int .u8 55, .int .u8 56, .int .u8 57] 9 9 Tryd.underlying23 Tryd.underlying5

set_option maxRecDepth 100000 in
set_option maxHeartbeats 4000000 in
theorem alive_any {w : World} (ht : Tab w) : Calls Tryd.prog 8 #[] w fun e w' => e = .returned (.bool true) ∧ Below w.heap.size w w' := by
  have HT := hidden ht
  clear ht
  have hca := conv_a w
  go_enter Tryd.func8, Tryd.ntmps8
  have HS := hidden (seal_any (HT.out.kept (below_alloc w (.cells #[.int .u8 97] 5 (1, 2)))) (lit_a w) bs_a (by simp))
  rw [seal_a] at HS
  go_wp2_with fail
  refine HS.out.mono ?_
  rintro e w1 ⟨⟨v1, rfl, o1⟩, hb1⟩
  have HB1 := hidden (below_then (below_alloc w (.cells #[.int .u8 97] 5 (1, 2))) hb1)
  have HT1 := hidden (HT.out.kept HB1.out)
  have HO := hidden (open_any HT1.out o1.sv bs_s (by simp))
  rw [open_a] at HO
  clear o1 hb1 hca
  go_wp2_with fail
  refine HO.out.mono ?_
  rintro e w2 ⟨⟨v2, rfl, o2⟩, hb2⟩
  have HB2 := hidden (below_then HB1.out hb2)
  have HT2 := hidden (HT1.out.kept hb2)
  have o2' : OwnB w2 w1.heap.size v2 [97] := o2
  have HV2 := hidden o2'.sv
  have HBN := hidden (below_alloc w2 (.cells #[.int .u8 49, .int .u8 50, .int .u8 51, .int .u8 52, .int .u8 53, .int .u8 54, .int .u8 55, .int .u8 56, .int .u8 57] 5 (9, 10)))
  have HN := hidden (of_any (HT2.out.kept HBN.out) (lit_n w2) bs_n)
  rw [of_nine] at HN
  clear o2 o2' hb2
  have hcn := conv_n w2
  go_wp2_with fail
  refine HN.out.mono ?_
  rintro e w3 ⟨rfl, rfl⟩
  have HT3 := hidden (HT2.out.kept HBN.out)
  have HV3 := hidden (HV2.out.kept HBN.out)
  have HB3 := hidden (below_then HB2.out HBN.out)
  clear hcn HN HBN
  generalize (w2.alloc (.cells #[.int .u8 49, .int .u8 50, .int .u8 51, .int .u8 52, .int .u8 53, .int .u8 54, .int .u8 55, .int .u8 56, .int .u8 57] 5 (9, 10))) = w3 at *
  have hca := conv_a w3
  have HS3 := hidden (seal_any (HT3.out.kept (below_alloc w3 (.cells #[.int .u8 97] 5 (1, 2)))) (lit_a w3) bs_a (by simp))
  rw [seal_a] at HS3
  go_wp2_with fail
  refine HS3.out.mono ?_
  rintro e w4 ⟨⟨v4, rfl, o4⟩, hb4⟩
  have hb34 := below_then (below_alloc w3 (.cells #[.int .u8 97] 5 (1, 2))) hb4
  clear hca
  have hcv1 : (convert 23 9 v4).run Tryd.prog w4 = .ok (.string ⟨#[97, 67, 190, 183, 232]⟩) w4 := o4.sv.conv bs_s
  have hcv2 : (convert 23 9 v2).run Tryd.prog w4 = .ok (.string ⟨#[97]⟩) w4 := (HV3.out.kept hb34).conv bs_a
  have HB4 := hidden (below_then HB3.out hb34)
  clear o4 hb4 hb34
  go_wp2_with fail
  go_ret
  exact ⟨rfl, HB4.out⟩

theorem own : ownKnob Tryd.prog.godebug = none := by kernel_rfl
theorem laidOut : laidOutB Tryd.prog = true := by kernel_rfl
theorem cells5 : Tryd.prog.cellsOf 5 = 1 := by kernel_rfl

theorem cells_one {W : World} {B : Nat} {a : Addr} {cs : List Value} (h : W.cells? B a 1 = some cs) : ∃ c, cs = [c] ∧ W.cell? a = some c := by
  obtain ⟨_, hl, hc⟩ := World.cells?_some h
  match cs, hl with
  | [c], _ => exact ⟨c, rfl, by simpa [Addr.add] using hc 0 (by omega)⟩

theorem open_bytes {H : Type} {enc : TypeId × Value → H} {W : World} {spare : Nat → Bool} {held : Bool} {a : Option Addr} {len cap : Nat} {d : DataW H} {p : List MemPlace}
    (h : DataW.Trod enc Tryd.prog W 0 spare held 23 (.slice a len cap) d p) : ∃ l : List Nat, Sv W (.slice a len cap) l ∧ Bs l := by
  obtain ⟨fuel, hf⟩ := h
  rcases Deep.open_slice Tryd.underlying23 hf with ⟨h1, _⟩ | ⟨a1, l1, c1, m, n, D, Pl, h1, _, hlc, hm, hmm, _, hcells⟩
  · simp [Value.cells] at h1
    obtain ⟨rfl, rfl, rfl⟩ := h1
    exact ⟨[], Sv.nil _, fun x hx => by simp at hx⟩
  · simp [Value.cells] at h1
    obtain ⟨rfl, rfl, rfl⟩ := h1
    rw [cells5] at hcells
    have hlm : len ≤ m := by rw [hmm]; split <;> omega
    have hone : ∀ i, i < len → ∃ x : Nat, x < 256 ∧ W.cell? (a1.add i) = some (.int .u8 (x : Int)) := by
      intro i hi
      obtain ⟨cs, hc, ht⟩ := hcells i (by omega)
      rw [Nat.mul_one] at hc
      obtain ⟨c0, rfl, e0⟩ := cells_one hc
      obtain ⟨k, q0, _, wk⟩ := DataW.trod_int Tryd.underlying5 ht
      simp at q0
      subst q0
      have hb := bounds_u8 wk
      refine ⟨k.toNat, by omega, ?_⟩
      rw [e0]
      congr 2
      omega
    obtain ⟨f, hf2⟩ := Deep.choose_lt hone
    have hlen : ((List.range len).map f).length = len := by simp
    refine ⟨(List.range len).map f, ⟨some a1, cap, by rw [hlen], by omega, by omega, fun h => (by cases h), fun h0 => ?_⟩, ?_⟩
    · obtain ⟨b, off, spot⟩ := a1
      have hspot : spot = none := by
        have := World.cell?_spot (hf2 0 (by omega)).2
        simpa [Addr.add] using this
      subst hspot
      have hb : b < W.heap.size := by
        obtain ⟨cs, hc, _⟩ := hcells 0 (by omega)
        have := World.cells?_block hc (by omega)
        simpa [Addr.add] using this
      refine ⟨b, off, rfl, hb, fun j hj => ?_⟩
      have h3 := (hf2 j (by omega)).2
      rw [addj] at h3
      rw [h3]
      simp
    · intro x hx
      obtain ⟨i, hi, rfl⟩ := List.mem_map.1 hx
      exact (hf2 i (by simpa using hi)).1

/-- The row's condition, and the table out of it. -/
abbrev laid1 : List (String × DataW Unit) := [("catchment/crc.halves", Rows.laid_catchment_crc_halves)]
def tabZ : List Int := [0, 498536548, 997073096, 651767980, 1994146192, 1802195444, 1303535960, 1342533948, 3988292384, 4027552580, 3604390888, 3412177804, 2607071920, 2262029012, 2685067896, 3183342108]
theorem gHalves : Tryd.prog.globalNamed "catchment/crc.halves" = some 0 := by kernel_rfl
theorem tHalves : (Tryd.prog.globals[0]?).map (·.type) = some 37 := by kernel_rfl
theorem cells22 : Tryd.prog.cellsOf 22 = 1 := by kernel_rfl
theorem cells37 : Tryd.prog.cellsOf 37 = 16 := by kernel_rfl
theorem tab_is : ∀ i, i < 16 → tabZ.getD i 0 = ((stpN 4 i : Nat) : Int) := by decide +kernel

theorem of_laid {W : World} (h : laidMetH Tryd.prog laid1 W) : Tab W := by
  rw [MakeChecks.laidMetH_plain _ _ _ (by kernel_rfl)] at h
  have hT : TabIs Tryd.prog W "catchment/crc.halves" .u32 tabZ := tabIs_of_head gHalves tHalves Tryd.underlying37 Tryd.underlying22 cells22 cells37 h
  have hc : ∀ i : Nat, i < 16 → W.cell? ⟨0, i, none⟩ = some (.int .u32 ((stpN 4 i : Nat) : Int)) := fun i hi => by
    have := hT.cell gHalves i (by simpa [tabZ] using hi)
    rw [this, tab_is i hi]
  refine ⟨?_, hc⟩
  have h0 := hc 0 (by omega)
  rcases Nat.eq_zero_or_pos W.heap.size with hz | hz
  · exfalso
    unfold World.cell? at h0
    simp [hz] at h0
  · exact hz

theorem door_met (os : Os) (args : Array Value) : laidMetH Tryd.prog laid1 ((World.doorLaid Tryd.prog 400 os).forCall (fun _ _ => 0) ⟨#[], args, []⟩).memory :=
  laidMetH_of_parts3 (fuel := 8) (laidMet_of_run' 8 (by kernel_rfl) (by kernel_rfl)) (by kernel_rfl) (by kernel_rfl)
end Go.Proofs.YtnedlogfgpgchaaDoor
