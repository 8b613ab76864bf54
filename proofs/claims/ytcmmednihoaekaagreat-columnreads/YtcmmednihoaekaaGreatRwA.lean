/- Contracts of the document's layer 6: Unlike. -/
import Derived.Test.YtcmmednihoaekaaGreatOnly
import Derived.Test.YtcmmednihoaekaaGreatRefRead
set_option linter.unusedVariables false
set_option linter.unusedSimpArgs false
namespace Go.Proofs.YtcmmednihoaekaaGreat
open Go.RowKit Go.Lib

/-- What is put together so far, and what is still to come. -/
def InsT (x : List Nat) (u pre : List (List Nat)) (d : Bool) (k : Nat) : Prop := pre ++ (if d then u.drop k else insT x (u.drop k)) = insT x u

theorem InsT.step {x : List Nat} {u pre : List (List Nat)} {d : Bool} {k : Nat} (h : InsT x u pre d k) (hk : k < u.length) :
    (d = true → InsT x u (pre ++ [u[k]]) true (k + 1)) ∧ (d = false → u[k] = x → InsT x u (pre ++ [u[k]]) true (k + 1)) ∧ (d = false → x < u[k] → InsT x u ((pre ++ [x]) ++ [u[k]]) true (k + 1)) ∧ (d = false → u[k] ≠ x → ¬ x < u[k] → InsT x u (pre ++ [u[k]]) false (k + 1)) := by
  unfold InsT at *
  rw [List.drop_eq_getElem_cons hk] at h
  refine ⟨fun hd => ?_, fun hd he => ?_, fun hd he => ?_, fun hd he hn => ?_⟩
  · subst hd
    rw [if_pos rfl] at h ⊢
    rw [← h]
    simp
  · subst hd
    rw [if_neg (by simp), insT, if_pos he.symm] at h
    rw [if_pos rfl, ← h]
    simp
  · subst hd
    rw [if_neg (by simp), insT, if_neg (fun e => List.lt_irrefl u[k] (by rw [e] at he; exact he)), if_pos he] at h
    rw [if_pos rfl, ← h]
    simp
  · subst hd
    rw [if_neg (by simp), insT, if_neg (fun e => he e.symm), if_neg hn] at h
    rw [if_neg (by simp), ← h]
    simp

theorem InsT.last {x : List Nat} {u pre : List (List Nat)} {d : Bool} (h : InsT x u pre d u.length) : (d = true → pre = insT x u) ∧ (d = false → pre ++ [x] = insT x u) := by
  unfold InsT at h
  rw [List.drop_length] at h
  refine ⟨fun hd => ?_, fun hd => ?_⟩
  · subst hd
    simpa using h
  · subst hd
    simpa [insT] using h

theorem InsT.len {x : List Nat} {u pre : List (List Nat)} {d : Bool} {k : Nat} (h : InsT x u pre d k) : pre.length ≤ u.length + 1 := by
  unfold InsT at h
  have h1 := congrArg List.length h
  have h2 := insT_length (x := x) (u := u)
  rw [List.length_append] at h1
  omega

set_option maxRecDepth 100000 in
set_option maxHeartbeats 8000000 in
theorem unlikeS_any {w : World} {v : Value} {l : List (List Nat)} (hs : Sv w v (svals l)) (hl : l.length ≤ 256) (hb : ∀ s ∈ l, Bs s) :
    Calls Tryz.prog 33 #[v] w fun e w' => (∃ v', e = .returned v' ∧ OwnS w' w.heap.size v' (tuq l)) ∧ Below w.heap.size w w' := by
  have HS := hidden hs
  have HBS := hidden hb
  obtain ⟨a, cap, rfl, hcap, hcm⟩ := hs.form1
  rw [svals_length] at *
  have hcm' : cap ≤ 9223372036854775807 := by unfold maxLen at hcm; omega
  clear hs hcm hb
  go_enter Tryz.func33, Tryz.ntmps33
  go_wp2_with fail
  go_loopw [3, 4] (fun vo i wr => ∃ k : Nat, k ≤ l.length ∧ i = .int .i64 (k : Int) ∧ OwnS wr w.heap.size vo (tuq (l.take k)) ∧ Below w.heap.size w wr) (fun _ i _ => l.length - (intOf i).toNat)
  case atStart => exact ⟨0, by omega, rfl, OwnS.nil _ _, Below.refl _ _⟩
  case round =>
    obtain ⟨i, hi, rfl, how, hbel⟩ := hrel
    have HO := hidden how
    have HB := hidden hbel
    have hzr := hbel.size
    obtain ⟨ao, co, rfl, hco, hcom⟩ := own_slice how
    have hcom' : co ≤ 9223372036854775807 := by unfold maxLen at hcom; omega
    clear how hbel
    by_cases hlt : i < l.length
    · have hlt3 : (i : Int) < (l.length : Int) := by omega
      have HU := hidden (tuq_take_succ hlt)
      have hul := tuq_length (l.take i)
      rw [List.length_take] at hul
      obtain ⟨bl, offl, rfl, hbl, hcl⟩ := (HS.out.kept HB.out).at1 (svals_get hlt)
      rw [txt_eq] at hcl
      have HBX := hidden (HBS.out l[i] (List.getElem_mem hlt))
      have HBU : Hid (∀ s ∈ tuq (l.take i), Bs s) := hidden (fun s hs => HBS.out s (List.mem_of_mem_take (mem_tuq.1 hs)))
      generalize l[i] = x at *
      generalize tuq (l.take i) = u at *
      have hu256 : u.length ≤ 256 := by omega
      generalize wr = W1 at *
      go_wp2_with fail
      go_loopw [5, 6, 7] (fun vn vd j wq => ∃ (k : Nat) (pre : List (List Nat)) (d : Bool), k ≤ u.length ∧ j = .int .i64 (k : Int) ∧ vd = .bool d ∧ OwnS wq W1.heap.size vn pre ∧ InsT x u pre d k ∧ Below W1.heap.size W1 wq) (fun _ _ j _ => u.length - (intOf j).toNat)
      case atStart => exact ⟨0, [], false, by omega, rfl, rfl, OwnS.nil _ _, rfl, Below.refl _ _⟩
      case round =>
        obtain ⟨k, pre, d, hk, rfl, rfl, hon, hia, hbq⟩ := hrel
        have HON := hidden hon
        have HIA := hidden hia
        have HBQ := hidden hbq
        have hzq := hbq.size
        have hpl := hia.len
        obtain ⟨an, cn, rfl, _, _⟩ := own_slice hon
        clear hon hia hbq
        have HBA : Hid (∀ n z, Below W1.heap.size W1 ((wr.drewN n).alloc (.cells #[.string (bytesT z)] 9))) := fun n z => (below_drewN HBQ.out n).alloc hzq _
        have HZA : Hid (∀ n z, W1.heap.size ≤ ((wr.drewN n).alloc (.cells #[.string (bytesT z)] 9)).heap.size) := fun n z => by rw [World.size_alloc]; exact Nat.le_succ_of_le hzq
        have HOA : Hid (∀ n z, OwnS ((wr.drewN n).alloc (.cells #[.string (bytesT z)] 9)) W1.heap.size (.slice an pre.length cn) pre) := fun n z => (HON.out.kept (below_drewN (Below.refl _ _) n)).kept (below_alloc' _ _)
        by_cases hkl : k < u.length
        · have hkl3 : (k : Int) < (u.length : Int) := by omega
          obtain ⟨b2, off2, hbo, hb2, hc20⟩ := HO.out.sv.at1 (svals_get hkl)
          rw [txt_eq] at hc20
          have HBY := hidden (HBU.out u[k] (List.getElem_mem hkl))
          cases hbo
          have hc2 := (HBQ.out.cell (p := ⟨b2, off2 + k, none⟩) hb2).trans hc20
          have hcl2 := (HBQ.out.cell (p := ⟨bl, offl + i, none⟩) hbl).trans hcl
          have HSt := hidden (HIA.out.step hkl)
          have HC20 := hidden hc20
          clear HIA hc20
          generalize u[k] = y at *
          have HEQ : Hid (((bytesT y).toList == (bytesT x).toList) = decide (y = x)) := hidden (by
            rw [bytesT_toList, bytesT_toList]
            by_cases e : y = x
            · rw [e]; simp
            · rw [decide_eq_false e]
              exact beq_eq_false_iff_ne.2 (fun h => e (by rw [← map_fwd HBY.out, ← map_fwd HBX.out, h])))
          have HLT : Hid (Op.bytesLess (bytesT x).toList (bytesT y).toList = decide (x < y)) := hidden (by
            rw [bytesT_toList, bytesT_toList]
            exact less_txt HBX.out HBY.out)
          cases d with
          | true =>
            have HI2 := hidden (HSt.out.1 rfl)
            by_cases hyx0 : y = x
            · have hyx : ((bytesT y).toList == (bytesT x).toList) = true := HEQ.out.trans (decide_eq_true hyx0)
              clear hyx0
              go_wp2_with fail
              go_quiet (fail)
              go_wp2_with fail
              go_quiet (fail)
              go_wp2_with (first | (at_builtin; refine wpList_append_s rfl _ _ rfl W1.heap.size _ _ y pre rfl (HOA.out _ y) rfl (cell_new _ _ _) ?c2 ?c3 ?_))
              case c2 => omega
              case c3 => first | omega | exact HZA.out _ _
              intro v7 w7 o7 b7
              have HO7 := hidden o7
              have HB7 := hidden ((HBA.out _ y).trans b7)
              clear o7 b7
              go_wp2_with fail
              go_roundw
              case rel => exact ⟨k + 1, _, true, by omega, by go_num, rfl, HO7.out, HI2.out, HB7.out⟩
              case measure => simp [intOf]; omega
            · have hyxf : ((bytesT y).toList == (bytesT x).toList) = false := HEQ.out.trans (decide_eq_false hyx0)
              clear hyx0
              go_wp2_with fail
              go_quiet (fail)
              go_wp2_with fail
              go_quiet (fail)
              go_wp2_with (first | (at_builtin; refine wpList_append_s rfl _ _ rfl W1.heap.size _ _ y pre rfl (HOA.out _ y) rfl (cell_new _ _ _) ?c2 ?c3 ?_))
              case c2 => omega
              case c3 => first | omega | exact HZA.out _ _
              intro v7 w7 o7 b7
              have HO7 := hidden o7
              have HB7 := hidden ((HBA.out _ y).trans b7)
              clear o7 b7
              go_wp2_with fail
              go_roundw
              case rel => exact ⟨k + 1, _, true, by omega, by go_num, rfl, HO7.out, HI2.out, HB7.out⟩
              case measure => simp [intOf]; omega
          | false =>
            by_cases hyx0 : y = x
            · have HI2 := hidden (HSt.out.2.1 rfl hyx0)
              have hyx : ((bytesT y).toList == (bytesT x).toList) = true := HEQ.out.trans (decide_eq_true hyx0)
              clear hyx0
              go_wp2_with fail
              go_quiet (fail)
              go_wp2_with fail
              go_quiet (fail)
              go_wp2_with (first | (at_builtin; refine wpList_append_s rfl _ _ rfl W1.heap.size _ _ y pre rfl (HOA.out _ y) rfl (cell_new _ _ _) ?c2 ?c3 ?_))
              case c2 => omega
              case c3 => first | omega | exact HZA.out _ _
              intro v7 w7 o7 b7
              have HO7 := hidden o7
              have HB7 := hidden ((HBA.out _ y).trans b7)
              clear o7 b7
              go_wp2_with fail
              go_roundw
              case rel => exact ⟨k + 1, _, true, by omega, by go_num, rfl, HO7.out, HI2.out, HB7.out⟩
              case measure => simp [intOf]; omega
            · have hyxf : ((bytesT y).toList == (bytesT x).toList) = false := HEQ.out.trans (decide_eq_false hyx0)
              have hyne : y ≠ x := hyx0
              clear hyx0
              by_cases hxy : x < y
              · have hxyd : Op.bytesLess (bytesT x).toList (bytesT y).toList = true := HLT.out.trans (decide_eq_true hxy)
                have HI2 := hidden (HSt.out.2.2.1 rfl hxy)
                clear hyne hxy
                go_wp2_with fail
                go_quiet (fail)
                go_wp2_with fail
                go_quiet (fail)
                go_wp2_with (first | (at_builtin; refine wpList_append_s rfl _ _ rfl W1.heap.size _ _ x pre rfl (HOA.out _ x) rfl (cell_new _ _ _) ?c2 ?c3 ?_))
                case c2 => omega
                case c3 => first | omega | exact HZA.out _ _
                intro v6 w6 o6 b6
                have HO6 := hidden o6
                have HB6 := hidden ((HBA.out _ x).trans b6)
                have hc6 := (HB6.out.cell (p := ⟨b2, off2 + k, none⟩) hb2).trans HC20.out
                have hz6 := HB6.out.size
                have HOB := hidden (o6.kept (below_alloc' w6 (.cells #[.string (bytesT y)] 9)))
                clear o6 b6
                go_wp2_with (first | (at_builtin; refine wpList_append_s rfl _ _ rfl W1.heap.size _ _ y (pre ++ [x]) rfl HOB.out rfl (cell_new _ _ _) ?c2 ?c3 ?_))
                case c2 => simp; omega
                case c3 => first | omega | (rw [World.size_alloc]; omega)
                intro v7 w7 o7 b7
                have o7' : OwnS w7 W1.heap.size v7 (pre ++ [x] ++ [y]) := by simpa using o7
                have HO7 := hidden o7'
                have HB7 := hidden ((HB6.out.alloc hz6 (.cells #[.string (bytesT y)] 9)).trans b7)
                clear o7 o7' b7
                go_wp2_with fail
                go_roundw
                case rel => exact ⟨k + 1, _, true, by omega, by go_num, rfl, HO7.out, HI2.out, HB7.out⟩
                case measure => simp [intOf]; omega
              · have hxyd : Op.bytesLess (bytesT x).toList (bytesT y).toList = false := HLT.out.trans (decide_eq_false hxy)
                have HI2 := hidden (HSt.out.2.2.2 rfl hyne hxy)
                clear hyne hxy
                go_wp2_with fail
                go_quiet (fail)
                go_wp2_with fail
                go_quiet (fail)
                go_wp2_with (first | (at_builtin; refine wpList_append_s rfl _ _ rfl W1.heap.size _ _ y pre rfl (HOA.out _ y) rfl (cell_new _ _ _) ?c2 ?c3 ?_))
                case c2 => omega
                case c3 => first | omega | exact HZA.out _ _
                intro v7 w7 o7 b7
                have HO7 := hidden o7
                have HB7 := hidden ((HBA.out _ y).trans b7)
                clear o7 b7
                go_wp2_with fail
                go_roundw
                case rel => exact ⟨k + 1, _, false, by omega, by go_num, rfl, HO7.out, HI2.out, HB7.out⟩
                case measure => simp [intOf]; omega
        · obtain rfl : k = u.length := by omega
          have hkl3 : ¬ (u.length : Int) < (u.length : Int) := by omega
          have HLA := hidden HIA.out.last
          cases d with
          | true =>
            have e := HLA.out.1 rfl
            have HON2 : Hid (OwnS wr w.heap.size (.slice an pre.length cn) (tuq (l.take (i + 1)))) := hidden (by rw [HU.out, ← e]; exact own_low HON.out hzr)
            clear e
            go_wp2_with fail
            go_roundw
            case rel => exact ⟨i + 1, by omega, by go_num, HON2.out, HB.out.trans (HBQ.out.mono hzr)⟩
            case measure => simp [intOf]; omega
          | false =>
            have HE := hidden (HLA.out.2 rfl)
            have hcl2 := (HBQ.out.cell (p := ⟨bl, offl + i, none⟩) hbl).trans hcl
            have HOZ := hidden (HON.out.kept (below_alloc' wr (.cells #[.string (bytesT x)] 9)))
            have HBZ := hidden (HBQ.out.alloc hzq (.cells #[.string (bytesT x)] 9))
            go_wp2_with (first | (at_builtin; refine wpList_append_s rfl _ _ rfl W1.heap.size _ _ x pre rfl HOZ.out rfl (cell_new _ _ _) ?c2 ?c3 ?_))
            case c2 => omega
            case c3 => first | omega | (rw [World.size_alloc]; omega)
            intro v7 w7 o7 b7
            have HO7 : Hid (OwnS w7 w.heap.size v7 (tuq (l.take (i + 1)))) := hidden (by rw [HU.out, ← HE.out]; exact own_low o7 hzr)
            have HB7 := hidden (HB.out.trans ((HBZ.out.trans b7).mono hzr))
            clear o7 b7
            go_wp2_with fail
            go_roundw
            case rel => exact ⟨i + 1, by omega, by go_num, HO7.out, HB7.out⟩
            case measure => simp [intOf]; omega
    · obtain rfl : i = l.length := by omega
      have hlt3 : ¬ (l.length : Int) < (l.length : Int) := by omega
      rw [List.take_length] at HO
      go_wp2_with fail
      go_ret
      exact ⟨⟨_, rfl, HO.out⟩, HB.out⟩
end Go.Proofs.YtcmmednihoaekaaGreat
