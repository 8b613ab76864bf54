/- Contracts: the document's Unlike and place. -/
import Derived.Test.YtcmmednihoaekaaGreatReader
set_option linter.unusedVariables false
set_option linter.unusedSimpArgs false
namespace Go.Proofs.YtcmmednihoaekaaGreat
open Go.RowKit Go.Lib

theorem below_alloc' (w : World) (o : Obj) : Below w.heap.size w (w.alloc o) := (Below.refl _ _).alloc (Nat.le_refl _) _

theorem pl_first {x : Int} : ∀ {u : List Int} {k : Nat} (h : k < u.length), (∀ j (hj : j < k), u[j]'(by omega) ≠ x) → u[k] = x → pl u x = k
  | y :: t, 0, _, _, h => by
    unfold pl
    rw [if_pos (by simpa using h)]
  | y :: t, k + 1, hk, ha, h => by
    have h0 := ha 0 (by omega)
    unfold pl
    rw [if_neg (by simpa using h0), pl_first (u := t) (k := k) (by simpa using hk) (fun j hj => by have := ha (j + 1) (by omega); simpa using this) (by simpa using h)]

set_option maxRecDepth 100000 in
set_option maxHeartbeats 2000000 in
theorem place_any {w : World} {v : Value} {u : List Int} (hs : Sv w v (ivals u)) (hl : u.length ≤ 256) (x : Int) (hx : x ∈ u) :
    Calls Tryz.prog 81 #[v, .int .i64 x] w fun e w' => e = .returned (.int .u64 (pl u x : Int)) ∧ w' = w := by
  have HS := hidden hs
  have hpl := pl_get hx
  have HP := hidden hpl
  obtain ⟨a, cap, rfl, hcap, hcm⟩ := hs.form
  have HF : Hid (∀ k (h : k < u.length), (∀ j (hj : j < k), u[j]'(by omega) ≠ x) → u[k] = x → pl u x = k) := fun k h h1 h2 => pl_first h h1 h2
  clear hs hcap hcm hpl hx
  go_enter Tryz.func81, Tryz.ntmps81
  go_wp2_with fail
  go_loopw [5] (fun i wr => wr = w ∧ ∃ k : Nat, k ≤ u.length ∧ i = .int .i64 (k : Int) ∧ ∀ j (hj : j < k) (h : j < u.length), u[j] ≠ x) (fun i _ => u.length - (intOf i).toNat)
  case atStart => exact ⟨rfl, 0, by omega, rfl, fun j h => by omega⟩
  case round =>
    obtain ⟨rfl, k, hk, rfl, hall⟩ := hrel
    have HL := hidden hall
    clear hall
    by_cases hlt : k < u.length
    · have hlt3 : (k : Int) < (u.length : Int) := by omega
      obtain ⟨b, off, rfl, _, hck⟩ := HS.out.at hlt
      by_cases he : (u[k] == x) = true
      · have HE := hidden (HF.out k hlt (fun j hj => HL.out j hj (by omega)) (by simpa using he))
        generalize u[k] = y at *
        go_wp2_with fail
        go_ret
        rw [HE.out]
        exact ⟨rfl, rfl⟩
      · have hef : (u[k] == x) = false := by simpa using he
        have HN : Hid (∀ j (hj : j < k + 1) (h : j < u.length), u[j] ≠ x) := by
          intro j hj h
          rcases Nat.lt_or_ge j k with h1 | h1
          · exact HL.out j h1 h
          · have : j = k := by omega
            subst this
            simpa using he
        clear he
        generalize u[k] = y at *
        go_wp2_with fail
        go_roundw
        case rel => exact ⟨trivial, k + 1, by omega, by go_num, HN.out⟩
        case measure => simp [intOf]; omega
    · exfalso
      obtain ⟨h1, h2⟩ := HP.out
      rw [List.getElem?_eq_getElem h1] at h2
      exact HL.out (pl u x) (by omega) h1 (Option.some.inj h2)

/-- What is put together so far, and what is still to come. -/
def InsAt (x : Int) (u pre : List Int) (d : Bool) (k : Nat) : Prop := pre ++ (if d then u.drop k else ins x (u.drop k)) = ins x u

theorem InsAt.step {x : Int} {u pre : List Int} {d : Bool} {k : Nat} (h : InsAt x u pre d k) (hk : k < u.length) :
    (d = true → InsAt x u (pre ++ [u[k]]) true (k + 1)) ∧ (d = false → u[k] = x → InsAt x u (pre ++ [u[k]]) true (k + 1)) ∧ (d = false → x < u[k] → InsAt x u ((pre ++ [x]) ++ [u[k]]) true (k + 1)) ∧ (d = false → u[k] ≠ x → ¬ x < u[k] → InsAt x u (pre ++ [u[k]]) false (k + 1)) := by
  unfold InsAt at *
  rw [List.drop_eq_getElem_cons hk] at h
  refine ⟨fun hd => ?_, fun hd he => ?_, fun hd he => ?_, fun hd he hn => ?_⟩
  · subst hd
    rw [if_pos rfl] at h ⊢
    rw [← h]
    simp
  · subst hd
    rw [if_neg (by simp), ins, if_pos he.symm] at h
    rw [if_pos rfl, ← h]
    simp
  · subst hd
    rw [if_neg (by simp), ins, if_neg (by omega), if_pos he] at h
    rw [if_pos rfl, ← h]
    simp
  · subst hd
    rw [if_neg (by simp), ins, if_neg (fun e => he e.symm), if_neg hn] at h
    rw [if_neg (by simp), ← h]
    simp

theorem InsAt.last {x : Int} {u pre : List Int} {d : Bool} (h : InsAt x u pre d u.length) : (d = true → pre = ins x u) ∧ (d = false → pre ++ [x] = ins x u) := by
  unfold InsAt at h
  rw [List.drop_length] at h
  refine ⟨fun hd => ?_, fun hd => ?_⟩
  · subst hd
    simpa using h
  · subst hd
    simpa [ins] using h

theorem InsAt.len {x : Int} {u pre : List Int} {d : Bool} {k : Nat} (h : InsAt x u pre d k) : pre.length ≤ u.length + 1 := by
  unfold InsAt at h
  have h1 := congrArg List.length h
  have h2 := ins_length (x := x) (u := u)
  rw [List.length_append] at h1
  omega

set_option maxRecDepth 100000 in
set_option maxHeartbeats 8000000 in
theorem unlike_any {w : World} {v : Value} {l : List Int} (hs : Sv w v (ivals l)) (hl : l.length ≤ 256) :
    Calls Tryz.prog 80 #[v] w fun e w' => (∃ v', e = .returned v' ∧ OwnI w' w.heap.size v' (uniq l)) ∧ Below w.heap.size w w' := by
  have HS := hidden hs
  obtain ⟨a, cap, rfl, hcap, hcm⟩ := hs.form
  clear hs hcap hcm
  go_enter Tryz.func80, Tryz.ntmps80
  go_wp2_with fail
  go_loopw [3, 4] (fun vo i wr => ∃ k : Nat, k ≤ l.length ∧ i = .int .i64 (k : Int) ∧ OwnI wr w.heap.size vo (uniq (l.take k)) ∧ Below w.heap.size w wr) (fun _ i _ => l.length - (intOf i).toNat)
  case atStart => exact ⟨0, by omega, rfl, OwnI.nil _ _, Below.refl _ _⟩
  case round =>
    obtain ⟨i, hi, rfl, how, hbel⟩ := hrel
    have HO := hidden how
    have HB := hidden hbel
    have hzr := hbel.size
    obtain ⟨ao, co, rfl⟩ := how.len
    clear how hbel
    by_cases hlt : i < l.length
    · have hlt3 : (i : Int) < (l.length : Int) := by omega
      have HU := hidden (uniq_take_succ hlt)
      have hul := uniq_length (l.take i)
      rw [List.length_take] at hul
      obtain ⟨bl, offl, rfl, hbl, hcl⟩ := (HS.out.kept HB.out).at hlt
      generalize l[i] = x at *
      generalize uniq (l.take i) = u at *
      have hu256 : u.length ≤ 256 := by omega
      generalize wr = W1 at *
      go_wp2_with fail
      go_loopw [5, 6, 7] (fun vn vd j wq => ∃ (k : Nat) (pre : List Int) (d : Bool), k ≤ u.length ∧ j = .int .i64 (k : Int) ∧ vd = .bool d ∧ OwnI wq W1.heap.size vn pre ∧ InsAt x u pre d k ∧ Below W1.heap.size W1 wq) (fun _ _ j _ => u.length - (intOf j).toNat)
      case atStart => exact ⟨0, [], false, by omega, rfl, rfl, OwnI.nil _ _, rfl, Below.refl _ _⟩
      case round =>
        obtain ⟨k, pre, d, hk, rfl, rfl, hon, hia, hbq⟩ := hrel
        have HON := hidden hon
        have HIA := hidden hia
        have HBQ := hidden hbq
        have hzq := hbq.size
        have hpl := hia.len
        obtain ⟨an, cn, rfl⟩ := hon.len
        clear hon hia hbq
        have HBA : Hid (∀ n z, Below W1.heap.size W1 ((wr.drewN n).alloc (.cells #[.int .i64 z] 2))) := fun n z => (below_drewN HBQ.out n).alloc hzq _
        have HZA : Hid (∀ n z, W1.heap.size ≤ ((wr.drewN n).alloc (.cells #[.int .i64 z] 2)).heap.size) := fun n z => by rw [World.size_alloc]; exact Nat.le_succ_of_le hzq
        have HOA : Hid (∀ n z, OwnI ((wr.drewN n).alloc (.cells #[.int .i64 z] 2)) W1.heap.size (.slice an pre.length cn) pre) := fun n z => (HON.out.kept (below_drewN (Below.refl _ _) n)).kept (below_alloc' _ _)
        by_cases hkl : k < u.length
        · have hkl3 : (k : Int) < (u.length : Int) := by omega
          obtain ⟨b2, off2, hbo, hb2, hc20⟩ := HO.out.sv.at hkl
          cases hbo
          have hc2 := (HBQ.out.cell (p := ⟨b2, off2 + k, none⟩) hb2).trans hc20
          have hcl2 := (HBQ.out.cell (p := ⟨bl, offl + i, none⟩) hbl).trans hcl
          have HSt := hidden (HIA.out.step hkl)
          have HC20 := hidden hc20
          clear HIA hc20
          generalize u[k] = y at *
          cases d with
          | true =>
            have HI2 := hidden (HSt.out.1 rfl)
            by_cases hyx : (y == x) = true
            · go_wp2_with fail
              go_quiet (fail)
              go_wp2_with fail
              go_quiet (fail)
              go_wp2_with (first | (at_builtin; refine wpList_append_i rfl _ _ rfl W1.heap.size _ _ y pre rfl (HOA.out _ y) rfl (cell_new _ _ _) ?c2 ?c3 ?_))
              case c2 => omega
              case c3 => first | omega | exact HZA.out _ _
              intro v7 w7 o7 b7
              have HO7 := hidden o7
              have HB7 := hidden ((HBA.out _ y).trans b7)
              clear o7 b7
              go_wp2_with fail
              go_roundw
              case rel => exact ⟨k + 1, _, true, by omega, by go_num, rfl, HO7.out, HI2.out, HB7.out⟩
              case measure => simp [intOf]; omega
            · have hyxf : (y == x) = false := by simpa using hyx
              clear hyx
              go_wp2_with fail
              go_quiet (fail)
              go_wp2_with fail
              go_quiet (fail)
              go_wp2_with (first | (at_builtin; refine wpList_append_i rfl _ _ rfl W1.heap.size _ _ y pre rfl (HOA.out _ y) rfl (cell_new _ _ _) ?c2 ?c3 ?_))
              case c2 => omega
              case c3 => first | omega | exact HZA.out _ _
              intro v7 w7 o7 b7
              have HO7 := hidden o7
              have HB7 := hidden ((HBA.out _ y).trans b7)
              clear o7 b7
              go_wp2_with fail
              go_roundw
              case rel => exact ⟨k + 1, _, true, by omega, by go_num, rfl, HO7.out, HI2.out, HB7.out⟩
              case measure => simp [intOf]; omega
          | false =>
            by_cases hyx : (y == x) = true
            · have HI2 := hidden (HSt.out.2.1 rfl (by simpa using hyx))
              go_wp2_with fail
              go_quiet (fail)
              go_wp2_with fail
              go_quiet (fail)
              go_wp2_with (first | (at_builtin; refine wpList_append_i rfl _ _ rfl W1.heap.size _ _ y pre rfl (HOA.out _ y) rfl (cell_new _ _ _) ?c2 ?c3 ?_))
              case c2 => omega
              case c3 => first | omega | exact HZA.out _ _
              intro v7 w7 o7 b7
              have HO7 := hidden o7
              have HB7 := hidden ((HBA.out _ y).trans b7)
              clear o7 b7
              go_wp2_with fail
              go_roundw
              case rel => exact ⟨k + 1, _, true, by omega, by go_num, rfl, HO7.out, HI2.out, HB7.out⟩
              case measure => simp [intOf]; omega
            · have hyxf : (y == x) = false := by simpa using hyx
              have hyne : y ≠ x := by simpa using hyx
              clear hyx
              by_cases hxy : x < y
              · have hxyd : decide (x < y) = true := decide_eq_true hxy
                have HI2 := hidden (HSt.out.2.2.1 rfl hxy)
                clear hyne
                go_wp2_with fail
                go_quiet (fail)
                go_wp2_with fail
                go_quiet (fail)
                go_wp2_with (first | (at_builtin; refine wpList_append_i rfl _ _ rfl W1.heap.size _ _ x pre rfl (HOA.out _ x) rfl (cell_new _ _ _) ?c2 ?c3 ?_))
                case c2 => omega
                case c3 => first | omega | exact HZA.out _ _
                intro v6 w6 o6 b6
                have HO6 := hidden o6
                have HB6 := hidden ((HBA.out _ x).trans b6)
                have hc6 := (HB6.out.cell (p := ⟨b2, off2 + k, none⟩) hb2).trans HC20.out
                have hz6 := HB6.out.size
                have HOB := hidden (o6.kept (below_alloc' w6 (.cells #[.int .i64 y] 2)))
                clear o6 b6
                go_wp2_with (first | (at_builtin; refine wpList_append_i rfl _ _ rfl W1.heap.size _ _ y (pre ++ [x]) rfl HOB.out rfl (cell_new _ _ _) ?c2 ?c3 ?_))
                case c2 => simp; omega
                case c3 => first | omega | (rw [World.size_alloc]; omega)
                intro v7 w7 o7 b7
                have o7' : OwnI w7 W1.heap.size v7 (pre ++ [x] ++ [y]) := by simpa using o7
                have HO7 := hidden o7'
                have HB7 := hidden ((HB6.out.alloc hz6 (.cells #[.int .i64 y] 2)).trans b7)
                clear o7 o7' b7
                go_wp2_with fail
                go_roundw
                case rel => exact ⟨k + 1, _, true, by omega, by go_num, rfl, HO7.out, HI2.out, HB7.out⟩
                case measure => simp [intOf]; omega
              · have hxyd : decide (x < y) = false := decide_eq_false hxy
                have HI2 := hidden (HSt.out.2.2.2 rfl hyne hxy)
                clear hyne
                go_wp2_with fail
                go_quiet (fail)
                go_wp2_with fail
                go_quiet (fail)
                go_wp2_with (first | (at_builtin; refine wpList_append_i rfl _ _ rfl W1.heap.size _ _ y pre rfl (HOA.out _ y) rfl (cell_new _ _ _) ?c2 ?c3 ?_))
                case c2 => omega
                case c3 => first | omega | exact HZA.out _ _
                intro v7 w7 o7 b7
                have HO7 := hidden o7
                have HB7 := hidden ((HBA.out _ y).trans b7)
                clear o7 b7
                go_wp2_with fail
                go_roundw
                case rel => exact ⟨k + 1, _, false, by omega, by go_num, rfl, HO7.out, HI2.out, HB7.out⟩
                case measure => simp [intOf]; omega
        · obtain rfl : k = u.length := by omega
          have hkl3 : ¬ (u.length : Int) < (u.length : Int) := by omega
          have HLA := hidden HIA.out.last
          cases d with
          | true =>
            have e := HLA.out.1 rfl
            have HON2 : Hid (OwnI wr w.heap.size (.slice an pre.length cn) (uniq (l.take (i + 1)))) := hidden (by rw [HU.out, ← e]; exact HON.out.low hzr)
            clear e
            go_wp2_with fail
            go_roundw
            case rel => exact ⟨i + 1, by omega, by go_num, HON2.out, HB.out.trans (HBQ.out.mono hzr)⟩
            case measure => simp [intOf]; omega
          | false =>
            have HE := hidden (HLA.out.2 rfl)
            have hcl2 := (HBQ.out.cell (p := ⟨bl, offl + i, none⟩) hbl).trans hcl
            have HOZ := hidden (HON.out.kept (below_alloc' wr (.cells #[.int .i64 x] 2)))
            have HBZ := hidden (HBQ.out.alloc hzq (.cells #[.int .i64 x] 2))
            go_wp2_with (first | (at_builtin; refine wpList_append_i rfl _ _ rfl W1.heap.size _ _ x pre rfl HOZ.out rfl (cell_new _ _ _) ?c2 ?c3 ?_))
            case c2 => omega
            case c3 => first | omega | (rw [World.size_alloc]; omega)
            intro v7 w7 o7 b7
            have HO7 : Hid (OwnI w7 w.heap.size v7 (uniq (l.take (i + 1)))) := hidden (by rw [HU.out, ← HE.out]; exact o7.low hzr)
            have HB7 := hidden (HB.out.trans ((HBZ.out.trans b7).mono hzr))
            clear o7 b7
            go_wp2_with fail
            go_roundw
            case rel => exact ⟨i + 1, by omega, by go_num, HO7.out, HB7.out⟩
            case measure => simp [intOf]; omega
    · obtain rfl : i = l.length := by omega
      have hlt3 : ¬ (l.length : Int) < (l.length : Int) := by omega
      rw [List.take_length] at HO
      go_wp2_with fail
      go_ret
      exact ⟨⟨_, rfl, HO.out⟩, HB.out⟩
end Go.Proofs.YtcmmednihoaekaaGreat
