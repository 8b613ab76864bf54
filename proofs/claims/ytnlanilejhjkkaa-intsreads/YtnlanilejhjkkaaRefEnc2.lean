/- Contracts: the document's Encode by codec 2. -/
import Derived.Test.YtnlanilejhjkkaaRefEnc0
set_option linter.unusedVariables false
set_option linter.unusedSimpArgs false
namespace Go.Proofs.Ytnlanilejhjkkaa
open Go.RowKit Go.Lib

/-- What is written so far, with c numbers of a run that goes on. -/
def RunAt (l : List Int) (k c : Nat) (acc : List Nat) : Prop := (∀ h : k < l.length, acc ++ enc2c l[k] (c + 1) (l.drop (k + 1)) = enc2 l) ∧ (k = l.length → c = 0 ∧ acc = enc2 l)

theorem RunAt.start (l : List Int) : RunAt l 0 0 [] := by
  cases l with
  | nil => exact ⟨fun h => by simp at h, fun _ => ⟨rfl, rfl⟩⟩
  | cons x t => exact ⟨fun _ => rfl, fun h => by simp at h⟩

theorem RunAt.more {l : List Int} {k c : Nat} {acc : List Nat} (h : RunAt l k c acc) (hk : k + 1 < l.length) (he : l[k + 1] = l[k]) : RunAt l (k + 1) (c + 1) acc := by
  refine ⟨fun _ => ?_, fun e => by omega⟩
  have := h.1 (by omega)
  rw [List.drop_eq_getElem_cons hk, enc2c, if_pos he] at this
  rw [he]
  exact this

theorem RunAt.turn {l : List Int} {k c : Nat} {acc : List Nat} (h : RunAt l k c acc) (hk : k + 1 < l.length) (he : l[k + 1] ≠ l[k]) : RunAt l (k + 1) 0 (acc ++ (wv l[k] ++ uv (c + 1))) := by
  refine ⟨fun _ => ?_, fun e => by omega⟩
  have := h.1 (by omega)
  rw [List.drop_eq_getElem_cons hk, enc2c, if_neg he] at this
  rw [← this]
  simp

theorem RunAt.last {l : List Int} {k c : Nat} {acc : List Nat} (h : RunAt l k c acc) (hk : k < l.length) (he : k + 1 = l.length) : RunAt l (k + 1) 0 (acc ++ (wv l[k] ++ uv (c + 1))) := by
  refine ⟨fun _ => by omega, fun _ => ⟨rfl, ?_⟩⟩
  have := h.1 hk
  rw [List.drop_of_length_le (by omega), enc2c] at this
  exact this

theorem RunAt.len {l : List Int} {k c : Nat} {acc : List Nat} (h : RunAt l k c acc) (hk : k ≤ l.length) : acc.length ≤ (enc2 l).length := by
  rcases Nat.lt_or_ge k l.length with hl | hl
  · have := congrArg List.length (h.1 hl)
    rw [List.length_append] at this
    omega
  · have := (h.2 (by omega)).2
    rw [this]
    exact Nat.le_refl _

set_option maxRecDepth 100000 in
set_option maxHeartbeats 4000000 in
theorem refEncode_2 {w : World} {v : Value} {l : List Int} (hs : Sv w v (ivals l)) (hl : l.length ≤ 256) (hi : Is l) :
    Calls Try.prog 11 #[.int .i64 2, v] w (EncPost (enc2 l) w) := by
  have HI := hidden hi
  have HS := hidden hs
  have hsz := enc2_size hi hl
  obtain ⟨a, cap, rfl, hcap, hcm⟩ := hs.form
  have hgt : ¬ (l.length : Int) > 256 := by omega
  clear hs hi hcap hcm
  go_enter Try.func11, Try.ntmps11
  go_wp2_with fail
  go_loopw [6, 9, 10] (fun b cv i wr => ∃ (k c : Nat) (acc : List Nat), k ≤ l.length ∧ c ≤ k ∧ i = .int .i64 (k : Int) ∧ cv = .int .i64 (c : Int) ∧ OwnB wr w.heap.size b acc ∧ RunAt l k c acc ∧ Below w.heap.size w wr) (fun _ _ i _ => l.length - (intOf i).toNat)
  case atStart => exact ⟨0, 0, [], by omega, by omega, rfl, rfl, OwnB.nil _ _, RunAt.start l, Below.refl _ _⟩
  case round =>
    obtain ⟨k, c, acc, hk, hck0, rfl, rfl, hown, hra, hbel⟩ := hrel
    have HO := hidden hown
    have HB := hidden hbel
    have HRA := hidden hra
    have hacl := hra.len hk
    have hzr := hbel.size
    clear hown hbel hra
    by_cases hlt : k < l.length
    · have hlt3 : (k : Int) < (l.length : Int) := by omega
      obtain ⟨b, off, rfl, hb, hc0⟩ := HS.out.at hlt
      have hc1 := (HB.out.cell (p := ⟨b, off + k, none⟩) hb).trans hc0
      have HX := hidden (HI.out.get hlt)
      have hten := wv_ten (HI.out.get hlt)
      have hten2 := uv_ten (n := c + 1) (by omega)
      obtain ⟨d, hd⟩ : ∃ d, c + 1 = d := ⟨_, rfl⟩
      have hsum : (c : Int) + 1 = (d : Int) := by omega
      have hd256 : d ≤ 256 := by omega
      have hdk : d ≤ k + 1 := by omega
      rw [hd] at hten2
      by_cases hlast : k + 1 = l.length
      · have hdl : ((k : Int) == (l.length : Int) - 1) = true := beq_iff_eq.2 (by omega)
        have HR2 := hidden (HRA.out.last hlt hlast)
        rw [hd] at HR2
        clear hlast hc0 hd hck0
        generalize l[k] = x at *
        go_wp2_with fail
        go_quiet (fail)
        go_wp2_with fail
        refine (refPutInt_told HX.out _).mono ?_
        rintro e w2 ⟨⟨v2, rfl, hown2⟩, hb2⟩
        have HO2 := hidden hown2
        have HOk := hidden ((HO.out.kept (below_drewN (Below.refl _ _) nq)).kept hb2)
        have HB2 := hidden ((below_drewN HB.out nq).trans (hb2.mono hzr))
        have hz2 := HB2.out.size
        clear hown2 hb2
        go_wp2_with (first | (at_builtin; refine wpList_append_sv rfl _ _ rfl w.heap.size _ _ acc (wv x) rfl HOk.out rfl HO2.out.sv ?c1 ?c2 ?_))
        case c1 => omega
        case c2 => omega
        intro v3 w3 o3 b3
        have HO3 := hidden o3
        have HB3 := hidden (HB2.out.trans b3)
        have hz3 := HB3.out.size
        clear o3 b3
        go_wp2_with fail
        refine (refPut_told d (by omega) _).mono ?_
        rintro e w4 ⟨⟨v4, rfl, hown4⟩, hb4⟩
        have HO4 := hidden hown4
        have HOk4 := hidden (HO3.out.kept hb4)
        have HB4 := hidden (HB3.out.trans (hb4.mono hz3))
        have hz4 := HB4.out.size
        clear hown4 hb4
        go_wp2_with (first | (at_builtin; refine wpList_append_sv rfl _ _ rfl w.heap.size _ _ (acc ++ wv x) (uv d) rfl HOk4.out rfl HO4.out.sv ?c3 ?c4 ?_))
        case c3 => simp; omega
        case c4 => omega
        intro v5 w5 o5 b5
        have o5' : OwnB w5 w.heap.size v5 (acc ++ (wv x ++ uv d)) := by simpa using o5
        have HO5 := hidden o5'
        have HB5 := hidden (HB4.out.trans b5)
        clear o5 o5' b5
        go_wp2_with fail
        go_roundw
        case rel => exact ⟨k + 1, 0, _, by omega, by omega, by go_num, rfl, HO5.out, HR2.out, HB5.out⟩
        case measure => simp [intOf]; omega
      · have hk1 : k + 1 < l.length := by omega
        have hdl : ((k : Int) == (l.length : Int) - 1) = false := beq_eq_false_iff_ne.2 (by omega)
        have hj1 : (k : Int) + 1 < (l.length : Int) := by omega
        obtain ⟨b', off', hbo, _, hc2⟩ := HS.out.at hk1
        cases hbo
        have hc3 := (HB.out.cell (p := ⟨b, off + (k + 1), none⟩) hb).trans hc2
        by_cases he : l[k + 1] = l[k]
        · have HR2 := hidden (HRA.out.more hk1 he)
          rw [hd] at HR2
          have hnn : (l[k + 1] != l[k]) = false := by simpa using he
          clear hlast hc0 hd hck0 hc2 he
          generalize l[k] = x at *
          generalize l[k + 1] = y at *
          go_wp2_with fail
          go_quiet (fail)
          go_wp2_with fail
          go_roundw
          case rel => exact ⟨k + 1, d, acc, by omega, by omega, by go_num, rfl, HO.out.kept (below_drewN (Below.refl _ _) nq), HR2.out, below_drewN HB.out nq⟩
          case measure => simp [intOf]; omega
        · have HR2 := hidden (HRA.out.turn hk1 he)
          rw [hd] at HR2
          have hnn : (l[k + 1] != l[k]) = true := by simpa using he
          clear hlast hc0 hd hck0 hc2 he
          generalize l[k] = x at *
          generalize l[k + 1] = y at *
          go_wp2_with fail
          go_quiet (fail)
          go_wp2_with fail
          refine (refPutInt_told HX.out _).mono ?_
          rintro e w2 ⟨⟨v2, rfl, hown2⟩, hb2⟩
          have HO2 := hidden hown2
          have HOk := hidden ((HO.out.kept (below_drewN (Below.refl _ _) nq)).kept hb2)
          have HB2 := hidden ((below_drewN HB.out nq).trans (hb2.mono hzr))
          have hz2 := HB2.out.size
          clear hown2 hb2
          go_wp2_with (first | (at_builtin; refine wpList_append_sv rfl _ _ rfl w.heap.size _ _ acc (wv x) rfl HOk.out rfl HO2.out.sv ?c1 ?c2 ?_))
          case c1 => omega
          case c2 => omega
          intro v3 w3 o3 b3
          have HO3 := hidden o3
          have HB3 := hidden (HB2.out.trans b3)
          have hz3 := HB3.out.size
          clear o3 b3
          go_wp2_with fail
          refine (refPut_told d (by omega) _).mono ?_
          rintro e w4 ⟨⟨v4, rfl, hown4⟩, hb4⟩
          have HO4 := hidden hown4
          have HOk4 := hidden (HO3.out.kept hb4)
          have HB4 := hidden (HB3.out.trans (hb4.mono hz3))
          have hz4 := HB4.out.size
          clear hown4 hb4
          go_wp2_with (first | (at_builtin; refine wpList_append_sv rfl _ _ rfl w.heap.size _ _ (acc ++ wv x) (uv d) rfl HOk4.out rfl HO4.out.sv ?c3 ?c4 ?_))
          case c3 => simp; omega
          case c4 => omega
          intro v5 w5 o5 b5
          have o5' : OwnB w5 w.heap.size v5 (acc ++ (wv x ++ uv d)) := by simpa using o5
          have HO5 := hidden o5'
          have HB5 := hidden (HB4.out.trans b5)
          clear o5 o5' b5
          go_wp2_with fail
          go_roundw
          case rel => exact ⟨k + 1, 0, _, by omega, by omega, by go_num, rfl, HO5.out, HR2.out, HB5.out⟩
          case measure => simp [intOf]; omega
    · obtain rfl : k = l.length := by omega
      have hlt3 : ¬ (l.length : Int) < (l.length : Int) := by omega
      have HO2 : Hid (OwnB wr w.heap.size u6 (enc2 l)) := hidden (by rw [← (HRA.out.2 rfl).2]; exact HO.out)
      go_wp2_with fail
      go_ret2
      exact ⟨⟨_, rfl, HO2.out⟩, HB.out⟩
end Go.Proofs.Ytnlanilejhjkkaa
