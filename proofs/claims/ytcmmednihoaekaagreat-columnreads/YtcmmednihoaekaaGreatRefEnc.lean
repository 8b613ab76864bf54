/- Contracts: the document's Encode by codecs 0 and 1. Contracts: the document's Encode by codec 2. -/
import Derived.Deep.AppendLies
import Derived.Deep.RegionHeld3
import Derived.Test.YtcmmednihoaekaaGreatRefUniq
set_option linter.unusedVariables false
set_option linter.unusedSimpArgs false
namespace Go.Proofs.YtcmmednihoaekaaGreat
open Go.RowKit Go.Lib

/-- What Encode answers. -/
def EncPost (bs : List Nat) (w : World) (e : Ending) (w' : World) : Prop := (∃ v', e = .returned (.tuple #[v', .bool true]) ∧ OwnB w' w.heap.size v' bs) ∧ Below w.heap.size w w'

/-- Bytes put behind bytes, at a step of a region that draws its order. -/
theorem step_append_b {w : World} {ops : Array Oper} {o : Oper} {a : Act} {K : Act → World → Prop} {Q : Exit → Act → World → Prop} {E : Prop} (hgd : o.guard = none) (s x : Operand)
    (ho : o.op = .call { callee := .builtin .append, args := #[s, x], argTypes := #[24, 24] })
    (base B2 : Nat) (v vx : Value) (l0 l : List Nat) (hs : a.eval s = v) (hown : OwnB w base v l0) (hx : a.eval x = vx) (hsl : OwnB w B2 vx l) (hp : 0 < l.length)
    (hbytes : l0.length + l.length ≤ 100000) (hbase : base ≤ w.heap.size)
    (h : ∀ v' w', OwnB w' base v' (l0 ++ l) → Below base w w' → K (a.put o.dst v') w') :
    if Region.wanted o (yielded ops a.tmps) = true then Oper.wp Tryz.prog o a w K Q else E := by
  obtain ⟨i0, hi, hz0, hz1', hz2⟩ := info_parts info5
  obtain ⟨g, cap, rfl, hB, hg⟩ := own_form hsl hp
  have hc : ∀ j u, (vals .u8 l)[j]? = some u → w.cell? ((⟨g, 0, none⟩ : Addr).add j) = some u := fun j u hj => hsl.cells (g := g) rfl j u hj
  unfold OwnB at hown
  refine step_append_lies (P := Tryz.prog) w hgd s x 24 ho base 5 i0 (.int .u8 0) 1 1 Tryz.underlying24 hi hz0 hz1' hz2 rfl (by decide) v l0.length (vals .u8 l0) hs hown ⟨g, 0, none⟩ l.length cap (vals .u8 l) hx (by rw [vals_length]; omega) hc (vals_oneCell _ _) hp (by unfold maxLen; omega) (by omega) hbase _ rfl ?_
  intro g' cap' w' o1 g1 _ _
  refine h _ w' ?_ ((Below.refl base w).grown g1 hbase (fun k hk => (hown.lt k hk).1))
  unfold OwnB
  rw [vals_append, List.length_append]
  exact o1

set_option maxRecDepth 100000 in
set_option maxHeartbeats 2000000 in
theorem refEncode_0 {w : World} {v : Value} {l : List Int} (hs : Sv w v (ivals l)) (hl : l.length ≤ 256) (hi : Is l) :
    Calls Tryz.prog 52 #[.int .i64 0, v] w (EncPost (enc0 l) w) := by
  have HI := hidden hi
  have HS := hidden hs
  obtain ⟨a, cap, rfl, hcap, hcm⟩ := hs.form
  have hgt : ¬ (l.length : Int) > 256 := by omega
  clear hs hi hcap hcm
  go_enter Tryz.func52, Tryz.ntmps52
  go_wp2_with fail
  go_loopw [6, 7] (fun b i wr => ∃ k : Nat, k ≤ l.length ∧ i = .int .i64 (k : Int) ∧ OwnB wr w.heap.size b (enc0 (l.take k)) ∧ Below w.heap.size w wr) (fun _ i _ => l.length - (intOf i).toNat)
  case atStart => exact ⟨0, by omega, rfl, OwnB.nil _ _, Below.refl _ _⟩
  case round =>
    obtain ⟨k, hk, rfl, hown, hbel⟩ := hrel
    have HO := hidden hown
    have HB := hidden hbel
    have hzr := hbel.size
    clear hown hbel
    by_cases hlt : k < l.length
    · have hlt3 : (k : Int) < (l.length : Int) := by omega
      obtain ⟨b, off, rfl, hb, hck⟩ := (HS.out.kept HB.out).at hlt
      have HX := hidden (HI.out.get hlt)
      have HT := hidden (enc0_succ hlt)
      have hsz := (enc0_size (HI.out.take k)).1
      rw [List.length_take] at hsz
      have hten := wv_ten (HI.out.get hlt)
      generalize l[k] = x at *
      generalize enc0 (l.take k) = acc at *
      go_wp2_with fail
      refine (refPutInt_told HX.out _).mono ?_
      rintro e w2 ⟨⟨v2, rfl, hown2⟩, hb2⟩
      have HO2 := hidden hown2
      have HOk := hidden (HO.out.kept hb2)
      have HB2 := hidden (HB.out.trans (hb2.mono hzr))
      have hz2 := hb2.size
      clear hown2 hb2
      go_wp2_with (first | (at_builtin; refine wpList_append_sv rfl _ _ rfl w.heap.size _ _ acc (wv x) rfl HOk.out rfl HO2.out.sv ?c1 ?c2 ?_))
      case c1 => omega
      case c2 => omega
      intro v3 w3 o3 b3
      have HO3 := hidden o3
      have HB3 := hidden (HB2.out.trans b3)
      clear o3 b3
      go_wp2_with fail
      go_roundw
      case rel => exact ⟨k + 1, by omega, by go_num, by rw [HT.out]; exact HO3.out, HB3.out⟩
      case measure => simp [intOf]; omega
    · obtain rfl : k = l.length := by omega
      have hlt3 : ¬ (l.length : Int) < (l.length : Int) := by omega
      rw [List.take_length] at HO
      go_wp2_with fail
      go_ret2
      exact ⟨⟨_, rfl, HO.out⟩, HB.out⟩

set_option maxRecDepth 100000 in
set_option maxHeartbeats 4000000 in
theorem refEncode_1 {w : World} {v : Value} {l : List Int} (hs : Sv w v (ivals l)) (hl : l.length ≤ 256) (hi : Is l) :
    Calls Tryz.prog 52 #[.int .i64 1, v] w (EncPost (enc1 0 l) w) := by
  have HI := hidden hi
  have HS := hidden hs
  obtain ⟨a, cap, rfl, hcap, hcm⟩ := hs.form
  have hgt : ¬ (l.length : Int) > 256 := by omega
  clear hs hi hcap hcm
  go_enter Tryz.func52, Tryz.ntmps52
  go_wp2_with fail
  go_loopw [6, 8] (fun b i wr => ∃ k : Nat, k ≤ l.length ∧ i = .int .i64 (k : Int) ∧ OwnB wr w.heap.size b (enc1 0 (l.take k)) ∧ Below w.heap.size w wr) (fun _ i _ => l.length - (intOf i).toNat)
  case atStart => exact ⟨0, by omega, rfl, OwnB.nil _ _, Below.refl _ _⟩
  case round =>
    obtain ⟨k, hk, rfl, hown, hbel⟩ := hrel
    have HO := hidden hown
    have HB := hidden hbel
    have hzr := hbel.size
    clear hown hbel
    by_cases hlt : k < l.length
    · have hlt3 : (k : Int) < (l.length : Int) := by omega
      obtain ⟨b, off, rfl, hb, hck0⟩ := HS.out.at hlt
      have hck := (HB.out.cell (p := ⟨b, off + k, none⟩) hb).trans hck0
      clear hck0
      have HX := hidden (w64_i64 (l[k] - ahd l k))
      have HT := hidden (enc1_succ hlt)
      have hsz := (enc1_size (l := l.take k) (last := 0)).1
      rw [List.length_take] at hsz
      have hten := wv_ten (w64_i64 (l[k] - ahd l k))
      have hpos := wv_pos (w64 (l[k] - ahd l k))
      cases k with
      | zero =>
        have e0 : w64 (l[0] - ahd l 0) = l[0] := by
          unfold ahd
          rw [if_pos rfl, Int.sub_zero, w64_id (HI.out.get hlt)]
        rw [e0] at HX HT hten hpos
        rw [Nat.add_zero] at hck
        clear e0
        generalize enc1 0 (l.take 0) = acc at *
        generalize l[0] = x at *
        go_wp2_with fail
        refine (refPutInt_told HX.out _).mono ?_
        rintro e w2 ⟨⟨v2, rfl, hown2⟩, hb2⟩
        have HO2 := hidden hown2
        have HOk := hidden (HO.out.kept hb2)
        have HB2 := hidden (HB.out.trans (hb2.mono hzr))
        have hz2 := hb2.size
        clear hown2 hb2
        go_wp2_with (first | (at_builtin; refine wpList_append_sv rfl _ _ rfl w.heap.size _ _ acc (wv x) rfl HOk.out rfl HO2.out.sv ?c1 ?c2 ?_))
        case c1 => omega
        case c2 => omega
        intro v3 w3 o3 b3
        have HO3 := hidden o3
        have HB3 := hidden (HB2.out.trans b3)
        clear o3 b3
        go_wp2_with fail
        go_roundw
        case rel => exact ⟨1, by omega, by go_num, by rw [HT.out]; exact HO3.out, HB3.out⟩
        case measure => simp [intOf]; omega
      | succ k =>
        obtain ⟨b', off', hbo, _, hck2⟩ := (HS.out.kept HB.out).at (show k < l.length by omega)
        cases hbo
        rw [ahd_succ (show k < l.length by omega)] at HX HT hten hpos
        have h1 := HI.out.get hlt
        have h2 := HI.out.get (show k < l.length by omega)
        have hk0 : (((k + 1 : Nat) : Int) == 0) = false := beq_eq_false_iff_ne.2 (by omega)
        have hk1 : ((k + 1 : Nat) : Int) - 1 = (k : Int) := by omega
        have hj1 : (0 : Int) ≤ (k : Int) + 1 := by omega
        have hj2 : (k : Int) + 1 < (l.length : Int) := by omega
        have hj3 : ((k : Int) + 1).toNat = k + 1 := by omega
        have hj4 : (0 : Int) ≤ (k : Int) := by omega
        have hj5 : (k : Int) < (l.length : Int) := by omega
        have hj6 : IntKind.i64.wrap ((k : Int) + 1 - 1) = (k : Int) := by rw [IntKind.wrap_i64]; omega
        have hj7 : (k : Int) + 1 - 1 = (k : Int) := by omega
        have hj8 : IntKind.i64.wrap (k : Int) = (k : Int) := by rw [IntKind.wrap_i64]; omega
        obtain ⟨X, hX⟩ : ∃ X, IntKind.u64.wrap l[k + 1] = X := ⟨_, rfl⟩
        obtain ⟨Y, hY⟩ : ∃ Y, IntKind.u64.wrap l[k] = Y := ⟨_, rfl⟩
        obtain ⟨Z, hZ⟩ : ∃ Z, IntKind.u64.wrap (X - Y) = Z := ⟨_, rfl⟩
        have hD : IntKind.i64.wrap Z = w64 (l[k + 1] - l[k]) := by
          rw [← hZ, ← hX, ← hY, ← wrap_w64, IntKind.wrap_i64, IntKind.wrap_i64, IntKind.wrap_u64, IntKind.wrap_u64, IntKind.wrap_u64]
          omega
        clear h1 h2
        generalize l[k + 1] = x at *
        generalize l[k] = y at *
        generalize enc1 0 (l.take (k + 1)) = acc at *
        generalize w64 (x - y) = d at *
        have HKEEP : Hid (∀ n W', Below wr.heap.size (wr.drewN n) W' → W'.cell? ⟨b, off + (k + 1), none⟩ = some (.int .i64 x) ∧ W'.cell? ⟨b, off + k, none⟩ = some (.int .i64 y) ∧ OwnB W' w.heap.size u6 acc ∧ Below w.heap.size w W' ∧ w.heap.size ≤ W'.heap.size) := hidden (fun n W' h => by
          have hb' : Below wr.heap.size wr W' := (below_drewN (Below.refl _ _) n).trans h
          have hbw := HB.out.trans (hb'.mono hzr)
          exact ⟨(hb'.cell (p := ⟨b, off + (k + 1), none⟩) (Nat.lt_of_lt_of_le hb hzr)).trans hck, (hb'.cell (p := ⟨b, off + k, none⟩) (Nat.lt_of_lt_of_le hb hzr)).trans hck2, HO.out.kept hb', hbw, hbw.size⟩)
        go_wp2_with fail
        go_region_held3 (fun w' => w'.cell? ⟨b, off + (k + 1), none⟩ = some (.int .i64 x) ∧ w'.cell? ⟨b, off + k, none⟩ = some (.int .i64 y)) (go_keep) (first
          | (go_at_call 79; refine (refPutInt_told HX.out _).mono ?_; rintro e w2 ⟨⟨v2, rfl, hown2⟩, hb2⟩; obtain ⟨hm1, hm2, hm3, hm4, hm5⟩ := HKEEP.out _ _ hb2; have HM3 := hidden hm3; have HM4 := hidden hm4; have HO2 := hidden hown2; clear hb2 hm3 hm4 hown2)
          | (refine step_append_b (by rfl) _ _ (by rfl) w.heap.size _ _ _ acc (wv d) (by rfl) HM3.out (by rfl) HO2.out hpos (by omega) hm5 ?_; intro v3 w3 o3 b3; have hq1 := (b3.cell (p := ⟨b, off + (k + 1), none⟩) hb).trans hm1; have hq2 := (b3.cell (p := ⟨b, off + k, none⟩) hb).trans hm2; have HO3 := hidden o3; have HB3 := hidden (HM4.out.trans b3); clear o3 b3))
        all_goals go_wp2_with fail
        all_goals go_roundw
        case rel => exact ⟨k + 1 + 1, by omega, by go_num, by rw [HT.out]; exact HO3.out, HB3.out⟩
        case measure => simp [intOf]; omega
    · obtain rfl : k = l.length := by omega
      have hlt3 : ¬ (l.length : Int) < (l.length : Int) := by omega
      rw [List.take_length] at HO
      go_wp2_with fail
      go_ret2
      exact ⟨⟨_, rfl, HO.out⟩, HB.out⟩
end Go.Proofs.YtcmmednihoaekaaGreat
set_option linter.unusedVariables false
set_option linter.unusedSimpArgs false
namespace Go.Proofs.YtcmmednihoaekaaGreat
open Go.RowKit Go.Lib

/-- What is written so far, with c numbers of a run that goes on. -/
def RunAt (l : List Int) (k c : Nat) (acc : List Nat) : Prop := (∀ h : k < l.length, acc ++ enc2c l[k] (c + 1) (l.drop (k + 1)) = enc2 l) ∧ (k = l.length → c = 0 ∧ acc = enc2 l)

theorem RunAt.start (l : List Int) : RunAt l 0 0 [] := by
  cases l with
  | nil => exact ⟨fun h => by simp at h, fun _ => ⟨rfl, rfl⟩⟩
  | cons x t => exact ⟨fun _ => rfl, fun h => by simp at h⟩

theorem RunAt.more {l : List Int} {k c : Nat} {acc : List Nat} (h : RunAt l k c acc) (hk : k + 1 < l.length) (he : l[k + 1] = l[k]) : RunAt l (k + 1) (c + 1) acc := by
  refine ⟨fun _ => ?_, fun e => by omega⟩
  have := h.1 (by omega)
  rw [List.drop_eq_getElem_cons hk, enc2c, if_pos he] at this
  rw [he]
  exact this

theorem RunAt.turn {l : List Int} {k c : Nat} {acc : List Nat} (h : RunAt l k c acc) (hk : k + 1 < l.length) (he : l[k + 1] ≠ l[k]) : RunAt l (k + 1) 0 (acc ++ (wv l[k] ++ uv (c + 1))) := by
  refine ⟨fun _ => ?_, fun e => by omega⟩
  have := h.1 (by omega)
  rw [List.drop_eq_getElem_cons hk, enc2c, if_neg he] at this
  rw [← this]
  simp

theorem RunAt.last {l : List Int} {k c : Nat} {acc : List Nat} (h : RunAt l k c acc) (hk : k < l.length) (he : k + 1 = l.length) : RunAt l (k + 1) 0 (acc ++ (wv l[k] ++ uv (c + 1))) := by
  refine ⟨fun _ => by omega, fun _ => ⟨rfl, ?_⟩⟩
  have := h.1 hk
  rw [List.drop_of_length_le (by omega), enc2c] at this
  exact this

theorem RunAt.len {l : List Int} {k c : Nat} {acc : List Nat} (h : RunAt l k c acc) (hk : k ≤ l.length) : acc.length ≤ (enc2 l).length := by
  rcases Nat.lt_or_ge k l.length with hl | hl
  · have := congrArg List.length (h.1 hl)
    rw [List.length_append] at this
    omega
  · have := (h.2 (by omega)).2
    rw [this]
    exact Nat.le_refl _

set_option maxRecDepth 100000 in
set_option maxHeartbeats 4000000 in
theorem refEncode_2 {w : World} {v : Value} {l : List Int} (hs : Sv w v (ivals l)) (hl : l.length ≤ 256) (hi : Is l) :
    Calls Tryz.prog 52 #[.int .i64 2, v] w (EncPost (enc2 l) w) := by
  have HI := hidden hi
  have HS := hidden hs
  have hsz := enc2_size hi hl
  obtain ⟨a, cap, rfl, hcap, hcm⟩ := hs.form
  have hgt : ¬ (l.length : Int) > 256 := by omega
  clear hs hi hcap hcm
  go_enter Tryz.func52, Tryz.ntmps52
  go_wp2_with fail
  go_loopw [6, 9, 10] (fun b cv i wr => ∃ (k c : Nat) (acc : List Nat), k ≤ l.length ∧ c ≤ k ∧ i = .int .i64 (k : Int) ∧ cv = .int .i64 (c : Int) ∧ OwnB wr w.heap.size b acc ∧ RunAt l k c acc ∧ Below w.heap.size w wr) (fun _ _ i _ => l.length - (intOf i).toNat)
  case atStart => exact ⟨0, 0, [], by omega, by omega, rfl, rfl, OwnB.nil _ _, RunAt.start l, Below.refl _ _⟩
  case round =>
    obtain ⟨k, c, acc, hk, hck0, rfl, rfl, hown, hra, hbel⟩ := hrel
    have HO := hidden hown
    have HB := hidden hbel
    have HRA := hidden hra
    have hacl := hra.len hk
    have hzr := hbel.size
    clear hown hbel hra
    by_cases hlt : k < l.length
    · have hlt3 : (k : Int) < (l.length : Int) := by omega
      obtain ⟨b, off, rfl, hb, hc0⟩ := HS.out.at hlt
      have hc1 := (HB.out.cell (p := ⟨b, off + k, none⟩) hb).trans hc0
      have HX := hidden (HI.out.get hlt)
      have hten := wv_ten (HI.out.get hlt)
      have hten2 := uv_ten (n := c + 1) (by omega)
      obtain ⟨d, hd⟩ : ∃ d, c + 1 = d := ⟨_, rfl⟩
      have hsum : (c : Int) + 1 = (d : Int) := by omega
      have hd256 : d ≤ 256 := by omega
      have hdk : d ≤ k + 1 := by omega
      rw [hd] at hten2
      by_cases hlast : k + 1 = l.length
      · have hdl : ((k : Int) == (l.length : Int) - 1) = true := beq_iff_eq.2 (by omega)
        have HR2 := hidden (HRA.out.last hlt hlast)
        rw [hd] at HR2
        clear hlast hc0 hd hck0
        generalize l[k] = x at *
        go_wp2_with fail
        go_quiet (fail)
        go_wp2_with fail
        refine (refPutInt_told HX.out _).mono ?_
        rintro e w2 ⟨⟨v2, rfl, hown2⟩, hb2⟩
        have HO2 := hidden hown2
        have HOk := hidden ((HO.out.kept (below_drewN (Below.refl _ _) nq)).kept hb2)
        have HB2 := hidden ((below_drewN HB.out nq).trans (hb2.mono hzr))
        have hz2 := HB2.out.size
        clear hown2 hb2
        go_wp2_with (first | (at_builtin; refine wpList_append_sv rfl _ _ rfl w.heap.size _ _ acc (wv x) rfl HOk.out rfl HO2.out.sv ?c1 ?c2 ?_))
        case c1 => omega
        case c2 => omega
        intro v3 w3 o3 b3
        have HO3 := hidden o3
        have HB3 := hidden (HB2.out.trans b3)
        have hz3 := HB3.out.size
        clear o3 b3
        go_wp2_with fail
        refine (refPut_told d (by omega) _).mono ?_
        rintro e w4 ⟨⟨v4, rfl, hown4⟩, hb4⟩
        have HO4 := hidden hown4
        have HOk4 := hidden (HO3.out.kept hb4)
        have HB4 := hidden (HB3.out.trans (hb4.mono hz3))
        have hz4 := HB4.out.size
        clear hown4 hb4
        go_wp2_with (first | (at_builtin; refine wpList_append_sv rfl _ _ rfl w.heap.size _ _ (acc ++ wv x) (uv d) rfl HOk4.out rfl HO4.out.sv ?c3 ?c4 ?_))
        case c3 => simp; omega
        case c4 => omega
        intro v5 w5 o5 b5
        have o5' : OwnB w5 w.heap.size v5 (acc ++ (wv x ++ uv d)) := by simpa using o5
        have HO5 := hidden o5'
        have HB5 := hidden (HB4.out.trans b5)
        clear o5 o5' b5
        go_wp2_with fail
        go_roundw
        case rel => exact ⟨k + 1, 0, _, by omega, by omega, by go_num, rfl, HO5.out, HR2.out, HB5.out⟩
        case measure => simp [intOf]; omega
      · have hk1 : k + 1 < l.length := by omega
        have hdl : ((k : Int) == (l.length : Int) - 1) = false := beq_eq_false_iff_ne.2 (by omega)
        have hj1 : (k : Int) + 1 < (l.length : Int) := by omega
        obtain ⟨b', off', hbo, _, hc2⟩ := HS.out.at hk1
        cases hbo
        have hc3 := (HB.out.cell (p := ⟨b, off + (k + 1), none⟩) hb).trans hc2
        by_cases he : l[k + 1] = l[k]
        · have HR2 := hidden (HRA.out.more hk1 he)
          rw [hd] at HR2
          have hnn : (l[k + 1] != l[k]) = false := by simpa using he
          clear hlast hc0 hd hck0 hc2 he
          generalize l[k] = x at *
          generalize l[k + 1] = y at *
          go_wp2_with fail
          go_quiet (fail)
          go_wp2_with fail
          go_roundw
          case rel => exact ⟨k + 1, d, acc, by omega, by omega, by go_num, rfl, HO.out.kept (below_drewN (Below.refl _ _) nq), HR2.out, below_drewN HB.out nq⟩
          case measure => simp [intOf]; omega
        · have HR2 := hidden (HRA.out.turn hk1 he)
          rw [hd] at HR2
          have hnn : (l[k + 1] != l[k]) = true := by simpa using he
          clear hlast hc0 hd hck0 hc2 he
          generalize l[k] = x at *
          generalize l[k + 1] = y at *
          go_wp2_with fail
          go_quiet (fail)
          go_wp2_with fail
          refine (refPutInt_told HX.out _).mono ?_
          rintro e w2 ⟨⟨v2, rfl, hown2⟩, hb2⟩
          have HO2 := hidden hown2
          have HOk := hidden ((HO.out.kept (below_drewN (Below.refl _ _) nq)).kept hb2)
          have HB2 := hidden ((below_drewN HB.out nq).trans (hb2.mono hzr))
          have hz2 := HB2.out.size
          clear hown2 hb2
          go_wp2_with (first | (at_builtin; refine wpList_append_sv rfl _ _ rfl w.heap.size _ _ acc (wv x) rfl HOk.out rfl HO2.out.sv ?c1 ?c2 ?_))
          case c1 => omega
          case c2 => omega
          intro v3 w3 o3 b3
          have HO3 := hidden o3
          have HB3 := hidden (HB2.out.trans b3)
          have hz3 := HB3.out.size
          clear o3 b3
          go_wp2_with fail
          refine (refPut_told d (by omega) _).mono ?_
          rintro e w4 ⟨⟨v4, rfl, hown4⟩, hb4⟩
          have HO4 := hidden hown4
          have HOk4 := hidden (HO3.out.kept hb4)
          have HB4 := hidden (HB3.out.trans (hb4.mono hz3))
          have hz4 := HB4.out.size
          clear hown4 hb4
          go_wp2_with (first | (at_builtin; refine wpList_append_sv rfl _ _ rfl w.heap.size _ _ (acc ++ wv x) (uv d) rfl HOk4.out rfl HO4.out.sv ?c3 ?c4 ?_))
          case c3 => simp; omega
          case c4 => omega
          intro v5 w5 o5 b5
          have o5' : OwnB w5 w.heap.size v5 (acc ++ (wv x ++ uv d)) := by simpa using o5
          have HO5 := hidden o5'
          have HB5 := hidden (HB4.out.trans b5)
          clear o5 o5' b5
          go_wp2_with fail
          go_roundw
          case rel => exact ⟨k + 1, 0, _, by omega, by omega, by go_num, rfl, HO5.out, HR2.out, HB5.out⟩
          case measure => simp [intOf]; omega
    · obtain rfl : k = l.length := by omega
      have hlt3 : ¬ (l.length : Int) < (l.length : Int) := by omega
      have HO2 : Hid (OwnB wr w.heap.size u6 (enc2 l)) := hidden (by rw [← (HRA.out.2 rfl).2]; exact HO.out)
      go_wp2_with fail
      go_ret2
      exact ⟨⟨_, rfl, HO2.out⟩, HB.out⟩
end Go.Proofs.YtcmmednihoaekaaGreat
