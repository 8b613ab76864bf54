/- Contracts: putSteps, runLength, putRuns, distance. -/
import Derived.Test.YtnlanilejhjkkaaEach
set_option linter.unusedVariables false
set_option linter.unusedSimpArgs false
namespace Go.Proofs.Ytnlanilejhjkkaa
open Go.RowKit Go.Lib

/-- The number ahead of the place k. -/
def ahd (l : List Int) (k : Nat) : Int := if k = 0 then 0 else l.getD (k - 1) 0

theorem ahd_succ {l : List Int} {k : Nat} (h : k < l.length) : ahd l (k + 1) = l[k] := by
  unfold ahd
  simp [List.getD_eq_getElem?_getD, h]

theorem enc1_append : ∀ (a : List Int) (last x : Int), enc1 last (a ++ [x]) = enc1 last a ++ wv (w64 (x - (a.getLast?.getD last)))
  | [], last, x => by simp [enc1]
  | y :: t, last, x => by
    rw [List.cons_append, enc1, enc1_append t y x, enc1, List.append_assoc]
    cases t with
    | nil => rfl
    | cons z s => rw [show (y :: z :: s).getLast? = (z :: s).getLast? from by simp [List.getLast?_cons_cons]]; simp [List.getLast?_eq_some_getLast]

theorem ahd_last {l : List Int} {k : Nat} (h : k ≤ l.length) : (l.take k).getLast?.getD 0 = ahd l k := by
  unfold ahd
  cases k with
  | zero => simp
  | succ k =>
    rw [if_neg (by omega), List.getLast?_take, List.getD_eq_getElem?_getD]
    simp [show k < l.length by omega]

theorem enc1_succ {l : List Int} {k : Nat} (h : k < l.length) : enc1 0 (l.take (k + 1)) = enc1 0 (l.take k) ++ wv (w64 (l[k] - ahd l k)) := by
  rw [List.take_succ_eq_append_getElem h, enc1_append, ahd_last (by omega)]

theorem wrap_w64 (x : Int) : IntKind.i64.wrap x = w64 x := by rw [IntKind.wrap_i64]; unfold w64; omega

set_option maxRecDepth 100000 in
set_option maxHeartbeats 2000000 in
theorem putSteps_any {w : World} {v : Value} {l : List Int} (hs : Sv w v (ivals l)) (hl : l.length ≤ 256) (hi : Is l) :
    Calls Try.prog 30 #[v] w (Told w (enc1 0 l)) := by
  have HI := hidden hi
  have HS := hidden hs
  obtain ⟨a, cap, rfl, hcap, hcm⟩ := hs.form
  clear hs hi hcap hcm
  go_enter Try.func30, Try.ntmps30
  go_wp2_with fail
  go_loopw [3, 4, 9] (fun b ah i wr => ∃ k : Nat, k ≤ l.length ∧ i = .int .i64 (k : Int) ∧ ah = .int .i64 (ahd l k) ∧ OwnB wr w.heap.size b (enc1 0 (l.take k)) ∧ Below w.heap.size w wr) (fun _ _ i _ => l.length - (intOf i).toNat)
  case atStart => exact ⟨0, by omega, rfl, rfl, OwnB.nil _ _, Below.refl _ _⟩
  case round =>
    obtain ⟨k, hk, rfl, rfl, hown, hbel⟩ := hrel
    have HO := hidden hown
    have HB := hidden hbel
    have hzr := hbel.size
    clear hown hbel
    by_cases hlt : k < l.length
    · obtain ⟨b, off, rfl, hb, hck⟩ := (HS.out.kept HB.out).at hlt
      have HX := hidden (w64_i64 (l[k] - ahd l k))
      have hwr := wrap_w64 (l[k] - ahd l k)
      have HT := hidden (enc1_succ hlt)
      have HA := hidden (ahd_succ hlt)
      have hsz := (enc1_size (l := l.take k) (last := 0)).1
      rw [List.length_take] at hsz
      have hten := wv_ten (w64_i64 (l[k] - ahd l k))
      generalize l[k] = x at *
      generalize ahd l k = y at *
      generalize enc1 0 (l.take k) = acc at *
      generalize w64 (x - y) = d at *
      go_wp2_with fail
      try rw [hwr]
      refine (putInt_told HX.out _).mono ?_
      rintro e w2 ⟨⟨v2, rfl, hown2⟩, hb2⟩
      have HO2 := hidden hown2
      have HOk := hidden (HO.out.kept hb2)
      have HB2 := hidden (HB.out.trans (hb2.mono hzr))
      have hz2 := hb2.size
      clear hown2 hb2
      go_wp2_with (first | (at_builtin; refine wpList_append_sv rfl _ _ rfl w.heap.size _ _ acc (wv d) rfl HOk.out rfl HO2.out.sv ?c1 ?c2 ?_))
      case c1 => omega
      case c2 => omega
      intro v3 w3 o3 b3
      have HO3 := hidden o3
      have HB3 := hidden (HB2.out.trans b3)
      clear o3 b3
      go_wp2_with fail
      go_roundw
      case rel => exact ⟨k + 1, by omega, by go_num, by rw [HA.out], by rw [HT.out]; exact HO3.out, HB3.out⟩
      case measure => simp [intOf]; omega
    · obtain rfl : k = l.length := by omega
      rw [List.take_length] at HO
      go_wp2_with fail
      go_ret
      exact ⟨⟨_, rfl, HO.out⟩, HB.out⟩

/-- How many numbers equal to x stand ahead. -/
def runL (x : Int) : List Int → Nat
  | [] => 0
  | y :: t => if y = x then runL x t + 1 else 0

theorem runL_le (x : Int) : ∀ l, runL x l ≤ l.length
  | [] => by simp [runL]
  | y :: t => by
    have := runL_le x t
    unfold runL
    split <;> simp <;> omega

theorem runL_stop {x : Int} : ∀ {l : List Int} {k : Nat}, (∀ j (h : j < k) (hl : j < l.length), l[j] = x) → (h : k < l.length) → l[k] ≠ x → runL x l = k
  | y :: t, 0, _, _, h => by
    unfold runL
    rw [if_neg (by simpa using h)]
  | y :: t, k + 1, ha, hk, h => by
    have h0 := ha 0 (by omega) (by simp)
    unfold runL
    rw [if_pos (by simpa using h0), runL_stop (l := t) (k := k) (fun j hj hl => by have := ha (j + 1) (by omega) (by simpa using hl); simpa using this) (by simpa using hk) (by simpa using h)]

theorem runL_all {x : Int} : ∀ {l : List Int}, (∀ j (h : j < l.length), l[j] = x) → runL x l = l.length
  | [], _ => rfl
  | y :: t, ha => by
    have h0 := ha 0 (by simp)
    unfold runL
    rw [if_pos (by simpa using h0), runL_all (l := t) (fun j hj => by have := ha (j + 1) (by simpa using hj); simpa using this)]
    simp

theorem enc2c_run (x : Int) : ∀ (t : List Int) (c : Nat), enc2c x c t = wv x ++ uv (c + runL x t) ++ enc2 (t.drop (runL x t))
  | [], c => by simp [enc2c, runL, enc2]
  | y :: t, c => by
    unfold enc2c runL
    split
    · next h =>
      rw [enc2c_run x t (c + 1)]
      rw [show c + 1 + runL x t = c + (runL x t + 1) by omega, List.drop_succ_cons]
    · simp [enc2]

theorem enc2_run {l : List Int} (h : 0 < l.length) : enc2 l = wv l[0] ++ uv (runL l[0] l) ++ enc2 (l.drop (runL l[0] l)) := by
  cases l with
  | nil => simp at h
  | cons x t =>
    show enc2c x 1 t = wv x ++ uv (runL x (x :: t)) ++ enc2 ((x :: t).drop (runL x (x :: t)))
    rw [enc2c_run x t 1]
    have e : runL x (x :: t) = runL x t + 1 := by rw [runL, if_pos rfl]
    rw [e, List.drop_succ_cons, Nat.add_comm 1]

theorem runL_pos {l : List Int} (h : 0 < l.length) : 0 < runL l[0] l := by
  cases l with
  | nil => simp at h
  | cons x t =>
    show 0 < runL x (x :: t)
    rw [runL, if_pos rfl]
    omega

set_option maxRecDepth 100000 in
set_option maxHeartbeats 2000000 in
theorem runLength_any {w : World} {v : Value} {l : List Int} (hs : Sv w v (ivals l)) (hl : l.length ≤ 256) (hp : 0 < l.length) :
    Calls Try.prog 44 #[v] w fun e w' => e = .returned (.int .i64 (runL l[0] l : Int)) ∧ w' = w := by
  have HS := hidden hs
  obtain ⟨a, cap, rfl, hcap, hcm⟩ := hs.form
  obtain ⟨b, off, rfl, hb, hc0⟩ := hs.at hp
  clear hs hcap hcm
  rw [Nat.add_zero] at hc0
  have HE : Hid (∀ k, (∀ j (h : j < k) (hl : j < l.length), l[j] = l[0]) → (h : k < l.length) → l[k] ≠ l[0] → runL l[0] l = k) := fun k h1 h2 h3 => runL_stop h1 h2 h3
  have HA := hidden (runL_all (x := l[0]) (l := l))
  generalize l[0] = x at *
  go_enter Try.func44, Try.ntmps44
  go_wp2_with fail
  go_loopw [7] (fun i wr => wr = w ∧ ∃ k : Nat, k ≤ l.length ∧ i = .int .i64 (k : Int) ∧ ∀ j (h : j < k) (hl : j < l.length), l[j] = x) (fun i _ => l.length - (intOf i).toNat)
  case atStart => exact ⟨rfl, 0, by omega, rfl, fun j h => by omega⟩
  case round =>
    obtain ⟨rfl, k, hk, rfl, hall⟩ := hrel
    have HL := hidden hall
    clear hall
    by_cases hlt : k < l.length
    · obtain ⟨b', off', hbo, _, hck⟩ := HS.out.at hlt
      cases hbo
      have HX := hidden (HE.out k HL.out hlt)
      have HY : Hid (∀ j (h : j < k + 1) (hl : j < l.length), l[j] = x → l[j] = x) := fun _ _ _ h => h
      by_cases he : (l[k] == x) = true
      · have hne : (l[k] != x) = false := by simpa using he
        have HN : Hid (∀ j (h : j < k + 1) (hl : j < l.length), l[j] = x) := by
          intro j hj hl
          rcases Nat.lt_or_ge j k with h | h
          · exact HL.out j h hl
          · have : j = k := by omega
            subst this
            simpa using he
        clear HX
        generalize l[k] = y at *
        go_wp2_with fail
        go_roundw
        case rel => exact ⟨trivial, k + 1, by omega, by go_num, HN.out⟩
        case measure => simp [intOf]; omega
      · have hne : (l[k] != x) = true := by simpa using he
        have HR := hidden (HX.out (by simpa using he))
        clear HX
        generalize l[k] = y at *
        go_wp2_with fail
        go_ret
        rw [HR.out]
        exact ⟨rfl, rfl⟩
    · obtain rfl : k = l.length := by omega
      have HR := hidden (HA.out (fun j hj => HL.out j hj hj))
      go_wp2_with fail
      go_ret
      rw [HR.out]
      exact ⟨rfl, rfl⟩
end Go.Proofs.Ytnlanilejhjkkaa
