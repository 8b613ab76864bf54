/- Contracts: putRuns, distance, pack, placeWidth, putRising. -/
import Derived.Test.YtnlanilejhjkkaaRuns
import Derived.Test.YtnlanilejhjkkaaSlices
set_option linter.unusedVariables false
set_option linter.unusedSimpArgs false
namespace Go.Proofs.Ytnlanilejhjkkaa
open Go.RowKit Go.Lib

theorem Sv_drop {W : World} {b off n cap : Nat} {xs : List Value} (h : Sv W (.slice (some ⟨b, off, none⟩) n cap) xs) {k : Nat} (hk : k ≤ xs.length) :
    ∃ A, (if cap = k then (some ⟨b, off, none⟩ : Option Addr) else some ⟨b, off + k, none⟩) = A ∧ Sv W (.slice A (n - k) (cap - k)) (xs.drop k) := by
  refine ⟨_, rfl, ?_⟩
  have := h.drop hk rfl
  split at this
  · next e => rw [if_pos e]; exact this
  · next e => rw [if_neg e]; exact this

theorem ivals_drop (l : List Int) (k : Nat) : ivals (l.drop k) = (ivals l).drop k := by simp [ivals, List.map_drop]
theorem ivals_take (l : List Int) (k : Nat) : ivals (l.take k) = (ivals l).take k := by simp [ivals, List.map_take]
theorem Is.drop {l : List Int} (h : Is l) (k : Nat) : Is (l.drop k) := fun x hx => h x (List.mem_of_mem_drop hx)

theorem enc2_size {l : List Int} (h : Is l) (hl : l.length ≤ 256) : (enc2 l).length ≤ 5120 := by
  have := encC_size 2 h hl
  cases l with
  | nil => simp [enc2]
  | cons x t =>
    have := (enc2c_size (t := t) (x := x) (c := 1) (fun z hz => h z (by simp [hz])) (h x (by simp)) (by simp at hl; omega)).1
    simp at hl
    rw [enc2]
    omega

set_option maxRecDepth 100000 in
set_option maxHeartbeats 2000000 in
theorem putRuns_any {w : World} {v : Value} {l : List Int} (hs : Sv w v (ivals l)) (hl : l.length ≤ 256) (hi : Is l) :
    Calls Try.prog 31 #[v] w (Told w (enc2 l)) := by
  have HI := hidden hi
  have HS := hidden hs
  have hsz := enc2_size hi hl
  obtain ⟨a, cap, rfl, hcap, hcm⟩ := hs.form
  clear hs hi
  go_enter Try.func31, Try.ntmps31
  go_wp2_with fail
  go_loopw [0, 3] (fun v b wr => ∃ (m : List Int) (acc : List Nat), Sv w v (ivals m) ∧ m.length ≤ 256 ∧ Is m ∧ acc ++ enc2 m = enc2 l ∧ OwnB wr w.heap.size b acc ∧ Below w.heap.size w wr) (fun v _ _ => (match v with | .slice _ n _ => n | _ => 0))
  case atStart => exact ⟨l, [], HS.out, hl, HI.out, rfl, OwnB.nil _ _, Below.refl _ _⟩
  case round =>
    obtain ⟨m, acc, hsm, hml, him, hacc, hown, hbel⟩ := hrel
    have HSM := hidden hsm
    have HIM := hidden him
    have HA := hidden hacc
    have HO := hidden hown
    have HB := hidden hbel
    have hzr := hbel.size
    have hlen := congrArg List.length hacc
    rw [List.length_append] at hlen
    obtain ⟨a2, cap2, rfl, hcap2, hcm2⟩ := hsm.form
    have hcm3 : cap2 ≤ 9223372036854775807 := by unfold maxLen at hcm2; omega
    clear hsm him hacc hown hbel hcm2 HS hcap hcm
    by_cases hp : 0 < m.length
    · have HSR := hidden (HSM.out.kept HB.out)
      obtain ⟨b, off, rfl, hb, hc0⟩ := HSR.out.at hp
      rw [Nat.add_zero] at hc0
      have HX := hidden (HIM.out.get hp)
      have hE := enc2_run hp
      have HRL := hidden (runLength_any HSR.out hml hp)
      have hrl := runL_le m[0] m
      have hrp := runL_pos hp
      have h10 := wv_ten (HIM.out.get hp)
      generalize m[0] = x at *
      generalize runL x m = r at *
      obtain ⟨A, hA, hSA⟩ := Sv_drop HSM.out (k := r) (by rw [ivals_length]; omega)
      rw [← ivals_drop] at hSA
      have HSA := hidden hSA
      have HE := hidden hE
      have hlE := congrArg List.length hE
      rw [List.length_append, List.length_append] at hlE
      clear hSA hE
      go_wp2_with fail
      refine HRL.out.mono ?_
      rintro e w1 ⟨rfl, rfl⟩
      go_wp2_with fail
      refine (putInt_told HX.out _).mono ?_
      rintro e w2 ⟨⟨v2, rfl, hown2⟩, hb2⟩
      have HO2 := hidden hown2
      have HOk := hidden (HO.out.kept hb2)
      have HB2 := hidden (HB.out.trans (hb2.mono hzr))
      have hz2 := hb2.size
      clear hown2 hb2
      go_wp2_with (first | (at_builtin; refine wpList_append_sv rfl _ _ rfl w.heap.size _ _ acc (wv x) rfl HOk.out rfl HO2.out.sv ?c1 ?c2 ?_))
      case c1 => omega
      case c2 => omega
      intro v3 w3 o3 b3
      have HO3 := hidden o3
      have HB3 := hidden (HB2.out.trans b3)
      have hz3 := b3.size
      clear o3 b3
      go_wp2_with fail
      refine (vput_told r (by omega) _).mono ?_
      rintro e w4 ⟨⟨v4, rfl, hown4⟩, hb4⟩
      have HO4 := hidden hown4
      have HOk4 := hidden (HO3.out.kept hb4)
      have HB4 := hidden (HB3.out.trans (hb4.mono (by omega)))
      have hz4 := hb4.size
      clear hown4 hb4
      go_wp2_with (first | (at_builtin; refine wpList_append_sv rfl _ _ rfl w.heap.size _ _ (acc ++ wv x) (uv r) rfl HOk4.out rfl HO4.out.sv ?c1 ?c2 ?_))
      case c1 => simp; omega
      case c2 => omega
      intro v5 w5 o5 b5
      have HO5 := hidden o5
      have HB5 := hidden (HB4.out.trans b5)
      clear o5 b5
      go_wp2_with fail
      go_roundw
      case rel => exact ⟨m.drop r, acc ++ (wv x ++ uv r), HSA.out, by rw [List.length_drop]; omega, HIM.out.drop r, by rw [← HA.out, HE.out]; simp, HO5.out, HB5.out⟩
      case measure => simp; omega
    · obtain rfl : m = [] := List.eq_nil_of_length_eq_zero (by omega)
      go_wp2_with fail
      go_ret
      refine ⟨⟨_, rfl, ?_⟩, HB.out⟩
      have e := HA.out
      rw [show enc2 [] = [] from rfl, List.append_nil] at e
      rw [← e]
      exact HO.out

set_option maxRecDepth 100000 in
theorem distance_any (a b : Int) (ha : I64 a) (hb : I64 b) (w : World) : Calls Try.prog 54 #[.int .i64 a, .int .i64 b] w fun e w' => e = .returned (.int .u64 ((b - a) % 18446744073709551616)) ∧ w' = w := by
  have HE : Hid (IntKind.u64.wrap (IntKind.u64.wrap b - IntKind.u64.wrap a) = (b - a) % 18446744073709551616) := by
    show _ = _
    rw [IntKind.wrap_u64, IntKind.wrap_u64, IntKind.wrap_u64]
    omega
  clear ha hb
  go_enter Try.func54, Try.ntmps54
  go_wp2_with fail
  go_ret
  rw [← HE.out]
  exact ⟨rfl, rfl⟩

theorem distance_up {a b : Int} (ha : I64 a) (hb : I64 b) (hab : a ≤ b) (w : World) : Calls Try.prog 54 #[.int .i64 a, .int .i64 b] w fun e w' => e = .returned (.int .u64 ((b - a).toNat : Int)) ∧ w' = w := by
  have := distance_any a b ha hb w
  unfold I64 at ha hb
  rwa [show (b - a) % 18446744073709551616 = ((b - a).toNat : Int) by omega] at this

set_option maxRecDepth 100000 in
theorem packI_any {w : World} {v : Value} {l : List Nat} (hs : Sx .u64 w v l) (h64 : ∀ x ∈ l, x < 18446744073709551616) (x : Int) :
    Calls Try.prog 50 #[v, .int .i64 x] w (Told w (packR l x)) := by
  have HP := hidden (pack_any hs h64 x)
  clear hs h64
  go_enter Try.func50, Try.ntmps50
  go_wp2_with fail
  refine HP.out.mono ?_
  rintro e w1 ⟨v1, rfl, hown, hb⟩
  have HO := hidden hown
  clear hown
  go_wp2_with fail
  go_ret
  exact ⟨⟨_, rfl, HO.out⟩, hb⟩

theorem wd_one (n : Nat) : wd [n] = blen n := by
  have h1 : wd [n] ≤ blen n := wd_le.2 (fun x hx => by
    have : x = n := by simpa using hx
    subst this
    exact blen_le.1 (Nat.le_refl _))
  have h2 : blen n ≤ wd [n] := blen_le.2 (wd_le.1 (Nat.le_refl _) n (by simp))
  omega

set_option maxRecDepth 100000 in
theorem placeWidth_any (n : Nat) (hn : n ≤ 256) (w : World) : Calls Try.prog 52 #[.int .i64 (n : Int)] w fun e w' => e = .returned (.int .i64 (blen (n - 1) : Int)) ∧ Below w.heap.size w w' := by
  by_cases h0 : ((n : Int) == 0) = true
  · have h0' : n = 0 := by simpa using h0
    subst h0'
    go_enter Try.func52, Try.ntmps52
    go_wp2_with fail
    go_ret
    exact ⟨rfl, Below.refl _ _⟩
  · have h0f : ((n : Int) == 0) = false := by simpa using h0
    have hn0 : n ≠ 0 := by simpa using h0
    obtain ⟨m, rfl⟩ : ∃ m, n = m + 1 := ⟨n - 1, by omega⟩
    have HW := hidden (fun w => width_any (Sx.lit (k := .u64) w [m] 44 (by unfold maxLen; simp)) (fun x hx => by
      have : x = m := by simpa using hx
      omega))
    have HB := hidden (fun w : World => (Below.refl w.heap.size w).alloc (Nat.le_refl _) (.cells (vals .u64 [m]).toArray 44))
    have he : ((m + 1 : Nat) : Int) - 1 = (m : Int) := by omega
    rw [wd_one] at HW
    clear h0
    go_enter Try.func52, Try.ntmps52
    go_wp2_with fail
    refine (HW.out w).mono ?_
    rintro e w1 ⟨rfl, rfl⟩
    have HB1 := hidden (HB.out w)
    go_wp2_with fail
    go_ret
    exact ⟨rfl, HB1.out⟩

theorem encD_append : ∀ (t : List Int) (last x : Int), encD last (t ++ [x]) = encD last t ++ uv (x - (t.getLast?.getD last)).toNat
  | [], last, x => by simp [encD]
  | y :: t, last, x => by
    rw [List.cons_append, encD, encD_append t y x, encD, List.append_assoc]
    cases t with
    | nil => rfl
    | cons z s => rw [show (y :: z :: s).getLast? = (z :: s).getLast? from by simp [List.getLast?_cons_cons]]; simp [List.getLast?_eq_some_getLast]

theorem encU_one {u : List Int} (h : 0 < u.length) : encU (u.take 1) = encU (u.take 0) ++ wv u[0] := by
  cases u with
  | nil => simp at h
  | cons x t => simp [encU, encD]

theorem encU_succ {u : List Int} {k : Nat} (h : k + 1 < u.length) : encU (u.take (k + 1 + 1)) = encU (u.take (k + 1)) ++ uv (u[k + 1] - u[k]).toNat := by
  cases u with
  | nil => simp at h
  | cons x t =>
    have hk : k < t.length := by simpa using h
    rw [List.take_succ_cons, List.take_succ_cons, List.take_succ_eq_append_getElem hk, encU, encU, encD_append, List.append_assoc]
    congr 3
    cases k with
    | zero => simp
    | succ k =>
      rw [List.getLast?_take]
      simp [show k < t.length by omega]

set_option maxRecDepth 100000 in
set_option maxHeartbeats 2000000 in
theorem putRising_any {w : World} {v : Value} {l : List Int} (hs : Sv w v (ivals l)) (hl : l.length ≤ 256) (hi : Is l) (hr : Rising l) :
    Calls Try.prog 49 #[v] w (Told w (encU l)) := by
  have HI := hidden hi
  have HS := hidden hs
  have HR := hidden hr
  obtain ⟨a, cap, rfl, hcap, hcm⟩ := hs.form
  clear hs hi hcap hcm hr
  go_enter Try.func49, Try.ntmps49
  go_wp2_with fail
  go_loopw [3, 8] (fun b i wr => ∃ k : Nat, k ≤ l.length ∧ i = .int .i64 (k : Int) ∧ OwnB wr w.heap.size b (encU (l.take k)) ∧ Below w.heap.size w wr) (fun _ i _ => l.length - (intOf i).toNat)
  case atStart => exact ⟨0, by omega, rfl, OwnB.nil _ _, Below.refl _ _⟩
  case round =>
    obtain ⟨k, hk, rfl, hown, hbel⟩ := hrel
    have HO := hidden hown
    have HB := hidden hbel
    have hzr := hbel.size
    clear hown hbel
    by_cases hlt : k < l.length
    · obtain ⟨b, off, rfl, hb, hck⟩ := (HS.out.kept HB.out).at hlt
      have HX := hidden (HI.out.get hlt)
      have hsz := (encU_size (HI.out.take k)).1
      rw [List.length_take] at hsz
      have hten := wv_ten (HI.out.get hlt)
      cases k with
      | zero =>
        have HT := hidden (encU_one hlt)
        rw [Nat.add_zero] at hck
        generalize encU (l.take 0) = acc at *
        generalize l[0] = x at *
        go_wp2_with fail
        refine (putInt_told HX.out _).mono ?_
        rintro e w2 ⟨⟨v2, rfl, hown2⟩, hb2⟩
        have HO2 := hidden hown2
        have HOk := hidden (HO.out.kept hb2)
        have HB2 := hidden (HB.out.trans (hb2.mono hzr))
        have hz2 := hb2.size
        clear hown2 hb2
        go_wp2_with (first | (at_builtin; refine wpList_append_sv rfl _ _ rfl w.heap.size _ _ acc (wv x) rfl HOk.out rfl HO2.out.sv ?c1 ?c2 ?_))
        case c1 => omega
        case c2 => omega
        intro v3 w3 o3 b3
        have HO3 := hidden o3
        have HB3 := hidden (HB2.out.trans b3)
        clear o3 b3
        go_wp2_with fail
        go_roundw
        case rel => exact ⟨1, by omega, by go_num, by rw [HT.out]; exact HO3.out, HB3.out⟩
        case measure => simp [intOf]; omega
      | succ k =>
        obtain ⟨b', off', hbo, _, hck2⟩ := (HS.out.kept HB.out).at (show k < l.length by omega)
        cases hbo
        have HX2 := hidden (HI.out.get (show k < l.length by omega))
        have hlt2 : l[k] < l[k + 1] := List.pairwise_iff_getElem.1 HR.out k (k + 1) (by omega) hlt (by omega)
        have HT := hidden (encU_succ hlt)
        have hd : (l[k + 1] - l[k]).toNat < 18446744073709551616 := by
          have h1 := HX.out
          have h2 := HX2.out
          unfold I64 at h1 h2
          omega
        have hten2 := uv_ten hd
        have HD := hidden (fun W => distance_up (a := l[k]) (b := l[k + 1]) HX2.out HX.out (by omega) W)
        have hk0 : (((k + 1 : Nat) : Int) == 0) = false := by simp; omega
        have hk1 : ((k + 1 : Nat) : Int) - 1 = (k : Int) := by omega
        have hcast : ((k + 1 : Nat) : Int) = (k : Int) + 1 := by omega
        generalize l[k + 1] = x at *
        generalize l[k] = y at *
        generalize encU (l.take (k + 1)) = acc at *
        generalize (x - y).toNat = d at *
        have HDL : Hid (d < 18446744073709551616) := hd
        clear hd
        go_wp2_with fail
        refine (HD.out _).mono ?_
        rintro e w1 ⟨rfl, rfl⟩
        go_wp2_with fail
        refine (vput_told d HDL.out _).mono ?_
        rintro e w2 ⟨⟨v2, rfl, hown2⟩, hb2⟩
        have HO2 := hidden hown2
        have HOk := hidden (HO.out.kept hb2)
        have HB2 := hidden (HB.out.trans (hb2.mono hzr))
        have hz2 := hb2.size
        clear hown2 hb2
        go_wp2_with (first | (at_builtin; refine wpList_append_sv rfl _ _ rfl w.heap.size _ _ acc (uv d) rfl HOk.out rfl HO2.out.sv ?c1 ?c2 ?_))
        case c1 => omega
        case c2 => omega
        intro v3 w3 o3 b3
        have HO3 := hidden o3
        have HB3 := hidden (HB2.out.trans b3)
        clear o3 b3
        go_wp2_with fail
        go_roundw
        case rel => exact ⟨k + 1 + 1, by omega, by go_num, by rw [HT.out]; exact HO3.out, HB3.out⟩
        case measure => simp [intOf]; omega
    · obtain rfl : k = l.length := by omega
      rw [List.take_length] at HO
      go_wp2_with fail
      go_ret
      exact ⟨⟨_, rfl, HO.out⟩, HB.out⟩
end Go.Proofs.Ytnlanilejhjkkaa
