/- CrcBursts: for all bytes, places and patterns of 32 bits the law returns true: whatever is turned within 32 bits one behind the other is seen. The table of half bytes reads as the program's text lays it (the card ties it); no other condition. -/
import Derived.Test.YtnedlogfgpgchaaDoorAlive
import Derived.Test.YtnedlogfgpgchaaDoorRef
set_option linter.unusedVariables false
set_option linter.unusedSimpArgs false
namespace Go.Proofs.YtnedlogfgpgchaaDoor
namespace BurstsLaw
open Go.ChangeShapes Go.WideShapes Go.ChangeAt Go.RowKit Go.Lib

/-- One bit more is turned. -/
theorem turn_more {bs l : List Nat} {f i k X : Nat} (hb : Bs bs) (hk : k / 8 < bs.length) (hfk : f + i = k) (hX : X < 2 ^ i) (h : leN bs = leN l ^^^ (2 ^ f * X)) :
    leN (bs.set (k / 8) (bs[k / 8] ^^^ 2 ^ (k % 8))) = leN l ^^^ (2 ^ f * (X + 2 ^ i)) ∧ X + 2 ^ i < 2 ^ (i + 1) := by
  have hp : 2 ^ (k % 8) < 256 := by
    have h8 : (256 : Nat) = 2 ^ 8 := rfl
    rw [h8]
    exact Nat.pow_lt_pow_right (by omega) (by omega)
  refine ⟨?_, by rw [Nat.pow_succ]; omega⟩
  rw [leN_set hk hb hp, h, Nat.xor_assoc]
  congr 1
  have e1 : 2 ^ (8 * (k / 8)) * 2 ^ (k % 8) = 2 ^ f * 2 ^ i := by
    rw [← Nat.pow_add, ← Nat.pow_add]
    congr 1
    omega
  have e2 : X + 2 ^ i = X ^^^ 2 ^ i := by
    have := xor_split (r := 1) hX
    rwa [Nat.mul_one] at this
  rw [e1, e2]
  apply Nat.eq_of_testBit_eq
  intro t
  simp only [Nat.testBit_xor, Nat.testBit_two_pow_mul]
  cases decide (t ≥ f) <;> simp

theorem one_bit {r : Nat} (h : r < 8) : IntKind.u8.wrap (2 ^ r) = ((2 ^ r : Nat) : Int) := by
  have h8 : (2 : Nat) ^ r < 2 ^ 8 := Nat.pow_lt_pow_right (by omega) h
  have e : (2 : Int) ^ r = ((2 ^ r : Nat) : Int) := by simp
  rw [e, IntKind.wrap_u8]
  generalize (2 : Nat) ^ r = p at *
  omega

/-- What is seen. -/
theorem seen {bs l : List Nat} {f X : Nat} (hl : Bs l) (hb : Bs bs) (hlen : bs.length = l.length) (hX : X < 4294967296) (hf : f ≤ 8 * l.length) (h : leN bs = leN l ^^^ (2 ^ f * X)) :
    (crcM 0 l ≠ crcM 0 bs) ↔ X ≠ 0 := by
  constructor
  · intro hne h0
    subst h0
    rw [Nat.mul_zero, Nat.xor_zero] at h
    exact hne (by rw [leN_inj hb hl hlen h])
  · intro h0 he
    exact h0 (crcM_burst (c := 0) hl hb hlen.symm hX hf h he)

set_option maxRecDepth 100000 in
set_option maxHeartbeats 4000000 in
theorem walk {v : Value} {l : List Nat} {w : World} (ht : Tab w) (hl : Sv w v l ∧ Bs l) (x : Nat) (hx : x < 4294967296) (y : Nat) (hy : y < 4294967296) :
    Calls Tryd.prog 4 #[v, .int .u32 (x : Int), .int .u32 (y : Int)] w fun e w' => e = .returned (.bool true) ∧ Below w.heap.size w w' := by
  obtain ⟨hs, h8⟩ := hl
  have HS := hidden hs
  have H8 := hidden h8
  have HT := hidden ht
  obtain ⟨a, cap, rfl, h1, h2⟩ := hs.form
  have hm2 : l.length ≤ 9223372036854775807 := by unfold maxLen at h2; omega
  have HAL := hidden (alive_any ht)
  clear hs h8 ht h1 h2
  by_cases hz : l.length = 0
  · have hz1 : ((l.length : Int) == 0) = true := by simp [hz]
    go_enter Tryd.func4, Tryd.ntmps4
    go_wp2_with fail
    refine HAL.out.mono ?_
    rintro e w1 ⟨rfl, hb1⟩
    go_wp2_with fail
    go_ret
    exact ⟨rfl, hb1⟩
  have hz1 : ((l.length : Int) == 0) = false := by simpa using fun h => hz (by simpa using h)
  by_cases hbig : (l.length : Int) > 5000
  · go_enter Tryd.func4, Tryd.ntmps4
    go_wp2_with fail
    refine HAL.out.mono ?_
    rintro e w1 ⟨rfl, hb1⟩
    go_wp2_with fail
    go_ret
    exact ⟨rfl, hb1⟩
  have hll : l.length ≤ 5000 := by omega
  obtain ⟨n, hn⟩ : ∃ n, l.length = n := ⟨_, rfl⟩
  obtain ⟨E, hE⟩ : ∃ E, 8 * n = E := ⟨_, rfl⟩
  have hE1 : 8 * (n : Int) = (E : Int) := by omega
  have hEb : E ≤ 40000 := by omega
  have hEp : 0 < E := by omega
  obtain ⟨f, hf⟩ : ∃ f, x % E = f := ⟨_, rfl⟩
  have hfE : f < E := by rw [← hf]; exact Nat.mod_lt _ hEp
  have hf1 : (x : Int) % (E : Int) = (f : Int) := by rw [← hf]; exact (Int.natCast_emod x E).symm
  have hf2 : (x : Int).tmod (E : Int) = (f : Int) := by rw [Int.tmod_eq_emod_of_nonneg (by omega)]; exact hf1
  have HFL : Hid (f ≤ 8 * l.length) := by show _ ≤ _; omega
  have HN := hidden hn
  have hne : ((E : Int) == 0) = false := by simp; omega
  rw [hn] at HS hm2 hll hz1 hbig
  rw [hn]
  clear hf hn hz
  go_enter Tryd.func4, Tryd.ntmps4
  go_wp2_with fail
  refine HAL.out.mono ?_
  rintro e w1 ⟨rfl, hb1⟩
  have HB1 := hidden hb1
  have HT1 := hidden (HT.out.kept hb1)
  have HS1 := hidden (HS.out.kept hb1)
  clear hb1 HAL
  have HBN := hidden (below_alloc w1 (.cells #[] 5))
  have HLN := hidden (lit_none w1)
  have HSN := hidden (HS1.out.kept HBN.out)
  go_wp2_with (first | (at_builtin; refine wpList_append_sv rfl _ _ rfl w1.heap.size _ _ [] l rfl ?q1 rfl ?q2 ?c1 ?c2 ?_))
  case q1 => exact HLN.out
  case q2 => exact HSN.out
  case c1 => have := HN.out; simp; omega
  case c2 => rw [World.size_alloc]; omega
  intro vx w2 o2 hb2
  have o2' : OwnB w2 w1.heap.size vx l := o2
  have hb12 := HBN.out.trans hb2
  have HB12 := hidden hb12
  obtain ⟨g, cx, rfl, hBg, _⟩ := o2'.form (by have := HN.out; omega)
  rw [HN.out]
  rw [HN.out] at o2'
  have HO2 := hidden o2'
  clear o2 o2' hb2 hb12 HBN HLN HSN
  go_wp2_with fail
  go_loopw [8, 10] (fun tu ii wr => ∃ (i : Nat) (X : Nat) (bs : List Nat), ii = .int .i64 (i : Int) ∧ i ≤ 32 ∧ tu = .bool (decide (X ≠ 0)) ∧ X < 2 ^ i ∧ OwnB wr w1.heap.size (.slice (some ⟨g, 0, none⟩) n cx) bs ∧ bs.length = n ∧ Bs bs ∧ leN bs = leN l ^^^ (2 ^ f * X) ∧ Below w1.heap.size w1 wr) (fun _ ii _ => 32 - (intOf ii).toNat)
  case atStart => exact ⟨0, 0, l, rfl, by omega, rfl, by simp, HO2.out, HN.out, H8.out, by simp, HB12.out⟩
  case round =>
    obtain ⟨i, X, bs, rfl, hi, rfl, hX, how, hbl, hb8, hle, hbel⟩ := hrel
    have HB := hidden hbel
    have HLE := hidden hle
    have HXX := hidden hX
    have HB8 := hidden hb8
    have HBL := hidden hbl
    have HOW := hidden how
    by_cases hlt : i < 32
    · have hi2 : (i : Int) < 32 := by omega
      obtain ⟨k, hk⟩ : ∃ k, f + i = k := ⟨_, rfl⟩
      have hk1 : (f : Int) + (i : Int) = (k : Int) := by omega
      obtain ⟨q, hq⟩ : ∃ q, y / 2 ^ i = q := ⟨_, rfl⟩
      have hq1 : (y : Int) / 2 ^ i = (q : Int) := by rw [← hq]; simp
      have hql : q < 4294967296 := by rw [← hq]; exact Nat.lt_of_le_of_lt (Nat.div_le_self _ _) hy
      obtain ⟨r, hr⟩ : ∃ r, q % 2 = r := ⟨_, rfl⟩
      have hand : bits .and .u32 (q : Int) 1 = (r : Int) := by
        have := u32_and_nat q 1 hql (by omega)
        rw [nat_mask1, hr] at this
        exact this
      have HX1 : Hid (X < 2 ^ (i + 1)) := by show _ < _; rw [Nat.pow_succ]; omega
      by_cases hset : r = 1 ∧ k < E
      · obtain ⟨rfl, hkE⟩ := hset
        have hkE1 : (k : Int) < (E : Int) := by omega
        have hj : k / 8 < bs.length := by omega
        obtain ⟨hck, hfr⟩ := how.at hj
        have hcx := hb8.get hj
        have HTM := hidden (turn_more hb8 hj hk hX hle)
        have hp : 2 ^ (k % 8) < 256 := by
          have h8 : (256 : Nat) = 2 ^ 8 := rfl
          rw [h8]
          exact Nat.pow_lt_pow_right (by omega) (by omega)
        have hxx := u8_xor_nat bs[k / 8] (2 ^ (k % 8)) hcx hp
        have hxl : bs[k / 8] ^^^ 2 ^ (k % 8) < 256 := by
          have : bs[k / 8] ^^^ 2 ^ (k % 8) < 2 ^ 8 := Nat.xor_lt_two_pow hcx hp
          omega
        have HST := hidden (how.stored (k / 8) (bs[k / 8] ^^^ 2 ^ (k % 8)))
        have HSB : Hid (Bs (bs.set (k / 8) (bs[k / 8] ^^^ 2 ^ (k % 8)))) := by
          show Bs _
          intro z hz
          rcases List.mem_or_eq_of_mem_set hz with hz | rfl
          · exact hb8 z hz
          · exact hxl
        have HSL : Hid ((bs.set (k / 8) (bs[k / 8] ^^^ 2 ^ (k % 8))).length = n) := by show _ = _; rw [List.length_set]; exact hbl
        have HNE : Hid (X + 2 ^ i ≠ 0) := by show _ ≠ _; have := Nat.two_pow_pos i; omega
        have hk8 : (k : Int) / 8 = ((k / 8 : Nat) : Int) := by omega
        have hkr : (k : Int) % 8 = ((k % 8 : Nat) : Int) := by omega
        have hkr2 : (k : Int).tmod 8 = ((k % 8 : Nat) : Int) := by rw [Int.tmod_eq_emod_of_nonneg (by omega)]; exact hkr
        have hr8 : k % 8 < 8 := by omega
        have hjn : k / 8 < n := by omega
        have hone := one_bit hr8
        have hone2 : IntKind.u8.wrap (1 * 2 ^ (k % 8)) = ((2 ^ (k % 8) : Nat) : Int) := by rw [Int.one_mul]; exact hone
        generalize bs.set (k / 8) (bs[k / 8] ^^^ 2 ^ (k % 8)) = bs2 at *
        generalize bs[k / 8] ^^^ 2 ^ (k % 8) = z at *
        generalize bs[k / 8] = u at *
        generalize hd : (2 : Nat) ^ (k % 8) = d at *
        generalize k % 8 = r8 at *
        generalize k / 8 = j at *
        have HD := hidden hd
        clear how hbl hb8 hle hbel hX hd hk hq hr hj
        go_wp2_with fail
        go_roundw
        case rel => exact ⟨i + 1, X + 2 ^ i, bs2, by go_num, by omega, by rw [decide_eq_true HNE.out], HTM.out.2, HST.out, HSL.out, HSB.out, HTM.out.1, HB.out.setCell hBg _⟩
        case measure => simp [intOf]; omega
      · by_cases hr1 : r = 1
        · subst hr1
          have hkE1 : ¬ (k : Int) < (E : Int) := by
            intro h
            exact hset ⟨rfl, by omega⟩
          clear how hbl hb8 hle hbel hX hset hk hq hr
          go_wp2_with fail
          go_roundw
          case rel => exact ⟨i + 1, X, bs, by go_num, by omega, rfl, HX1.out, HOW.out, HBL.out, HB8.out, HLE.out, HB.out⟩
          case measure => simp [intOf]; omega
        · have hr0 : r = 0 := by omega
          subst hr0
          clear how hbl hb8 hle hbel hX hset hk hq hr hr1
          go_wp2_with fail
          go_roundw
          case rel => exact ⟨i + 1, X, bs, by go_num, by omega, rfl, HX1.out, HOW.out, HBL.out, HB8.out, HLE.out, HB.out⟩
          case measure => simp [intOf]; omega
    · obtain rfl : i = 32 := by omega
      have HSEE := hidden (seen H8.out hb8 (hbl.trans HN.out.symm) (by simpa using hX) HFL.out hle)
      have HO1 := hidden (of_any (HT1.out.kept hbel) (HS1.out.kept hbel) H8.out)
      have HO3 := hidden (of_any (HT1.out.kept hbel) how.sv hb8)
      clear how hbl hb8 hle hbel hX
      generalize crcM 0 l = r1 at *
      generalize crcM 0 bs = r2 at *
      by_cases hX0 : X = 0
      · have hre : r1 = r2 := Decidable.byContradiction fun h => (HSEE.out.1 h) hX0
        subst hre
        rw [decide_eq_false (fun h : X ≠ 0 => h hX0)]
        clear hX0 HSEE
        go_wp2_with fail
        refine HO1.out.mono ?_
        rintro e w3 ⟨rfl, rfl⟩
        go_wp2_with fail
        refine HO3.out.mono ?_
        rintro e w4 ⟨rfl, rfl⟩
        go_wp2_with fail
        go_ret
        exact ⟨rfl, below_then HB1.out HB.out⟩
      · have hrn : r1 ≠ r2 := HSEE.out.2 hX0
        have hrb : ((r1 : Int) != (r2 : Int)) = true := by simpa using fun h => hrn (by exact_mod_cast h)
        rw [decide_eq_true (show X ≠ 0 from hX0)]
        clear hX0 HSEE hrn
        go_wp2_with fail
        refine HO1.out.mono ?_
        rintro e w3 ⟨rfl, rfl⟩
        go_wp2_with fail
        refine HO3.out.mono ?_
        rintro e w4 ⟨rfl, rfl⟩
        go_wp2_with fail
        go_ret
        exact ⟨rfl, below_then HB1.out HB.out⟩

set_option maxRecDepth 100000 in
theorem lifted (os : Os) (started : os.Started) (H : Type) (enc : TypeId × Value → H) :
    ReturnsInHanded {} Tryd.checked os 4 .any (fun w args => (Rows.crcBurstsSpec.pre enc Tryd.prog Tryd.f4 [] false w args ∧ laidMetH Tryd.prog laid1 w) ∧ sizedMet enc Tryd.prog Tryd.f4 (OpenSpec.ofChange Rows.crcBurstsSpec) false w args)
      (Rows.crcBurstsSpec.post enc Tryd.prog Tryd.f4 false true false false) := by
  refine returnsInHanded_of_change_and (C := Tryd.checked) (X := fun w _ => laidMetH Tryd.prog laid1 w) (fun _ _ _ hh h => h.of_heap hh) own started (by kernel_rfl) Tryd.func4
    (ChangeSpec.witness_shaped (enc := enc) (C := Tryd.checked) (os := os) (X := fun w _ => laidMetH Tryd.prog laid1 w) false (World.doorLaid Tryd.prog 400 os) #[.slice none 0 0, .int .u32 0, .int .u32 0] 8 rfl (World.shaped_of_RefB (by kernel_rfl) (by kernel_rfl)) (by kernel_rfl) (by kernel_rfl) (by kernel_rfl) (door_met os _)) ?_
  intro W base args ds gs before hval0 hW _ _ hL _
  have hval : ∀ (j : Nat) t v, Tryd.f4.params[j]? = some t → args[j]? = some v → Value.okWide Tryd.prog W .any base t v := hval0
  have hW' := hW
  obtain ⟨p, q, hA0, hV, rfl, hfz, hnd⟩ := hW
  have hA : DataW.TrodAll enc Tryd.prog W 0 (fun _ => true) true Tryd.f4.params.toList args.toList ds p := hA0
  rw [Tryd.params4] at hA hval
  obtain ⟨v0, vs0, d0, ds0, p0, q0, hargs, rfl, rfl, h0, r0⟩ := trodAll_cons hA
  obtain ⟨v1, vs1, d1, ds1, p1, q1, rfl, rfl, rfl, h1, r1⟩ := trodAll_cons r0
  obtain ⟨v2, vs2, d2, ds2, p2, q2, rfl, rfl, rfl, h2, r2⟩ := trodAll_cons r1
  obtain ⟨rfl, rfl, rfl⟩ := trodAll_nil r2
  obtain rfl : args = #[v0, v1, v2] := by cases args; simp_all
  obtain ⟨rfl, rfl⟩ := trodVars_none hV
  have hTab := of_laid hL
  obtain ⟨a0, len0, cap0, rfl⟩ := okWide_slice Tryd.underlying23 (hval 0 23 v0 rfl rfl)
  have lt0 : ∀ x ∈ p0, x.block < W.heap.size := by obtain ⟨m, hm⟩ := h0; exact DataW.trod_lt m _ _ _ hm
  obtain ⟨l0, hl0⟩ := open_bytes h0
  obtain ⟨a1, rfl, rfl, rfl, w1⟩ := open_int Tryd.underlying22 (hval 1 22 v1 rfl rfl) h1
  have g1 := bounds_u32 w1
  obtain ⟨n1, rfl⟩ := Int.eq_ofNat_of_zero_le g1.1
  obtain ⟨a2, rfl, rfl, rfl, w2⟩ := open_int Tryd.underlying22 (hval 2 22 v2 rfl rfl) h2
  have g2 := bounds_u32 w2
  obtain ⟨n2, rfl⟩ := Int.eq_ofNat_of_zero_le g2.1
  clear hA0 hval0
  refine (walk hTab hl0 n1 (by omega) n2 (by omega)).mono fun e W' ⟨he, bel⟩ => ?_
  subst he
  exact ⟨_, rfl, _, _, _, [], _, [], hW', trodAll_mk1 (shut_bool Tryd.underlying4 _), (trodAll_cons_mk (Below.trod laidOut (by kernel_rfl) (of_decide_eq_true (by kernel_rfl)) h0 bel lt0) (trodAll_cons_mk (shut_int Tryd.underlying22 w1) (trodAll_cons_mk (shut_int Tryd.underlying22 w2) trodAll_mk0))), rfl, bel.frame _, fun h => by cases h⟩

theorem proved : Rows.CrcBurstsSaid :=
  OpenClaim.holds_of_wide 4 Tryd.f4 rfl rfl rfl rfl rfl rfl rfl ⟨rfl, rfl, rfl, rfl, rfl⟩ rfl rfl rfl rfl rfl (by kernel_rfl) Tryd.func4 (by kernel_rfl)
    (of_decide_eq_true (by kernel_rfl)) (by unfold Func.isWrapper; first | (rw [if_pos (by decide +kernel)]; kernel_rfl) | (rw [if_neg (by decide +kernel)]; exact ⟨rfl, rfl⟩))
    (fun os started H enc _ => lifted os started H enc)

theorem card : Rows.CrcBurstsCardSaid :=
  Claim7.holds_tied_plain_at .later [] [.data] true (true, "c082d05e0ccff59637ce646535d3dd9c96b95f671bc1b631a3e847f7c71fe612") false
    proved (fun _ h => by cases h) (by kernel_rfl) (fun _ h => by cases h) crcBursts_row_tie rfl ⟨rfl, rfl⟩ (by kernel_rfl) rfl
    (fun f fn hf hfn => by
      obtain rfl : f = 4 := Option.some.inj ((show Tryd.prog.funcNamed "catchment/catchmentlaw07.CrcBursts" = some 4 by kernel_rfl).symm.trans hf) |>.symm
      obtain rfl : fn = Tryd.f4 := (Option.some.inj (Tryd.func4.symm.trans hfn)).symm
      exact ⟨by kernel_rfl, fun j t ht => by
        rw [Tryd.params4] at ht
        have hm : t ∈ [23, 22, 22] := by simpa using Array.mem_of_getElem? ht
        have hall : ([23, 22, 22].all fun u => !Tryd.prog.wantsStandIn u) = true := by kernel_rfl
        exact (show Tryd.prog.wantsStandIn t = false by simpa using List.all_eq_true.1 hall t hm)⟩)
    (by kernel_rfl)
end BurstsLaw
theorem crcBursts_holds : Rows.CrcBurstsCardSaid := BurstsLaw.card
#print axioms crcBursts_holds
end Go.Proofs.YtnedlogfgpgchaaDoor
