/- ColumnReads: for every byte, every list of bytes and every number the law returns true: which bytes are a column's, and of which values, is the document's; of others there is an error, and nothing else. No condition. -/
import Derived.Test.YtcmmednihoaekaaGreatLift
import Derived.Test.YtcmmednihoaekaaGreatOnly
import Derived.Test.YtcmmednihoaekaaGreatRrX0
import Derived.Test.YtcmmednihoaekaaGreatRrX1
set_option linter.unusedVariables false
namespace Go.Proofs.YtcmmednihoaekaaGreat
open Go.RowKit Go.Lib

/-- The document's answer, whatever the kind and the number. -/
def readN (k : Nat) (b : List Nat) (n : Int) : Option (List (Nat × Int × List Nat)) :=
  if (1 ≤ k ∧ k ≤ 3) ∧ 0 ≤ n ∧ n ≤ 256 then readC k b n.toNat else none

set_option maxRecDepth 100000 in
set_option maxHeartbeats 4000000 in
theorem refRead6_any {w : World} {v : Value} {b : List Nat} (hb : Sv w v (vals .u8 b)) (h8 : Bs b) (k : Nat) (n : Int) :
    Calls Tryz.prog 15 #[.int .i64 (k : Int), v, .int .i64 n] w (RefPost (readN k b n) w) := by
  by_cases hin : (1 ≤ k ∧ k ≤ 3) ∧ 0 ≤ n ∧ n ≤ 256
  · have hr : readN k b n = readC k b n.toNat := if_pos hin
    rw [hr]
    obtain ⟨m, rfl⟩ : ∃ m : Nat, n = (m : Int) := ⟨n.toNat, by omega⟩
    rw [Int.toNat_natCast]
    have hm : m ≤ 256 := by omega
    cases b with
    | nil =>
      obtain ⟨a, cap, rfl, _⟩ := hb
      have HN : Hid (readC k [] m = none) := hidden (readC_nohead rfl)
      have h1 : ¬ (k : Int) < 1 := by omega
      have h2 : ¬ (k : Int) > 3 := by omega
      have h3 : ¬ (m : Int) < 0 := by omega
      have h4 : ¬ (m : Int) > 256 := by omega
      clear h8 hin hr
      go_enter Tryz.func15, Tryz.ntmps15
      go_wp2_with fail
      go_ret2
      rw [HN.out]
      exact ⟨_, rfl, fun l' e => (by cases e), Below.refl _ _⟩
    | cons x t =>
      by_cases hx : x ≤ 1
      · obtain rfl | rfl : x = 0 ∨ x = 1 := by omega
        · obtain rfl | rfl | rfl : k = 1 ∨ k = 2 ∨ k = 3 := by omega
          · exact refRead6_01 hb h8 m hm
          · exact refRead6_02 hb h8 m hm
          · exact refRead6_03 hb h8 m hm
        · obtain rfl | rfl | rfl : k = 1 ∨ k = 2 ∨ k = 3 := by omega
          · exact refRead6_11 hb h8 m hm
          · exact refRead6_12 hb h8 m hm
          · exact refRead6_13 hb h8 m hm
      · obtain ⟨g, off, cap, rfl, h1, h2, h3, h4, h4b, A, hA, hSA⟩ := hb.uncons
        have hcm' : cap ≤ 9223372036854775807 := by unfold maxLen at h2; omega
        have hlen : (((t.length + 1 : Nat) : Int) == 0) = false := beq_eq_false_iff_ne.2 (by omega)
        have HN : Hid (readC k (x :: t) m = none) := hidden (readC_nohead (head_other (by omega)))
        have hx' : (x : Int) > 1 := by omega
        have g1 : ¬ (k : Int) < 1 := by omega
        have g2 : ¬ (k : Int) > 3 := by omega
        have g3 : ¬ (m : Int) < 0 := by omega
        have g4 : ¬ (m : Int) > 256 := by omega
        clear hb h8 h4b hSA h2 hx hin hr
        go_enter Tryz.func15, Tryz.ntmps15
        go_wp2_with fail
        go_ret2
        rw [HN.out]
        exact ⟨_, rfl, fun l' e => (by cases e), Below.refl _ _⟩
  · have HN : Hid (readN k b n = none) := hidden (if_neg hin)
    obtain ⟨a, cap, rfl, _⟩ := hb.form1
    clear hb h8
    have hc : ((k : Int) < 1) ∨ (¬ (k : Int) < 1 ∧ (k : Int) > 3) ∨ (¬ (k : Int) < 1 ∧ ¬ (k : Int) > 3 ∧ n < 0) ∨ (¬ (k : Int) < 1 ∧ ¬ (k : Int) > 3 ∧ ¬ n < 0 ∧ n > 256) := by omega
    clear hin
    rcases hc with h1 | ⟨h1, h2⟩ | ⟨h1, h2, h3⟩ | ⟨h1, h2, h3, h4⟩
    all_goals
      go_enter Tryz.func15, Tryz.ntmps15
      go_wp2_with fail
      go_ret2
      rw [HN.out]
      exact ⟨_, rfl, fun l' e => (by cases e), Below.refl _ _⟩

namespace ReadsLaw
open Go.ChangeShapes Go.WideShapes Go.ChangeAt Go.RowKit Go.Lib

set_option maxRecDepth 100000 in
set_option maxHeartbeats 4000000 in
theorem walk (c : Nat) (hc : c < 256) {v : Value} {b : List Nat} {w : World} (hv : Sv w v (vals .u8 b) ∧ Bs b) (n : Int) (_ : World) :
    Calls Tryz.prog 4 #[.int .u8 (c : Int), v, .int .i64 n] w fun e w' => e = .returned (.bool true) ∧ Below w.heap.size w w' := by
  obtain ⟨hs, h8⟩ := hv
  have HS := hidden hs
  have H8 := hidden h8
  obtain ⟨a, cap, rfl, hcap, hcm⟩ := hs.form1
  rw [vals_length] at *
  have hbl : b.length ≤ 9223372036854775807 := by unfold maxLen at hcm; omega
  clear hs h8 hcm
  by_cases hbig : (b.length : Int) > 20000
  · go_enter Tryz.func4, Tryz.ntmps4
    go_wp2_with fail
    refine (alive_any _).mono ?_
    rintro e w1 ⟨rfl, hb1⟩
    go_wp2_with fail
    go_ret
    exact ⟨rfl, hb1⟩
  · have HRD := hidden (fun (W : World) (h : Sv W (.slice a b.length cap) (vals .u8 b)) => cread_any h H8.out c n)
    have HRF := hidden (fun (W : World) (h : Sv W (.slice a b.length cap) (vals .u8 b)) => refRead6_any h H8.out c n)
    go_enter Tryz.func4, Tryz.ntmps4
    go_wp2_with fail
    refine (alive_any _).mono ?_
    rintro e w1 ⟨rfl, hb1⟩
    have HB1 := hidden hb1
    have HS1 := hidden (HS.out.kept hb1)
    clear hb1
    go_wp2_with fail
    refine (HRD.out _ HS1.out).mono ?_
    rintro e w2 ⟨v2, l, er, rfl, o2, ht, hb2⟩
    have HT := hidden ht
    have HO2 := hidden o2
    have HB2 := hidden (below_then HB1.out hb2)
    have HS2 := hidden (HS1.out.kept hb2)
    obtain ⟨a2, c2, rfl, _, _⟩ := own_slice o2
    clear o2 hb2 ht
    go_wp2_with fail
    refine (HRF.out _ HS2.out).mono ?_
    rintro e w3 ⟨v3, rfl, ho3, hb3⟩
    have HO3 := hidden ho3
    have HO23 := hidden (HO2.out.kept hb3)
    have HB3 := hidden (below_then HB2.out hb3)
    clear ho3 hb3
    unfold Told6 at HT
    unfold readN at HO3
    by_cases hk : 1 ≤ c ∧ c ≤ 3
    · have g1 : ¬ (c : Int) < 1 := by omega
      have g2 : ¬ (c : Int) > 3 := by omega
      rw [if_pos hk] at HT
      by_cases hn : 0 ≤ n ∧ n ≤ 256
      · have g3 : ¬ n < 0 := by omega
        have g4 : ¬ n > 256 := by omega
        rw [if_pos hn] at HT
        have hrN : readN c b n = readC c b n.toNat := if_pos ⟨hk, hn⟩
        rw [if_pos ⟨hk, hn⟩] at HO3
        rw [hrN]
        clear hrN
        rcases HT.out with ⟨h1, h2⟩ | ⟨h1, h2, h3, h4⟩
        · have hcol := (readC_iff hk (by omega) H8.out).1 h2
          have HCE := hidden (cells_any (OwnV.sv HO23.out) (fun c hc => (hcol.1.2.2 c hc).fine) (by have := hcol.1.2.1; omega))
          have HM3 := hidden ((HO3.out l h2).sc)
          have HBS : Hid (∀ c ∈ l, Bs c.2.2) := hidden (fun x hx => (Fine.okc ((hcol.1.2.2 x hx).fine)).2.2)
          rw [h2]
          subst h1
          clear h2 hcol HT HRF HRD hk hn
          simp only [Option.isSome_some]
          go_wp2_with fail
          refine HCE.out.mono ?_
          rintro e w4 ⟨⟨v4, rfl, o4⟩, hb4⟩
          have HSR := hidden (sameRow_any o4.sc (HM3.out.kept hb4) HBS.out HBS.out)
          have HB4 := hidden (below_then HB3.out hb4)
          clear o4 hb4
          go_wp2_with fail
          refine HSR.out.mono ?_
          rintro e w5 ⟨rfl, hb5⟩
          have HB5 := hidden (below_then HB4.out hb5)
          clear hb5
          go_wp2_with fail
          go_ret
          refine ⟨?_, HB5.out⟩
          simp
        · rw [h4]
          subst h3
          unfold Er at h2
          have h2' : er = 30 ∨ er = 31 ∨ er = 32 ∨ er = 40 ∨ er = 50 := by omega
          clear h2 h1 h4 HT HRF HRD hk hn
          simp only [Option.isSome_none]
          rcases h2' with rfl | rfl | rfl | rfl | rfl
          all_goals
            go_wp2_with fail
            go_ret
            exact ⟨rfl, HB3.out⟩
      · rw [if_neg hn] at HT
        obtain ⟨h1, h2⟩ := HT.out
        subst h1
        subst h2
        have hrN : readN c b n = none := if_neg (fun h => hn h.2)
        rw [hrN]
        simp only [Option.isSome_none]
        have hn2 : n < 0 ∨ (¬ n < 0 ∧ n > 256) := by omega
        clear HT HRF HRD hk hn hrN
        rcases hn2 with g3 | ⟨g3, g4⟩
        all_goals
          go_wp2_with fail
          go_ret
          exact ⟨rfl, HB3.out⟩
    · rw [if_neg hk] at HT
      obtain ⟨h1, h2⟩ := HT.out
      subst h1
      subst h2
      have hrN : readN c b n = none := if_neg (fun h => hk h.1)
      rw [hrN]
      simp only [Option.isSome_none]
      have hk2 : (c : Int) < 1 ∨ (¬ (c : Int) < 1 ∧ (c : Int) > 3) := by omega
      clear HT HRF HRD hk hrN
      rcases hk2 with g3 | ⟨g3, g4⟩
      all_goals
        go_wp2_with fail
        go_ret
        exact ⟨rfl, HB3.out⟩

set_option maxRecDepth 100000 in
theorem lifted (os : Os) (started : os.Started) (H : Type) (enc : TypeId × Value → H) :
    ReturnsInHanded {} Tryz.checked os 4 .any (Rows.columnReadsSpec.pre6 enc Tryz.prog Tryz.f4 Rows.columnReadsRow.domain false) (Rows.columnReadsSpec.post enc Tryz.prog Tryz.f4 false true false false) := by
  refine returnsInHanded_of_change (C := Tryz.checked) own started (by kernel_rfl) Tryz.func4
    (ChangeSpec.witness6 (enc := enc) (C := Tryz.checked) false ⟨#[], #[.int .u8 0, .slice none 0 0, .int .i64 0], []⟩ 8 (by kernel_rfl) (by kernel_rfl) (by kernel_rfl) (by kernel_rfl)) ?_
  intro W base args ds gs before hval0 hW hcnd _
  have hval : ∀ (j : Nat) t v, Tryz.f4.params[j]? = some t → args[j]? = some v → Value.okWide Tryz.prog W .any base t v := hval0
  have hW' := hW
  obtain ⟨p, q, hA0, hV, rfl, hfz, hnd⟩ := hW
  have hA : DataW.TrodAll enc Tryz.prog W 0 (fun _ => true) true Tryz.f4.params.toList args.toList ds p := hA0
  rw [Tryz.params4] at hA hval
  obtain ⟨v0, vs0, d0, ds0, p0, q0, hargs, rfl, rfl, h0, r0⟩ := trodAll_cons hA
  obtain ⟨v1, vs1, d1, ds1, p1, q1, rfl, rfl, rfl, h1, r1⟩ := trodAll_cons r0
  obtain ⟨v2, vs2, d2, ds2, p2, q2, rfl, rfl, rfl, h2, r2⟩ := trodAll_cons r1
  obtain ⟨rfl, rfl, rfl⟩ := trodAll_nil r2
  obtain rfl : args = #[v0, v1, v2] := by cases args; simp_all
  obtain ⟨rfl, rfl⟩ := trodVars_none hV
  obtain ⟨a0, rfl, rfl, rfl, w0⟩ := open_int Tryz.underlying5 (hval 0 5 v0 rfl rfl) h0
  have g0 := bounds_u8 w0
  obtain ⟨n0, rfl⟩ := Int.eq_ofNat_of_zero_le g0.1
  obtain ⟨a1, len1, cap1, rfl⟩ := okWide_slice Tryz.underlying24 (hval 1 24 v1 rfl rfl)
  have lt1 : ∀ x ∈ p1, x.block < W.heap.size := by obtain ⟨m, hm⟩ := h1; exact DataW.trod_lt m _ _ _ hm
  obtain ⟨l1, hl1⟩ := open_bytes h1
  obtain ⟨a2, rfl, rfl, rfl, w2⟩ := open_int Tryz.underlying3 (hval 2 3 v2 rfl rfl) h2
  clear hA0 hval0
  refine (walk n0 (by omega) hl1 a2 W).mono fun e W' ⟨he, bel⟩ => ?_
  subst he
  exact ⟨_, rfl, _, _, _, [], _, [], hW', trodAll_mk1 (shut_bool Tryz.underlying4 _), (trodAll_cons_mk (shut_int Tryz.underlying5 w0) (trodAll_cons_mk (Below.trod laidOut (by kernel_rfl) (of_decide_eq_true (by kernel_rfl)) h1 bel lt1) (trodAll_cons_mk (shut_int Tryz.underlying3 w2) trodAll_mk0))), rfl, bel.frame _, fun h => by cases h⟩

theorem proved : Rows.ColumnReadsSaid :=
  OpenClaim.holds_of_wide 4 Tryz.f4 rfl rfl rfl rfl rfl rfl rfl ⟨rfl, rfl, rfl, rfl, rfl⟩ rfl rfl rfl rfl rfl (by kernel_rfl) Tryz.func4 (by kernel_rfl)
    (of_decide_eq_true (by kernel_rfl)) (by unfold Func.isWrapper; first | (rw [if_pos (by decide +kernel)]; kernel_rfl) | (rw [if_neg (by decide +kernel)]; exact ⟨rfl, rfl⟩))
    (fun os started H enc _ => lifted os started H enc)
end ReadsLaw
theorem columnReads_holds : Rows.ColumnReadsSaid := ReadsLaw.proved
#print axioms columnReads_holds
end Go.Proofs.YtcmmednihoaekaaGreat
