/- Contracts: the document's Read. -/
import Derived.Test.YtcmmednihoaekaaGreatRefList3
import Derived.Test.YtcmmednihoaekaaGreatRefEnc4
import Derived.Test.YtcmmednihoaekaaGreatRead
set_option linter.unusedVariables false
set_option linter.unusedSimpArgs false
namespace Go.Proofs.YtcmmednihoaekaaGreat
open Go.RowKit Go.Lib

theorem refList_any {D : Except Nat (List Int × List Nat)} {G : List Int → List Nat → Except Nat (List Int × List Nat)} {w : World} {p n f c : Nat} {b : List Nat} (h : St 98 w p b f) (hn : n ≤ 256) (hc : c ≤ 4) (hg : Goes D (bindR (rdC c n) G) b f) :
    Calls Tryz.prog 60 #[.pointer (some ⟨p, 0, none⟩), .int .i64 (c : Int), .int .i64 (n : Int)] w (RPost D G p n w) := by
  obtain rfl | rfl | rfl | rfl | rfl : c = 0 ∨ c = 1 ∨ c = 2 ∨ c = 3 ∨ c = 4 := by omega
  · exact refList_0 h hn hg
  · exact refList_1 h hn hg
  · exact refList_2 h hn hg
  · exact refList_3 h hn hg
  · exact refList_4 h hn hg

set_option maxRecDepth 100000 in
set_option maxHeartbeats 2000000 in
theorem refRead_arg {w : World} {vb : Value} (n : Int) (hn : ¬ (0 ≤ n ∧ n ≤ 256)) : Calls Tryz.prog 42 #[vb, .int .i64 n] w (ReadPost ([], 1) w) := by
  by_cases h0 : n < 0
  · clear hn
    go_enter Tryz.func42, Tryz.ntmps42
    go_wp2_with fail
    go_ret2
    exact ⟨⟨_, rfl, OwnI.nil _ _⟩, Below.refl _ _⟩
  · have h1 : n > 256 := by omega
    clear hn
    go_enter Tryz.func42, Tryz.ntmps42
    go_wp2_with fail
    go_ret2
    exact ⟨⟨_, rfl, OwnI.nil _ _⟩, Below.refl _ _⟩

set_option maxRecDepth 100000 in
set_option maxHeartbeats 2000000 in
theorem refRead_none {w : World} {vb : Value} (hb : Sv w vb []) (n : Int) (hn : 0 ≤ n ∧ n ≤ 256) : Calls Tryz.prog 42 #[vb, .int .i64 n] w (ReadPost ([], 30) w) := by
  obtain ⟨a, cap, rfl, _⟩ := hb
  have h0 : ¬ n < 0 := by omega
  have h1 : ¬ n > 256 := by omega
  clear hn
  go_enter Tryz.func42, Tryz.ntmps42
  go_wp2_with fail
  go_ret2
  exact ⟨⟨_, rfl, OwnI.nil _ _⟩, Below.refl _ _⟩

set_option maxRecDepth 100000 in
set_option maxHeartbeats 2000000 in
theorem refRead_codec {w : World} {vb : Value} {c : Nat} {t : List Nat} (hb : Sv w vb (vals .u8 (c :: t))) (h8 : Bs (c :: t)) (hc : 4 < c) (n : Int) (hn : 0 ≤ n ∧ n ≤ 256) : Calls Tryz.prog 42 #[vb, .int .i64 n] w (ReadPost ([], 50) w) := by
  obtain ⟨g, off, cap, rfl, h1, h2, h3, h4, _⟩ := hb.uncons
  have h5 : ¬ n < 0 := by omega
  have h6 : ¬ n > 256 := by omega
  have h7 : (c : Int) > 4 := by omega
  have h9 := h8 c (by simp)
  have hcm : cap ≤ 9223372036854775807 := by unfold maxLen at h2; omega
  have hlen : (((t.length + 1 : Nat) : Int) == 0) = false := beq_eq_false_iff_ne.2 (by omega)
  clear hn hb h8 h2
  go_enter Tryz.func42, Tryz.ntmps42
  go_wp2_with fail
  go_ret2
  exact ⟨⟨_, rfl, OwnI.nil _ _⟩, Below.refl _ _⟩

set_option maxRecDepth 100000 in
set_option maxHeartbeats 4000000 in
theorem refRead_main {w : World} {vb : Value} {c : Nat} {t : List Nat} (hb : Sv w vb (vals .u8 (c :: t))) (h8 : Bs (c :: t)) (hc : c ≤ 4) (n : Nat) (hn : n ≤ 256) : Calls Tryz.prog 42 #[vb, .int .i64 (n : Int)] w (ReadPost (readM (c :: t) (n : Int)) w) := by
  have HSB := hidden hb
  have H8 := hidden h8
  obtain ⟨g, off, cap, rfl, h1, h2, h3, h4, h4b, A, hA, hSA⟩ := hb.uncons
  have HSA := hidden hSA
  have h5 : ¬ (n : Int) < 0 := by omega
  have h6 : ¬ (n : Int) > 256 := by omega
  have h7 : ¬ (c : Int) > 4 := by omega
  have hcm : cap ≤ 9223372036854775807 := by unfold maxLen at h2; omega
  have hlen : (((t.length + 1 : Nat) : Int) == 0) = false := beq_eq_false_iff_ne.2 (by omega)
  have HBT : Hid (Bs t) := fun x hx => h8 x (by simp [hx])
  have HST : Hid (St 98 (w.alloc (.cells #[.slice A t.length (cap - 1), .int .i64 0] 98)) w.heap.size t 0) := hidden (by
    have hh : (w.alloc (.cells #[.slice A t.length (cap - 1), .int .i64 0] 98)).heap[w.heap.size]? = some (.cells #[.slice A t.length (cap - 1), .int .i64 0] 98 (0, 0)) := heap_new _ _
    have hbs : Bs t := fun x hx => h8 x (by simp [hx])
    by_cases hcap : cap = 1
    · rw [if_pos hcap] at hA
      subst hA
      exact ⟨g, off, cap - 1, hh, h3, by omega, by omega, hbs, fun j hj => by omega⟩
    · rw [if_neg hcap] at hA
      subst hA
      exact ⟨g, off + 1, cap - 1, hh, h3, by omega, by omega, hbs, fun j hj => ((below_alloc w _).cell (p := ⟨g, off + 1 + j, none⟩) h3).trans (h4b j hj)⟩)
  have HG : Hid (Goes (bindR (rdC c n) (fin c t) t) (bindR (rdC c n) (fin c t)) t 0) := ⟨fun _ => rfl, fun h => absurd rfl h⟩
  have HOK := hidden (fun l h => readM_ok (c := c) (n := n) (t := t) (l := l) hc hn h)
  have HER := hidden (fun e h => readM_err (c := c) (n := n) (t := t) (e := e) hc hn h)
  have HLI := hidden (refList_any HST.out hn hc HG.out)
  generalize bindR (rdC c n) (fin c t) t = D at *
  generalize readM (c :: t) (n : Int) = R at *
  have H4 := hidden h4
  clear hb h8 h2 hSA h4b HG
  go_enter Tryz.func42, Tryz.ntmps42
  go_wp2_with fail
  refine HLI.out.mono ?_
  rintro e w2 ⟨l, b2, f2, ⟨v2, rfl, ho2⟩, hi2, hl2, hs2, hg2, hf2⟩
  have HO2 := hidden (ho2.low (show w.heap.size ≤ (w.alloc (.cells #[.slice A t.length (cap - 1), .int .i64 0] 98)).heap.size by rw [World.size_alloc]; omega))
  have HI2 := hidden hi2
  have hb2 : Below w.heap.size w w2 := (below_alloc w _).trans (hf2.below (Nat.le_refl _) (by rw [World.size_alloc]; omega))
  have HB2 := hidden hb2
  have hz2 := hb2.size
  have HG2 := hidden hg2
  have HS2 := hidden hs2
  obtain ⟨a9, cap9, k0, k1, k2, k3, k4, k5⟩ := hs2.cells
  have k6 := (hb2.cell (p := ⟨g, off, none⟩) h3).trans H4.out
  have HX32 := hidden (k5 32)
  have HX40 := hidden (k5 40)
  have hl256 : l.length ≤ 256 := by omega
  have HEN : Hid (∀ W, Sv W v2 (ivals l) → Calls Tryz.prog 52 #[.int .i64 (c : Int), v2] W fun e w' => (∃ v' r, e = .returned (.tuple #[v', r]) ∧ OwnB w' W.heap.size v' (encC c l)) ∧ Below W.heap.size W w') := hidden (fun W h => by
    refine (refEncode_any h hi2 c).mono ?_
    rintro e w' ⟨⟨v', rfl, ho⟩, hb⟩
    rw [show encM c l = encC c l from if_pos ⟨hc, hl256⟩] at ho
    exact ⟨⟨v', _, rfl, ho⟩, hb⟩)
  have HBE := hidden (encC_size c hi2 hl256).2
  clear ho2 hi2 hs2 hg2 hf2 hb2 k5 h4
  by_cases hf0 : ((f2 : Int) == 0) = true
  · have hf0' : f2 = 0 := by simpa using hf0
    subst hf0'
    have q3 := HG2.out.1 rfl
    unfold fin at q3
    by_cases hbl : b2.length = 0
    · rw [if_pos hbl] at q3
      have hbl3 : ¬ (b2.length : Int) > 0 := by omega
      have HQ := hidden q3
      have HE2 := hidden (HEN.out w2 HO2.out.sv)
      clear hbl q3 hf0
      go_wp2_with fail
      refine HE2.out.mono ?_
      rintro e w3 ⟨⟨v3, r3, rfl, o3⟩, hb3⟩
      have HB3 := hidden (HB2.out.trans (hb3.mono hz2))
      have HO3 := hidden (HO2.out.kept hb3)
      have HS3 := hidden (HS2.out.kept hb3 HS2.out.lt)
      have hc3 : ∀ n, (convert 24 9 v3).run Tryz.prog (w3.drewN n) = .ok (txt (encC c l)) (w3.drewN n) := fun n => (o3.sv.kept (below_drewN (Below.refl _ _) n)).conv HBE.out
      have hcA : ∀ n, (convert 24 9 (.slice A t.length (cap - 1))).run Tryz.prog (w3.drewN n) = .ok (txt t) (w3.drewN n) := fun n => (HSA.out.kept (below_drewN HB3.out n)).conv HBT.out
      obtain ⟨s1, hs1⟩ : ∃ s1, (encC c l).map Nat.toUInt8 = s1 := ⟨_, rfl⟩
      obtain ⟨s2, hs2⟩ : ∃ s2, t.map Nat.toUInt8 = s2 := ⟨_, rfl⟩
      have HEQ := hidden (bytes_eq HBE.out HBT.out)
      rw [hs1, hs2] at HEQ
      unfold txt at hc3 hcA
      rw [hs1] at hc3
      rw [hs2] at hcA
      obtain ⟨a7, cap7, m0, m1, m2, m3, m4, m5⟩ := HS3.out.cells
      have HM40 := hidden (m5 40)
      clear o3 hb3 hs1 hs2 k0 k1 k2 k3 k4 m5
      by_cases hw : encC c l = t
      · have hss := HEQ.out.2 hw
        rw [if_pos hw] at HQ
        have HR := hidden (HOK.out l HQ.out)
        rw [hss] at hc3
        clear hss hw
        go_wp2_with fail
        go_quiet (fail)
        go_wp2_with fail
        go_ret2
        rw [HR.out]
        exact ⟨⟨_, rfl, HO3.out.kept (below_drewN (Below.refl _ _) nq)⟩, below_drewN HB3.out nq⟩
      · have hss : s1 ≠ s2 := fun e => hw (HEQ.out.1 e)
        rw [if_neg hw] at HQ
        have HR := hidden (HER.out 40 HQ.out)
        have hbne : (s1 == s2) = false := by simpa using hss
        have hbne2 : (s1 != s2) = true := by simpa using hss
        clear hw hss
        go_wp2_with fail
        go_quiet (fail)
        go_wp2_with fail
        go_quiet (fail)
        go_wp2_with fail
        go_ret2
        rw [HR.out]
        exact ⟨⟨_, rfl, OwnI.nil _ _⟩, below_drewN ((below_drewN HB3.out _).setCell (p := ⟨w.heap.size, 1, none⟩) (Nat.le_refl _) _) _⟩
    · rw [if_neg hbl] at q3
      have HR := hidden (HER.out 32 q3)
      have hbl3 : (b2.length : Int) > 0 := by omega
      clear hbl q3 hf0
      go_wp2_with fail
      go_quiet (fail)
      go_wp2_with fail
      go_ret2
      rw [HR.out]
      exact ⟨⟨_, rfl, OwnI.nil _ _⟩, below_drewN (HB2.out.setCell (p := ⟨w.heap.size, 1, none⟩) (Nat.le_refl _) _) _⟩
  · have hf0' : f2 ≠ 0 := fun h => hf0 (by simp [h])
    have hz1 : ((f2 : Int) == 0) = false := by simpa using hf0'
    have hz2' : ((f2 : Int) != 0) = true := by simpa using hf0'
    have HR := hidden (HER.out f2 (HG2.out.2 hf0'))
    clear hf0 hf0'
    go_wp2_with fail
    go_quiet (fail)
    go_wp2_with fail
    go_ret2
    rw [HR.out]
    exact ⟨⟨_, rfl, OwnI.nil _ _⟩, below_drewN HB2.out _⟩

theorem refRead_any {w : World} {vb : Value} {b : List Nat} (hb : Sv w vb (vals .u8 b)) (h8 : Bs b) (n : Int) : Calls Tryz.prog 42 #[vb, .int .i64 n] w (ReadPost (readM b n) w) := by
  by_cases hn : 0 ≤ n ∧ n ≤ 256
  · cases b with
    | nil =>
      have e : readM [] n = ([], 30) := by unfold readM; rw [if_pos hn]
      rw [e]
      exact refRead_none hb n hn
    | cons c t =>
      by_cases hc : c ≤ 4
      · obtain ⟨m, rfl⟩ := Int.eq_ofNat_of_zero_le hn.1
        exact refRead_main hb h8 hc m (by omega)
      · have e : readM (c :: t) n = ([], 50) := by unfold readM; rw [if_pos hn]; simp only; rw [if_pos (by omega)]
        rw [e]
        exact refRead_codec hb h8 (by omega) n hn
  · have e : readM b n = ([], 1) := by unfold readM; rw [if_neg hn]
    rw [e]
    exact refRead_arg n hn
end Go.Proofs.YtcmmednihoaekaaGreat
