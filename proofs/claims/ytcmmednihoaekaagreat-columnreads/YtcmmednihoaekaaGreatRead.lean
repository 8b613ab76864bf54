/- Contracts: bytes.Equal, writtenSo. Contracts: Read. -/
import Derived.Test.YtcmmednihoaekaaGreatReader
import Derived.Test.YtcmmednihoaekaaGreatBest
set_option linter.unusedVariables false
set_option linter.unusedSimpArgs false
namespace Go.Proofs.YtcmmednihoaekaaGreat
open Go.RowKit Go.Lib

theorem Sv.conv {W : World} {v : Value} {l : List Nat} (h : Sv W v (vals .u8 l)) (hb : Bs l) : (convert 24 9 v).run Tryz.prog W = .ok (txt l) W := h.sx.conv hb

theorem bytes_eq {a b : List Nat} (ha : Bs a) (hb : Bs b) : a.map Nat.toUInt8 = b.map Nat.toUInt8 ↔ a = b := by
  constructor
  · intro h
    rw [← map_fwd ha, ← map_fwd hb, h]
  · intro h
    rw [h]

set_option maxRecDepth 100000 in
theorem equal_any {w : World} {va vb : Value} {a b : List Nat} (ha : Sv w va (vals .u8 a)) (hb : Sv w vb (vals .u8 b)) (h8 : Bs a) (h9 : Bs b) :
    Calls Tryz.prog 59 #[va, vb] w fun e w' => e = .returned (.bool (decide (a = b))) ∧ w' = w := by
  have hca := ha.conv h8
  have hcb := hb.conv h9
  have HE := hidden (bytes_eq h8 h9)
  clear ha hb
  unfold txt at hca hcb
  generalize a.map Nat.toUInt8 = x at *
  generalize b.map Nat.toUInt8 = y at *
  go_enter Tryz.func59, Tryz.ntmps59
  go_wp2_with fail
  go_ret
  refine ⟨?_, rfl⟩
  have e : (x == y) = decide (a = b) := by
    by_cases h : a = b
    · rw [decide_eq_true h, HE.out.2 h]
      simp
    · rw [decide_eq_false h]
      simp
      exact fun e => h (HE.out.1 e)
  rw [← e]
  rfl

theorem vals_cons (k : IntKind) (c : Nat) (t : List Nat) : vals k (c :: t) = .int k (c : Int) :: vals k t := rfl

/-- Bytes of which there are some: the first one, and those behind it. -/
theorem Sv.uncons {W : World} {v : Value} {c : Nat} {t : List Nat} (h : Sv W v (vals .u8 (c :: t))) :
    ∃ g off cap, v = .slice (some ⟨g, off, none⟩) (t.length + 1) cap ∧ t.length + 1 ≤ cap ∧ cap ≤ maxLen ∧ g < W.heap.size ∧ W.cell? ⟨g, off, none⟩ = some (.int .u8 (c : Int)) ∧
      (∀ j (h : j < t.length), W.cell? ⟨g, off + 1 + j, none⟩ = some (.int .u8 (t[j] : Int))) ∧
      ∃ A, (if cap = 1 then (some ⟨g, off, none⟩ : Option Addr) else some ⟨g, off + 1, none⟩) = A ∧ Sv W (.slice A t.length (cap - 1)) (vals .u8 t) := by
  have h0 := h
  obtain ⟨a, cap, rfl, h1, h2, h3, h4⟩ := h
  rw [vals_length, List.length_cons] at *
  obtain ⟨g, off, rfl, h5, h6⟩ := h4 (by omega)
  refine ⟨g, off, cap, rfl, h1, h2, h5, by simpa using h6 0 _ rfl, fun j hj => ?_, ?_⟩
  · have := h6 (j + 1) _ (vals_get (k := .u8) (l := c :: t) (j := j + 1) (by simpa using hj))
    rw [show off + 1 + j = off + (j + 1) by omega, this]
    simp
  · obtain ⟨A, hA, hSA⟩ := Sv_drop h0 (k := 1) (by rw [vals_length]; simp)
    refine ⟨A, hA, ?_⟩
    rw [vals_cons] at hSA
    simpa using hSA

set_option maxRecDepth 100000 in
set_option maxHeartbeats 2000000 in
theorem written_any {w : World} {vb vl : Value} {c : Nat} {t : List Nat} {l : List Int} (hb : Sv w vb (vals .u8 (c :: t))) (h8 : Bs (c :: t)) (hc : c ≤ 4) (hs : Sv w vl (ivals l)) (hl : l.length ≤ 256) (hi : Is l) :
    Calls Tryz.prog 137 #[vb, vl] w fun e w' => e = .returned (.bool (decide (encC c l = t))) ∧ Below w.heap.size w w' := by
  have HEn := hidden (encode_any hs hi c (by omega))
  have HBT : Hid (Bs t) := fun x hx => h8 x (by simp [hx])
  have HBE := hidden (encC_size c hi hl).2
  have hyes : c ≤ 4 ∧ l.length ≤ 256 := ⟨hc, hl⟩
  have HEM : Hid (encM c l = encC c l) := if_pos hyes
  rw [decide_eq_true hyes] at HEn
  obtain ⟨g, off, cap, rfl, h1, h2, h3, h4, _, A, hA, hSA⟩ := hb.uncons
  have HSA := hidden hSA
  have hcm : cap ≤ 9223372036854775807 := by unfold maxLen at h2; omega
  clear hb hs hi hSA h8 hyes h2
  go_enter Tryz.func137, Tryz.ntmps137
  go_wp2_with fail
  refine HEn.out.mono ?_
  rintro e w1 ⟨⟨v1, rfl, ho1⟩, hb1⟩
  rw [HEM.out] at ho1
  have HO1 := hidden ho1
  have HB1 := hidden hb1
  clear ho1 hb1
  go_wp2_with fail
  refine (equal_any HO1.out.sv (HSA.out.kept HB1.out) HBE.out HBT.out).mono ?_
  rintro e w2 ⟨rfl, rfl⟩
  go_wp2_with fail
  go_ret
  exact ⟨rfl, HB1.out⟩

theorem readM_ok {c n : Nat} {t : List Nat} {l : List Int} (hc : c ≤ 4) (hn : n ≤ 256) (h : bindR (rdC c n) (fin c t) t = .ok (l, [])) : readM (c :: t) (n : Int) = (l, 0) := by
  rw [rdAll_fin] at h
  unfold readM
  rw [if_pos (by omega)]
  simp only
  rw [if_neg (by omega), Int.toNat_natCast]
  cases hr : rdAll c n t with
  | ok m => rw [hr] at h; simp at h; rw [h]
  | error e => rw [hr] at h; simp at h

theorem readM_err {c n e : Nat} {t : List Nat} (hc : c ≤ 4) (hn : n ≤ 256) (h : bindR (rdC c n) (fin c t) t = .error e) : readM (c :: t) (n : Int) = ([], e) := by
  rw [rdAll_fin] at h
  unfold readM
  rw [if_pos (by omega)]
  simp only
  rw [if_neg (by omega), Int.toNat_natCast]
  cases hr : rdAll c n t with
  | ok m => rw [hr] at h; simp at h
  | error e => rw [hr] at h; simp at h; rw [h]
end Go.Proofs.YtcmmednihoaekaaGreat
set_option linter.unusedVariables false
set_option linter.unusedSimpArgs false
namespace Go.Proofs.YtcmmednihoaekaaGreat
open Go.RowKit Go.Lib

theorem heap_new (w : World) (o : Obj) : (w.alloc o).heap[w.heap.size]? = some o := by
  unfold World.alloc
  simp only [Array.getElem?_push_size]

theorem below_alloc (w : World) (o : Obj) : Below w.heap.size w (w.alloc o) := (Below.refl _ _).alloc (Nat.le_refl _) _

/-- What Read answers. -/
def ReadPost (r : List Int × Nat) (w : World) (e : Ending) (w' : World) : Prop := (∃ v, e = .returned (.tuple #[v, .int .i64 (r.2 : Int)]) ∧ OwnI w' w.heap.size v r.1) ∧ Below w.heap.size w w'

set_option maxRecDepth 100000 in
set_option maxHeartbeats 2000000 in
theorem read_arg {w : World} {vb : Value} (n : Int) (hn : ¬ (0 ≤ n ∧ n ≤ 256)) : Calls Tryz.prog 104 #[vb, .int .i64 n] w (ReadPost ([], 1) w) := by
  by_cases h0 : n < 0
  · clear hn
    go_enter Tryz.func104, Tryz.ntmps104
    go_wp2_with fail
    go_ret2
    exact ⟨⟨_, rfl, OwnI.nil _ _⟩, Below.refl _ _⟩
  · have h1 : n > 256 := by omega
    clear hn
    go_enter Tryz.func104, Tryz.ntmps104
    go_wp2_with fail
    go_ret2
    exact ⟨⟨_, rfl, OwnI.nil _ _⟩, Below.refl _ _⟩

set_option maxRecDepth 100000 in
set_option maxHeartbeats 2000000 in
theorem read_none {w : World} {vb : Value} (hb : Sv w vb []) (n : Int) (hn : 0 ≤ n ∧ n ≤ 256) : Calls Tryz.prog 104 #[vb, .int .i64 n] w (ReadPost ([], 30) w) := by
  obtain ⟨a, cap, rfl, _⟩ := hb
  have h0 : ¬ n < 0 := by omega
  have h1 : ¬ n > 256 := by omega
  clear hn
  go_enter Tryz.func104, Tryz.ntmps104
  go_wp2_with fail
  go_ret2
  exact ⟨⟨_, rfl, OwnI.nil _ _⟩, Below.refl _ _⟩

set_option maxRecDepth 100000 in
set_option maxHeartbeats 2000000 in
theorem read_codec {w : World} {vb : Value} {c : Nat} {t : List Nat} (hb : Sv w vb (vals .u8 (c :: t))) (h8 : Bs (c :: t)) (hc : 4 < c) (n : Int) (hn : 0 ≤ n ∧ n ≤ 256) : Calls Tryz.prog 104 #[vb, .int .i64 n] w (ReadPost ([], 50) w) := by
  obtain ⟨g, off, cap, rfl, h1, h2, h3, h4, _⟩ := hb.uncons
  have h5 : ¬ n < 0 := by omega
  have h6 : ¬ n > 256 := by omega
  have h7 : (c : Int) ≥ 5 := by omega
  have h9 := h8 c (by simp)
  have hcm : cap ≤ 9223372036854775807 := by unfold maxLen at h2; omega
  have hlen : (((t.length + 1 : Nat) : Int) == 0) = false := beq_eq_false_iff_ne.2 (by omega)
  clear hn hb h8 h2
  go_enter Tryz.func104, Tryz.ntmps104
  go_wp2_with fail
  go_ret2
  exact ⟨⟨_, rfl, OwnI.nil _ _⟩, Below.refl _ _⟩

set_option maxRecDepth 100000 in
set_option maxHeartbeats 4000000 in
theorem read_main {w : World} {vb : Value} {c : Nat} {t : List Nat} (hb : Sv w vb (vals .u8 (c :: t))) (h8 : Bs (c :: t)) (hc : c ≤ 4) (n : Nat) (hn : n ≤ 256) : Calls Tryz.prog 104 #[vb, .int .i64 (n : Int)] w (ReadPost (readM (c :: t) (n : Int)) w) := by
  have HSB := hidden hb
  have H8 := hidden h8
  obtain ⟨g, off, cap, rfl, h1, h2, h3, h4, h4b, A, hA, hSA⟩ := hb.uncons
  have HSA := hidden hSA
  have h5 : ¬ (n : Int) < 0 := by omega
  have h6 : ¬ (n : Int) > 256 := by omega
  have h7 : ¬ (c : Int) ≥ 5 := by omega
  have hcm : cap ≤ 9223372036854775807 := by unfold maxLen at h2; omega
  have hlen : (((t.length + 1 : Nat) : Int) == 0) = false := beq_eq_false_iff_ne.2 (by omega)
  have HST : Hid (St 163 (w.alloc (.cells #[.slice A t.length (cap - 1), .int .i64 0] 163)) w.heap.size t 0) := hidden (by
    have hh : (w.alloc (.cells #[.slice A t.length (cap - 1), .int .i64 0] 163)).heap[w.heap.size]? = some (.cells #[.slice A t.length (cap - 1), .int .i64 0] 163 (0, 0)) := by
      exact heap_new _ _
    have hbs : Bs t := fun x hx => h8 x (by simp [hx])
    by_cases hcap : cap = 1
    · rw [if_pos hcap] at hA
      subst hA
      exact ⟨g, off, cap - 1, hh, h3, by omega, by omega, hbs, fun j hj => by omega⟩
    · rw [if_neg hcap] at hA
      subst hA
      exact ⟨g, off + 1, cap - 1, hh, h3, by omega, by omega, hbs, fun j hj => ((below_alloc w _).cell (p := ⟨g, off + 1 + j, none⟩) h3).trans (h4b j hj)⟩)
  have HG : Hid (Goes (bindR (rdC c n) (fin c t) t) (bindR (rdC c n) (fin c t)) t 0) := ⟨fun _ => rfl, fun h => absurd rfl h⟩
  have HOK := hidden (fun l h => readM_ok (c := c) (n := n) (t := t) (l := l) hc hn h)
  have HER := hidden (fun e h => readM_err (c := c) (n := n) (t := t) (e := e) hc hn h)
  have HLI := hidden (list_any (fun r h => fin_more c t [] h) HST.out hn hc HG.out)
  generalize bindR (rdC c n) (fin c t) t = D at *
  generalize readM (c :: t) (n : Int) = R at *
  clear hb h8 h2 hSA h4b HG
  go_enter Tryz.func104, Tryz.ntmps104
  go_wp2_with fail
  refine HLI.out.mono ?_
  rintro e w2 ⟨l, b2, f2, ⟨v2, rfl, ho2⟩, hi2, hl2, hs2, hg2, hf2⟩
  have HO2 := hidden ho2
  have HI2 := hidden hi2
  have HS2 := hidden hs2
  have HG2 := hidden hg2
  have hb2 : Below w.heap.size w w2 := (below_alloc w _).trans (hf2.below (Nat.le_refl _) (by rw [World.size_alloc]; omega))
  have HB2 := hidden hb2
  have hz2 := hb2.size
  have hlt2 := hs2.lt
  clear ho2 hi2 hs2 hg2 hf2 hb2
  go_wp2_with fail
  refine (end_any HS2.out).mono ?_
  rintro e w3 ⟨rfl, hs3, hf3⟩
  have hb3 : Below w.heap.size w w3 := HB2.out.trans (hf3.below (Nat.le_refl _) hz2)
  have HO3 := hidden (HO2.out.fr hf3 (by rw [World.size_alloc]; omega))
  have HB3 := hidden hb3
  have hz3 := hb3.size
  have HG3 : Hid ((orf f2 (if b2.length = 0 then 0 else 32) = 0 → D = if encC c l = t then .ok (l, []) else .error 40) ∧ (orf f2 (if b2.length = 0 then 0 else 32) ≠ 0 → D = .error (orf f2 (if b2.length = 0 then 0 else 32)))) := hidden (by
    obtain ⟨q1, q2⟩ := HG2.out
    by_cases hf : f2 = 0
    · subst hf
      rw [orf_zero]
      have q3 := q1 rfl
      unfold fin at q3
      by_cases hbl : b2.length = 0
      · rw [if_pos hbl] at q3 ⊢
        exact ⟨fun _ => q3, fun e => absurd rfl e⟩
      · rw [if_neg hbl] at q3 ⊢
        exact ⟨fun e => by omega, fun _ => q3⟩
    · rw [orf_keep hf]
      exact ⟨fun e => absurd e hf, q2⟩)
  generalize orf f2 (if b2.length = 0 then 0 else 32) = f3 at *
  have HS3 := hidden hs3
  obtain ⟨G, O, C, k0, k1, k2, k3, k4, k5, k6, k7, k8, k9⟩ := hs3.cells
  clear hs3 hf3 hb3 k0 k2 k3 k4 k5 k6 k7 k8 k9
  have HLO := hidden (HO3.out.low (show w.heap.size ≤ (w.alloc (.cells #[.slice A t.length (cap - 1), .int .i64 0] 163)).heap.size by rw [World.size_alloc]; omega))
  by_cases hf0 : ((f3 : Int) == 0) = true
  · have hf0' : f3 = 0 := by simpa using hf0
    have hD := HG3.out.1 hf0'
    subst hf0'
    have HWR := hidden (written_any (HSB.out.kept HB3.out) H8.out hc HO3.out.sv (by omega) HI2.out)
    by_cases hw : encC c l = t
    · rw [if_pos hw] at hD
      rw [decide_eq_true hw] at HWR
      have HR := hidden (HOK.out l hD)
      clear hD hw hf0
      go_wp2_with fail
      refine HWR.out.mono ?_
      rintro e w4 ⟨rfl, hb4⟩
      obtain ⟨G', O', C', j0, j1, j2, j3, j4, j5, j6, j7, j8, j9⟩ := (HS3.out.kept hb4 HS3.out.lt).cells
      have HB4 := hidden (HB3.out.trans (hb4.mono hz3))
      have HO4 := hidden (HLO.out.kept hb4)
      clear hb4 j0 j2 j3 j4 j5 j6 j7 j8 j9 k1
      go_wp2_with fail
      go_ret2
      rw [HR.out]
      exact ⟨⟨_, rfl, HO4.out⟩, HB4.out⟩
    · rw [if_neg hw] at hD
      rw [decide_eq_false hw] at HWR
      have HR := hidden (HER.out 40 hD)
      clear hD hw hf0
      go_wp2_with fail
      refine HWR.out.mono ?_
      rintro e w4 ⟨rfl, hb4⟩
      have HS4 := hidden (HS3.out.kept hb4 HS3.out.lt)
      have HB4 := hidden (HB3.out.trans (hb4.mono hz3))
      have hz4 := HB4.out.size
      clear hb4 k1
      go_wp2_with fail
      refine (refuse_any HS4.out 40).mono ?_
      rintro e w5 ⟨rfl, hs5, hf5⟩
      rw [orf_zero] at hs5
      obtain ⟨G', O', C', j0, j1, j2, j3, j4, j5, j6, j7, j8, j9⟩ := hs5.cells
      have HB5 := hidden (HB4.out.trans (hf5.below (Nat.le_refl _) hz4))
      clear hs5 hf5 j0 j2 j3 j4 j5 j6 j7 j8 j9
      go_wp2_with fail
      go_quiet (fail)
      go_wp2_with fail
      go_ret2
      rw [HR.out]
      exact ⟨⟨_, rfl, OwnI.nil _ _⟩, below_drewN HB5.out _⟩
  · have hff : ((f3 : Int) == 0) = false := by simpa using hf0
    have hnn : ((f3 : Int) != 0) = true := by simpa using hf0
    have hD := HG3.out.2 (fun e => hf0 (by simp [e]))
    have HR := hidden (HER.out f3 hD)
    clear hD hf0
    go_wp2_with fail
    go_quiet (fail)
    go_wp2_with fail
    go_ret2
    rw [HR.out]
    exact ⟨⟨_, rfl, OwnI.nil _ _⟩, below_drewN HB3.out _⟩

theorem read_any {w : World} {vb : Value} {b : List Nat} (hb : Sv w vb (vals .u8 b)) (h8 : Bs b) (n : Int) : Calls Tryz.prog 104 #[vb, .int .i64 n] w (ReadPost (readM b n) w) := by
  by_cases hn : 0 ≤ n ∧ n ≤ 256
  · cases b with
    | nil =>
      have e : readM [] n = ([], 30) := by unfold readM; rw [if_pos hn]
      rw [e]
      exact read_none hb n hn
    | cons c t =>
      by_cases hc : c ≤ 4
      · obtain ⟨m, rfl⟩ := Int.eq_ofNat_of_zero_le hn.1
        exact read_main hb h8 hc m (by omega)
      · have e : readM (c :: t) n = ([], 50) := by unfold readM; rw [if_pos hn]; simp only; rw [if_pos (by omega)]
        rw [e]
        exact read_codec hb h8 (by omega) n hn
  · have e : readM b n = ([], 1) := by unfold readM; rw [if_neg hn]
    rw [e]
    exact read_arg n hn
end Go.Proofs.YtcmmednihoaekaaGreat
