/- Contracts: bytes.Equal, writtenSo. -/
import Derived.Test.YtnlanilejhjkkaaRdHeights
import Derived.Test.YtnlanilejhjkkaaBest
set_option linter.unusedVariables false
set_option linter.unusedSimpArgs false
namespace Go.Proofs.Ytnlanilejhjkkaa
open Go.RowKit Go.Lib

theorem Sv.conv {W : World} {v : Value} {l : List Nat} (h : Sv W v (vals .u8 l)) (hb : Bs l) : (convert 24 9 v).run Try.prog W = .ok (txt l) W := h.sx.conv hb

theorem bytes_eq {a b : List Nat} (ha : Bs a) (hb : Bs b) : a.map Nat.toUInt8 = b.map Nat.toUInt8 ↔ a = b := by
  constructor
  · intro h
    rw [← map_fwd ha, ← map_fwd hb, h]
  · intro h
    rw [h]

set_option maxRecDepth 100000 in
theorem equal_any {w : World} {va vb : Value} {a b : List Nat} (ha : Sv w va (vals .u8 a)) (hb : Sv w vb (vals .u8 b)) (h8 : Bs a) (h9 : Bs b) :
    Calls Try.prog 39 #[va, vb] w fun e w' => e = .returned (.bool (decide (a = b))) ∧ w' = w := by
  have hca := ha.conv h8
  have hcb := hb.conv h9
  have HE := hidden (bytes_eq h8 h9)
  clear ha hb
  unfold txt at hca hcb
  generalize a.map Nat.toUInt8 = x at *
  generalize b.map Nat.toUInt8 = y at *
  go_enter Try.func39, Try.ntmps39
  go_wp2_with fail
  go_ret
  refine ⟨?_, rfl⟩
  have e : (x == y) = decide (a = b) := by
    by_cases h : a = b
    · rw [decide_eq_true h, HE.out.2 h]
      simp
    · rw [decide_eq_false h]
      simp
      exact fun e => h (HE.out.1 e)
  rw [← e]
  rfl

theorem vals_cons (k : IntKind) (c : Nat) (t : List Nat) : vals k (c :: t) = .int k (c : Int) :: vals k t := rfl

/-- Bytes of which there are some: the first one, and those behind it. -/
theorem Sv.uncons {W : World} {v : Value} {c : Nat} {t : List Nat} (h : Sv W v (vals .u8 (c :: t))) :
    ∃ g off cap, v = .slice (some ⟨g, off, none⟩) (t.length + 1) cap ∧ t.length + 1 ≤ cap ∧ cap ≤ maxLen ∧ g < W.heap.size ∧ W.cell? ⟨g, off, none⟩ = some (.int .u8 (c : Int)) ∧
      (∀ j (h : j < t.length), W.cell? ⟨g, off + 1 + j, none⟩ = some (.int .u8 (t[j] : Int))) ∧
      ∃ A, (if cap = 1 then (some ⟨g, off, none⟩ : Option Addr) else some ⟨g, off + 1, none⟩) = A ∧ Sv W (.slice A t.length (cap - 1)) (vals .u8 t) := by
  have h0 := h
  obtain ⟨a, cap, rfl, h1, h2, h3, h4⟩ := h
  rw [vals_length, List.length_cons] at *
  obtain ⟨g, off, rfl, h5, h6⟩ := h4 (by omega)
  refine ⟨g, off, cap, rfl, h1, h2, h5, by simpa using h6 0 _ rfl, fun j hj => ?_, ?_⟩
  · have := h6 (j + 1) _ (vals_get (k := .u8) (l := c :: t) (j := j + 1) (by simpa using hj))
    rw [show off + 1 + j = off + (j + 1) by omega, this]
    simp
  · obtain ⟨A, hA, hSA⟩ := Sv_drop h0 (k := 1) (by rw [vals_length]; simp)
    refine ⟨A, hA, ?_⟩
    rw [vals_cons] at hSA
    simpa using hSA

set_option maxRecDepth 100000 in
set_option maxHeartbeats 2000000 in
theorem written_any {w : World} {vb vl : Value} {c : Nat} {t : List Nat} {l : List Int} (hb : Sv w vb (vals .u8 (c :: t))) (h8 : Bs (c :: t)) (hc : c ≤ 4) (hs : Sv w vl (ivals l)) (hl : l.length ≤ 256) (hi : Is l) :
    Calls Try.prog 26 #[vb, vl] w fun e w' => e = .returned (.bool (decide (encC c l = t))) ∧ Below w.heap.size w w' := by
  have HEn := hidden (encode_any hs hi c (by omega))
  have HBT : Hid (Bs t) := fun x hx => h8 x (by simp [hx])
  have HBE := hidden (encC_size c hi hl).2
  have hyes : c ≤ 4 ∧ l.length ≤ 256 := ⟨hc, hl⟩
  have HEM : Hid (encM c l = encC c l) := if_pos hyes
  rw [decide_eq_true hyes] at HEn
  obtain ⟨g, off, cap, rfl, h1, h2, h3, h4, _, A, hA, hSA⟩ := hb.uncons
  have HSA := hidden hSA
  have hcm : cap ≤ 9223372036854775807 := by unfold maxLen at h2; omega
  clear hb hs hi hSA h8 hyes h2
  go_enter Try.func26, Try.ntmps26
  go_wp2_with fail
  refine HEn.out.mono ?_
  rintro e w1 ⟨⟨v1, rfl, ho1⟩, hb1⟩
  rw [HEM.out] at ho1
  have HO1 := hidden ho1
  have HB1 := hidden hb1
  clear ho1 hb1
  go_wp2_with fail
  refine (equal_any HO1.out.sv (HSA.out.kept HB1.out) HBE.out HBT.out).mono ?_
  rintro e w2 ⟨rfl, rfl⟩
  go_wp2_with fail
  go_ret
  exact ⟨rfl, HB1.out⟩

theorem readM_ok {c n : Nat} {t : List Nat} {l : List Int} (hc : c ≤ 4) (hn : n ≤ 256) (h : bindR (rdC c n) (fin c t) t = .ok (l, [])) : readM (c :: t) (n : Int) = (l, 0) := by
  rw [rdAll_fin] at h
  unfold readM
  rw [if_pos (by omega)]
  simp only
  rw [if_neg (by omega), Int.toNat_natCast]
  cases hr : rdAll c n t with
  | ok m => rw [hr] at h; simp at h; rw [h]
  | error e => rw [hr] at h; simp at h

theorem readM_err {c n e : Nat} {t : List Nat} (hc : c ≤ 4) (hn : n ≤ 256) (h : bindR (rdC c n) (fin c t) t = .error e) : readM (c :: t) (n : Int) = ([], e) := by
  rw [rdAll_fin] at h
  unfold readM
  rw [if_pos (by omega)]
  simp only
  rw [if_neg (by omega), Int.toNat_natCast]
  cases hr : rdAll c n t with
  | ok m => rw [hr] at h; simp at h
  | error e => rw [hr] at h; simp at h; rw [h]
end Go.Proofs.Ytnlanilejhjkkaa
