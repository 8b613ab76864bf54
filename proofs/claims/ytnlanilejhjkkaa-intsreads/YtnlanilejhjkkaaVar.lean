/- Numbers of few bytes as lists of naturals; readers that go on one behind the other: no program. -/
import Derived.Test.YtnlanilejhjkkaaPure3
import Derived.Test.YtnlanilejhjkkaaPure4
set_option linter.unusedVariables false
set_option linter.unusedSimpArgs false
namespace Go.Proofs.Ytnlanilejhjkkaa
open Go.Lib

/-- A number's bytes. -/
def uv (n : Nat) : List Nat := (uvarint n).map UInt8.toNat

/-- What bytes say as a number: the number, how many bytes it has, the error's number. -/
def gt (l : List Nat) : Nat × Nat × Nat := getL (l.map Nat.toUInt8)

theorem map_back (l : List UInt8) : (l.map UInt8.toNat).map Nat.toUInt8 = l := by
  rw [List.map_map]
  conv => rhs; rw [← List.map_id l]
  apply List.map_congr_left
  intro a _
  simp

theorem map_fwd {l : List Nat} (h : ∀ x ∈ l, x < 256) : (l.map Nat.toUInt8).map UInt8.toNat = l := by
  rw [List.map_map]
  conv => rhs; rw [← List.map_id l]
  apply List.map_congr_left
  intro a ha
  exact u8_nat (h a ha)

theorem uv_lt {n : Nat} : ∀ x ∈ uv n, x < 256 := by
  intro x hx
  obtain ⟨a, _, rfl⟩ := List.mem_map.1 hx
  exact a.toNat_lt

theorem uv_len (n : Nat) : (uv n).length = (uvarint n).length := List.length_map _
theorem uv_pos (n : Nat) : 0 < (uv n).length := by rw [uv_len]; exact uvarint_pos n
theorem uv_ten {n : Nat} (h : n < 18446744073709551616) : (uv n).length ≤ 10 := by rw [uv_len]; exact uvarint_length64 h

theorem gt_put (n : Nat) (hn : n < 18446744073709551616) (r : List Nat) : gt (uv n ++ r) = (n, (uv n).length, 0) := by
  unfold gt uv
  rw [List.map_append, map_back, get_put n hn, List.length_map]

theorem gt_cut (n : Nat) (hn : n < 18446744073709551616) (k : Nat) (hk : k < (uv n).length) : gt ((uv n).take k) = (0, 0, 30) := by
  unfold gt uv
  rw [List.map_take, map_back, get_cut n hn k (by rwa [uv_len] at hk)]

theorem uv_small {n : Nat} (h : n < 128) : uv n = [n] := by
  unfold uv
  rw [uvarint_small h]
  simp [u8_nat (show n < 256 by omega)]

/-- What was read is just how it is written. -/
theorem getL_ok {l : List UInt8} {n u : Nat} (h : getL l = (n, u, 0)) : n < 18446744073709551616 ∧ l.take u = uvarint n ∧ u ≤ l.length := by
  have hle := lead_le l
  unfold getL at h
  split at h
  · simp at h
  · next h1 =>
    split at h
    · simp at h
    · next h2 =>
      split at h
      · simp at h
      · next h3 =>
        have hl : lead l < l.length := by omega
        simp only [Prod.mk.injEq, and_true] at h
        obtain ⟨rfl, rfl⟩ := h
        rw [getD_at hl] at h3
        have hlt : lead l ≤ 9 := by
          rcases Nat.lt_or_ge 9 (lead l) with h9 | h9
          · exfalso
            apply h1
            have := lead_big l 9 (by omega) h9
            exact ⟨by omega, by omega, by rw [getD_at (by omega)]; omega⟩
          · exact h9
        have ht : lead l = 9 → l[lead l].toNat ≤ 1 := by
          intro e
          rcases Nat.lt_or_ge 1 l[lead l].toNat with h9 | h9
          · exfalso
            apply h1
            have h10 : 9 < l.length := by omega
            have e2 : l[9] = l[lead l] := by simp only [e]
            exact ⟨by omega, h10, by rw [getD_at h10, e2]; exact h9⟩
          · exact h9
        refine ⟨val64 hlt hl ht, ?_, by omega⟩
        have hlen : (l.take (lead l + 1)).length = lead l + 1 := by rw [List.length_take]; omega
        have hld : lead (l.take (lead l + 1)) = lead l := by
          have hsm := lead_small l hl
          refine lead_eq (l := l.take (lead l + 1)) ?_ (by omega) (by simpa using hsm)
          rcases Nat.lt_or_ge (lead (l.take (lead l + 1))) (lead l) with hh | hh
          · exfalso
            have hs2 := lead_small (l.take (lead l + 1)) (by omega)
            have hb := lead_big l _ (by omega) hh
            simp at hs2
            omega
          · exact hh
        refine ((uv_spare (l := l.take (lead l + 1)) (by omega)).2 ?_).symm
        simp only [hld]
        rintro ⟨h4, h5⟩
        exact h3 ⟨by simpa using h4, h5⟩

theorem gt_ok {l : List Nat} {n u : Nat} (hl : ∀ x ∈ l, x < 256) (h : gt l = (n, u, 0)) : n < 18446744073709551616 ∧ l = uv n ++ l.drop u ∧ u = (uv n).length := by
  obtain ⟨h1, h2, h3⟩ := getL_ok h
  have e : l.take u = uv n := by
    unfold uv
    rw [← h2, ← List.map_take, map_fwd (fun x hx => hl x (List.mem_of_mem_take hx))]
  refine ⟨h1, ?_, ?_⟩
  · rw [← e, List.take_append_drop]
  · rw [← e, List.length_take]
    rw [List.length_map] at h3
    omega

theorem gt_errs (l : List Nat) : (gt l).2.2 = 0 ∨ (gt l).2.2 = 30 ∨ (gt l).2.2 = 31 := by
  unfold gt getL
  split
  · simp
  · split
    · simp
    · split
      · simp
      · simp

/-- One reader, then another. -/
def bindR {α β : Type} (d : List Nat → Except Nat (α × List Nat)) (f : α → List Nat → Except Nat (β × List Nat)) (b : List Nat) : Except Nat (β × List Nat) :=
  match d b with
  | .ok (x, r) => f x r
  | .error e => .error e

theorem bindR_ok {α β : Type} {d : List Nat → Except Nat (α × List Nat)} {f : α → List Nat → Except Nat (β × List Nat)} {b r : List Nat} {x : α} (h : d b = .ok (x, r)) : bindR d f b = f x r := by
  unfold bindR; rw [h]

theorem bindR_error {α β : Type} {d : List Nat → Except Nat (α × List Nat)} {f : α → List Nat → Except Nat (β × List Nat)} {b : List Nat} {e : Nat} (h : d b = .error e) : bindR d f b = .error e := by
  unfold bindR; rw [h]

/-- The reader takes just these bytes, whatever stands behind them; of what is cut off it misses the end. -/
def Reads {α : Type} (d : List Nat → Except Nat (α × List Nat)) (e : List Nat) (x : α) : Prop :=
  (∀ r, d (e ++ r) = .ok (x, r)) ∧ ∀ k, k < e.length → d (e.take k) = .error 30

/-- The reader takes these bytes if nothing stands behind them. -/
def Ends {α : Type} (d : List Nat → Except Nat (α × List Nat)) (e : List Nat) (x : α) : Prop :=
  d e = .ok (x, []) ∧ (∀ y r, d (e ++ y :: r) = .error 32 ∨ d (e ++ y :: r) = .ok (x, y :: r)) ∧ ∀ k, k < e.length → d (e.take k) = .error 30

theorem Reads.ends {α : Type} {d : List Nat → Except Nat (α × List Nat)} {e : List Nat} {x : α} (h : Reads d e x) : Ends d e x :=
  ⟨by have := h.1 []; rwa [List.append_nil] at this, fun y r => Or.inr (h.1 _), h.2⟩

theorem Reads.pure {α : Type} (x : α) : Reads (fun b => .ok (x, b)) [] x := ⟨fun r => rfl, fun k h => by simp at h⟩

theorem Reads.bind {α β : Type} {d : List Nat → Except Nat (α × List Nat)} {f : α → List Nat → Except Nat (β × List Nat)} {e e' : List Nat} {x : α} {y : β} (h1 : Reads d e x) (h2 : Reads (f x) e' y) :
    Reads (bindR d f) (e ++ e') y := by
  refine ⟨fun r => ?_, fun k hk => ?_⟩
  · rw [List.append_assoc, bindR_ok (h1.1 _)]
    exact h2.1 r
  · rw [List.take_append]
    rcases Nat.lt_or_ge k e.length with h | h
    · rw [show k - e.length = 0 by omega, List.take_zero, List.append_nil]
      exact bindR_error (h1.2 k h)
    · rw [List.take_of_length_le h, bindR_ok (h1.1 _)]
      exact h2.2 _ (by rw [List.length_append] at hk; omega)

theorem Reads.then {α β : Type} {d : List Nat → Except Nat (α × List Nat)} {f : α → List Nat → Except Nat (β × List Nat)} {e e' : List Nat} {x : α} {y : β} (h1 : Reads d e x) (h2 : Ends (f x) e' y) :
    Ends (bindR d f) (e ++ e') y := by
  refine ⟨?_, fun z r => ?_, fun k hk => ?_⟩
  · rw [bindR_ok (h1.1 _)]
    exact h2.1
  · rw [List.append_assoc, bindR_ok (h1.1 _)]
    exact h2.2.1 z r
  · rw [List.take_append]
    rcases Nat.lt_or_ge k e.length with h | h
    · rw [show k - e.length = 0 by omega, List.take_zero, List.append_nil]
      exact bindR_error (h1.2 k h)
    · rw [List.take_of_length_le h, bindR_ok (h1.1 _)]
      exact h2.2.2 _ (by rw [List.length_append] at hk; omega)

theorem Reads.map {α β : Type} {d : List Nat → Except Nat (α × List Nat)} {e : List Nat} {x : α} (g : α → β) (h : Reads d e x) : Reads (bindR d fun a r => .ok (g a, r)) e (g x) := by
  have := h.bind (f := fun a r => .ok (g a, r)) (e' := []) (y := g x) (Reads.pure (g x))
  rwa [List.append_nil] at this

theorem Ends.map {α β : Type} {d : List Nat → Except Nat (α × List Nat)} {e : List Nat} {x : α} (g : α → β) (h : Ends d e x) : Ends (bindR d fun a r => .ok (g a, r)) e (g x) := by
  refine ⟨by rw [bindR_ok h.1], fun y r => ?_, fun k hk => bindR_error (h.2.2 k hk)⟩
  rcases h.2.1 y r with h1 | h1
  · exact Or.inl (bindR_error h1)
  · exact Or.inr (by rw [bindR_ok h1])

/-- A number is read. -/
def num (b : List Nat) : Except Nat (Nat × List Nat) := if (gt b).2.2 = 0 then .ok ((gt b).1, b.drop (gt b).2.1) else .error (gt b).2.2

theorem num_reads {n : Nat} (hn : n < 18446744073709551616) : Reads num (uv n) n := by
  refine ⟨fun r => ?_, fun k hk => ?_⟩
  · unfold num
    rw [gt_put n hn r, if_pos rfl, List.drop_left]
  · unfold num
    rw [gt_cut n hn k hk, if_neg (by simp)]

def unzig (u : Nat) : Int := if u % 2 = 0 then ((u / 2 : Nat) : Int) else -((u / 2 : Nat) : Int) - 1

theorem unzig_zig (z : Int) : unzig (zigzag z) = z := by
  unfold unzig zigzag
  split <;> split <;> omega

theorem zig_unzig (u : Nat) : zigzag (unzig u) = u := by
  unfold unzig zigzag
  split <;> split <;> omega

/-- A whole number of 64 bits. -/
def I64 (x : Int) : Prop := -9223372036854775808 ≤ x ∧ x ≤ 9223372036854775807

theorem unzig_i64 {u : Nat} (h : u < 18446744073709551616) : I64 (unzig u) := by
  unfold unzig I64
  split <;> omega

/-- A whole number's bytes. -/
def wv (x : Int) : List Nat := uv (zigzag x)

/-- A whole number is read. -/
def wh (b : List Nat) : Except Nat (Int × List Nat) := if (gt b).2.2 = 0 then .ok (unzig (gt b).1, b.drop (gt b).2.1) else .error (gt b).2.2

theorem wh_reads {x : Int} (hx : I64 x) : Reads wh (wv x) x := by
  have hn := zigzag_lt hx.1 hx.2
  refine ⟨fun r => ?_, fun k hk => ?_⟩
  · unfold wh wv
    rw [gt_put _ hn r, if_pos rfl, List.drop_left, unzig_zig]
  · unfold wh
    rw [wv, gt_cut _ hn k hk, if_neg (by simp)]

theorem num_ok {b r : List Nat} {n : Nat} (hb : ∀ x ∈ b, x < 256) (h : num b = .ok (n, r)) : n < 18446744073709551616 ∧ b = uv n ++ r := by
  unfold num at h
  split at h
  · next h0 =>
    simp only [Except.ok.injEq, Prod.mk.injEq] at h
    obtain ⟨h1, h2⟩ := h
    obtain ⟨g1, g2, _⟩ := gt_ok (n := (gt b).1) (u := (gt b).2.1) hb (by rw [← h0])
    rw [h1] at g1 g2
    exact ⟨g1, by rw [← h2]; exact g2⟩
  · simp at h

theorem wh_ok {b r : List Nat} {x : Int} (hb : ∀ x ∈ b, x < 256) (h : wh b = .ok (x, r)) : I64 x ∧ b = wv x ++ r := by
  unfold wh at h
  split at h
  · next h0 =>
    simp only [Except.ok.injEq, Prod.mk.injEq] at h
    obtain ⟨rfl, h2⟩ := h
    obtain ⟨g1, g2, _⟩ := gt_ok (n := (gt b).1) (u := (gt b).2.1) hb (by rw [← h0])
    refine ⟨unzig_i64 g1, ?_⟩
    unfold wv
    rw [zig_unzig, ← h2]
    exact g2
  · simp at h

theorem wv_pos (x : Int) : 0 < (wv x).length := uv_pos _
theorem wv_lt {x : Int} : ∀ y ∈ wv x, y < 256 := uv_lt
theorem wv_ten {x : Int} (h : I64 x) : (wv x).length ≤ 10 := uv_ten (zigzag_lt h.1 h.2)
end Go.Proofs.Ytnlanilejhjkkaa
