/- The five codecs of lists of whole numbers: what they write, how it is read: no program. -/
import Derived.Test.YtnlanilejhjkkaaVar
set_option linter.unusedVariables false
set_option linter.unusedSimpArgs false
namespace Go.Proofs.Ytnlanilejhjkkaa
open Go.Lib

/-- Modulo 2^64, as a whole number of 64 bits. -/
def w64 (x : Int) : Int := (x + 9223372036854775808) % 18446744073709551616 - 9223372036854775808

theorem w64_i64 (x : Int) : I64 (w64 x) := by unfold w64 I64; omega
theorem w64_id {x : Int} (h : I64 x) : w64 x = x := by unfold I64 at h; unfold w64; omega
theorem w64_back {x last : Int} (h : I64 x) : w64 (last + w64 (x - last)) = x := by unfold I64 at h; unfold w64; omega

/-- Codec 0. -/
def enc0 : List Int → List Nat
  | [] => []
  | x :: t => wv x ++ enc0 t

def rd0 : Nat → List Nat → Except Nat (List Int × List Nat)
  | 0, b => .ok ([], b)
  | n + 1, b => bindR wh (fun x => bindR (rd0 n) (fun l r => .ok (x :: l, r))) b

theorem reads0 : ∀ {l : List Int}, (∀ x ∈ l, I64 x) → Reads (rd0 l.length) (enc0 l) l
  | [], _ => Reads.pure []
  | x :: t, h => by
    have ht := reads0 (l := t) (fun y hy => h y (by simp [hy]))
    exact (wh_reads (h x (by simp))).bind (f := fun x => bindR (rd0 t.length) (fun l r => .ok (x :: l, r))) (ht.map (x :: ·))

/-- Codec 1, from the number ahead on. -/
def enc1 : Int → List Int → List Nat
  | _, [] => []
  | last, x :: t => wv (w64 (x - last)) ++ enc1 x t

def rd1 : Nat → Int → List Nat → Except Nat (List Int × List Nat)
  | 0, _, b => .ok ([], b)
  | n + 1, last, b => bindR wh (fun d => bindR (rd1 n (w64 (last + d))) (fun l r => .ok (w64 (last + d) :: l, r))) b

theorem reads1 : ∀ {l : List Int} (last : Int), (∀ x ∈ l, I64 x) → Reads (rd1 l.length last) (enc1 last l) l
  | [], _, _ => Reads.pure []
  | x :: t, last, h => by
    have hx := h x (by simp)
    have ht := reads1 (l := t) x (fun y hy => h y (by simp [hy]))
    refine (wh_reads (w64_i64 (x - last))).bind (f := fun d => bindR (rd1 t.length (w64 (last + d))) (fun l r => .ok (w64 (last + d) :: l, r))) ?_
    simp only [w64_back hx]
    exact ht.map (x :: ·)

/-- Codec 2: a run of x that has c numbers yet, and what follows. -/
def enc2c : Int → Nat → List Int → List Nat
  | x, c, [] => wv x ++ uv c
  | x, c, y :: t => if y = x then enc2c x (c + 1) t else wv x ++ uv c ++ enc2c y 1 t

def enc2 : List Int → List Nat
  | [] => []
  | x :: t => enc2c x 1 t

def rd2 : Nat → Nat → List Nat → Except Nat (List Int × List Nat)
  | 0, _, b => .ok ([], b)
  | f + 1, n, b => if n = 0 then .ok ([], b) else bindR wh (fun x => bindR num (fun k => if k = 0 ∨ n < k then (fun _ => .error 40) else bindR (rd2 f (n - k)) (fun l r => .ok (List.replicate k x ++ l, r)))) b

theorem rd2_zero (f : Nat) (b : List Nat) : rd2 f 0 b = .ok ([], b) := by
  cases f with
  | zero => rfl
  | succ f => unfold rd2; rw [if_pos rfl]

theorem reads2c : ∀ {t : List Int} {x : Int} {c f : Nat}, (∀ y ∈ t, I64 y) → I64 x → 1 ≤ c → c + t.length ≤ 1000000 → t.length + 1 ≤ f →
    Reads (rd2 f (c + t.length)) (enc2c x c t) (List.replicate c x ++ t)
  | [], x, c, f, _, hx, hc, hm, hf => by
    obtain ⟨f, rfl⟩ : ∃ g, f = g + 1 := ⟨f - 1, by simp at hf; omega⟩
    have h1 : Reads (fun b => bindR wh (fun x => bindR num (fun k => if k = 0 ∨ c < k then (fun _ => .error 40) else bindR (rd2 f (c - k)) (fun l r => .ok (List.replicate k x ++ l, r)))) b) (wv x ++ uv c) (List.replicate c x ++ []) := by
      refine (wh_reads hx).bind ?_
      have h2 := (num_reads (n := c) (by simp at hm; omega)).bind (f := fun k => if k = 0 ∨ c < k then (fun _ => .error 40) else bindR (rd2 f (c - k)) (fun l r => .ok (List.replicate k x ++ l, r))) (e' := []) (y := List.replicate c x ++ [])
        (by
          rw [if_neg (by omega), Nat.sub_self]
          have h3 : Reads (rd2 f 0) [] [] := ⟨fun r => rd2_zero f _, fun k h => by simp at h⟩
          exact h3.map (List.replicate c x ++ ·))
      rwa [List.append_nil] at h2
    have e : rd2 (f + 1) (c + ([] : List Int).length) = (fun b => bindR wh (fun x => bindR num (fun k => if k = 0 ∨ c < k then (fun _ => .error 40) else bindR (rd2 f (c - k)) (fun l r => .ok (List.replicate k x ++ l, r)))) b) := by
      funext b
      show (if c = 0 then _ else _) = _
      rw [if_neg (by omega)]
      rfl
    rw [e]
    exact h1
  | y :: t, x, c, f, ht, hx, hc, hm, hf => by
    by_cases hxy : y = x
    · subst hxy
      have := reads2c (t := t) (x := y) (c := c + 1) (f := f) (fun z hz => ht z (by simp [hz])) hx (by omega) (by simp at hm; omega) (by simp at hf; omega)
      rw [show enc2c y c (y :: t) = enc2c y (c + 1) t by rw [enc2c, if_pos rfl], show c + (y :: t).length = c + 1 + t.length by simp; omega]
      rw [show List.replicate c y ++ y :: t = List.replicate (c + 1) y ++ t by rw [List.replicate_succ']; simp]
      exact this
    · obtain ⟨f, rfl⟩ : ∃ g, f = g + 1 := ⟨f - 1, by simp at hf; omega⟩
      have ih := reads2c (t := t) (x := y) (c := 1) (f := f) (fun z hz => ht z (by simp [hz])) (ht y (by simp)) (by omega) (by simp at hm; omega) (by simp at hf; omega)
      rw [show enc2c x c (y :: t) = wv x ++ uv c ++ enc2c y 1 t by rw [enc2c, if_neg hxy], List.append_assoc]
      have e : rd2 (f + 1) (c + (y :: t).length) = (fun b => bindR wh (fun x => bindR num (fun k => if k = 0 ∨ c + (y :: t).length < k then (fun _ => .error 40) else bindR (rd2 f (c + (y :: t).length - k)) (fun l r => .ok (List.replicate k x ++ l, r)))) b) := by
        funext b
        rw [rd2, if_neg (by omega)]
      rw [e]
      refine (wh_reads hx).bind ?_
      refine (num_reads (n := c) (by omega)).bind ?_
      rw [if_neg (by omega), show c + (y :: t).length - c = 1 + t.length by simp; omega]
      exact ih.map (List.replicate c x ++ ·)

theorem reads2 {l : List Int} (h : ∀ x ∈ l, I64 x) (hm : l.length ≤ 1000000) : Reads (rd2 l.length l.length) (enc2 l) l := by
  cases l with
  | nil => exact Reads.pure []
  | cons x t =>
    have := reads2c (t := t) (x := x) (c := 1) (f := (x :: t).length) (fun z hz => h z (by simp [hz])) (h x (by simp)) (by omega) (by simp at hm; omega) (by simp)
    rw [show 1 + t.length = (x :: t).length by simp; omega] at this
    exact this
end Go.Proofs.Ytnlanilejhjkkaa
