/- What was read has n numbers; no two lists have one form by the first three codecs; the fewest bytes; sizes: no program. -/
import Derived.Test.YtnlanilejhjkkaaPacked
set_option linter.unusedVariables false
set_option linter.unusedSimpArgs false
namespace Go.Proofs.Ytnlanilejhjkkaa
open Go.Lib

theorem bindR_inv {α β : Type} {d : List Nat → Except Nat (α × List Nat)} {f : α → List Nat → Except Nat (β × List Nat)} {b r : List Nat} {y : β} (h : bindR d f b = .ok (y, r)) :
    ∃ x q, d b = .ok (x, q) ∧ f x q = .ok (y, r) := by
  unfold bindR at h
  split at h
  · next x q e => exact ⟨x, q, e, h⟩
  · simp at h

/-- Bytes. -/
def Bs (b : List Nat) : Prop := ∀ x ∈ b, x < 256

theorem Bs.right {a b : List Nat} (h : Bs (a ++ b)) : Bs b := fun x hx => h x (List.mem_append.2 (Or.inr hx))

theorem num_inv {b r : List Nat} {n : Nat} (hb : Bs b) (h : num b = .ok (n, r)) : n < 18446744073709551616 ∧ Bs r := by
  obtain ⟨h1, h2⟩ := num_ok hb h
  exact ⟨h1, by rw [h2] at hb; exact hb.right⟩

theorem wh_inv {b r : List Nat} {x : Int} (hb : Bs b) (h : wh b = .ok (x, r)) : I64 x ∧ Bs r := by
  obtain ⟨h1, h2⟩ := wh_ok hb h
  exact ⟨h1, by rw [h2] at hb; exact hb.right⟩

def Is (l : List Int) : Prop := ∀ x ∈ l, I64 x

theorem Is.cons {x : Int} {l : List Int} (h : I64 x) (hl : Is l) : Is (x :: l) := fun y hy => by
  rcases List.mem_cons.1 hy with rfl | hy
  · exact h
  · exact hl y hy

theorem rd0_inv : ∀ {n : Nat} {b r : List Nat} {l : List Int}, Bs b → rd0 n b = .ok (l, r) → l.length = n ∧ Is l ∧ Bs r
  | 0, b, r, l, hb, h => by
    simp only [rd0, Except.ok.injEq, Prod.mk.injEq] at h
    obtain ⟨rfl, rfl⟩ := h
    exact ⟨rfl, fun x hx => by simp at hx, hb⟩
  | n + 1, b, r, l, hb, h => by
    rw [rd0] at h
    obtain ⟨x, q, h1, h2⟩ := bindR_inv h
    obtain ⟨m, q2, h3, h4⟩ := bindR_inv h2
    obtain ⟨i1, i2⟩ := wh_inv hb h1
    obtain ⟨j1, j2, j3⟩ := rd0_inv i2 h3
    simp only [Except.ok.injEq, Prod.mk.injEq] at h4
    obtain ⟨rfl, rfl⟩ := h4
    exact ⟨by simp [j1], j2.cons i1, j3⟩

theorem rd1_inv : ∀ {n : Nat} {last : Int} {b r : List Nat} {l : List Int}, Bs b → rd1 n last b = .ok (l, r) → l.length = n ∧ Is l ∧ Bs r
  | 0, last, b, r, l, hb, h => by
    simp only [rd1, Except.ok.injEq, Prod.mk.injEq] at h
    obtain ⟨rfl, rfl⟩ := h
    exact ⟨rfl, fun x hx => by simp at hx, hb⟩
  | n + 1, last, b, r, l, hb, h => by
    rw [rd1] at h
    obtain ⟨x, q, h1, h2⟩ := bindR_inv h
    obtain ⟨m, q2, h3, h4⟩ := bindR_inv h2
    obtain ⟨i1, i2⟩ := wh_inv hb h1
    obtain ⟨j1, j2, j3⟩ := rd1_inv i2 h3
    simp only [Except.ok.injEq, Prod.mk.injEq] at h4
    obtain ⟨rfl, rfl⟩ := h4
    exact ⟨by simp [j1], j2.cons (w64_i64 _), j3⟩

theorem rd2_inv : ∀ {f n : Nat} {b r : List Nat} {l : List Int}, n ≤ f → Bs b → rd2 f n b = .ok (l, r) → l.length = n ∧ Is l ∧ Bs r
  | 0, n, b, r, l, hf, hb, h => by
    simp only [rd2, Except.ok.injEq, Prod.mk.injEq] at h
    obtain ⟨rfl, rfl⟩ := h
    exact ⟨by simp; omega, fun x hx => by simp at hx, hb⟩
  | f + 1, n, b, r, l, hf, hb, h => by
    rw [rd2] at h
    split at h
    · simp only [Except.ok.injEq, Prod.mk.injEq] at h
      obtain ⟨rfl, rfl⟩ := h
      exact ⟨by simp; omega, fun x hx => by simp at hx, hb⟩
    · obtain ⟨x, q, h1, h2⟩ := bindR_inv h
      obtain ⟨i1, i2⟩ := wh_inv hb h1
      obtain ⟨k, q2, h3, h4⟩ := bindR_inv h2
      obtain ⟨_, i3⟩ := num_inv i2 h3
      split at h4
      · simp at h4
      · obtain ⟨m, q3, h5, h6⟩ := bindR_inv h4
        obtain ⟨j1, j2, j3⟩ := rd2_inv (by omega) i3 h5
        simp only [Except.ok.injEq, Prod.mk.injEq] at h6
        obtain ⟨rfl, rfl⟩ := h6
        refine ⟨by simp [j1]; omega, fun y hy => ?_, j3⟩
        rcases List.mem_append.1 hy with hy | hy
        · rw [List.eq_of_mem_replicate hy]; exact i1
        · exact j2 y hy

theorem rdU_inv : ∀ {m : Nat} {last : Int} {b r : List Nat} {l : List Int}, I64 last → Bs b → rdU m last b = .ok (l, r) → l.length = m ∧ Is l ∧ Bs r
  | 0, last, b, r, l, hl, hb, h => by
    simp only [rdU, Except.ok.injEq, Prod.mk.injEq] at h
    obtain ⟨rfl, rfl⟩ := h
    exact ⟨rfl, fun x hx => by simp at hx, hb⟩
  | m + 1, last, b, r, l, hl, hb, h => by
    rw [rdU] at h
    obtain ⟨d, q, h1, h2⟩ := bindR_inv h
    obtain ⟨_, i2⟩ := num_inv hb h1
    split at h2
    · simp at h2
    · next hd =>
      have hi : I64 (last + d) := by unfold I64 at hl ⊢; omega
      obtain ⟨m', q2, h3, h4⟩ := bindR_inv h2
      obtain ⟨j1, j2, j3⟩ := rdU_inv hi i2 h3
      simp only [Except.ok.injEq, Prod.mk.injEq] at h4
      obtain ⟨rfl, rfl⟩ := h4
      exact ⟨by simp [j1], j2.cons hi, j3⟩

theorem pkd_inv {n w : Nat} {b r p : List Nat} (h : pkd n w b = .ok (p, r)) : p.length = n ∧ r = [] := by
  unfold pkd at h
  split at h
  · simp at h
  · split at h
    · simp at h
    · split at h
      · next hE =>
        simp only [Except.ok.injEq, Prod.mk.injEq] at h
        obtain ⟨rfl, rfl⟩ := h
        refine ⟨?_, rfl⟩
        rw [unR, if_pos hE, dig_length]
        rfl
      · simp at h

theorem rd3_inv {n : Nat} {b r : List Nat} {l : List Int} (hb : Bs b) (h : rd3 n b = .ok (l, r)) : l.length = n ∧ Is l ∧ Bs r := by
  unfold rd3 at h
  obtain ⟨many, q, h1, h2⟩ := bindR_inv h
  obtain ⟨_, i2⟩ := num_inv hb h1
  split at h2
  · simp at h2
  · split at h2
    · simp only [Except.ok.injEq, Prod.mk.injEq] at h2
      obtain ⟨rfl, rfl⟩ := h2
      exact ⟨by simp; omega, fun x hx => by simp at hx, i2⟩
    · obtain ⟨x, q2, h3, h4⟩ := bindR_inv h2
      obtain ⟨i3, i4⟩ := wh_inv i2 h3
      obtain ⟨u, q3, h5, h6⟩ := bindR_inv h4
      obtain ⟨j1, j2, j3⟩ := rdU_inv i3 i4 h5
      obtain ⟨p, q4, h7, h8⟩ := bindR_inv h6
      obtain ⟨k1, rfl⟩ := pkd_inv h7
      unfold picked at h8
      split at h8
      · next hp =>
        simp only [Except.ok.injEq, Prod.mk.injEq] at h8
        obtain ⟨rfl, rfl⟩ := h8
        refine ⟨by simp [k1], fun y hy => ?_, fun y hy => by simp at hy⟩
        obtain ⟨z, hz, rfl⟩ := List.mem_map.1 hy
        have hlt := hp z hz
        rw [List.getD_eq_getElem?_getD, List.getElem?_eq_getElem hlt]
        exact (j2.cons i3) _ (List.getElem_mem hlt)
      · simp at h8

theorem rd4_inv {n : Nat} {b r : List Nat} {l : List Int} (hb : Bs b) (h : rd4 n b = .ok (l, r)) : l.length = n ∧ Is l ∧ Bs r := by
  unfold rd4 at h
  split at h
  · simp only [Except.ok.injEq, Prod.mk.injEq] at h
    obtain ⟨rfl, rfl⟩ := h
    exact ⟨by simp; omega, fun x hx => by simp at hx, hb⟩
  · obtain ⟨x, q, h1, h2⟩ := bindR_inv h
    obtain ⟨i1, i2⟩ := wh_inv hb h1
    obtain ⟨w, q2, h3, h4⟩ := bindR_inv h2
    split at h4
    · simp at h4
    · obtain ⟨p, q3, h5, h6⟩ := bindR_inv h4
      obtain ⟨k1, rfl⟩ := pkd_inv h5
      simp only [Except.ok.injEq, Prod.mk.injEq] at h6
      obtain ⟨rfl, rfl⟩ := h6
      refine ⟨by simp [k1], fun y hy => ?_, fun y hy => by simp at hy⟩
      obtain ⟨z, _, rfl⟩ := List.mem_map.1 hy
      exact w64_i64 _

theorem rdC_inv {c n : Nat} {b r : List Nat} {l : List Int} (hb : Bs b) (h : rdC c n b = .ok (l, r)) : l.length = n ∧ Is l ∧ Bs r := by
  unfold rdC at h
  split at h
  · exact rd0_inv hb h
  · exact rd1_inv hb h
  · exact rd2_inv (Nat.le_refl _) hb h
  · exact rd3_inv hb h
  · exact rd4_inv hb h

theorem rdAll_inv {c n : Nat} {b : List Nat} {l : List Int} (hb : Bs b) (h : rdAll c n b = .ok l) : l.length = n ∧ Is l ∧ encC c l = b := by
  unfold rdAll at h
  split at h
  · simp at h
  · next l' r e =>
    split at h
    · split at h
      · next h2 =>
        simp only [Except.ok.injEq] at h
        subst h
        obtain ⟨h3, h4, _⟩ := rdC_inv hb e
        exact ⟨h3, h4, h2⟩
      · simp at h
    · simp at h

theorem bindR_nz {α β : Type} {d : List Nat → Except Nat (α × List Nat)} {f : α → List Nat → Except Nat (β × List Nat)} (h1 : ∀ b, d b ≠ .error 0) (h2 : ∀ x b, f x b ≠ .error 0) (b : List Nat) : bindR d f b ≠ .error 0 := by
  unfold bindR
  split
  · exact h2 _ _
  · next e he =>
    intro h
    simp only [Except.error.injEq] at h
    subst h
    exact h1 b he

theorem num_nz (b : List Nat) : num b ≠ .error 0 := by
  unfold num
  split
  · simp
  · next h => intro e; simp only [Except.error.injEq] at e; exact h e

theorem wh_nz (b : List Nat) : wh b ≠ .error 0 := by
  unfold wh
  split
  · simp
  · next h => intro e; simp only [Except.error.injEq] at e; exact h e

theorem pkd_nz (n w : Nat) (b : List Nat) : pkd n w b ≠ .error 0 := by
  unfold pkd
  split
  · simp
  · split
    · simp
    · split
      · simp
      · next h => intro e; simp only [Except.error.injEq] at e; exact h e

theorem rd0_nz : ∀ (n : Nat) (b : List Nat), rd0 n b ≠ .error 0
  | 0, b => by simp [rd0]
  | n + 1, b => bindR_nz wh_nz (fun x => bindR_nz (rd0_nz n) (fun l r => by simp)) b

theorem rd1_nz : ∀ (n : Nat) (last : Int) (b : List Nat), rd1 n last b ≠ .error 0
  | 0, last, b => by simp [rd1]
  | n + 1, last, b => bindR_nz wh_nz (fun d => bindR_nz (rd1_nz n _) (fun l r => by simp)) b

theorem rd2_nz : ∀ (f n : Nat) (b : List Nat), rd2 f n b ≠ .error 0
  | 0, n, b => by simp [rd2]
  | f + 1, n, b => by
    rw [rd2]
    split
    · simp
    · refine bindR_nz wh_nz (fun x => bindR_nz num_nz (fun k q => ?_)) b
      split
      · simp
      · exact bindR_nz (rd2_nz f _) (fun l r => by simp) q

theorem rdU_nz : ∀ (m : Nat) (last : Int) (b : List Nat), rdU m last b ≠ .error 0
  | 0, last, b => by simp [rdU]
  | m + 1, last, b => by
    rw [rdU]
    refine bindR_nz num_nz (fun d q => ?_) b
    split
    · simp
    · exact bindR_nz (rdU_nz m _) (fun l r => by simp) q

theorem rd3_nz (n : Nat) (b : List Nat) : rd3 n b ≠ .error 0 := by
  unfold rd3
  refine bindR_nz num_nz (fun many q => ?_) b
  split
  · simp
  · split
    · simp
    · refine bindR_nz wh_nz (fun x => bindR_nz (rdU_nz _ _) (fun u => bindR_nz (pkd_nz _ _) (fun p r => ?_))) q
      unfold picked
      split <;> simp

theorem rd4_nz (n : Nat) (b : List Nat) : rd4 n b ≠ .error 0 := by
  unfold rd4
  split
  · simp
  · refine bindR_nz wh_nz (fun x => bindR_nz num_nz (fun w q => ?_)) b
    split
    · simp
    · exact bindR_nz (pkd_nz _ _) (fun p r => by simp) q

theorem rdC_nz (c n : Nat) (b : List Nat) : rdC c n b ≠ .error 0 := by
  unfold rdC
  split
  · exact rd0_nz n b
  · exact rd1_nz n 0 b
  · exact rd2_nz n n b
  · exact rd3_nz n b
  · exact rd4_nz n b

theorem rdAll_nz (c n : Nat) (b : List Nat) : rdAll c n b ≠ .error 0 := by
  unfold rdAll
  split
  · next e he =>
    intro h
    simp only [Except.error.injEq] at h
    subst h
    exact rdC_nz c n b he
  · split
    · split <;> simp
    · simp

/-- What was read, as a whole. -/
theorem readM_inv {b : List Nat} {n : Int} {l : List Int} (hb : Bs b) (h : readM b n = (l, 0)) : 0 ≤ n ∧ n ≤ 256 ∧ ∃ c t, b = c :: t ∧ c ≤ 4 ∧ (l.length : Int) = n ∧ Is l ∧ encC c l = t := by
  unfold readM at h
  split at h
  · next hn =>
    refine ⟨hn.1, hn.2, ?_⟩
    split at h
    · simp at h
    · next c t =>
      split at h
      · simp at h
      · next hc =>
        split at h
        · next l' e =>
          simp only [Prod.mk.injEq, and_true] at h
          subst h
          obtain ⟨h1, h2, h3⟩ := rdAll_inv (fun x hx => hb x (by simp [hx])) e
          exact ⟨c, t, rfl, by omega, by omega, h2, h3⟩
        · next e he =>
          simp only [Prod.mk.injEq] at h
          rw [h.2] at he
          exact absurd he (rdAll_nz _ _ _)
  · simp at h

/-- Beside an error there is no list. -/
theorem readM_none {b : List Nat} {n : Int} (h : (readM b n).2 ≠ 0) : (readM b n).1 = [] := by
  unfold readM at h ⊢
  split
  · next hn =>
    rw [if_pos hn] at h
    split
    · rfl
    · next c t =>
      simp only at h
      split
      · rfl
      · next hc =>
        rw [if_neg hc] at h
        split
        · next l e => rw [e] at h; simp at h
        · rfl
  · rfl

/-- By the first three codecs no two lists have one form. -/
def D0 : Nat → List Nat → List Int
  | 0, _ => []
  | f + 1, b => match wh b with
    | .ok (x, r) => x :: D0 f r
    | .error _ => []

def D1 : Nat → Int → List Nat → List Int
  | 0, _, _ => []
  | f + 1, last, b => match wh b with
    | .ok (d, r) => w64 (last + d) :: D1 f (w64 (last + d)) r
    | .error _ => []

def D2 : Nat → List Nat → List Int
  | 0, _ => []
  | f + 1, b => match bindR wh (fun x => bindR num (fun k r => .ok ((x, k), r))) b with
    | .ok ((x, k), r) => List.replicate k x ++ D2 f r
    | .error _ => []

theorem wh_nil : wh [] = .error 30 := rfl

theorem D0_enc : ∀ {l : List Int} {f : Nat}, Is l → l.length < f → D0 f (enc0 l) = l
  | [], f + 1, _, _ => by
    show (match wh [] with | .ok (x, r) => x :: D0 f r | .error _ => []) = []
    rw [wh_nil]
  | x :: t, f + 1, h, hf => by
    rw [enc0, D0, (wh_reads (h x (by simp))).1]
    simp only
    rw [D0_enc (fun y hy => h y (by simp [hy])) (by simpa using hf)]

theorem D1_enc : ∀ {l : List Int} {f : Nat} {last : Int}, Is l → l.length < f → D1 f last (enc1 last l) = l
  | [], f + 1, last, _, _ => by
    show (match wh [] with | .ok (d, r) => w64 (last + d) :: D1 f (w64 (last + d)) r | .error _ => []) = []
    rw [wh_nil]
  | x :: t, f + 1, last, h, hf => by
    rw [enc1, D1, (wh_reads (w64_i64 _)).1]
    simp only
    rw [w64_back (h x (by simp)), D1_enc (fun y hy => h y (by simp [hy])) (by simpa using hf)]

theorem pair_reads {x : Int} {c : Nat} (hx : I64 x) (hc : c < 18446744073709551616) : Reads (bindR wh (fun x => bindR num (fun k r => .ok ((x, k), r)))) (wv x ++ uv c) (x, c) :=
  (wh_reads hx).bind (f := fun x => bindR num (fun k r => .ok ((x, k), r))) ((num_reads hc).map (fun k => (x, k)))

theorem D2_nil (f : Nat) : D2 f [] = [] := by
  cases f with
  | zero => rfl
  | succ f => rw [D2, bindR_error wh_nil]

theorem D2_enc : ∀ {t : List Int} {x : Int} {c f : Nat}, Is t → I64 x → c + t.length ≤ 1000000 → t.length < f → D2 f (enc2c x c t) = List.replicate c x ++ t
  | [], x, c, f + 1, ht, hx, hc, hf => by
    have := (pair_reads (c := c) hx (by simp at hc; omega)).1 []
    rw [List.append_nil] at this
    rw [enc2c, D2, this]
    simp only
    rw [D2_nil]
  | y :: t, x, c, f + 1, ht, hx, hc, hf => by
    by_cases hxy : y = x
    · subst hxy
      rw [enc2c, if_pos rfl, D2_enc (fun z hz => ht z (by simp [hz])) hx (by simp at hc; omega) (by simp at hf; omega), List.replicate_succ']
      simp
    · rw [enc2c, if_neg hxy, D2, (pair_reads (c := c) hx (by omega)).1]
      simp only
      rw [D2_enc (fun z hz => ht z (by simp [hz])) (ht y (by simp)) (by simp at hc; omega) (by simpa using hf)]
      rfl

theorem enc2_inj {l m : List Int} (hl : Is l) (hm : Is m) (hl2 : l.length ≤ 256) (hm2 : m.length ≤ 256) (h : enc2 l = enc2 m) : l = m := by
  have key : ∀ k : List Int, Is k → k.length ≤ 256 → D2 300 (enc2 k) = k := by
    intro k hk hk2
    cases k with
    | nil => exact D2_nil _
    | cons x t =>
      rw [enc2, D2_enc (fun z hz => hk z (by simp [hz])) (hk x (by simp)) (by simp at hk2; omega) (by simp at hk2; omega)]
      rfl
  rw [← key l hl hl2, h, key m hm hm2]

theorem encC_inj {c : Nat} (hc : c ≤ 2) {l m : List Int} (hl : Is l) (hm : Is m) (hl2 : l.length ≤ 256) (hm2 : m.length ≤ 256) (h : encC c l = encC c m) : l = m := by
  match c, hc with
  | 0, _ => rw [← D0_enc (f := 300) hl (by omega), show enc0 l = enc0 m from h, D0_enc hm (by omega)]
  | 1, _ => rw [← D1_enc (f := 300) (last := 0) hl (by omega), show enc1 0 l = enc1 0 m from h, D1_enc hm (by omega)]
  | 2, _ => exact enc2_inj hl hm hl2 hm2 h

/-- No list has two counts by the first three codecs. -/
theorem readM_other {c : Nat} {t : List Nat} {n o : Int} {l m : List Int} (hb : Bs (c :: t)) (hc : c ≤ 2) (h1 : readM (c :: t) n = (l, 0)) (h2 : readM (c :: t) o = (m, 0)) : n = o := by
  obtain ⟨_, a1, c1, t1, e1, _, a2, a3, a4⟩ := readM_inv hb h1
  obtain ⟨_, b1, c2, t2, e2, _, b2, b3, b4⟩ := readM_inv hb h2
  cases e1
  cases e2
  have := encC_inj hc a3 b3 (by omega) (by omega) (a4.trans b4.symm)
  subst this
  omega

/-- The fewest bytes among the codecs up to one. -/
def bestUp (l : List Int) : Nat → List Nat
  | 0 => 0 :: encC 0 l
  | c + 1 => if (encC (c + 1) l).length + 1 < (bestUp l c).length then (c + 1) :: encC (c + 1) l else bestUp l c

theorem bestUp_form (l : List Int) : ∀ k, ∃ c, c ≤ k ∧ bestUp l k = c :: encC c l
  | 0 => ⟨0, Nat.le_refl _, rfl⟩
  | k + 1 => by
    rw [bestUp]
    split
    · exact ⟨k + 1, Nat.le_refl _, rfl⟩
    · obtain ⟨c, h1, h2⟩ := bestUp_form l k
      exact ⟨c, by omega, h2⟩

theorem bestUp_le (l : List Int) : ∀ k c, c ≤ k → (bestUp l k).length ≤ (encC c l).length + 1
  | 0, c, h => by
    obtain rfl : c = 0 := by omega
    simp [bestUp]
  | k + 1, c, h => by
    rw [bestUp]
    split
    · next hlt =>
      rcases Nat.lt_or_ge k c with h1 | h1
      · obtain rfl : c = k + 1 := by omega
        simp
      · have := bestUp_le l k c h1
        simp
        omega
    · next hlt =>
      rcases Nat.lt_or_ge k c with h1 | h1
      · obtain rfl : c = k + 1 := by omega
        omega
      · exact bestUp_le l k c h1

/-- Sizes, and that they are bytes. -/
theorem enc0_size : ∀ {l : List Int}, Is l → (enc0 l).length ≤ 10 * l.length ∧ Bs (enc0 l)
  | [], _ => ⟨by simp [enc0], fun x hx => by simp [enc0] at hx⟩
  | x :: t, h => by
    obtain ⟨h1, h2⟩ := enc0_size (l := t) (fun y hy => h y (by simp [hy]))
    have h3 := wv_ten (h x (by simp))
    refine ⟨by simp [enc0]; omega, fun y hy => ?_⟩
    rcases List.mem_append.1 hy with hy | hy
    · exact wv_lt y hy
    · exact h2 y hy

theorem enc1_size : ∀ {l : List Int} {last : Int}, (enc1 last l).length ≤ 10 * l.length ∧ Bs (enc1 last l)
  | [], _ => ⟨by simp [enc1], fun x hx => by simp [enc1] at hx⟩
  | x :: t, last => by
    obtain ⟨h1, h2⟩ := enc1_size (l := t) (last := x)
    have h3 := wv_ten (w64_i64 (x - last))
    refine ⟨by simp [enc1]; omega, fun y hy => ?_⟩
    rcases List.mem_append.1 hy with hy | hy
    · exact wv_lt y hy
    · exact h2 y hy

theorem Bs.append {a b : List Nat} (ha : Bs a) (hb : Bs b) : Bs (a ++ b) := fun x hx => by
  rcases List.mem_append.1 hx with hx | hx
  · exact ha x hx
  · exact hb x hx

theorem enc2c_size : ∀ {t : List Int} {x : Int} {c : Nat}, Is t → I64 x → c + t.length ≤ 1000000 → (enc2c x c t).length ≤ 20 * (t.length + 1) ∧ Bs (enc2c x c t)
  | [], x, c, ht, hx, hc => by
    have h3 := wv_ten hx
    have h4 := uv_ten (n := c) (by simp at hc; omega)
    refine ⟨by simp [enc2c]; omega, ?_⟩
    rw [enc2c]
    exact Bs.append wv_lt uv_lt
  | y :: t, x, c, ht, hx, hc => by
    have h3 := wv_ten hx
    have h4 := uv_ten (n := c) (by omega)
    rw [enc2c]
    split
    · obtain ⟨h1, h2⟩ := enc2c_size (t := t) (x := x) (c := c + 1) (fun z hz => ht z (by simp [hz])) hx (by simp at hc; omega)
      exact ⟨by simp; omega, h2⟩
    · obtain ⟨h1, h2⟩ := enc2c_size (t := t) (x := y) (c := 1) (fun z hz => ht z (by simp [hz])) (ht y (by simp)) (by simp at hc; omega)
      exact ⟨by simp; omega, Bs.append (Bs.append wv_lt uv_lt) h2⟩

theorem encD_size : ∀ {t : List Int} {last : Int}, I64 last → Is t → (encD last t).length ≤ 10 * t.length ∧ Bs (encD last t)
  | [], _, _, _ => ⟨by simp [encD], fun x hx => by simp [encD] at hx⟩
  | y :: t, last, hl, ht => by
    have hy := ht y (by simp)
    obtain ⟨h1, h2⟩ := encD_size (t := t) (last := y) hy (fun z hz => ht z (by simp [hz]))
    have h3 := uv_ten (n := (y - last).toNat) (by unfold I64 at hy hl; omega)
    exact ⟨by simp [encD]; omega, Bs.append uv_lt h2⟩

theorem encU_size {u : List Int} (h : Is u) : (encU u).length ≤ 10 * u.length ∧ Bs (encU u) := by
  cases u with
  | nil => exact ⟨by simp [encU], fun x hx => by simp [encU] at hx⟩
  | cons x t =>
    have hx := h x (by simp)
    obtain ⟨h1, h2⟩ := encD_size (t := t) hx (fun z hz => h z (by simp [hz]))
    have h3 := wv_ten hx
    exact ⟨by simp [encU]; omega, Bs.append wv_lt h2⟩

theorem packR_size {p : List Nat} {w : Nat} (hl : p.length ≤ 256) : (packR p w).length ≤ 2048 := by
  unfold packR
  split
  · next h =>
    unfold can at h
    simp only [decide_eq_true_eq] at h
    rw [dig_length]
    have : p.length * w ≤ 256 * 64 := Nat.mul_le_mul hl (by omega)
    unfold by8
    simp only [Int.toNat_natCast]
    omega
  · simp

theorem encC_size (c : Nat) {l : List Int} (h : Is l) (hl : l.length ≤ 256) : (encC c l).length ≤ 5130 ∧ Bs (encC c l) := by
  unfold encC
  split
  · obtain ⟨h1, h2⟩ := enc0_size h
    exact ⟨by omega, h2⟩
  · obtain ⟨h1, h2⟩ := enc1_size (l := l) (last := 0)
    exact ⟨by omega, h2⟩
  · cases l with
    | nil => exact ⟨by simp [enc2], fun x hx => by simp [enc2] at hx⟩
    | cons x t =>
      obtain ⟨h1, h2⟩ := enc2c_size (t := t) (x := x) (c := 1) (fun z hz => h z (by simp [hz])) (h x (by simp)) (by simp at hl; omega)
      simp at hl
      exact ⟨by rw [enc2]; omega, h2⟩
  · have hu := uniq_length l
    obtain ⟨h1, h2⟩ := encU_size (uniq_i64 h)
    have h3 := uv_ten (n := (uniq l).length) (by omega)
    have h4 := packR_size (p := places l) (w := wd (places l)) (by rw [places_length]; exact hl)
    refine ⟨by simp [enc3]; omega, Bs.append uv_lt (Bs.append h2 packR_lt)⟩
  · unfold enc4
    split
    · exact ⟨by simp, fun x hx => by simp at hx⟩
    · next h0 =>
      have h3 := wv_ten (h _ (least_mem (by omega)))
      have h4 := packR_size (p := mores l) (w := wd (mores l)) (by rw [mores_length]; exact hl)
      have h5 := uv_ten (n := wd (mores l)) (by have := wd64 (mores_lt h); omega)
      refine ⟨by simp; omega, Bs.append wv_lt (Bs.append uv_lt packR_lt)⟩
end Go.Proofs.Ytnlanilejhjkkaa
