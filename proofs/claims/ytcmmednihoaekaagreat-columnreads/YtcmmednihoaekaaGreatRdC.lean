/- Which errors the reading of numbers may tell; what a reading has to keep: no program. -/
import Derived.Test.YtcmmednihoaekaaGreatRdB
set_option linter.unusedVariables false
set_option linter.unusedSimpArgs false
namespace Go.Proofs.YtcmmednihoaekaaGreat
open Go.Lib

/-- The errors of a reading. -/
def Er (f : Nat) : Prop := f = 0 ∨ f = 30 ∨ f = 31 ∨ f = 32 ∨ f = 40 ∨ f = 50

theorem Er.orf {f e : Nat} (h : Er f) (h2 : Er e) : Er (orf f e) := by
  unfold YtcmmednihoaekaaGreat.orf
  split
  · exact h2
  · exact h

theorem orf_eq_zero {f e : Nat} (h : orf f e = 0) : f = 0 ∧ e = 0 := by
  unfold orf at h
  split at h
  · next h1 => exact ⟨h1, h⟩
  · next h1 => exact absurd h h1

def Es {α : Type} (d : List Nat → Except Nat (α × List Nat)) : Prop := ∀ b e, d b = .error e → Er e

theorem Es.bind {α β : Type} {d : List Nat → Except Nat (α × List Nat)} {f : α → List Nat → Except Nat (β × List Nat)} (h1 : Es d) (h2 : ∀ x, Es (f x)) : Es (bindR d f) := by
  intro b e h
  unfold bindR at h
  split at h
  · next x r _ => exact h2 x r e h
  · next e' he =>
    cases h
    exact h1 b _ he

theorem Es.ok {α : Type} {x : List Nat → α × List Nat} : Es (fun r => (.ok (x r) : Except Nat (α × List Nat))) := fun b e h => by cases h
theorem Es.err {α : Type} {e : Nat} (h : Er e) : Es (fun _ => (.error e : Except Nat (α × List Nat))) := fun b e' h' => by cases h'; exact h
theorem Es.ite {α : Type} {c : Prop} [Decidable c] {d1 d2 : List Nat → Except Nat (α × List Nat)} (h1 : Es d1) (h2 : ¬ c → Es d2) : Es (if c then d1 else d2) := by
  split
  · exact h1
  · next h => exact h2 h

theorem gt_er (b : List Nat) : Er (gt b).2.2 := by
  obtain ⟨_, _, _, h | ⟨h | h, _⟩⟩ := gt_form b
  · exact Or.inl h
  · exact Or.inr (Or.inl h)
  · exact Or.inr (Or.inr (Or.inl h))

theorem wh_es : Es wh := fun b e h => by
  unfold wh at h
  split at h
  · cases h
  · cases h
    exact gt_er b

theorem num_es : Es num := fun b e h => by
  unfold num at h
  split at h
  · cases h
  · cases h
    exact gt_er b

theorem unE_er {b : List Nat} {n w : Nat} (hn : n ≤ 256) (hw : w ≤ 64) : Er (unE b n w) := by
  unfold unE
  rw [if_pos (by omega)]
  split
  · exact Or.inl rfl
  · exact Or.inr (Or.inr (Or.inr (Or.inr (Or.inl rfl))))

theorem pkd_es {n w : Nat} (hn : n ≤ 256) (hw : w ≤ 64) : Es (pkd n w) := fun b e h => by
  unfold pkd at h
  split at h
  · cases h
    exact Or.inr (Or.inl rfl)
  · split at h
    · cases h
      exact Or.inr (Or.inr (Or.inr (Or.inl rfl)))
    · split at h
      · cases h
      · cases h
        exact unE_er hn hw

theorem er40 : Er 40 := Or.inr (Or.inr (Or.inr (Or.inr (Or.inl rfl))))
theorem er32 : Er 32 := Or.inr (Or.inr (Or.inr (Or.inl rfl)))
theorem er30 : Er 30 := Or.inr (Or.inl rfl)
theorem er50 : Er 50 := Or.inr (Or.inr (Or.inr (Or.inr (Or.inr rfl))))
theorem er0 : Er 0 := Or.inl rfl

theorem rd0_es : ∀ n, Es (rd0 n)
  | 0 => fun b e h => by cases h
  | n + 1 => by
    have := (wh_es).bind (f := fun x => bindR (rd0 n) (fun l r => .ok (x :: l, r))) (fun x => (rd0_es n).bind (fun l => Es.ok))
    exact this

theorem rd1_es : ∀ n last, Es (rd1 n last)
  | 0, _ => fun b e h => by cases h
  | n + 1, last => by
    have := (wh_es).bind (f := fun d => bindR (rd1 n (w64 (last + d))) (fun l r => .ok (w64 (last + d) :: l, r))) (fun d => (rd1_es n _).bind (fun l => Es.ok))
    exact this

theorem rd2_es : ∀ f n, Es (rd2 f n)
  | 0, _ => fun b e h => by cases h
  | f + 1, n => fun b e h => by
    unfold rd2 at h
    split at h
    · cases h
    · exact (wh_es.bind (fun x => num_es.bind (fun k => Es.ite (Es.err er40) (fun _ => (rd2_es f (n - k)).bind (fun l => Es.ok))))) b e h

theorem rdU_es : ∀ m last, Es (rdU m last)
  | 0, _ => fun b e h => by cases h
  | m + 1, last => fun b e h => by
    unfold rdU at h
    exact (num_es.bind (fun d => Es.ite (Es.err er40) (fun _ => (rdU_es m _).bind (fun l => Es.ok)))) b e h

theorem rd3_es {n : Nat} (hn : n ≤ 256) : Es (rd3 n) := fun b e h => by
  unfold rd3 at h
  refine (num_es.bind (fun many => Es.ite (Es.err er40) (fun hm => Es.ite Es.ok (fun h0 => wh_es.bind (fun x => (rdU_es _ x).bind (fun u => (pkd_es hn ?_).bind (fun p r e he => ?_))))))) b e h
  · rw [blen_le]
    have : many - 1 < 2 ^ 64 := by
      have : (2 : Nat) ^ 64 = 18446744073709551616 := by decide
      omega
    exact this
  · unfold picked at he
    split at he
    · cases he
    · cases he
      exact er40

theorem rd4_es {n : Nat} (hn : n ≤ 256) : Es (rd4 n) := fun b e h => by
  unfold rd4 at h
  split at h
  · cases h
  · exact (wh_es.bind (fun x => num_es.bind (fun w => Es.ite (Es.err er40) (fun hw => (pkd_es hn (by omega)).bind (fun p => Es.ok))))) b e h

theorem rdC_es {c n : Nat} (hn : n ≤ 256) : Es (rdC c n) := by
  unfold rdC
  split
  · exact rd0_es n
  · exact rd1_es n 0
  · exact rd2_es n n
  · exact rd3_es hn
  · exact rd4_es hn

theorem readM_er {b : List Nat} {n : Nat} (hn : n ≤ 256) : Er (readM b n).2 := by
  unfold readM
  rw [if_pos (by omega)]
  split
  · exact er30
  · next c t =>
    split
    · exact er50
    · split
      · exact er0
      · next e he =>
        unfold rdAll at he
        split at he
        · next e' he' =>
          cases he
          exact rdC_es (by omega) _ _ he'
        · split at he
          · split at he
            · cases he
            · cases he
              exact er40
          · cases he
            exact er32

/-- Read numbers: so many, or none. -/
theorem readM_safe {b : List Nat} {n : Nat} (hb : Bs b) (hn : n ≤ 256) : Is (readM b n).1 ∧ (readM b n).1.length ≤ n := by
  by_cases h : (readM b n).2 = 0
  · obtain ⟨h1, h2⟩ := readM_len hb h
    exact ⟨h2, by omega⟩
  · have : (readM b n).1 = [] := by
      unfold readM at h ⊢
      rw [if_pos (by omega)] at h ⊢
      split
      · rfl
      · next c t =>
        split
        · rfl
        · next h4 =>
          simp only [if_neg h4] at h
          split
          · next l hl =>
            rw [hl] at h
            exact absurd rfl h
          · rfl
    rw [this]
    exact ⟨fun x hx => by simp at hx, by simp⟩

/-- What a reading keeps: its error is one of these; without one what it read is as it must be; of bytes that were written so, it is what was written. -/
def RP {α : Type} (Ok : α → Prop) (G : α → List Nat → Prop) (f : Nat) (x : α) (b' : List Nat) (f' : Nat) : Prop :=
  Er f' ∧ (f' = 0 → f = 0 ∧ Ok x) ∧ ∀ y r, f = 0 → Ok y → G y r → f' = 0 ∧ x = y ∧ b' = r

/-- So many whole numbers. -/
def Ni (n : Nat) (l : List Int) : Prop := l.length = n ∧ Is l
def Nt (n : Nat) (l : List (List Nat)) : Prop := l.length = n ∧ Ts l

theorem tk_left {a r : List Nat} (f : Nat) : tkB a.length (a ++ r) = a ∧ tkR a.length (a ++ r) = r ∧ tkF a.length (a ++ r) f = f := by
  have h : ¬ (a ++ r).length < a.length := by rw [List.length_append]; omega
  refine ⟨?_, ?_, ?_⟩
  · unfold tkB; rw [if_neg h, List.take_left]
  · unfold tkR; rw [if_neg h, List.drop_left]
  · unfold tkF; rw [if_neg h]

theorem tkF_er {c : Nat} {b : List Nat} {f : Nat} (h : Er f) : Er (tkF c b f) := by
  unfold tkF
  split
  · exact h.orf er30
  · exact h

theorem tkF_zero {c : Nat} {b : List Nat} {f : Nat} (h : tkF c b f = 0) : f = 0 ∧ ¬ b.length < c := by
  unfold tkF at h
  split at h
  · have := (orf_eq_zero h).2
    omega
  · next h1 => exact ⟨h, h1⟩

/-- The counted numbers keep it. -/
theorem counted_rp {b : List Nat} {f n : Nat} (hb : Bs b) (hn : n ≤ 256) (hf : Er f) :
    RP (Ni n) (fun l r => b = cnt l ++ r) f (readM (tkB (gt b).1 (b.drop (gt b).2.1)) n).1 (tkR (gt b).1 (b.drop (gt b).2.1)) (orf (tkF (gt b).1 (b.drop (gt b).2.1) (orf f (gt b).2.2)) (readM (tkB (gt b).1 (b.drop (gt b).2.1)) n).2) := by
  refine ⟨(tkF_er (hf.orf (gt_er b))).orf (readM_er hn), fun h => ?_, fun l r h0 hl hg => ?_⟩
  · obtain ⟨h1, h2⟩ := orf_eq_zero h
    obtain ⟨h3, h4⟩ := readM_len (tkB_bs (hb.drop _)) h2
    exact ⟨(orf_eq_zero (tkF_zero h1).1).1, by omega, h4⟩
  · obtain ⟨hl1, hl2⟩ := hl
    have hs := (bstC_size hl2 (by omega)).1
    have hgt : gt b = ((bstC l).length, (uv (bstC l).length).length, 0) := by
      rw [hg]
      unfold cnt
      rw [List.append_assoc]
      exact gt_put _ (by omega) _
    have hd : b.drop (uv (bstC l).length).length = bstC l ++ r := by
      rw [hg]
      unfold cnt
      rw [List.append_assoc, List.drop_left]
    have hbk := bstC_back hl2 (by omega)
    rw [hl1] at hbk
    rw [hgt]
    simp only
    rw [hd, (tk_left (a := bstC l) (r := r) 0).1, (tk_left (a := bstC l) (r := r) 0).2.1, (tk_left (a := bstC l) (r := r) (orf f 0)).2.2, hbk, h0]
    exact ⟨rfl, rfl, rfl⟩
end Go.Proofs.YtcmmednihoaekaaGreat
