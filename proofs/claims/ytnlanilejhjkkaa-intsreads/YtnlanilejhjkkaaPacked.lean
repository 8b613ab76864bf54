/- The packed codecs, all of them together, and what follows: there and back, cut off, one more, no two forms: no program. -/
import Derived.Test.YtnlanilejhjkkaaUniq
set_option linter.unusedVariables false
set_option linter.unusedSimpArgs false
namespace Go.Proofs.Ytnlanilejhjkkaa
open Go.Lib

/-- Packed numbers that must be all that is left. -/
def pkd (n w : Nat) (b : List Nat) : Except Nat (List Nat × List Nat) :=
  if b.length < by8 (n * w) then .error 30
  else if by8 (n * w) < b.length then .error 32
  else if unE b n w = 0 then .ok (unR b n w, []) else .error (unE b n w)

theorem can_of {p : List Nat} {w : Nat} (hl : p.length ≤ 256) (hw : w ≤ 64) (hp : wd p ≤ w) : can p w = true := by
  unfold can
  exact decide_eq_true ⟨by omega, by omega, hl, by omega⟩

theorem packR_length {p : List Nat} {w : Nat} (h : can p w = true) : (packR p w).length = by8 (p.length * w) := by
  unfold packR
  rw [if_pos h, dig_length]
  rfl

theorem pkd_ends {p : List Nat} {w : Nat} (hl : p.length ≤ 256) (hw : w ≤ 64) (hp : wd p ≤ w) : Ends (pkd p.length w) (packR p w) p := by
  have hcan := can_of hl hw hp
  have hlen := packR_length hcan
  obtain ⟨h1, h2⟩ := back_one hcan
  refine ⟨?_, fun y r => Or.inl ?_, fun k hk => ?_⟩
  · unfold pkd
    rw [if_neg (by omega), if_neg (by omega), if_pos h1, h2]
  · unfold pkd
    rw [if_neg (by simp; omega), if_pos (by simp; omega)]
  · unfold pkd
    rw [if_pos (by rw [List.length_take]; omega)]

/-- Rising numbers behind the first one. -/
def encD : Int → List Int → List Nat
  | _, [] => []
  | last, y :: t => uv (y - last).toNat ++ encD y t

def encU : List Int → List Nat
  | [] => []
  | x :: t => wv x ++ encD x t

def rdU : Nat → Int → List Nat → Except Nat (List Int × List Nat)
  | 0, _, b => .ok ([], b)
  | m + 1, last, b => bindR num (fun (d : Nat) => if d = 0 ∨ 9223372036854775807 - last < (d : Int) then (fun _ => .error 40) else bindR (rdU m (last + d)) (fun l r => .ok ((last + d) :: l, r))) b

theorem readsU : ∀ {t : List Int} {last : Int}, Rising (last :: t) → I64 last → (∀ x ∈ t, I64 x) → Reads (rdU t.length last) (encD last t) t
  | [], _, _, _, _ => Reads.pure []
  | y :: t, last, hr, hl, ht => by
    have h1 : (∀ z ∈ y :: t, last < z) ∧ Rising (y :: t) := List.pairwise_cons.1 hr
    have hy := h1.1 y (by simp)
    have hyi := ht y (by simp)
    have ih := readsU (t := t) (last := y) h1.2 hyi (fun x hx => ht x (by simp [hx]))
    unfold I64 at hl hyi
    refine (num_reads (n := (y - last).toNat) (by omega)).bind (f := fun (d : Nat) => if d = 0 ∨ 9223372036854775807 - last < (d : Int) then (fun _ => .error 40) else bindR (rdU t.length (last + d)) (fun l r => .ok ((last + d) :: l, r))) ?_
    rw [if_neg (by omega), show last + ((y - last).toNat : Int) = y by omega]
    exact ih.map (y :: ·)

/-- Codec 3. -/
def enc3 (l : List Int) : List Nat := uv (uniq l).length ++ (encU (uniq l) ++ packR (places l) (wd (places l) : Int))

/-- The numbers whose places these are. -/
def picked (u : List Int) (p r : List Nat) : Except Nat (List Int × List Nat) := if ∀ q ∈ p, q < u.length then .ok (p.map (fun q => u.getD q 0), r) else .error 40

def rd3 (n : Nat) (b : List Nat) : Except Nat (List Int × List Nat) :=
  bindR num (fun many => if n < many ∨ many = 0 ∧ 0 < n then (fun _ => .error 40) else if n = 0 then (fun r => .ok ([], r)) else
    bindR wh (fun x => bindR (rdU (many - 1) x) (fun u => bindR (pkd n (blen (many - 1))) (fun p r => picked (x :: u) p r)))) b

theorem Ends.picked {d : List Nat → Except Nat (List Nat × List Nat)} {e p : List Nat} {u : List Int} (h : Ends d e p) (hp : ∀ q ∈ p, q < u.length) : Ends (bindR d (picked u)) e (p.map fun q => u.getD q 0) := by
  have hk : ∀ r, Ytnlanilejhjkkaa.picked u p r = .ok (p.map (fun q => u.getD q 0), r) := fun r => by unfold Ytnlanilejhjkkaa.picked; rw [if_pos hp]
  refine ⟨by rw [bindR_ok h.1, hk], fun y r => ?_, fun k hk => bindR_error (h.2.2 k hk)⟩
  rcases h.2.1 y r with h1 | h1
  · exact Or.inl (bindR_error h1)
  · exact Or.inr (by rw [bindR_ok h1, hk])

theorem wd_places64 {l : List Int} (hm : l.length ≤ 256) : wd (places l) ≤ 64 := by
  refine wd_le.2 (fun p hp => ?_)
  have := places_lt p hp
  have := uniq_length l
  have : p < 256 := by omega
  exact Nat.lt_of_lt_of_le this (by decide)

theorem ends3 {l : List Int} (h : ∀ x ∈ l, I64 x) (hm : l.length ≤ 256) : Ends (rd3 l.length) (enc3 l) l := by
  have hul := uniq_length l
  have hpl := places_length l
  have hwp := wd_places64 hm
  have hnum := num_reads (n := (uniq l).length) (by omega)
  refine hnum.then ?_
  rcases Nat.eq_zero_or_pos l.length with h0 | h0
  · obtain rfl : l = [] := List.eq_nil_of_length_eq_zero h0
    rw [if_neg (by simp [uniq]), if_pos (show ([] : List Int).length = 0 from rfl)]
    have e : encU (uniq []) ++ packR (places []) (wd (places []) : Int) = [] := by
      have : packR (places []) (wd (places []) : Int) = [] := by
        have hc := can_of (p := places []) (w := wd (places [])) (by simp [places]) hwp (Nat.le_refl _)
        have h1 := packR_length hc
        refine List.eq_nil_of_length_eq_zero (h1.trans ?_)
        simp [places, by8]
      rw [this]
      simp [uniq, encU]
    rw [e]
    exact (Reads.pure []).ends
  · have hup := uniq_pos h0
    rw [if_neg (by omega), if_neg (by omega)]
    have hr := uniq_rising l
    have hi := uniq_i64 h
    have hb := places_back l
    have hlt := places_lt (l := l)
    have hwd := places_wd h0
    generalize places l = p at *
    cases hu : uniq l with
    | nil => rw [hu] at hup; simp at hup
    | cons x t =>
      rw [hu] at hr hi hb hlt hwd
      have hkd := pkd_ends (p := p) (w := wd p) (by omega) hwp (Nat.le_refl _)
      rw [hpl] at hkd
      rw [show encU (x :: t) = wv x ++ encD x t from rfl, List.append_assoc]
      refine (wh_reads (hi x (by simp))).then ?_
      refine (readsU hr (hi x (by simp)) (fun z hz => hi z (by simp [hz]))).then (f := fun u => bindR (pkd l.length (blen ((x :: t).length - 1))) (fun p r => picked (x :: u) p r)) ?_
      rw [← hwd]
      have := hkd.picked (u := x :: t) hlt
      rw [hb] at this
      exact this

/-- Codec 4. -/
def enc4 (l : List Int) : List Nat := if l.length = 0 then [] else wv (least l) ++ (uv (wd (mores l)) ++ packR (mores l) (wd (mores l) : Int))

def rd4 (n : Nat) (b : List Nat) : Except Nat (List Int × List Nat) :=
  if n = 0 then .ok ([], b) else
    bindR wh (fun x => bindR num (fun w => if 64 < w then (fun _ => .error 40) else bindR (pkd n w) (fun p r => .ok (p.map (fun (q : Nat) => w64 (x + (q : Int))), r)))) b

theorem ends4 {l : List Int} (h : ∀ x ∈ l, I64 x) (hm : l.length ≤ 256) : Ends (rd4 l.length) (enc4 l) l := by
  rcases Nat.eq_zero_or_pos l.length with h0 | h0
  · obtain rfl : l = [] := List.eq_nil_of_length_eq_zero h0
    exact (Reads.pure ([] : List Int)).ends
  · have hml := mores_length l
    have hw := wd64 (mores_lt h)
    have hkd := pkd_ends (p := mores l) (w := wd (mores l)) (by omega) hw (Nat.le_refl _)
    rw [hml] at hkd
    have hk2 := hkd.map (fun p => p.map (fun (q : Nat) => w64 (least l + (q : Int))))
    rw [mores_back h] at hk2
    have hnum : Ends (bindR num (fun w => if 64 < w then (fun _ => .error 40) else bindR (pkd l.length w) (fun p r => .ok (p.map (fun (q : Nat) => w64 (least l + (q : Int))), r)))) (uv (wd (mores l)) ++ packR (mores l) (wd (mores l) : Int)) l := by
      refine (num_reads (n := wd (mores l)) (by omega)).then ?_
      rw [if_neg (by omega)]
      exact hk2
    have hall := (wh_reads (h _ (least_mem h0))).then (f := fun x => bindR num (fun w => if 64 < w then (fun _ => .error 40) else bindR (pkd l.length w) (fun p r => .ok (p.map (fun (q : Nat) => w64 (x + (q : Int))), r)))) hnum
    have e1 : enc4 l = wv (least l) ++ (uv (wd (mores l)) ++ packR (mores l) (wd (mores l) : Int)) := by unfold enc4; rw [if_neg (by omega)]
    have e2 : rd4 l.length = bindR wh (fun x => bindR num (fun w => if 64 < w then (fun _ => .error 40) else bindR (pkd l.length w) (fun p r => .ok (p.map (fun (q : Nat) => w64 (x + (q : Int))), r)))) := by
      funext b
      unfold rd4
      rw [if_neg (by omega)]
    rw [e1, e2]
    exact hall

/-- The bytes of a codec. -/
def encC (c : Nat) (l : List Int) : List Nat :=
  match c with
  | 0 => enc0 l
  | 1 => enc1 0 l
  | 2 => enc2 l
  | 3 => enc3 l
  | _ => enc4 l

/-- A list of n numbers by a codec. -/
def rdC (c n : Nat) : List Nat → Except Nat (List Int × List Nat) :=
  match c with
  | 0 => rd0 n
  | 1 => rd1 n 0
  | 2 => rd2 n n
  | 3 => rd3 n
  | _ => rd4 n

theorem endsC (c : Nat) {l : List Int} (h : ∀ x ∈ l, I64 x) (hm : l.length ≤ 256) : Ends (rdC c l.length) (encC c l) l := by
  unfold rdC encC
  split
  · exact (reads0 h).ends
  · exact (reads1 0 h).ends
  · exact (reads2 h (by omega)).ends
  · exact ends3 h hm
  · exact ends4 h hm

/-- All that is read, by a codec: nothing left, and written so again. -/
def rdAll (c n : Nat) (b : List Nat) : Except Nat (List Int) :=
  match rdC c n b with
  | .error e => .error e
  | .ok (l, r) => if r.length = 0 then (if encC c l = b then .ok l else .error 40) else .error 32

/-- The document's Read: the numbers, and the error's number. -/
def readM (b : List Nat) (n : Int) : List Int × Nat :=
  if 0 ≤ n ∧ n ≤ 256 then
    match b with
    | [] => ([], 30)
    | c :: t => if 4 < c then ([], 50) else match rdAll c n.toNat t with
      | .ok l => (l, 0)
      | .error e => ([], e)
  else ([], 1)

theorem rdAll_back (c : Nat) {l : List Int} (h : ∀ x ∈ l, I64 x) (hm : l.length ≤ 256) : rdAll c l.length (encC c l) = .ok l := by
  unfold rdAll
  rw [(endsC c h hm).1]
  simp

theorem rdAll_more (c : Nat) {l : List Int} (h : ∀ x ∈ l, I64 x) (hm : l.length ≤ 256) (y : Nat) (r : List Nat) : rdAll c l.length (encC c l ++ y :: r) = .error 32 := by
  unfold rdAll
  rcases (endsC c h hm).2.1 y r with h1 | h1
  · rw [h1]
  · rw [h1]
    simp

theorem rdAll_cut (c : Nat) {l : List Int} (h : ∀ x ∈ l, I64 x) (hm : l.length ≤ 256) (k : Nat) (hk : k < (encC c l).length) : rdAll c l.length ((encC c l).take k) = .error 30 := by
  unfold rdAll
  rw [(endsC c h hm).2.2 k hk]

theorem readM_back {c : Nat} (hc : c ≤ 4) {l : List Int} (h : ∀ x ∈ l, I64 x) (hm : l.length ≤ 256) : readM (c :: encC c l) l.length = (l, 0) := by
  unfold readM
  rw [if_pos (by omega)]
  simp only [Int.toNat_natCast]
  rw [if_neg (by omega), rdAll_back c h hm]

theorem readM_more {c : Nat} (hc : c ≤ 4) {l : List Int} (h : ∀ x ∈ l, I64 x) (hm : l.length ≤ 256) (y : Nat) (r : List Nat) : readM (c :: encC c l ++ y :: r) l.length = ([], 32) := by
  unfold readM
  rw [if_pos (by omega)]
  simp only [Int.toNat_natCast, List.cons_append]
  rw [if_neg (by omega), rdAll_more c h hm]

theorem readM_cut {c : Nat} (hc : c ≤ 4) {l : List Int} (h : ∀ x ∈ l, I64 x) (hm : l.length ≤ 256) (k : Nat) (hk : k < (c :: encC c l).length) : readM ((c :: encC c l).take k) l.length = ([], 30) := by
  unfold readM
  rw [if_pos (by omega)]
  cases k with
  | zero => rfl
  | succ k =>
    simp only [Int.toNat_natCast, List.take_succ_cons]
    rw [if_neg (by omega), rdAll_cut c h hm k (by simpa using hk)]
end Go.Proofs.Ytnlanilejhjkkaa
