/- Schemas, no program: places of fields, rows that fit; texts as lists of numbers. -/
import Derived.Test.YtfcnoeehfhncjaaUnits
import Derived.Laws.Strings
set_option linter.unusedVariables false
set_option linter.unusedSimpArgs false
namespace Go.Proofs.Ytfcnoeehfhncjaa
open Go Go.Lib

/-- A whole number of 64 bits. -/
def I64 (x : Int) : Prop := -9223372036854775808 ≤ x ∧ x ≤ 9223372036854775807

theorem u8_nat {n : Nat} (h : n < 256) : (n.toUInt8).toNat = n := by
  show (UInt8.ofNat n).toNat = n
  rw [UInt8.toNat_ofNat']
  omega

theorem map_fwd {l : List Nat} (h : ∀ x ∈ l, x < 256) : (l.map Nat.toUInt8).map UInt8.toNat = l := by
  rw [List.map_map]
  conv => rhs; rw [← List.map_id l]
  apply List.map_congr_left
  intro a ha
  exact u8_nat (h a ha)

/-- A field: its Id, its name, its kind, whether it must not be null. -/
abbrev Fd := Nat × ByteArray × Nat × Bool

/-- A cell: its kind, its number, its text. -/
abbrev Cl := Nat × Int × List Nat

def nul : Cl := (0, 0, [])

def Bs (l : List Nat) : Prop := ∀ x ∈ l, x < 256

def lb (s : ByteArray) : List UInt8 := s.data.toList

theorem lb_size (s : ByteArray) : (lb s).length = s.size := rfl

def letterB (c : Nat) : Bool := decide (97 ≤ c ∧ c ≤ 122) || decide (c = 95) || decide (127 < c)

def digitB (c : Nat) : Bool := decide (48 ≤ c ∧ c ≤ 57)

/-- May a sign stand at place k of a name? -/
def goodB (k c : Nat) : Bool := letterB c || (digitB c && decide (0 < k))

def goodFrom : Nat → List (Nat × Nat) → Bool
  | _, [] => true
  | k, x :: t => goodB k x.1 && goodFrom (k + 1) t

/-- May a name be? -/
def named (s : ByteArray) : Bool := decide (1 ≤ s.size ∧ s.size ≤ 16) && clean (lb s) && goodFrom 0 (V (lb s))

def hasN (l : List Fd) (n : ByteArray) : Bool := l.any fun f => decide (f.2.1 = n)

def free (l : List Fd) (n : ByteArray) : Bool := named n && !hasN l n

def lastI (l : List Fd) : Nat := match l.getLast? with
  | none => 0
  | some f => f.1

def kindB (k : Nat) : Bool := decide (1 ≤ k ∧ k ≤ 3)

/-- Why a field may not stand behind others. -/
def faultM (a : List Fd) (f : Fd) : Nat :=
  if f.1 ≤ lastI a then 81 else if free a f.2.1 = false then 80 else if kindB f.2.2.1 = false then 10
  else if (f.2.2.2 != decide (a.length = 0)) = true ∨ (a.length = 0 ∧ f.2.2.1 = 2) then 82 else 0

def fe (a : List Fd) : List Fd → Nat
  | [] => 0
  | f :: t => if faultM a f = 0 then fe (a ++ [f]) t else faultM a f

def chk (id : Nat) (l : List Fd) : Nat := if id = 0 ∨ l.length = 0 ∨ 8 < l.length then 1 else fe [] l

def fullB (id : Nat) (l : List Fd) : Bool := decide (l.length = 8 ∨ id = 4294967295 ∨ lastI l = 4294967295)

def addM (id : Nat) (l : List Fd) (n : ByteArray) (k : Nat) : Nat × List Fd × Nat :=
  if chk id l ≠ 0 then (0, [], chk id l) else if fullB id l = true then (0, [], 4) else if free l n = false then (0, [], 80) else if kindB k = false then (0, [], 10)
  else (id + 1, l ++ [(lastI l + 1, n, k, false)], 0)

def misM (f : Fd) (c : Cl) : Nat :=
  if c.1 = 0 then (if f.2.2.2 = true then 82 else 0) else if c.1 ≠ f.2.2.1 then 10 else if 64 < c.2.2.length then 5 else 0

def fitF : List Fd → List Cl → Nat
  | f :: t, c :: r => if misM f c = 0 then fitF t r else misM f c
  | [], _ => 0
  | _ :: _, [] => 0

def fitM (l : List Fd) (r : List Cl) : Nat := if r.length ≠ l.length then 1 else fitF l r

def placeF (id : Nat) : Nat → List Fd → Option Nat
  | _, [] => none
  | k, f :: t => if f.1 = id then some k else placeF id (k + 1) t

def place (l : List Fd) (id : Nat) : Option Nat := placeF id 0 l

def atM (frm : List Fd) (row : List Cl) (f : Fd) : Cl := match place frm f.1 with
  | none => nul
  | some k => row.getD k nul

def liftM (frm to : List Fd) (row : List Cl) : List Cl := to.map (atM frm row)

/-- A field's, a schema's numbers fit their types. -/
def Okf (f : Fd) : Prop := f.1 < 4294967296 ∧ f.2.2.1 < 256

theorem lastI_nil : lastI [] = 0 := rfl

theorem lastI_get {l : List Fd} (h : 0 < l.length) : lastI l = (l[l.length - 1]'(by omega)).1 := by
  unfold lastI
  rw [List.getLast?_eq_getElem?, List.getElem?_eq_getElem (by omega)]

theorem lastI_append (l : List Fd) (f : Fd) : lastI (l ++ [f]) = f.1 := by
  unfold lastI
  simp

theorem lastI_take {l : List Fd} {i : Nat} (h : i < l.length) : lastI (l.take (i + 1)) = l[i].1 := by
  rw [List.take_succ_eq_append_getElem h, lastI_append]

theorem fe_step {l : List Fd} {i : Nat} (h : i < l.length) : fe (l.take i) (l.drop i) = if faultM (l.take i) l[i] = 0 then fe (l.take (i + 1)) (l.drop (i + 1)) else faultM (l.take i) l[i] := by
  rw [List.drop_eq_getElem_cons h, fe, List.take_succ_eq_append_getElem h]

theorem fe_end (l : List Fd) : fe (l.take l.length) (l.drop l.length) = 0 := by
  rw [List.drop_length]
  rfl

theorem hasN_step {l : List Fd} {i : Nat} {n : ByteArray} (h : i < l.length) : hasN (l.drop i) n = (decide (l[i].2.1 = n) || hasN (l.drop (i + 1)) n) := by
  rw [List.drop_eq_getElem_cons h]
  unfold hasN
  rw [List.any_cons]

theorem placeF_step {l : List Fd} {i id : Nat} (h : i < l.length) : placeF id i (l.drop i) = if l[i].1 = id then some i else placeF id (i + 1) (l.drop (i + 1)) := by
  rw [List.drop_eq_getElem_cons h, placeF]

theorem placeF_end (l : List Fd) (id : Nat) : placeF id l.length (l.drop l.length) = none := by rw [List.drop_length]; rfl

theorem place_eq (l : List Fd) (id : Nat) : place l id = placeF id 0 (l.drop 0) := rfl

theorem placeF_lt {id : Nat} : ∀ {l : List Fd} {k j : Nat}, placeF id k l = some j → k ≤ j ∧ j < k + l.length
  | [], k, j, h => by simp [placeF] at h
  | f :: t, k, j, h => by
    unfold placeF at h
    by_cases hf : f.1 = id
    · rw [if_pos hf] at h
      have := Option.some.inj h
      simp
      omega
    · rw [if_neg hf] at h
      have := placeF_lt h
      simp
      omega

theorem place_lt {l : List Fd} {id j : Nat} (h : place l id = some j) : j < l.length := by have := placeF_lt h; omega

theorem fitF_step {l : List Fd} {r : List Cl} {i : Nat} (h : i < l.length) (h2 : i < r.length) : fitF (l.drop i) (r.drop i) = if misM l[i] r[i] = 0 then fitF (l.drop (i + 1)) (r.drop (i + 1)) else misM l[i] r[i] := by
  rw [List.drop_eq_getElem_cons h, List.drop_eq_getElem_cons h2, fitF]

theorem fitF_end (l : List Fd) (r : List Cl) : fitF (l.drop l.length) r = 0 := by
  rw [List.drop_length]
  unfold fitF
  rfl

theorem goodFrom_step {k : Nat} {x : Nat × Nat} {t : List (Nat × Nat)} : goodFrom k (x :: t) = (goodB k x.1 && goodFrom (k + 1) t) := rfl

/-- The Ids rise. -/
def Rise (l : List Fd) : Prop := l.Pairwise fun a b => a.1 < b.1

theorem fe_rise : ∀ {l a : List Fd}, fe a l = 0 → (∀ f ∈ a, f.1 ≤ lastI a) → (∀ f ∈ l, lastI a < f.1) ∧ Rise l
  | [], a, _, _ => ⟨fun f hf => by simp at hf, List.Pairwise.nil⟩
  | g :: t, a, h, ha => by
    unfold fe at h
    by_cases h0 : faultM a g = 0
    · rw [if_pos h0] at h
      have hg : lastI a < g.1 := by
        unfold faultM at h0
        by_cases h1 : g.1 ≤ lastI a
        · rw [if_pos h1] at h0; omega
        · omega
      have hla := lastI_append a g
      have ha2 : ∀ f ∈ a ++ [g], f.1 ≤ lastI (a ++ [g]) := by
        intro f hf
        rw [hla]
        rcases List.mem_append.1 hf with hf | hf
        · have := ha f hf; omega
        · have : f = g := by simpa using hf
          rw [this]
          exact Nat.le_refl _
      obtain ⟨h3, h4⟩ := fe_rise h ha2
      rw [hla] at h3
      refine ⟨fun f hf => ?_, ?_⟩
      · rcases List.mem_cons.1 hf with rfl | hf
        · exact hg
        · have := h3 f hf; omega
      · exact List.Pairwise.cons (fun f hf => h3 f hf) h4
    · rw [if_neg h0] at h; exact absurd h h0

theorem chk_rise {id : Nat} {l : List Fd} (h : chk id l = 0) : Rise l ∧ 0 < l.length ∧ l.length ≤ 8 ∧ 0 < id := by
  unfold chk at h
  by_cases h0 : id = 0 ∨ l.length = 0 ∨ 8 < l.length
  · rw [if_pos h0] at h; omega
  · rw [if_neg h0] at h
    refine ⟨(fe_rise h (fun f hf => by simp at hf)).2, by omega, by omega, by omega⟩

theorem fe_append : ∀ (l a m : List Fd), fe a (l ++ m) = if fe a l = 0 then fe (a ++ l) m else fe a l
  | [], a, m => by simp [fe]
  | g :: t, a, m => by
    rw [List.cons_append, fe, fe]
    by_cases h0 : faultM a g = 0
    · rw [if_pos h0, if_pos h0, fe_append t (a ++ [g]) m]
      simp
    · rw [if_neg h0, if_neg h0, if_neg h0]

/-- What addM makes may be. -/
theorem add_ok {id k : Nat} {l : List Fd} {n : ByteArray} (h : (addM id l n k).2.2 = 0) :
    chk id l = 0 ∧ fullB id l = false ∧ addM id l n k = (id + 1, l ++ [(lastI l + 1, n, k, false)], 0) ∧ chk (id + 1) (l ++ [(lastI l + 1, n, k, false)]) = 0 ∧ kindB k = true := by
  unfold addM at h ⊢
  by_cases h0 : chk id l ≠ 0
  · rw [if_pos h0] at h; exact absurd h h0
  · rw [if_neg h0] at h ⊢
    have h0' : chk id l = 0 := by omega
    by_cases h1 : fullB id l = true
    · rw [if_pos h1] at h; simp at h
    · rw [if_neg h1] at h ⊢
      by_cases h2 : free l n = false
      · rw [if_pos h2] at h; simp at h
      · rw [if_neg h2] at h ⊢
        by_cases h3 : kindB k = false
        · rw [if_pos h3] at h; simp at h
        · rw [if_neg h3]
          refine ⟨h0', by simpa using h1, rfl, ?_, by simpa using h3⟩
          have hr := chk_rise h0'
          have h1' : ¬ (l.length = 8 ∨ id = 4294967295 ∨ lastI l = 4294967295) := by
            unfold fullB at h1
            simpa using h1
          have hl : fe [] l = 0 := by
            unfold chk at h0'
            rwa [if_neg (by omega)] at h0'
          unfold chk
          rw [if_neg (by simp; omega), fe_append, if_pos hl, List.nil_append]
          unfold fe
          have hf : faultM l (lastI l + 1, n, k, false) = 0 := by
            unfold faultM
            simp only
            rw [if_neg (by omega), if_neg h2, if_neg h3, if_neg (by
              have : decide (l.length = 0) = false := by simp; intro h; rw [h] at hr; simp at hr
              rw [this]
              simp
              intro h; rw [h] at hr; simp at hr)]
          rw [if_pos hf]
          rfl

theorem placeF_at {l : List Fd} (h : Rise l) : ∀ {i k : Nat} (hi : i < l.length), placeF l[i].1 k l = some (k + i) := by
  induction l with
  | nil => intro i k hi; simp at hi
  | cons g t ih =>
    intro i k hi
    have h1 := List.pairwise_cons.1 h
    cases i with
    | zero => simp [placeF]
    | succ i =>
      have hi' : i < t.length := by simpa using hi
      have := h1.1 t[i] (List.getElem_mem hi')
      simp only [List.getElem_cons_succ]
      unfold placeF
      rw [if_neg (by omega), ih h1.2 hi']
      congr 1
      omega

theorem place_at {l : List Fd} (h : Rise l) {i : Nat} (hi : i < l.length) : place l l[i].1 = some i := by
  have := placeF_at h (k := 0) hi
  rwa [Nat.zero_add] at this

theorem placeF_none {id : Nat} : ∀ {l : List Fd} {k : Nat}, (∀ f ∈ l, f.1 ≠ id) → placeF id k l = none
  | [], _, _ => rfl
  | g :: t, k, h => by
    unfold placeF
    rw [if_neg (h g (by simp))]
    exact placeF_none (fun f hf => h f (by simp [hf]))

/-- A schema that grew: l, and fields behind it that are not Need. -/
theorem lift_grown {l m : List Fd} {row : List Cl} (hr : Rise (l ++ m)) (hl : row.length = l.length) : liftM l (l ++ m) row = row ++ List.replicate m.length nul := by
  have hpw := List.pairwise_append.1 hr
  unfold liftM
  rw [List.map_append]
  congr 1
  · apply List.ext_getElem
    · simp [hl]
    · intro i h1 h2
      have hi : i < l.length := by simpa using h1
      simp only [List.getElem_map]
      unfold atM
      rw [place_at hpw.1 hi]
      simp only
      rw [List.getD_eq_getElem?_getD, List.getElem?_eq_getElem h2]
      rfl
  · rw [List.eq_replicate_iff]
    refine ⟨by simp, fun c hc => ?_⟩
    obtain ⟨f, hf, rfl⟩ := List.mem_map.1 hc
    unfold atM
    rw [show place l f.1 = none from placeF_none (fun g hg => by have := hpw.2.2 g hg f hf; omega)]

theorem lift_self {l : List Fd} {row : List Cl} (hr : Rise l) (hl : row.length = l.length) : liftM l l row = row := by
  have := lift_grown (l := l) (m := []) (by simpa using hr) hl
  simpa using this

theorem lift_back {l m : List Fd} {row : List Cl} {more : List Cl} (hr : Rise (l ++ m)) (hl : row.length = l.length) : liftM (l ++ m) l (row ++ more) = row := by
  have hpw := List.pairwise_append.1 hr
  unfold liftM
  apply List.ext_getElem
  · simp [hl]
  · intro i h1 h2
    have hi : i < l.length := by simpa using h1
    simp only [List.getElem_map]
    unfold atM
    have hp := place_at hr (i := i) (by simp; omega)
    rw [List.getElem_append_left hi] at hp
    rw [hp]
    simp only
    rw [List.getD_eq_getElem?_getD, List.getElem?_append_left h2, List.getElem?_eq_getElem h2]
    rfl

theorem lift_more {l m : List Fd} {row more : List Cl} {f : Fd} (hr : Rise (l ++ m ++ [f])) (hl : row.length = l.length) (hm : more.length = m.length) :
    liftM (l ++ m) (l ++ m ++ [f]) (row ++ more) = row ++ more ++ [nul] := by
  have := lift_grown (l := l ++ m) (m := [f]) (row := row ++ more) hr (by simp; omega)
  simpa using this

theorem lift_fine {P : Cl → Prop} (h0 : P nul) {frm to : List Fd} {row : List Cl} (h : ∀ c ∈ row, P c) : ∀ c ∈ liftM frm to row, P c := by
  intro c hc
  obtain ⟨f, _, rfl⟩ := List.mem_map.1 hc
  unfold atM
  cases hp : place frm f.1 with
  | none => exact h0
  | some k =>
    simp only
    rw [List.getD_eq_getElem?_getD]
    cases hg : row[k]? with
    | none => exact h0
    | some c => exact h c (List.mem_of_getElem? hg)

theorem fitF_append : ∀ {l m : List Fd} {r s : List Cl}, r.length = l.length → fitF (l ++ m) (r ++ s) = if fitF l r = 0 then fitF m s else fitF l r
  | [], m, r, s, h => by
    have : r = [] := List.eq_nil_of_length_eq_zero (by simpa using h)
    subst this
    simp [fitF]
  | f :: t, m, [], s, h => by simp at h
  | f :: t, m, c :: r, s, h => by
    simp only [List.cons_append]
    rw [fitF, fitF, fitF_append (by simpa using h)]
    by_cases h0 : misM f c = 0
    · rw [if_pos h0, if_pos h0]
    · rw [if_neg h0, if_neg h0, if_neg h0]

theorem fitF_nuls : ∀ {m : List Fd}, (∀ f ∈ m, f.2.2.2 = false) → fitF m (List.replicate m.length nul) = 0
  | [], _ => rfl
  | f :: t, h => by
    rw [List.length_cons, List.replicate_succ, fitF]
    have : misM f nul = 0 := by
      unfold misM nul
      rw [if_pos rfl, if_neg (by rw [h f (by simp)]; simp)]
    rw [if_pos this]
    exact fitF_nuls (fun g hg => h g (by simp [hg]))

theorem fit_grown {l m : List Fd} {row : List Cl} (h : fitM l row = 0) (hm : ∀ f ∈ m, f.2.2.2 = false) : fitM (l ++ m) (row ++ List.replicate m.length nul) = 0 := by
  unfold fitM at *
  by_cases hl : row.length ≠ l.length
  · rw [if_pos hl] at h; omega
  · rw [if_neg hl] at h
    rw [if_neg (by simp; omega), fitF_append (by omega), if_pos h, fitF_nuls hm]

theorem fit_len {l : List Fd} {row : List Cl} (h : fitM l row = 0) : row.length = l.length := by
  unfold fitM at h
  by_cases hl : row.length ≠ l.length
  · rw [if_pos hl] at h; omega
  · omega

def bytesT (l : List Nat) : ByteArray := ⟨(l.map Nat.toUInt8).toArray⟩

def natsT (s : ByteArray) : List Nat := s.toList.map UInt8.toNat

theorem bytesT_toList (l : List Nat) : (bytesT l).toList = l.map Nat.toUInt8 := by
  rw [ByteArray.toList_eq]
  rfl

theorem bytesT_size (l : List Nat) : (bytesT l).size = l.length := by
  show (l.map Nat.toUInt8).toArray.size = l.length
  simp

theorem bytesT_nil : bytesT [] = ⟨#[]⟩ := rfl

theorem natsT_bs (s : ByteArray) : Bs (natsT s) := fun x hx => by
  obtain ⟨y, _, rfl⟩ := List.mem_map.1 hx
  exact y.toNat_lt

theorem natsT_len (s : ByteArray) : (natsT s).length = s.size := by
  unfold natsT
  rw [List.length_map, ByteArray.toList_eq]
  rfl

theorem bytesT_nats (s : ByteArray) : bytesT (natsT s) = s := by
  have h : (natsT s).map Nat.toUInt8 = s.toList := by
    unfold natsT
    rw [List.map_map]
    conv => rhs; rw [← List.map_id s.toList]
    apply List.map_congr_left
    intro x _
    simp
  unfold bytesT
  rw [h, ByteArray.toList_eq]

def flagN (b : Bool) : Nat := if b = true then 1 else 0

/-- How long all names are together. -/
def szs (l : List Fd) : Nat := (l.map fun f => f.2.1.size).sum

theorem szs_take_succ {l : List Fd} {i : Nat} (h : i < l.length) : szs (l.take (i + 1)) = szs (l.take i) + l[i].2.1.size := by
  unfold szs
  rw [List.take_succ_eq_append_getElem h, List.map_append, List.sum_append]
  simp only [List.map_cons, List.map_nil, List.sum_cons, List.sum_nil, Nat.add_zero]

theorem szs_mem {l : List Fd} {f : Fd} (h : f ∈ l) : f.2.1.size ≤ szs l := by
  induction l with
  | nil => simp at h
  | cons g t ih =>
    unfold szs at *
    simp only [List.map_cons, List.sum_cons]
    rcases List.mem_cons.1 h with rfl | h
    · omega
    · have := ih h; omega

theorem szs_take_le (l : List Fd) (i : Nat) : szs (l.take i) ≤ szs l := by
  have : szs l = szs (l.take i) + szs (l.drop i) := by
    conv => lhs; rw [← List.take_append_drop i l]
    unfold szs
    rw [List.map_append, List.sum_append]
  omega

theorem Bs.app {a b : List Nat} (ha : Bs a) (hb : Bs b) : Bs (a ++ b) := fun x hx => by
  rcases List.mem_append.1 hx with h | h
  · exact ha x h
  · exact hb x h

theorem Bs.drop {a : List Nat} (ha : Bs a) (k : Nat) : Bs (a.drop k) := fun x hx => ha x (List.mem_of_mem_drop hx)

theorem Bs.take {a : List Nat} (ha : Bs a) (k : Nat) : Bs (a.take k) := fun x hx => ha x (List.mem_of_mem_take hx)

def textR (n : Nat) (r : List Nat) : Except Nat (ByteArray × List Nat) := if r.length < n then .error 30 else .ok (bytesT (r.take n), r.drop n)

/-- What a reader did: ahead of it f was the fault, behind it f' is; x is what it told, l' what is left. -/
def Rds {α : Type} (m : List Nat → Except Nat (α × List Nat)) (l : List Nat) (f : Nat) (x : α) (l' : List Nat) (f' : Nat) : Prop :=
  (f = 0 → m l = if f' = 0 then .ok (x, l') else .error f') ∧ (f ≠ 0 → f' = f)

theorem Rds.pure {α : Type} (x : α) (l : List Nat) (f : Nat) : Rds (fun b => .ok (x, b)) l f x l f := by
  refine ⟨fun h0 => ?_, fun _ => rfl⟩
  rw [if_pos h0]

theorem Rds.dead {α : Type} {m : List Nat → Except Nat (α × List Nat)} {l l' : List Nat} {f : Nat} (x : α) (h : f ≠ 0) : Rds m l f x l' f := ⟨fun h0 => absurd h0 h, fun _ => rfl⟩

/-- Bytes that are read as x, or by an error. -/
def Eith {α : Type} (m : List Nat → Except Nat (α × List Nat)) (e : List Nat) (x : α) : Prop := ∀ r, m (e ++ r) = .ok (x, r) ∨ ∃ c, c ≠ 0 ∧ m (e ++ r) = .error c

def Just {α : Type} (m : List Nat → Except Nat (α × List Nat)) (e : List Nat) (x : α) : Prop := ∀ r, m (e ++ r) = .ok (x, r)

theorem just_textR (s : ByteArray) : Just (textR s.size) (natsT s) s := by
  intro r
  unfold textR
  have hl := natsT_len s
  rw [if_neg (by simp; omega), ← hl, List.take_left, List.drop_left, bytesT_nats]

theorem Just.eith {α : Type} {m : List Nat → Except Nat (α × List Nat)} {e : List Nat} {x : α} (h : Just m e x) : Eith m e x := fun r => Or.inl (h r)

theorem just_pure {α : Type} (x : α) : Just (fun b => .ok (x, b)) [] x := fun r => rfl

theorem flag_one (b : Bool) : decide (flagN b = 1) = b := by cases b <;> rfl

theorem fe_named : ∀ {l a : List Fd}, fe a l = 0 → ∀ f ∈ l, f.2.1.size ≤ 16
  | [], a, _, f, hf => by simp at hf
  | g :: t, a, h, f, hf => by
    unfold fe at h
    by_cases h0 : faultM a g = 0
    · rw [if_pos h0] at h
      rcases List.mem_cons.1 hf with rfl | hf
      · unfold faultM at h0
        by_cases h1 : f.1 ≤ lastI a
        · rw [if_pos h1] at h0; omega
        · rw [if_neg h1] at h0
          by_cases h2 : free a f.2.1 = false
          · rw [if_pos h2] at h0; omega
          · have h3 : free a f.2.1 = true := by simpa using h2
            unfold free named at h3
            simp at h3
            omega
      · exact fe_named h f hf
    · rw [if_neg h0] at h; exact absurd h h0
end Go.Proofs.Ytfcnoeehfhncjaa
