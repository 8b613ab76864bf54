/- The unlike numbers of a list, rising, and the places of its numbers among them: no program. -/
import Derived.Test.YtnlanilejhjkkaaCodecs
set_option linter.unusedVariables false
set_option linter.unusedSimpArgs false
namespace Go.Proofs.Ytnlanilejhjkkaa
open Go.Lib

/-- A number laid among rising ones, if it isn't there. -/
def ins (x : Int) : List Int → List Int
  | [] => [x]
  | y :: t => if x = y then y :: t else if x < y then x :: y :: t else y :: ins x t

/-- The unlike numbers, rising. -/
def uniq (l : List Int) : List Int := l.foldl (fun u x => ins x u) []

def Rising (l : List Int) : Prop := l.Pairwise (· < ·)

theorem mem_ins {x z : Int} : ∀ {u : List Int}, z ∈ ins x u ↔ z = x ∨ z ∈ u
  | [] => by simp [ins]
  | y :: t => by
    have ih := mem_ins (x := x) (z := z) (u := t)
    unfold ins
    split
    · next h =>
      subst h
      simp
    · split
      · simp
      · simp only [List.mem_cons, ih]
        constructor
        · rintro (h | h | h)
          · exact Or.inr (Or.inl h)
          · exact Or.inl h
          · exact Or.inr (Or.inr h)
        · rintro (h | h | h)
          · exact Or.inr (Or.inl h)
          · exact Or.inl h
          · exact Or.inr (Or.inr h)

theorem rising_ins {x : Int} : ∀ {u : List Int}, Rising u → Rising (ins x u)
  | [], _ => by simp [ins, Rising]
  | y :: t, h => by
    have h1 : (∀ z ∈ t, y < z) ∧ Rising t := List.pairwise_cons.1 h
    unfold ins
    split
    · exact h
    · next hne =>
      split
      · next hlt =>
        refine List.pairwise_cons.2 ⟨fun z hz => ?_, h⟩
        rcases List.mem_cons.1 hz with rfl | hz
        · exact hlt
        · exact Int.lt_trans hlt (h1.1 z hz)
      · next hlt =>
        refine List.pairwise_cons.2 ⟨fun z hz => ?_, rising_ins h1.2⟩
        rcases mem_ins.1 hz with rfl | hz
        · omega
        · exact h1.1 z hz

theorem uniq_take_succ {l : List Int} {i : Nat} (h : i < l.length) : uniq (l.take (i + 1)) = ins l[i] (uniq (l.take i)) := by
  unfold uniq
  rw [List.take_succ_eq_append_getElem h, List.foldl_append]
  rfl

theorem uniq_fold : ∀ (l u : List Int), Rising u → Rising (l.foldl (fun u x => ins x u) u) ∧ ∀ z, z ∈ l.foldl (fun u x => ins x u) u ↔ z ∈ u ∨ z ∈ l
  | [], u, h => ⟨h, fun z => by simp⟩
  | x :: t, u, h => by
    obtain ⟨h1, h2⟩ := uniq_fold t (ins x u) (rising_ins h)
    refine ⟨h1, fun z => ?_⟩
    have := h2 z
    rw [mem_ins] at this
    simp only [List.foldl_cons, List.mem_cons]
    rw [this]
    constructor
    · rintro ((h | h) | h)
      · exact Or.inr (Or.inl h)
      · exact Or.inl h
      · exact Or.inr (Or.inr h)
    · rintro (h | h | h)
      · exact Or.inl (Or.inr h)
      · exact Or.inl (Or.inl h)
      · exact Or.inr h

theorem uniq_rising (l : List Int) : Rising (uniq l) := (uniq_fold l [] List.Pairwise.nil).1
theorem mem_uniq {l : List Int} {z : Int} : z ∈ uniq l ↔ z ∈ l := by
  have := (uniq_fold l [] List.Pairwise.nil).2 z
  unfold uniq
  rw [this]
  simp

theorem ins_length {x : Int} : ∀ {u : List Int}, (ins x u).length ≤ u.length + 1
  | [] => by simp [ins]
  | y :: t => by
    have := ins_length (x := x) (u := t)
    unfold ins
    split
    · simp
    · split
      · simp
      · simp; omega

theorem uniq_fold_length : ∀ (l u : List Int), (l.foldl (fun u x => ins x u) u).length ≤ u.length + l.length
  | [], u => by simp
  | x :: t, u => by
    have h1 := uniq_fold_length t (ins x u)
    have h2 := ins_length (x := x) (u := u)
    simp only [List.foldl_cons, List.length_cons]
    omega

theorem uniq_length (l : List Int) : (uniq l).length ≤ l.length := by
  have := uniq_fold_length l []
  unfold uniq
  simpa using this

theorem uniq_pos {l : List Int} (h : 0 < l.length) : 0 < (uniq l).length := by
  have : l[0] ∈ uniq l := mem_uniq.2 (List.getElem_mem h)
  exact List.length_pos_of_mem this

theorem uniq_i64 {l : List Int} (h : ∀ x ∈ l, I64 x) : ∀ x ∈ uniq l, I64 x := fun x hx => h x (mem_uniq.1 hx)

/-- The place of a number. -/
def pl : List Int → Int → Nat
  | [], _ => 0
  | y :: t, x => if y = x then 0 else pl t x + 1

theorem pl_get {x : Int} : ∀ {u : List Int}, x ∈ u → pl u x < u.length ∧ u[pl u x]? = some x
  | y :: t, h => by
    unfold pl
    split
    · next e => subst e; simp
    · next hne =>
      have ht : x ∈ t := by
        rcases List.mem_cons.1 h with rfl | h
        · exact absurd rfl hne
        · exact h
      obtain ⟨h1, h2⟩ := pl_get ht
      simp only [List.length_cons, List.getElem?_cons_succ]
      exact ⟨by omega, h2⟩

theorem pl_at : ∀ {u : List Int} {i : Nat} (h : i < u.length), Rising u → pl u u[i] = i
  | y :: t, 0, _, _ => by simp [pl]
  | y :: t, i + 1, h, hr => by
    have hi : i < t.length := by simpa using h
    have h1 : (∀ z ∈ t, y < z) ∧ Rising t := List.pairwise_cons.1 hr
    have h2 := h1.1 t[i] (List.getElem_mem hi)
    show pl (y :: t) t[i] = i + 1
    unfold pl
    rw [if_neg (by omega), pl_at hi h1.2]

/-- The places of a list's numbers. -/
def places (l : List Int) : List Nat := l.map (pl (uniq l))

theorem places_length (l : List Int) : (places l).length = l.length := List.length_map _

theorem places_lt {l : List Int} : ∀ p ∈ places l, p < (uniq l).length := by
  intro p hp
  obtain ⟨x, hx, rfl⟩ := List.mem_map.1 hp
  exact (pl_get (mem_uniq.2 hx)).1

/-- The greatest place is there. -/
theorem places_top {l : List Int} (h : 0 < l.length) : (uniq l).length - 1 ∈ places l := by
  have hu := uniq_pos h
  have hi : (uniq l).length - 1 < (uniq l).length := by omega
  refine List.mem_map.2 ⟨(uniq l)[(uniq l).length - 1], mem_uniq.1 (List.getElem_mem hi), ?_⟩
  exact pl_at hi (uniq_rising l)

theorem places_wd {l : List Int} (h : 0 < l.length) : wd (places l) = blen ((uniq l).length - 1) := by
  have hu := uniq_pos h
  have e : ∀ w, wd (places l) ≤ w ↔ blen ((uniq l).length - 1) ≤ w := fun w => by
    rw [wd_le, blen_le]
    constructor
    · intro h1
      exact h1 _ (places_top h)
    · intro h1 p hp
      have := places_lt p hp
      omega
  have h1 := (e _).1 (Nat.le_refl _)
  have h2 := (e _).2 (Nat.le_refl _)
  omega

theorem places_back (l : List Int) : (places l).map (fun q => (uniq l).getD q 0) = l := by
  unfold places
  rw [List.map_map]
  conv => rhs; rw [← List.map_id l]
  apply List.map_congr_left
  intro x hx
  have := (pl_get (mem_uniq.2 hx)).2
  simp [List.getD_eq_getElem?_getD, this]

/-- The least number. -/
def least (l : List Int) : Int := (uniq l).headD 0

theorem least_mem {l : List Int} (h : 0 < l.length) : least l ∈ l := by
  have hu := uniq_pos h
  unfold least
  cases hq : uniq l with
  | nil => rw [hq] at hu; simp at hu
  | cons y t =>
    have : y ∈ uniq l := by rw [hq]; simp
    exact mem_uniq.1 this

theorem least_le {l : List Int} : ∀ x ∈ l, least l ≤ x := by
  intro x hx
  have h1 := mem_uniq.2 hx
  have h2 := uniq_rising l
  unfold least
  cases hq : uniq l with
  | nil => rw [hq] at h1; simp at h1
  | cons y t =>
    rw [hq] at h1 h2
    have h3 : (∀ z ∈ t, y < z) ∧ Rising t := List.pairwise_cons.1 h2
    rcases List.mem_cons.1 h1 with rfl | h1
    · exact Int.le_refl _
    · exact Int.le_of_lt (h3.1 x h1)

/-- The numbers less the least one. -/
def mores (l : List Int) : List Nat := l.map fun x => (x - least l).toNat

theorem mores_length (l : List Int) : (mores l).length = l.length := List.length_map _

theorem mores_lt {l : List Int} (h : ∀ x ∈ l, I64 x) : ∀ p ∈ mores l, p < 18446744073709551616 := by
  intro p hp
  obtain ⟨x, hx, rfl⟩ := List.mem_map.1 hp
  have h1 := h x hx
  have h2 := h _ (least_mem (List.length_pos_of_mem hx))
  have h3 := least_le x hx
  unfold I64 at h1 h2
  omega

theorem mores_back {l : List Int} (h : ∀ x ∈ l, I64 x) : (mores l).map (fun (q : Nat) => w64 (least l + (q : Int))) = l := by
  unfold mores
  rw [List.map_map]
  conv => rhs; rw [← List.map_id l]
  apply List.map_congr_left
  intro x hx
  have h1 := h x hx
  have h3 := least_le x hx
  simp only [Function.comp, id]
  rw [show least l + ((x - least l).toNat : Int) = x by omega]
  exact w64_id h1
end Go.Proofs.Ytnlanilejhjkkaa
