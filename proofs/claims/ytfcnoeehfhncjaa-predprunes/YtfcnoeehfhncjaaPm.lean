/- Predicates as trees, no program: what they answer of a row, and what statistics leave; not of and is or of the nots. -/
import Derived.Test.YtfcnoeehfhncjaaCmp
import Derived.Test.YtfcnoeehfhncjaaLk
import Derived.Test.YtfcnoeehfhncjaaTxRef
set_option linter.unusedVariables false
set_option linter.unusedSimpArgs false
namespace Go.Proofs.Ytfcnoeehfhncjaa
open Go.RowKit Go.Lib

/-- A predicate: its kind, its field, its value, its kids. -/
 inductive PT where
  | node (op fld : Nat) (c : Cl) (ks : List PT) : PT

theorem PT.ind {P : PT → Prop} (h : ∀ op f c ks, (∀ k ∈ ks, P k) → P (.node op f c ks)) (t : PT) : P t := by
  refine PT.rec (motive_1 := P) (motive_2 := fun ks => ∀ k ∈ ks, P k) (fun op f c ks ih => h op f c ks ih) (fun k hk => ?_) (fun a ks ha ih k hk => ?_) t
  · simp at hk
  · rcases List.mem_cons.1 hk with rfl | hk
    · exact ha
    · exact ih k hk

abbrev B3 := Bool × Bool × Bool

/-- Statistics. -/
 structure Stt where
  rows : Int
  nulls : Int
  some : Bool
  high : Bool
  lo : Cl
  hi : Cl

def cmpC (a b : Cl) : Int := cv (a.1 : Int) a.2.1 (bytesT a.2.2) (b.1 : Int) b.2.1 (bytesT b.2.2)
def isM (b : Bool) : Nat := if b = true then 2 else 0
def likeM (x c : Cl) : Bool := x.1 == 3 && c.1 == 3 && lk (runes (lb (bytesT c.2.2))) (runes (lb (bytesT x.2.2)))
def heldM (op : Nat) (c x : Cl) : Nat :=
  if op = 1 then isM (decide (cmpC x (fixC c) = 0)) else if op = 2 then isM (decide (cmpC x (fixC c) < 0)) else if op = 3 then isM (decide (cmpC x (fixC c) ≤ 0)) else if op = 4 then isM (likeM x c) else 1
def leafX (op : Nat) (c x : Cl) : Nat := if op = 5 then isM (decide (x.1 = 0)) else if x.1 = 0 then 1 else heldM op c x
def leafM (l : List Fd) (r : List Cl) (op f : Nat) (c : Cl) : Nat :=
  match place l f with
  | none => 1
  | some j => match r[j]? with
    | none => 1
    | some x => leafX op c x

 mutual
def evalM (l : List Fd) (r : List Cl) : PT → Nat
  | .node op f c ks => if op = 6 then evalAnd l r ks 2 else if op = 7 then evalOr l r ks 0 else if op = 8 then evalNot l r ks else leafM l r op f c
def evalAnd (l : List Fd) (r : List Cl) : List PT → Nat → Nat
  | [], a => a
  | k :: ks, a => evalAnd l r ks (min a (evalM l r k))
def evalOr (l : List Fd) (r : List Cl) : List PT → Nat → Nat
  | [], a => a
  | k :: ks, a => evalOr l r ks (max a (evalM l r k))
def evalNot (l : List Fd) (r : List Cl) : List PT → Nat
  | [] => 1
  | k :: _ => 2 - evalM l r k
 end

def togA (a b : B3) : B3 := ((a.1 && (b.1 || b.2.1 || b.2.2)) || (a.2.1 && b.1) || (a.2.2 && b.1), (a.2.1 && (b.2.1 || b.2.2)) || (a.2.2 && b.2.1), a.2.2 && b.2.2)
def togO (a b : B3) : B3 := (a.1 && b.1, (a.1 && b.2.1) || (a.2.1 && (b.1 || b.2.1)), (a.1 && b.2.2) || (a.2.1 && b.2.2) || (a.2.2 && (b.1 || b.2.1 || b.2.2)))
def conM (a : B3) : B3 := (a.2.2, a.2.1, a.1)

def uncutM (v : Cl) : Bool := decide ((V (lb (bytesT v.2.2))).length < 4)
def withM (u : Bool) (op : Nat) (c : Cl) (st : Stt) : B3 :=
  if op = 1 then (!(st.high && decide (cmpC (fixC c) (fixC st.lo) = 0) && decide (cmpC (fixC c) (fixC st.hi) = 0) && uncutM (fixC c)), u, decide (0 ≤ cmpC (fixC c) (fixC st.lo)) && !(st.high && decide (0 < cmpC (fixC c) (fixC st.hi))))
  else if op = 2 then (!(st.high && decide (0 < cmpC (fixC c) (fixC st.hi))), u, decide (0 < cmpC (fixC c) (fixC st.lo)))
  else if op = 3 then (!(st.high && decide (0 ≤ cmpC (fixC c) (fixC st.hi))), u, decide (0 ≤ cmpC (fixC c) (fixC st.lo)))
  else if op = 4 then (true, u, true) else (true, true, true)
def mleafX (op : Nat) (c : Cl) (st : Stt) : B3 := if op = 5 then (st.some, false, decide (0 < st.nulls)) else if st.some = true then withM (decide (0 < st.nulls)) op c st else (false, decide (0 < st.nulls), false)
def mleafM (l : List Fd) (sts : List Stt) (op f : Nat) (c : Cl) : B3 :=
  match place l f with
  | none => (true, true, true)
  | some j => match sts[j]? with
    | none => (true, true, true)
    | some st => mleafX op c st

 mutual
def mayM (l : List Fd) (sts : List Stt) : PT → B3
  | .node op f c ks => if op = 6 then mayAnd l sts ks (false, false, true) else if op = 7 then mayOr l sts ks (true, false, false) else if op = 8 then mayNot l sts ks else mleafM l sts op f c
def mayAnd (l : List Fd) (sts : List Stt) : List PT → B3 → B3
  | [], a => a
  | k :: ks, a => mayAnd l sts ks (togA a (mayM l sts k))
def mayOr (l : List Fd) (sts : List Stt) : List PT → B3 → B3
  | [], a => a
  | k :: ks, a => mayOr l sts ks (togO a (mayM l sts k))
def mayNot (l : List Fd) (sts : List Stt) : List PT → B3
  | [] => (false, true, false)
  | k :: _ => conM (mayM l sts k)
 end

 mutual
def Len : PT → Prop
  | .node _ _ c ks => c.2.2.length ≤ 300 ∧ LenAll ks
def LenAll : List PT → Prop
  | [] => True
  | k :: ks => Len k ∧ LenAll ks
 end
 mutual
def Okp : PT → Prop
  | .node op f c ks => op < 256 ∧ f < 4294967296 ∧ Okc c ∧ OkpAll ks
def OkpAll : List PT → Prop
  | [] => True
  | k :: ks => Okp k ∧ OkpAll ks
 end

theorem LenAll.get {ks : List PT} (h : LenAll ks) : ∀ k ∈ ks, Len k := by
  induction ks with
  | nil => intro k hk; simp at hk
  | cons a ks ih =>
    intro k hk
    simp only [LenAll] at h
    rcases List.mem_cons.1 hk with rfl | hk
    · exact h.1
    · exact ih h.2 k hk
theorem LenAll.of {ks : List PT} (h : ∀ k ∈ ks, Len k) : LenAll ks := by
  induction ks with
  | nil => simp [LenAll]
  | cons a ks ih => simp only [LenAll]; exact ⟨h a (by simp), ih fun k hk => h k (by simp [hk])⟩
theorem OkpAll.get {ks : List PT} (h : OkpAll ks) : ∀ k ∈ ks, Okp k := by
  induction ks with
  | nil => intro k hk; simp at hk
  | cons a ks ih =>
    intro k hk
    simp only [OkpAll] at h
    rcases List.mem_cons.1 hk with rfl | hk
    · exact h.1
    · exact ih h.2 k hk
theorem OkpAll.of {ks : List PT} (h : ∀ k ∈ ks, Okp k) : OkpAll ks := by
  induction ks with
  | nil => simp [OkpAll]
  | cons a ks ih => simp only [OkpAll]; exact ⟨h a (by simp), ih fun k hk => h k (by simp [hk])⟩

theorem isM_le (b : Bool) : isM b ≤ 2 := by unfold isM; split <;> omega
theorem heldM_le (op : Nat) (c x : Cl) : heldM op c x ≤ 2 := by
  unfold heldM
  repeat' split
  all_goals first | exact isM_le _ | omega
theorem leafX_le (op : Nat) (c x : Cl) : leafX op c x ≤ 2 := by
  unfold leafX
  repeat' split
  all_goals first | exact isM_le _ | omega | exact heldM_le _ _ _
theorem leafM_le (l : List Fd) (r : List Cl) (op f : Nat) (c : Cl) : leafM l r op f c ≤ 2 := by
  unfold leafM
  repeat' split
  all_goals first | omega | exact leafX_le _ _ _
theorem evalAnd_le {l : List Fd} {r : List Cl} : ∀ {ks : List PT} {a : Nat}, a ≤ 2 → evalAnd l r ks a ≤ 2
  | [], a, h => by simpa [evalAnd] using h
  | k :: ks, a, h => by simp only [evalAnd]; exact evalAnd_le (by omega)
theorem evalOr_le {l : List Fd} {r : List Cl} : ∀ {ks : List PT} {a : Nat}, a ≤ 2 → (∀ k ∈ ks, evalM l r k ≤ 2) → evalOr l r ks a ≤ 2
  | [], a, h, _ => by simpa [evalOr] using h
  | k :: ks, a, h, hk => by simp only [evalOr]; exact evalOr_le (by have := hk k (by simp); omega) fun x hx => hk x (by simp [hx])
theorem evalNot_le {l : List Fd} {r : List Cl} (ks : List PT) : evalNot l r ks ≤ 2 := by
  cases ks <;> simp only [evalNot] <;> omega
theorem evalM_le (l : List Fd) (r : List Cl) : ∀ t, evalM l r t ≤ 2 := by
  refine PT.ind fun op f c ks ih => ?_
  unfold evalM
  repeat' split
  · exact evalAnd_le (by omega)
  · exact evalOr_le (by omega) ih
  · exact evalNot_le ks
  · exact leafM_le _ _ _ _ _

/-- Not of And is Or of the Nots. -/
theorem turn_eval (l : List Fd) (r : List Cl) (a b : PT) (c1 c2 c3 c4 c5 : Cl) (f1 f2 f3 f4 f5 : Nat) : evalM l r (.node 8 f1 c1 [.node 6 f2 c2 [a, b]]) = evalM l r (.node 7 f3 c3 [.node 8 f4 c4 [a], .node 8 f5 c5 [b]]) := by
  have ha := evalM_le l r a
  have hb := evalM_le l r b
  simp [evalM, evalAnd, evalOr, evalNot]
  omega
theorem turn_may (l : List Fd) (sts : List Stt) (a b : PT) (c1 c2 c3 c4 c5 : Cl) (f1 f2 f3 f4 f5 : Nat) : mayM l sts (.node 8 f1 c1 [.node 6 f2 c2 [a, b]]) = mayM l sts (.node 7 f3 c3 [.node 8 f4 c4 [a], .node 8 f5 c5 [b]]) := by
  simp only [mayM, mayAnd, mayOr, mayNot]
  simp only [reduceIte, Nat.reduceEqDiff]
  generalize mayM l sts a = x
  generalize mayM l sts b = y
  obtain ⟨x0, x1, x2⟩ := x
  obtain ⟨y0, y1, y2⟩ := y
  cases x0 <;> cases x1 <;> cases x2 <;> cases y0 <;> cases y1 <;> cases y2 <;> rfl
theorem evalAnd_step {l : List Fd} {r : List Cl} {ks : List PT} {i : Nat} (h : i < ks.length) (a : Nat) : evalAnd l r (ks.drop i) a = evalAnd l r (ks.drop (i + 1)) (min a (evalM l r ks[i])) := by
  rw [List.drop_eq_getElem_cons h]; simp only [evalAnd]
theorem evalOr_step {l : List Fd} {r : List Cl} {ks : List PT} {i : Nat} (h : i < ks.length) (a : Nat) : evalOr l r (ks.drop i) a = evalOr l r (ks.drop (i + 1)) (max a (evalM l r ks[i])) := by
  rw [List.drop_eq_getElem_cons h]; simp only [evalOr]
theorem mayAnd_step {l : List Fd} {r : List Stt} {ks : List PT} {i : Nat} (h : i < ks.length) (a : B3) : mayAnd l r (ks.drop i) a = mayAnd l r (ks.drop (i + 1)) (togA a (mayM l r ks[i])) := by
  rw [List.drop_eq_getElem_cons h]; simp only [mayAnd]
theorem mayOr_step {l : List Fd} {r : List Stt} {ks : List PT} {i : Nat} (h : i < ks.length) (a : B3) : mayOr l r (ks.drop i) a = mayOr l r (ks.drop (i + 1)) (togO a (mayM l r ks[i])) := by
  rw [List.drop_eq_getElem_cons h]; simp only [mayOr]
theorem evalAnd_end {l : List Fd} {r : List Cl} {ks : List PT} (a : Nat) : evalAnd l r (ks.drop ks.length) a = a := by rw [List.drop_length]; simp only [evalAnd]
theorem evalOr_end {l : List Fd} {r : List Cl} {ks : List PT} (a : Nat) : evalOr l r (ks.drop ks.length) a = a := by rw [List.drop_length]; simp only [evalOr]
theorem mayAnd_end {l : List Fd} {r : List Stt} {ks : List PT} (a : B3) : mayAnd l r (ks.drop ks.length) a = a := by rw [List.drop_length]; simp only [mayAnd]
theorem mayOr_end {l : List Fd} {r : List Stt} {ks : List PT} (a : B3) : mayOr l r (ks.drop ks.length) a = a := by rw [List.drop_length]; simp only [mayOr]
end Go.Proofs.Ytfcnoeehfhncjaa
