/- Texts, values and cells as the program has them, over triples (kind, number, text) with texts as lists of naturals; lists of them. -/
import Derived.Test.YtcmmednihoaekaaGreatReader
import Derived.Test.YtcmmednihoaekaaGreatCell
set_option linter.unusedVariables false
set_option linter.unusedSimpArgs false
namespace Go.Proofs.YtcmmednihoaekaaGreat
open Go.RowKit Go.Lib

theorem less_txt : ∀ {l m : List Nat}, Bs l → Bs m → Op.bytesLess (l.map Nat.toUInt8) (m.map Nat.toUInt8) = decide (l < m)
  | [], [], _, _ => by simp [Op.bytesLess]
  | [], y :: t, _, _ => by simp [Op.bytesLess]
  | x :: s, [], _, _ => by simp [Op.bytesLess]
  | x :: s, y :: t, hl, hm => by
    have ih := less_txt (l := s) (m := t) (fun z hz => hl z (by simp [hz])) (fun z hz => hm z (by simp [hz]))
    have hx := hl x (by simp)
    have hy := hm y (by simp)
    have h1 : (x.toUInt8 < y.toUInt8) = (x < y) := by
      rw [UInt8.lt_iff_toNat_lt]
      simp [Nat.mod_eq_of_lt hx, Nat.mod_eq_of_lt hy]
    have h2 : (x.toUInt8 == y.toUInt8) = decide (x = y) := by
      by_cases h : x = y
      · simp [h]
      · have : x.toUInt8 ≠ y.toUInt8 := fun e => h (by
          have := congrArg UInt8.toNat e
          simpa [Nat.mod_eq_of_lt hx, Nat.mod_eq_of_lt hy] using this)
        simp [h, this]
    simp only [List.map_cons, Op.bytesLess, ih, h1, h2]
    have h3 : (x :: s < y :: t) ↔ (x < y ∨ x = y ∧ s < t) := List.cons_lt_cons_iff
    by_cases h : x < y <;> by_cases h' : x = y <;> by_cases h'' : s < t <;> simp [h3, h, h', h'']

/-- A text's bytes. -/
def bytesT (l : List Nat) : ByteArray := ⟨(l.map Nat.toUInt8).toArray⟩
theorem txt_eq (l : List Nat) : txt l = .string (bytesT l) := rfl
theorem bytesT_toList (l : List Nat) : (bytesT l).toList = l.map Nat.toUInt8 := by
  rw [ByteArray.toList_eq]
  rfl
theorem bytesT_size (l : List Nat) : (bytesT l).size = l.length := by
  show (l.map Nat.toUInt8).toArray.size = l.length
  simp
theorem bytesT_nil : bytesT [] = ⟨#[]⟩ := rfl
/-- Any text is one of these. -/
def natsT (s : ByteArray) : List Nat := s.toList.map UInt8.toNat
theorem natsT_bs (s : ByteArray) : Bs (natsT s) := fun x hx => by
  obtain ⟨y, _, rfl⟩ := List.mem_map.1 hx
  exact y.toNat_lt
theorem bytesT_nats (s : ByteArray) : bytesT (natsT s) = s := by
  have h : (natsT s).map Nat.toUInt8 = s.toList := by
    unfold natsT
    rw [List.map_map]
    conv => rhs; rw [← List.map_id s.toList]
    apply List.map_congr_left
    intro x _
    simp
  unfold bytesT
  rw [h, ByteArray.toList_eq]
theorem bytesT_inj {a b : List Nat} (ha : Bs a) (hb : Bs b) (h : bytesT a = bytesT b) : a = b := by
  have h1 := congrArg ByteArray.toList h
  rw [bytesT_toList, bytesT_toList] at h1
  rw [← map_fwd ha, ← map_fwd hb, h1]

/-- Texts, values, cells as the program has them. -/
def svals (l : List (List Nat)) : List Value := l.map txt
def valC (c : Nat × Int × List Nat) : Value :=
  if c.1 = 0 then .nilIface else if c.1 = 1 then .iface 2 (.int .i64 c.2.1) else if c.1 = 2 then .iface 4 (.bool (decide (c.2.1 = 1))) else .iface 9 (txt c.2.2)
def vvals (l : List (Nat × Int × List Nat)) : List Value := l.map valC
def celC (c : Nat × Int × List Nat) : List Value := [.int .u8 (c.1 : Int), .int .i64 c.2.1, txt c.2.2]
def aggC (c : Nat × Int × List Nat) : Value := .agg #[.int .u8 (c.1 : Int), .int .i64 c.2.1, txt c.2.2]
def cvals (l : List (Nat × Int × List Nat)) : List Value := l.flatMap celC

theorem svals_length (l : List (List Nat)) : (svals l).length = l.length := List.length_map _
theorem vvals_length (l : List (Nat × Int × List Nat)) : (vvals l).length = l.length := List.length_map _
theorem svals_append (a b : List (List Nat)) : svals (a ++ b) = svals a ++ svals b := List.map_append
theorem vvals_append (a b : List (Nat × Int × List Nat)) : vvals (a ++ b) = vvals a ++ vvals b := List.map_append
theorem cvals_append (a b : List (Nat × Int × List Nat)) : cvals (a ++ b) = cvals a ++ cvals b := List.flatMap_append
theorem cvals_cons (c : Nat × Int × List Nat) (l : List (Nat × Int × List Nat)) : cvals (c :: l) = celC c ++ cvals l := List.flatMap_cons
theorem cvals_length : ∀ l : List (Nat × Int × List Nat), (cvals l).length = l.length * 3
  | [] => rfl
  | c :: t => by
    rw [cvals_cons, List.length_append, cvals_length t, List.length_cons]
    simp [celC]
    omega
theorem svals_get {l : List (List Nat)} {j : Nat} (h : j < l.length) : (svals l)[j]? = some (txt l[j]) := by simp [svals, h]
theorem vvals_get {l : List (Nat × Int × List Nat)} {j : Nat} (h : j < l.length) : (vvals l)[j]? = some (valC l[j]) := by simp [vvals, h]
theorem cvals_get : ∀ {l : List (Nat × Int × List Nat)} {j : Nat} (h : j < l.length), (cvals l)[j * 3]? = some (.int .u8 (l[j].1 : Int)) ∧ (cvals l)[j * 3 + 1]? = some (.int .i64 l[j].2.1) ∧ (cvals l)[j * 3 + 2]? = some (txt l[j].2.2)
  | c :: t, 0, h => by simp [cvals_cons, celC]
  | c :: t, j + 1, h => by
    have ih := cvals_get (l := t) (j := j) (by simpa using h)
    rw [cvals_cons]
    have e : ∀ k, (celC c ++ cvals t)[(j + 1) * 3 + k]? = (cvals t)[j * 3 + k]? := fun k => by
      rw [List.getElem?_append_right (by simp [celC]; omega)]
      simp only [celC, List.length_cons, List.length_nil]
      congr 1
      omega
    have e0 := e 0
    simp only [Nat.add_zero] at e0
    rw [e0, e 1, e 2]
    simpa using ih
theorem svals_oneCell (l : List (List Nat)) : ∀ u ∈ svals l, u.oneCell' = true := by
  intro u hu
  obtain ⟨x, _, rfl⟩ := List.mem_map.1 hu
  rfl
theorem valC_oneCell (c : Nat × Int × List Nat) : (valC c).oneCell' = true := by
  unfold valC
  split
  · rfl
  · split
    · rfl
    · split <;> rfl
theorem vvals_oneCell (l : List (Nat × Int × List Nat)) : ∀ u ∈ vvals l, u.oneCell' = true := by
  intro u hu
  obtain ⟨x, _, rfl⟩ := List.mem_map.1 hu
  exact valC_oneCell x

/-- Lists of the call's own. -/
def OwnS (W : World) (B : Nat) (v : Value) (l : List (List Nat)) : Prop := W.ownsRow B 9 1 v l.length (svals l)
def OwnV (W : World) (B : Nat) (v : Value) (l : List (Nat × Int × List Nat)) : Prop := W.ownsRow B 47 1 v l.length (vvals l)
def OwnC (W : World) (B : Nat) (v : Value) (l : List (Nat × Int × List Nat)) : Prop := W.ownsRow B 45 3 v l.length (cvals l)
theorem OwnS.nil (W : World) (B : Nat) : OwnS W B (.slice none 0 0) [] := World.ownsRow_nil _ _ _ _
theorem OwnV.nil (W : World) (B : Nat) : OwnV W B (.slice none 0 0) [] := World.ownsRow_nil _ _ _ _
theorem OwnC.nil (W : World) (B : Nat) : OwnC W B (.slice none 0 0) [] := World.ownsRow_nil _ _ _ _
theorem OwnS.kept {w w' : World} {B : Nat} {v : Value} {l : List (List Nat)} (h : OwnS w B v l) (hb : Below w.heap.size w w') : OwnS w' B v l := own_kept h hb
theorem OwnV.kept {w w' : World} {B : Nat} {v : Value} {l : List (Nat × Int × List Nat)} (h : OwnV w B v l) (hb : Below w.heap.size w w') : OwnV w' B v l := own_kept h hb
theorem OwnC.kept {w w' : World} {B : Nat} {v : Value} {l : List (Nat × Int × List Nat)} (h : OwnC w B v l) (hb : Below w.heap.size w w') : OwnC w' B v l := own_kept h hb
theorem OwnS.sv {W : World} {B : Nat} {v : Value} {l : List (List Nat)} (h : OwnS W B v l) : Sv W v (svals l) := Sv.of_own h
theorem OwnV.sv {W : World} {B : Nat} {v : Value} {l : List (Nat × Int × List Nat)} (h : OwnV W B v l) : Sv W v (vvals l) := Sv.of_own h

theorem own_low {W : World} {B B' e size n : Nat} {v : Value} {xs : List Value} (h : W.ownsRow B' e size v n xs) (hb : B ≤ B') : W.ownsRow B e size v n xs := by
  obtain ⟨q1, q2⟩ := h
  refine ⟨q1, ?_⟩
  rcases q2 with q | ⟨a1, a2, a3, a4, a5, a6⟩
  · exact Or.inl q
  · exact Or.inr ⟨a1, a2, a3, a4, Nat.le_trans hb a5, a6⟩
theorem own_slice {W : World} {B e size n : Nat} {v : Value} {xs : List Value} (h : W.ownsRow B e size v n xs) : ∃ a cap, v = .slice a n cap ∧ n ≤ cap ∧ cap ≤ maxLen := by
  rcases h.2 with ⟨rfl, rfl⟩ | ⟨g, cap, cur, rfl, _, _, h1, h2, _⟩
  · exact ⟨none, 0, rfl, Nat.le_refl _, by unfold maxLen; omega⟩
  · exact ⟨_, cap, rfl, h1, h2⟩

/-- Any slice: its form, and what stands at a place. -/
theorem Sv.form1 {W : World} {v : Value} {xs : List Value} (h : Sv W v xs) : ∃ a cap, v = .slice a xs.length cap ∧ xs.length ≤ cap ∧ cap ≤ maxLen := by
  obtain ⟨a, cap, h1, h2, h3, _⟩ := h
  exact ⟨a, cap, h1, h2, h3⟩
theorem Sv.at1 {W : World} {a : Option Addr} {n cap : Nat} {xs : List Value} (h : Sv W (.slice a n cap) xs) {k : Nat} {x : Value} (hk : xs[k]? = some x) :
    ∃ b off, a = some ⟨b, off, none⟩ ∧ b < W.heap.size ∧ W.cell? ⟨b, off + k, none⟩ = some x := by
  obtain ⟨a', cap', e, h1, h2, h3, h4⟩ := h
  have hlt := (List.getElem?_eq_some_iff.1 hk).1
  simp only [Value.slice.injEq] at e
  obtain ⟨rfl, _, _⟩ := e
  obtain ⟨b, off, rfl, h5, h6⟩ := h4 (by omega)
  exact ⟨b, off, rfl, h5, h6 k x hk⟩

/-- Cells that came in. -/
def Sc (W : World) (v : Value) (l : List (Nat × Int × List Nat)) : Prop :=
  ∃ a cap, v = .slice a l.length cap ∧ l.length ≤ cap ∧ cap ≤ maxLen ∧ (0 < l.length → ∃ b off, a = some ⟨b, off, none⟩ ∧ b < W.heap.size ∧ ∀ j x, (cvals l)[j]? = some x → W.cell? ⟨b, off + j, none⟩ = some x)
theorem Sc.kept {W W' : World} {v : Value} {l : List (Nat × Int × List Nat)} (h : Sc W v l) (hb : Below W.heap.size W W') : Sc W' v l := by
  obtain ⟨a, cap, h1, h2, h3, h4⟩ := h
  refine ⟨a, cap, h1, h2, h3, fun h0 => ?_⟩
  obtain ⟨b, off, h5, h6, h7⟩ := h4 h0
  exact ⟨b, off, h5, Nat.lt_of_lt_of_le h6 hb.size, fun j x hj => (hb.cell (p := ⟨b, off + j, none⟩) h6).trans (h7 j x hj)⟩
theorem OwnC.sc {W : World} {B : Nat} {v : Value} {l : List (Nat × Int × List Nat)} (h : OwnC W B v l) : Sc W v l := by
  rcases h with ⟨h0, ⟨rfl, h1⟩ | ⟨g, cap, cur, rfl, h2, h3, h4, h5, h6, h7⟩⟩
  · refine ⟨none, 0, by rw [h1], by omega, by unfold maxLen; omega, fun h => by omega⟩
  · refine ⟨_, cap, rfl, h4, h5, fun _ => ⟨g, 0, rfl, (Array.getElem?_eq_some_iff.1 h3).1, fun j x hj => ?_⟩⟩
    rw [Nat.zero_add]
    simp only [World.cell?, h3]
    rw [← h7] at hj
    have hlt := (List.getElem?_eq_some_iff.1 hj).1
    rw [List.length_take] at hlt
    rw [List.getElem?_take_of_lt (by omega)] at hj
    simpa using hj
theorem Sc.at {W : World} {a : Option Addr} {n cap : Nat} {l : List (Nat × Int × List Nat)} (h : Sc W (.slice a n cap) l) {k : Nat} (hk : k < l.length) :
    ∃ b off, a = some ⟨b, off, none⟩ ∧ b < W.heap.size ∧ W.cell? ⟨b, off + k * 3, none⟩ = some (.int .u8 (l[k].1 : Int)) ∧ W.cell? ⟨b, off + k * 3 + 1, none⟩ = some (.int .i64 l[k].2.1) ∧ W.cell? ⟨b, off + k * 3 + 2, none⟩ = some (txt l[k].2.2) := by
  obtain ⟨a', cap', e, h1, h2, h4⟩ := h
  simp only [Value.slice.injEq] at e
  obtain ⟨rfl, _, _⟩ := e
  obtain ⟨b, off, rfl, h5, h6⟩ := h4 (by omega)
  obtain ⟨c0, c1, c2⟩ := cvals_get hk
  refine ⟨b, off, rfl, h5, h6 _ _ c0, ?_, ?_⟩
  · rw [Nat.add_assoc]
    exact h6 _ _ c1
  · rw [Nat.add_assoc]
    exact h6 _ _ c2
end Go.Proofs.YtcmmednihoaekaaGreat
