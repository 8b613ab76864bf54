/- The bounds of statistics hold each value; no program. -/
import Derived.Test.YtfcnoeehfhncjaaBnd
import Derived.Test.YtfcnoeehfhncjaaPs4
set_option linter.unusedVariables false
set_option linter.unusedSimpArgs false
namespace Go.Proofs.Ytfcnoeehfhncjaa
open Go.RowKit Go.Lib

theorem less_nil (l : List UInt8) : Op.bytesLess l [] = false := by cases l <;> rfl
theorem lb_toList (s : ByteArray) : s.toList = lb s := by rw [ByteArray.toList_eq]; rfl
theorem nb_length (l : List UInt8) : (nb l).length = l.length := by simp [nb]
theorem nb_lb (t : List Nat) (h : Bs t) : nb (lb (bytesT t)) = t := by
  unfold nb lb bytesT
  exact map_fwd h
theorem cmpC_cS {k n : Int} {s t : ByteArray} : cv k n s k n t = cS s t := by
  unfold cv c3 or3
  simp
theorem less_take (l : List UInt8) (m : Nat) : Op.bytesLess l (l.take m) = false := by
  have := bl_strip (l.take m) (l.drop m) []
  rw [List.take_append_drop, List.append_nil] at this
  exact this.trans (less_nil _)
theorem lowM_le {x : Cl} (hf : Fine x) (cl : Bool) : cmpC (lowM x cl) x ≤ 0 := by
  unfold lowM
  by_cases h : x.1 = 3 ∧ cl = false
  · rw [if_pos h]
    rcases hf with rfl | ⟨n, rfl, _⟩ | ⟨n, rfl, _⟩ | ⟨s, rfl, _, _⟩
    · exact absurd h.1 (by simp [nul])
    · exact absurd h.1 (by simp)
    · exact absurd h.1 (by simp)
    · unfold cmpC
      rw [cmpC_cS]
      apply cS_le
      have he : (bytesT ((3, 0, []) : Cl).2.2).toList = [] := by rw [lb_toList]; rfl
      rw [he]
      exact less_nil _
  · rw [if_neg h]
    unfold cmpC
    simp only
    rw [cmpC_cS]
    apply cS_le
    rw [lb_toList, lb_toList, lb_nb]
    exact less_take _ _
theorem high_le {x : Cl} (hf : Fine x) {cl : Bool} (hh : (highM x cl).2 = true) : cmpC x (highM x cl).1 ≤ 0 := by
  unfold highM at hh ⊢
  by_cases h : x.1 = 3
  · rw [if_pos h] at hh ⊢
    rcases hf with rfl | ⟨n, rfl, _⟩ | ⟨n, rfl, _⟩ | ⟨s, rfl, _, hs⟩
    · exact absurd h (by simp [nul])
    · exact absurd h (by simp)
    · exact absurd h (by simp)
    · simp only at hh ⊢
      cases ha : aboveL (lb (bytesT s)) 4 with
      | none => rw [ha] at hh; cases hh
      | some a =>
        rw [ha] at hh
        cases cl
        · cases hh
        · simp only [if_true]
          unfold cmpC
          simp only
          rw [cmpC_cS]
          apply cS_le
          rw [lb_toList, lb_toList, lb_nb]
          by_cases hn : ((V (lb (bytesT s))).length : Int) ≤ 4
          · unfold aboveL at ha
            by_cases hc : clean (lb (bytesT s)) = true
            · rw [if_pos hc, if_pos hn] at ha
              obtain rfl := Option.some.inj ha
              exact less_irrefl _
            · rw [if_neg hc] at ha
              cases ha
          · exact (above_bound ha hn []).1
  · rw [if_neg h]
    rw [cmpC_self]
    omega
theorem offs_le4 {rs : List Nat} : ∀ i, offs (rs.map eu) i ≤ 4 * i
  | 0 => by simp
  | i + 1 => by
    have := offs_le4 (rs := rs) i
    by_cases h : i < rs.length
    · have hd : (rs.map eu).drop i = eu rs[i] :: (rs.map eu).drop (i + 1) := by
        rw [List.drop_eq_getElem_cons (by simpa using h)]
        simp
      rw [offs_succ hd]
      have := encL_pos rs[i]
      have h2 : (eu rs[i]).2 = (encL rs[i]).length := rfl
      omega
    · have h1 := offs_all (rs.map eu) i (by simp; omega)
      have h2 := offs_all (rs.map eu) (i + 1) (by simp; omega)
      omega
theorem above_four {l a : List UInt8} (h : aboveL l 4 = some a) (hl : l.length ≤ 64) : a.length ≤ 64 := by
  have h0 := h
  rw [above_eq] at h
  unfold refAboveL at h
  split at h
  · split at h
    · obtain rfl := Option.some.inj h; omega
    · split at h
      · cases h
      · next hc _ _ =>
        have hv := clean_V hc
        unfold upL at h
        cases hg : lastG (V l) (4 : Int).toNat with
        | none => rw [hg] at h; cases h
        | some i =>
          rw [hg] at h
          have hi := (lastG_lt hg).1
          simp only [Option.map_some, Option.some.injEq] at h
          subst h
          have := encL_pos (nx ((V l).getD i (0, 0)).1)
          have := offs_le4 (rs := runes l) i
          rw [← hv] at this
          have h4 : (4 : Int).toNat = 4 := rfl
          simp only [List.length_append, List.length_take]
          omega
  · cases h
theorem lowM_fine {x : Cl} (hf : Fine x) (cl : Bool) : Fine (lowM x cl) := by
  unfold lowM
  by_cases h : x.1 = 3 ∧ cl = false
  · rw [if_pos h]
    exact Or.inr (Or.inr (Or.inr ⟨[], rfl, by simp, fun x hx => by simp at hx⟩))
  · rw [if_neg h]
    have he : nb (firstL (lb (bytesT ([] : List Nat))) 4) = [] := by
      have : lb (bytesT ([] : List Nat)) = [] := rfl
      rw [this]
      simp [firstL, nb]
    rcases hf with rfl | ⟨n, rfl, hn⟩ | ⟨n, rfl, hn⟩ | ⟨s, rfl, hl, hs⟩
    · refine Or.inl ?_
      show ((0 : Nat), (0 : Int), nb (firstL (lb (bytesT ([] : List Nat))) 4)) = nul
      rw [he]
      rfl
    · refine Or.inr (Or.inl ⟨n, ?_, hn⟩)
      show ((1 : Nat), n, nb (firstL (lb (bytesT ([] : List Nat))) 4)) = _
      rw [he]
    · refine Or.inr (Or.inr (Or.inl ⟨n, ?_, hn⟩))
      show ((2 : Nat), (n : Int), nb (firstL (lb (bytesT ([] : List Nat))) 4)) = _
      rw [he]
    · refine Or.inr (Or.inr (Or.inr ⟨_, rfl, ?_, nb_bs _⟩))
      rw [nb_length]
      show (firstL (lb (bytesT s)) 4).length ≤ 64
      have := firstL_len (lb (bytesT s)) 4
      have h2 : (lb (bytesT s)).length = s.length := by rw [lb_size, bytesT_size]
      omega
theorem highM_fine {x : Cl} (hf : Fine x) (cl : Bool) : Fine (highM x cl).1 := by
  unfold highM
  by_cases h : x.1 = 3
  · rw [if_pos h]
    cases ha : aboveL (lb (bytesT x.2.2)) 4 with
    | none => exact Or.inl rfl
    | some a =>
      simp only
      cases cl
      · exact Or.inl rfl
      · refine Or.inr (Or.inr (Or.inr ⟨_, rfl, ?_, nb_bs _⟩))
        rw [nb_length]
        refine above_four ha ?_
        rw [lb_size]
        exact hf.short
  · rw [if_neg h]
    exact hf
theorem nonN_mem {cs : List Cl} {x : Cl} (h : x ∈ cs) (hx : x.1 ≠ 0) : x ∈ nonN cs := by
  unfold nonN
  exact List.mem_filter.2 ⟨h, by simpa using hx⟩
theorem nonN_lt {cs : List Cl} {x : Cl} (h : x ∈ cs) (hx : x.1 = 0) : (nonN cs).length < cs.length := by
  unfold nonN
  refine List.length_filter_lt_length_iff_exists.2 ⟨x, h, by simp [hx]⟩
theorem mn_le {x y : Cl} {r : List Cl} (h : y ∈ x :: r) : cmpC (minC x r) y ≤ 0 := by
  rcases List.mem_cons.1 h with rfl | h
  · exact (minC_le r y).1
  · exact (minC_le r x).2 y h
theorem mx_ge {x y : Cl} {r : List Cl} (h : y ∈ x :: r) : cmpC y (maxC x r) ≤ 0 := by
  rcases List.mem_cons.1 h with rfl | h
  · exact (maxC_ge r y).1
  · exact (maxC_ge r x).2 y h
theorem statM_fine {cs : List Cl} (hf : ∀ c ∈ cs, Fine c) : Fine (statM cs).lo ∧ Fine (statM cs).hi := by
  have hfn : ∀ c ∈ nonN cs, Fine c := fun c hc => hf c (by unfold nonN at hc; exact (List.mem_filter.1 hc).1)
  unfold statM
  cases hn : nonN cs with
  | nil => exact ⟨Or.inl rfl, Or.inl rfl⟩
  | cons y r =>
    rw [hn] at hfn
    have hy := hfn y (by simp)
    have hr : ∀ c ∈ r, Fine c := fun c hc => hfn c (by simp [hc])
    exact ⟨lowM_fine (minC_mem hy hr) _, highM_fine (maxC_mem hy hr) _⟩
/-- The statistics of values hold each of them. -/
theorem statM_cov {cs : List Cl} (hf : ∀ c ∈ cs, Fine c) {x : Cl} (hx : x ∈ cs) : Cov (statM cs) x := by
  have hfi := statM_fine hf
  have hfn : ∀ c ∈ nonN cs, Fine c := fun c hc => hf c (by unfold nonN at hc; exact (List.mem_filter.1 hc).1)
  refine ⟨fun h0 => ?_, fun h0 => ?_⟩
  · have hlt := nonN_lt hx h0
    unfold statM
    cases hn : nonN cs with
    | nil => rw [hn] at hlt; simp at hlt ⊢; omega
    | cons y r => rw [hn] at hlt; simp only; omega
  · have hm := nonN_mem hx h0
    rw [fixC_same hfi.1, fixC_same hfi.2]
    unfold statM
    cases hn : nonN cs with
    | nil => rw [hn] at hm; simp at hm
    | cons y r =>
      rw [hn] at hfn hm
      have hy := hfn y (by simp)
      have hr : ∀ c ∈ r, Fine c := fun c hc => hfn c (by simp [hc])
      refine ⟨rfl, ?_, fun hh => ?_⟩
      · exact cmpC_trans (lowM_le (minC_mem hy hr) _) (mn_le hm)
      · exact cmpC_trans (mx_ge hm) (high_le (maxC_mem hy hr) hh)
end Go.Proofs.Ytfcnoeehfhncjaa
