/- Predicates in memory; the leaves of Eval and May. -/
import Derived.Test.YtfcnoeehfhncjaaPm
import Derived.Test.YtfcnoeehfhncjaaFit
set_option linter.unusedVariables false
set_option linter.unusedSimpArgs false
namespace Go.Proofs.Ytfcnoeehfhncjaa
open Go.RowKit Go.Lib

/-- A node of a predicate in memory. -/
def NodeAt (W : World) (b off op f : Nat) (c : Cl) (kv : Value) : Prop :=
  b < W.heap.size ∧ W.cell? ⟨b, off, none⟩ = some (.int .u8 (op : Int)) ∧ W.cell? ⟨b, off + 1, none⟩ = some (.int .u32 (f : Int)) ∧ W.cell? ⟨b, off + 2, none⟩ = some (.int .u8 (c.1 : Int)) ∧ W.cell? ⟨b, off + 3, none⟩ = some (.int .i64 c.2.1) ∧ W.cell? ⟨b, off + 4, none⟩ = some (.string (bytesT c.2.2)) ∧ W.cell? ⟨b, off + 5, none⟩ = some kv
theorem NodeAt.kept {W W' : World} {b off op f : Nat} {c : Cl} {kv : Value} (h : NodeAt W b off op f c kv) (hb : Below W.heap.size W W') : NodeAt W' b off op f c kv := by
  obtain ⟨h0, h1, h2, h3, h4, h5, h6⟩ := h
  have e : ∀ o, W'.cell? ⟨b, o, none⟩ = W.cell? ⟨b, o, none⟩ := fun o => (bcell hb).1 b o h0
  exact ⟨Nat.lt_of_lt_of_le h0 hb.size, by rw [e]; exact h1, by rw [e]; exact h2, by rw [e]; exact h3, by rw [e]; exact h4, by rw [e]; exact h5, by rw [e]; exact h6⟩
 mutual
def Lies (W : World) : Nat → Nat → PT → Prop
  | b, off, .node op f c ks => ∃ a cap, NodeAt W b off op f c (.slice a ks.length cap) ∧ ks.length ≤ cap ∧ cap ≤ maxLen ∧ (0 < ks.length → ∃ g o, a = some ⟨g, o, none⟩ ∧ KidsAt W g o ks)
def KidsAt (W : World) : Nat → Nat → List PT → Prop
  | _, _, [] => True
  | g, o, k :: ks => Lies W g o k ∧ KidsAt W g (o + 6) ks
 end
theorem KidsAt.mono {W W' : World} : ∀ {ks : List PT} {g o : Nat}, (∀ k ∈ ks, ∀ b off, Lies W b off k → Lies W' b off k) → KidsAt W g o ks → KidsAt W' g o ks
  | [], g, o, _, _ => by simp [KidsAt]
  | k :: ks, g, o, hm, h => by
    simp only [KidsAt] at h ⊢
    exact ⟨hm k (by simp) _ _ h.1, KidsAt.mono (fun x hx => hm x (by simp [hx])) h.2⟩
theorem Lies.kept {W W' : World} (hb : Below W.heap.size W W') : ∀ (t : PT) (b off : Nat), Lies W b off t → Lies W' b off t := by
  refine PT.ind fun op f c ks ih b off h => ?_
  simp only [Lies] at h ⊢
  obtain ⟨a, cap, h1, h2, h3, h4⟩ := h
  refine ⟨a, cap, h1.kept hb, h2, h3, fun h0 => ?_⟩
  obtain ⟨g, o, h5, h6⟩ := h4 h0
  exact ⟨g, o, h5, KidsAt.mono ih h6⟩
theorem KidsAt.kept {W W' : World} (hb : Below W.heap.size W W') {ks : List PT} {g o : Nat} (h : KidsAt W g o ks) : KidsAt W' g o ks := KidsAt.mono (fun k _ => Lies.kept hb k) h
theorem KidsAt.get {W : World} : ∀ {ks : List PT} {g o : Nat}, KidsAt W g o ks → ∀ {i : Nat} (h : i < ks.length), Lies W g (o + i * 6) ks[i]
  | [], g, o, _, i, h => by simp at h
  | k :: ks, g, o, hk, 0, h => by simp only [KidsAt] at hk; simpa using hk.1
  | k :: ks, g, o, hk, i + 1, h => by
    simp only [KidsAt] at hk
    have := KidsAt.get hk.2 (i := i) (by simpa using h)
    rw [show o + (i + 1) * 6 = o + 6 + i * 6 by omega]
    simpa using this
/-- The kids of a node, as a slice. -/
def Kids (W : World) (v : Value) (ks : List PT) : Prop := ∃ a cap, v = .slice a ks.length cap ∧ ks.length ≤ cap ∧ cap ≤ maxLen ∧ (0 < ks.length → ∃ g o, a = some ⟨g, o, none⟩ ∧ KidsAt W g o ks)
theorem Kids.kept {W W' : World} {v : Value} {ks : List PT} (h : Kids W v ks) (hb : Below W.heap.size W W') : Kids W' v ks := by
  obtain ⟨a, cap, h1, h2, h3, h4⟩ := h
  refine ⟨a, cap, h1, h2, h3, fun h0 => ?_⟩
  obtain ⟨g, o, h5, h6⟩ := h4 h0
  exact ⟨g, o, h5, h6.kept hb⟩
theorem Kids.form {W : World} {v : Value} {ks : List PT} (h : Kids W v ks) : ∃ a cap, v = .slice a ks.length cap ∧ ks.length ≤ cap ∧ cap ≤ maxLen := by
  obtain ⟨a, cap, h1, h2, h3, _⟩ := h
  exact ⟨a, cap, h1, h2, h3⟩
theorem Kids.at {W : World} {a : Option Addr} {n cap : Nat} {ks : List PT} (h : Kids W (.slice a n cap) ks) {i : Nat} (hi : i < ks.length) : ∃ g o, a = some ⟨g, o, none⟩ ∧ Lies W g (o + i * 6) ks[i] := by
  obtain ⟨a', cap', e, _, _, h4⟩ := h
  simp only [Value.slice.injEq] at e
  obtain ⟨rfl, _, _⟩ := e
  obtain ⟨g, o, rfl, h6⟩ := h4 (by omega)
  exact ⟨g, o, rfl, h6.get hi⟩
theorem Lies.open {W : World} {b off op f : Nat} {c : Cl} {ks : List PT} (h : Lies W b off (.node op f c ks)) : ∃ a cap, NodeAt W b off op f c (.slice a ks.length cap) ∧ Kids W (.slice a ks.length cap) ks := by
  simp only [Lies] at h
  obtain ⟨a, cap, h1, h2, h3, h4⟩ := h
  exact ⟨a, cap, h1, a, cap, rfl, h2, h3, h4⟩
theorem Lies.shut {W : World} {b off op f : Nat} {c : Cl} {ks : List PT} {v : Value} (h : NodeAt W b off op f c v) (hk : Kids W v ks) : Lies W b off (.node op f c ks) := by
  obtain ⟨a, cap, rfl, h2, h3, h4⟩ := hk
  simp only [Lies]
  exact ⟨a, cap, h, h2, h3, h4⟩
theorem Kids.nil (W : World) : Kids W (.slice none 0 0) [] := ⟨none, 0, rfl, Nat.le_refl _, by unfold maxLen; omega, fun h => by simp at h⟩

theorem KindOfC {c : Cl} (hf : Fine c) (w : World) : Calls Try.prog 25 #[valC c] w fun e w' => e = .returned (.int .u8 (c.1 : Int)) ∧ w' = w := KindOf_any hf.val w

theorem of_any {c : Cl} (hok : Okc c) (w : World) : Calls Try.prog 81 #[.agg #[.int .u8 (c.1 : Int), .int .i64 c.2.1, .string (bytesT c.2.2)]] w fun e w' => e = .returned (.tuple #[valC (fixC c), .int .i64 (flt (c.1 : Int) c.2.1 (bytesT c.2.2))]) ∧ Below w.heap.size w w' := by
  by_cases h : flt (c.1 : Int) c.2.1 (bytesT c.2.2) = 0
  · refine (of_good _ _ _ (by omega) h w).mono ?_
    rintro e w1 ⟨⟨v, rfl, hv⟩, hb⟩
    have hfx : fixC c = c := if_pos h
    have hf : Fine c := by have := fixC_fine hok; rwa [hfx] at this
    rw [hfx, h, val_valC hf hv]
    exact ⟨rfl, hb⟩
  · refine (of_bad _ _ _ (by simpa using h) w).mono ?_
    rintro e w1 ⟨rfl, hb⟩
    have hfx : fixC c = nul := if_neg h
    rw [hfx]
    exact ⟨rfl, hb⟩

set_option maxRecDepth 100000 in
theorem bound_any {c : Cl} (hok : Okc c) (w : World) : Calls Try.prog 83 #[.agg #[.int .u8 (c.1 : Int), .int .i64 c.2.1, .string (bytesT c.2.2)]] w fun e w' => e = .returned (valC (fixC c)) ∧ Below w.heap.size w w' := by
  have HO := hidden hok
  have HB0 := hidden (below_one w (.cells #[.int .u8 (c.1 : Int), .int .i64 c.2.1, .string (bytesT c.2.2)] 27))
  obtain ⟨c0, c1, c2⟩ := cell_new3 w (.int .u8 (c.1 : Int)) (.int .i64 c.2.1) (.string (bytesT c.2.2)) 27
  clear hok
  go_enter Try.func83, Try.ntmps83
  go_wp2_with fail
  refine (of_any HO.out _).mono ?_
  rintro e w1 ⟨rfl, hb⟩
  go_wp2_with fail
  go_ret
  exact ⟨rfl, below_then HB0.out hb⟩

theorem Fine.short {c : Cl} (h : Fine c) : (bytesT c.2.2).size ≤ 64 := by
  rw [bytesT_size]
  rcases h with rfl | ⟨n, rfl, _⟩ | ⟨b, rfl, _⟩ | ⟨s, rfl, hs, _⟩
  · simp [nul]
  · simp
  · simp
  · exact hs

set_option maxRecDepth 100000 in
theorem uncut_any {c : Cl} (hf : Fine c) (w : World) : Calls Try.prog 84 #[valC c] w fun e w' => e = .returned (.bool (uncutM c)) ∧ Below w.heap.size w w' := by
  have HF := hidden hf
  clear hf
  go_enter Try.func84, Try.ntmps84
  go_wp2_with fail
  refine (cell_any HF.out.val _).mono ?_
  rintro e w1 ⟨rfl, hb⟩
  have HB := hidden hb
  clear hb
  obtain ⟨c0, c1, c2⟩ := cell_new3 w1 (.int .u8 (c.1 : Int)) (.int .i64 c.2.1) (.string (bytesT c.2.2)) 27
  have HB1 := hidden (below_one w1 (.cells #[.int .u8 (c.1 : Int), .int .i64 c.2.1, .string (bytesT c.2.2)] 27))
  go_wp2_with fail
  refine (count_any _ (by have := HF.out.short; omega) _).mono ?_
  rintro e w2 ⟨rfl, hb⟩
  have HN : Hid (uncutM c = decide ((((V (lb (bytesT c.2.2))).length : Nat) : Int) < 4)) := hidden (by unfold uncutM; exact decide_eq_decide.2 (by omega))
  generalize (V (lb (bytesT c.2.2))).length = n at *
  go_wp2_with fail
  go_ret
  exact ⟨ret_bool HN.out.symm, below_then (below_then HB.out HB1.out) hb⟩

set_option maxRecDepth 100000 in
theorem unclean_any {c : Cl} (hf : Fine c) (w : World) : Calls Try.prog 27 #[valC c] w fun e w' => e = .returned (.bool (!clean (lb (bytesT c.2.2)))) ∧ Below w.heap.size w w' := by
  have HF := hidden hf
  clear hf
  go_enter Try.func27, Try.ntmps27
  go_wp2_with fail
  refine (cell_any HF.out.val _).mono ?_
  rintro e w1 ⟨rfl, hb⟩
  have HB := hidden hb
  clear hb
  obtain ⟨c0, c1, c2⟩ := cell_new3 w1 (.int .u8 (c.1 : Int)) (.int .i64 c.2.1) (.string (bytesT c.2.2)) 27
  have HB1 := hidden (below_one w1 (.cells #[.int .u8 (c.1 : Int), .int .i64 c.2.1, .string (bytesT c.2.2)] 27))
  go_wp2_with fail
  refine (clean_any _ (by have := HF.out.short; omega) _).mono ?_
  rintro e w2 ⟨rfl, hb⟩
  obtain ⟨n, hn⟩ : ∃ n, n = clean (lb (bytesT c.2.2)) := ⟨_, rfl⟩
  rw [← hn]
  have HN := hidden hn
  clear hn
  go_wp2_with fail
  go_ret
  exact ⟨ret_bool (by rw [HN.out]), below_then (below_then HB.out HB1.out) hb⟩

set_option maxRecDepth 100000 in
theorem isnull_any {c : Cl} (hf : Fine c) (w : World) : Calls Try.prog 24 #[valC c] w fun e w' => e = .returned (.bool (decide (c.1 = 0))) ∧ Below w.heap.size w w' := by
  have HF := hidden hf
  clear hf
  go_enter Try.func24, Try.ntmps24
  go_wp2_with fail
  refine (KindOfC HF.out _).mono ?_
  rintro e w1 ⟨rfl, rfl⟩
  go_wp2_with fail
  go_ret
  refine ⟨ret_bool ?_, Below.refl _ _⟩
  rw [Bool.eq_iff_iff]
  simp

set_option maxRecDepth 100000 in
set_option maxHeartbeats 1000000 in
theorem plike_any {x c : Cl} (hf : Fine x) (hl : c.2.2.length ≤ 300) (w : World) : Calls Try.prog 85 #[valC x, .agg #[.int .u8 (c.1 : Int), .int .i64 c.2.1, .string (bytesT c.2.2)]] w fun e w' => e = .returned (.bool (likeM x c)) ∧ Below w.heap.size w w' := by
  have HF := hidden hf
  have HL := hidden hl
  clear hf hl
  obtain ⟨d0, d1, d2⟩ := cell_new3 w (.int .u8 (c.1 : Int)) (.int .i64 c.2.1) (.string (bytesT c.2.2)) 27
  have HB0 := hidden (below_one w (.cells #[.int .u8 (c.1 : Int), .int .i64 c.2.1, .string (bytesT c.2.2)] 27))
  have hq : w.heap.size < (w.alloc (.cells #[.int .u8 (c.1 : Int), .int .i64 c.2.1, .string (bytesT c.2.2)] 27)).heap.size := by rw [World.size_alloc]; omega
  generalize hW : w.alloc (.cells #[.int .u8 (c.1 : Int), .int .i64 c.2.1, .string (bytesT c.2.2)] 27) = W at *
  go_enter Try.func85, Try.ntmps85
  go_wp2_with fail
  try rw [hW]
  clear hW
  refine (cell_any HF.out.val _).mono ?_
  rintro e w1 ⟨rfl, hb⟩
  have HB := hidden hb
  have e1 := fun o => (bcell hb).1 w.heap.size o hq
  have hq1 := Nat.lt_of_lt_of_le hq hb.size
  clear hb
  obtain ⟨c0, c1, c2⟩ := cell_new3 w1 (.int .u8 (x.1 : Int)) (.int .i64 x.2.1) (.string (bytesT x.2.2)) 27
  have hb1 := below_one w1 (.cells #[.int .u8 (x.1 : Int), .int .i64 x.2.1, .string (bytesT x.2.2)] 27)
  have HB1 := hidden hb1
  have e2 := fun o => (bcell hb1).1 w.heap.size o hq1
  rw [← e1, ← e2] at d0 d1 d2
  clear e1 e2 hb1 hq1 hq
  by_cases h1 : x.1 = 3
  · have h1' : ((x.1 : Int) == 3) = true := by rw [h1]; rfl
    by_cases h2 : c.1 = 3
    · have h2' : ((c.1 : Int) == 3) = true := by rw [h2]; rfl
      have HM : Hid (likeM x c = lk (runes (lb (bytesT c.2.2))) (runes (lb (bytesT x.2.2)))) := hidden (by simp [likeM, h1, h2])
      clear h1 h2
      go_wp2_with fail
      refine (like_any _ _ (by have := HF.out.short; omega) (by have := HL.out; rw [bytesT_size]; omega) _).mono ?_
      rintro e w2 ⟨rfl, hb⟩
      rw [← HM.out]
      obtain ⟨n, hn⟩ : ∃ n, n = likeM x c := ⟨_, rfl⟩
      rw [← hn]
      have HN := hidden hn
      clear hn
      go_wp2_with fail
      go_ret
      exact ⟨ret_bool HN.out, below_then (below_then (below_then HB0.out HB.out) HB1.out) hb⟩
    · have h2' : ((c.1 : Int) == 3) = false := beq_eq_false_iff_ne.2 (by omega)
      have HM : Hid (likeM x c = false) := hidden (by simp [likeM, h2])
      clear h1 h2
      go_wp2_with fail
      go_ret
      exact ⟨ret_bool HM.out.symm, below_then (below_then HB0.out HB.out) HB1.out⟩
  · have h1' : ((x.1 : Int) == 3) = false := beq_eq_false_iff_ne.2 (by omega)
    have HM : Hid (likeM x c = false) := hidden (by simp [likeM, h1])
    clear h1
    go_wp2_with fail
    go_ret
    exact ⟨ret_bool HM.out.symm, below_then (below_then HB0.out HB.out) HB1.out⟩

theorem isN_any (b : Bool) (w : World) : Calls Try.prog 77 #[.bool b] w fun e w' => e = .returned (.int .u8 (isM b : Int)) ∧ w' = w := by
  refine (is_any b w).mono ?_
  rintro e w1 ⟨rfl, rfl⟩
  refine ⟨?_, rfl⟩
  cases b <;> rfl

set_option maxRecDepth 100000 in
set_option maxHeartbeats 2000000 in
theorem held_any {w : World} {b off op f : Nat} {c x : Cl} {kv : Value} (hn : NodeAt w b off op f c kv) (hok : Okc c) (hl : c.2.2.length ≤ 300) (hf : Fine x) : Calls Try.prog 78 #[.pointer (some ⟨b, off, none⟩), valC x] w fun e w' => e = .returned (.int .u8 (heldM op c x : Int)) ∧ Below w.heap.size w w' := by
  have HF := hidden hf
  have HO := hidden hok
  have HL := hidden hl
  have HN := hidden hn
  obtain ⟨hb0, x0, x1, x2, x3, x4, x5⟩ := hn
  clear hf hok hl
  go_enter Try.func78, Try.ntmps78
  go_wp2_with fail
  refine (bound_any HO.out _).mono ?_
  rintro e w1 ⟨rfl, hb1⟩
  have HB1 := hidden hb1
  clear x0 x1 x2 x3 x4 x5 hb0
  have HN1 := hidden (HN.out.kept hb1)
  clear hb1 HN
  go_wp2_with fail
  refine (compare_cv HF.out.val (fixC_fine HO.out).val _).mono ?_
  rintro e w2 ⟨rfl, hb2⟩
  have HB2 := hidden (below_then HB1.out hb2)
  obtain ⟨hb0, x0, x1, x2, x3, x4, x5⟩ := HN1.out.kept hb2
  clear hb2 HB1 HN1
  obtain ⟨m, hm⟩ : ∃ m, m = cmpC x (fixC c) := ⟨_, rfl⟩
  have hm2 : cv (x.1 : Int) x.2.1 (bytesT x.2.2) ((fixC c).1 : Int) (fixC c).2.1 (bytesT (fixC c).2.2) = m := hm.symm
  rw [hm2]
  have HM := hidden hm
  clear hm hm2
  by_cases h1 : op = 1
  · subst h1
    go_wp2_with fail
    refine (isN_any _ _).mono ?_
    rintro e w3 ⟨rfl, rfl⟩
    go_wp2_with fail
    go_ret
    refine ⟨?_, HB2.out⟩
    rw [HM.out]
    rfl
  have n1 : ((op : Int) == 1) = false := beq_eq_false_iff_ne.2 (by omega)
  by_cases h2 : op = 2
  · subst h2
    go_wp2_with fail
    refine (isN_any _ _).mono ?_
    rintro e w3 ⟨rfl, rfl⟩
    go_wp2_with fail
    go_ret
    refine ⟨?_, HB2.out⟩
    rw [HM.out]
    rfl
  have n2 : ((op : Int) == 2) = false := beq_eq_false_iff_ne.2 (by omega)
  by_cases h3 : op = 3
  · subst h3
    go_wp2_with fail
    refine (isN_any _ _).mono ?_
    rintro e w3 ⟨rfl, rfl⟩
    go_wp2_with fail
    go_ret
    refine ⟨?_, HB2.out⟩
    rw [HM.out]
    rfl
  have n3 : ((op : Int) == 3) = false := beq_eq_false_iff_ne.2 (by omega)
  by_cases h4 : op = 4
  · subst h4
    go_wp2_with fail
    refine (plike_any HF.out HL.out _).mono ?_
    rintro e w3 ⟨rfl, hb3⟩
    have HB3 := hidden (below_then HB2.out hb3)
    clear hb3
    obtain ⟨q, hq⟩ : ∃ q, q = likeM x c := ⟨_, rfl⟩
    rw [← hq]
    have HQ := hidden hq
    clear hq
    go_wp2_with fail
    refine (isN_any _ _).mono ?_
    rintro e w3 ⟨rfl, rfl⟩
    go_wp2_with fail
    go_ret
    refine ⟨?_, HB3.out⟩
    rw [HQ.out]
    rfl
  have n4 : ((op : Int) == 4) = false := beq_eq_false_iff_ne.2 (by omega)
  have HE : Hid (heldM op c x = 1) := hidden (by unfold heldM; rw [if_neg h1, if_neg h2, if_neg h3, if_neg h4])
  clear h1 h2 h3 h4
  go_wp2_with fail
  go_ret
  rw [HE.out]
  exact ⟨rfl, HB2.out⟩
end Go.Proofs.Ytfcnoeehfhncjaa
