/- Which predicates may be: Check. -/
import Derived.Test.YtfcnoeehfhncjaaPe
set_option linter.unusedVariables false
set_option linter.unusedSimpArgs false
namespace Go.Proofs.Ytfcnoeehfhncjaa
open Go.RowKit Go.Lib

def kindAt (l : List Fd) (j : Nat) : Nat := match l[j]? with
  | none => 0
  | some f => f.2.2.1
def fvM (op : Nat) (c : Cl) (k : Nat) : Int := if op = 5 then (if c.1 = 0 then 0 else 90) else if c.1 = 0 then 10 else if c.1 ≠ k then 10 else if op = 4 ∧ k ≠ 3 then 10 else 0
def fltC (c : Cl) : Int := flt (c.1 : Int) c.2.1 (bytesT c.2.2)
def ffM (l : List Fd) (op f : Nat) (c : Cl) (n : Nat) : Int := if 0 < n then 90 else match place l f with
  | none => 81
  | some j => if fltC c = 0 then fvM op c (kindAt l j) else if fltC c = 1 then 90 else fltC c
def fkM (op f : Nat) (c : Cl) (n : Nat) : Int := if f ≠ 0 then 90 else if ¬ (c.1 = 0 ∧ c.2.1 = 0 ∧ (bytesT c.2.2).toList.isEmpty = true) then 90 else if op = 8 ∧ n ≠ 1 then 90 else 0
def faultN (l : List Fd) (op f : Nat) (c : Cl) (n : Nat) : Int := if 1 ≤ op ∧ op ≤ 5 then ffM l op f c n else if 6 ≤ op ∧ op ≤ 8 then fkM op f c n else 90
 mutual
def firstM (l : List Fd) : PT → Int
  | .node op f c ks => if faultN l op f c ks.length ≠ 0 then faultN l op f c ks.length else firstAll l ks
def firstAll (l : List Fd) : List PT → Int
  | [] => 0
  | k :: ks => if firstM l k ≠ 0 then firstM l k else firstAll l ks
 end
theorem firstAll_step {l : List Fd} {ks : List PT} {i : Nat} (h : i < ks.length) : firstAll l (ks.drop i) = if firstM l ks[i] ≠ 0 then firstM l ks[i] else firstAll l (ks.drop (i + 1)) := by
  rw [List.drop_eq_getElem_cons h]; simp only [firstAll]
theorem firstAll_end {l : List Fd} {ks : List PT} : firstAll l (ks.drop ks.length) = 0 := by rw [List.drop_length]; simp only [firstAll]

set_option maxRecDepth 100000 in
set_option maxHeartbeats 4000000 in
theorem faultOfKids_any {w : World} {b off op f : Nat} {c : Cl} {a : Option Addr} {n cap : Nat} (hn : NodeAt w b off op f c (.slice a n cap)) : Calls Try.prog 73 #[.pointer (some ⟨b, off, none⟩)] w fun e w' => e = .returned (.int .i64 (fkM op f c n)) ∧ Below w.heap.size w w' := by
  obtain ⟨hb0, x0, x1, x2, x3, x4, x5⟩ := hn
  unfold fkM
  by_cases h0 : f = 0
  · subst h0
    rw [if_neg (by simp)]
    obtain ⟨ck, cn, cs⟩ := c
    simp only at *
    generalize bytesT cs = S at *
    by_cases hk : ck = 0
    · subst hk
      by_cases hcn : cn = 0
      · subst hcn
        by_cases hs : S.toList.isEmpty = true
        · obtain rfl := sEmpty hs
          rw [if_neg (fun h => h ⟨rfl, rfl, hs⟩)]
          clear hs
          by_cases h8 : op = 8
          · subst h8
            by_cases h1 : n = 1
            · subst h1
              rw [if_neg (by simp)]
              go_enter Try.func73, Try.ntmps73
              go_wp2_with fail
              go_ret
              exact ⟨rfl, Below.refl _ _⟩
            · rw [if_pos ⟨rfl, h1⟩]
              have h1' : ((n : Int) != 1) = true := by simp; omega
              clear h1
              go_enter Try.func73, Try.ntmps73
              go_wp2_with fail
              go_ret
              exact ⟨rfl, Below.refl _ _⟩
          · rw [if_neg (fun h => h8 h.1)]
            have h8' : ((op : Int) == 8) = false := beq_eq_false_iff_ne.2 (by omega)
            clear h8
            go_enter Try.func73, Try.ntmps73
            go_wp2_with fail
            go_ret
            exact ⟨rfl, Below.refl _ _⟩
        · rw [if_pos (fun h => hs h.2.2)]
          have hs' : (S.toList == (⟨#[]⟩ : ByteArray).toList) = false := by
            cases hq : S.toList with
            | nil => rw [hq] at hs; simp at hs
            | cons a l =>
              have e0 : (⟨#[]⟩ : ByteArray).toList = [] := by rw [ByteArray.toList_eq]
              rw [e0]
              rfl
          have hs2 : S.toList.isEmpty = false := by simpa using hs
          clear hs
          go_enter Try.func73, Try.ntmps73
          go_wp2_with fail
          go_ret
          exact ⟨rfl, Below.refl _ _⟩
      · rw [if_pos (fun h => hcn h.2.1)]
        have hcn' : (cn == 0) = false := beq_eq_false_iff_ne.2 hcn
        clear hcn
        go_enter Try.func73, Try.ntmps73
        go_wp2_with fail
        go_ret
        exact ⟨rfl, Below.refl _ _⟩
    · rw [if_pos (fun h => hk h.1)]
      have hk' : ((ck : Int) == 0) = false := beq_eq_false_iff_ne.2 (by omega)
      clear hk
      go_enter Try.func73, Try.ntmps73
      go_wp2_with fail
      go_ret
      exact ⟨rfl, Below.refl _ _⟩
  · rw [if_pos h0]
    have h0' : ((f : Int) != 0) = true := by simp; omega
    clear h0
    go_enter Try.func73, Try.ntmps73
    go_wp2_with fail
    go_ret
    exact ⟨rfl, Below.refl _ _⟩

set_option maxRecDepth 100000 in
set_option maxHeartbeats 4000000 in
theorem faultOfValue_any {w : World} {b off op f : Nat} {c : Cl} {kv : Value} (hn : NodeAt w b off op f c kv) (k : Nat) : Calls Try.prog 82 #[.pointer (some ⟨b, off, none⟩), .int .u8 (k : Int)] w fun e w' => e = .returned (.int .i64 (fvM op c k)) ∧ Below w.heap.size w w' := by
  obtain ⟨hb0, x0, x1, x2, x3, x4, x5⟩ := hn
  unfold fvM
  by_cases h5 : op = 5
  · subst h5
    rw [if_pos rfl]
    by_cases h0 : c.1 = 0
    · rw [if_pos h0]
      have h0' : ((c.1 : Int) == 0) = true := by rw [h0]; rfl
      clear h0
      go_enter Try.func82, Try.ntmps82
      go_wp2_with fail
      go_ret
      exact ⟨rfl, Below.refl _ _⟩
    · rw [if_neg h0]
      have h0' : ((c.1 : Int) == 0) = false := beq_eq_false_iff_ne.2 (by omega)
      clear h0
      go_enter Try.func82, Try.ntmps82
      go_wp2_with fail
      go_ret
      exact ⟨rfl, Below.refl _ _⟩
  · rw [if_neg h5]
    have n5 : ((op : Int) == 5) = false := beq_eq_false_iff_ne.2 (by omega)
    clear h5
    by_cases h0 : c.1 = 0
    · rw [if_pos h0]
      have h0' : ((c.1 : Int) == 0) = true := by rw [h0]; rfl
      clear h0
      go_enter Try.func82, Try.ntmps82
      go_wp2_with fail
      go_ret
      exact ⟨rfl, Below.refl _ _⟩
    · rw [if_neg h0]
      have h0' : ((c.1 : Int) == 0) = false := beq_eq_false_iff_ne.2 (by omega)
      clear h0
      by_cases hk : c.1 ≠ k
      · rw [if_pos hk]
        have hk' : ((c.1 : Int) != (k : Int)) = true := by simp; omega
        clear hk
        go_enter Try.func82, Try.ntmps82
        go_wp2_with fail
        go_ret
        exact ⟨rfl, Below.refl _ _⟩
      · rw [if_neg hk]
        have hk' : ((c.1 : Int) != (k : Int)) = false := by simp; omega
        clear hk
        by_cases h4 : op = 4
        · subst h4
          by_cases h3 : k = 3
          · subst h3
            rw [if_neg (by simp)]
            go_enter Try.func82, Try.ntmps82
            go_wp2_with fail
            go_ret
            exact ⟨rfl, Below.refl _ _⟩
          · rw [if_pos ⟨rfl, h3⟩]
            have h3' : ((k : Int) != 3) = true := by simp; omega
            clear h3
            go_enter Try.func82, Try.ntmps82
            go_wp2_with fail
            go_ret
            exact ⟨rfl, Below.refl _ _⟩
        · rw [if_neg (fun h => h4 h.1)]
          have h4' : ((op : Int) == 4) = false := beq_eq_false_iff_ne.2 (by omega)
          clear h4
          go_enter Try.func82, Try.ntmps82
          go_wp2_with fail
          go_ret
          exact ⟨rfl, Below.refl _ _⟩

set_option maxRecDepth 100000 in
set_option maxHeartbeats 4000000 in
theorem faultOfField_any {w : World} {b off op f si : Nat} {c : Cl} {a : Option Addr} {n cap : Nat} {fv : Value} {l : List Fd} (hn : NodeAt w b off op f c (.slice a n cap)) (hs : Sf w fv l) (hok : Okc c) : Calls Try.prog 72 #[.pointer (some ⟨b, off, none⟩), .agg #[.int .u32 (si : Int), fv]] w fun e w' => e = .returned (.int .i64 (ffM l op f c n)) ∧ Below w.heap.size w w' := by
  obtain ⟨fa, fcap, rfl, hfc, hfm⟩ := hs.form
  have hb1 := below_one w (.cells #[.int .u32 (si : Int), .slice fa l.length fcap] 42)
  have HB1 := hidden hb1
  obtain ⟨e0, e1⟩ := cell_new2 w (.int .u32 (si : Int)) (.slice fa l.length fcap) 42
  have hz : w.heap.size < (w.alloc (.cells #[.int .u32 (si : Int), .slice fa l.length fcap] 42)).heap.size := by rw [World.size_alloc]; omega
  have HS := hidden (hs.kept hb1)
  have HN := hidden (hn.kept hb1)
  have HO := hidden hok
  generalize hA : w.alloc (.cells #[.int .u32 (si : Int), .slice fa l.length fcap] 42) = A at *
  clear hb1 hs hn hok
  obtain ⟨hb0, x0, x1, x2, x3, x4, x5⟩ := HN.out
  have HD : Hid (ffM l op f c n = if 0 < n then 90 else match place l f with
    | none => 81
    | some j => if fltC c = 0 then fvM op c (kindAt l j) else if fltC c = 1 then 90 else fltC c) := hidden rfl
  generalize ffM l op f c n = R at *
  by_cases hn0 : 0 < n
  · rw [if_pos hn0] at HD
    have hn0' : (0 : Int) < (n : Int) := by omega
    clear hn0
    go_enter Try.func72, Try.ntmps72
    go_wp2_with fail
    go_ret
    rw [HD.out]
    exact ⟨rfl, HB1.out⟩
  · rw [if_neg hn0] at HD
    obtain rfl : n = 0 := by omega
    clear hn0
    have HPL := hidden (fun (U : World) (hU : Below A.heap.size A U) => place_any (HS.out.kept hU) si f)
    have hr0 : ∀ s : SubW (fun x => Below A.heap.size A x), s.w.cell? ⟨w.heap.size, 0, none⟩ = some (.int .u32 (si : Int)) := fun s => (s.ok.cell (p := ⟨w.heap.size, 0, none⟩) hz).trans e0
    have hr1 : ∀ s : SubW (fun x => Below A.heap.size A x), s.w.cell? ⟨w.heap.size, 1, none⟩ = some (.slice fa l.length fcap) := fun s => (s.ok.cell (p := ⟨w.heap.size, 1, none⟩) hz).trans e1
    have hr2 : ∀ s : SubW (fun x => Below A.heap.size A x), s.w.cell? ⟨b, off + 1, none⟩ = some (.int .u32 (f : Int)) := fun s => (s.ok.cell (p := ⟨b, off + 1, none⟩) hb0).trans x1
    haveI : Nonempty (SubW (fun x => Below A.heap.size A x)) := ⟨SubW.mk A (Below.refl _ _)⟩
    go_enter Try.func72, Try.ntmps72
    go_wp2_with fail
    refine wp_region_still (S := fun x => Below A.heap.size A x) (by kernel_rfl) (by kernel_rfl) (by first | exact (Below.refl _ _).drew | (rw [hA]; exact (Below.refl _ _).drew)) ?_
    repeat (go_big_quiet_step ((go_at_call 75; exact (HPL.out _ (SubW.ok _)).mono (fun e w' h => ⟨h.1, SubW.mk w' (below_then (SubW.ok _) h.2), rfl⟩))))
    refine wpQuiet_nil ?_
    rintro _ ⟨s2, rfl⟩
    obtain ⟨w2, hw2⟩ : ∃ x, x = s2.w := ⟨_, rfl⟩
    have hb2 := s2.ok
    rw [← hw2] at hb2 ⊢
    have HB2 := hidden hb2
    have HS2 := hidden (HS.out.kept hb2)
    have HN2 := hidden (HN.out.kept hb2)
    have g0 := (hb2.cell (p := ⟨w.heap.size, 0, none⟩) hz).trans e0
    have g1 := (hb2.cell (p := ⟨w.heap.size, 1, none⟩) hz).trans e1
    have hz2 := Nat.lt_of_lt_of_le hz hb2.size
    clear hw2 hb2 hr0 hr1 hr2 x0 x1 x2 x3 x4 x5 HN HS e0 e1 hz hA hb0
    obtain ⟨hb0, x0, x1, x2, x3, x4, x5⟩ := HN2.out
    cases hp : place l f with
    | none =>
      rw [hp] at HD
      simp only [Option.isSome_none, Option.getD_none]
      clear hp
      go_wp2_with fail
      go_ret
      rw [HD.out]
      exact ⟨rfl, below_then HB1.out HB2.out⟩
    | some j =>
      rw [hp] at HD
      have hj := place_lt hp
      simp only [Option.isSome_some, Option.getD_some]
      clear hp
      go_wp2_with fail
      refine (of_any HO.out _).mono ?_
      rintro e w3 ⟨rfl, hb3⟩
      have HB3 := hidden (below_then HB2.out hb3)
      have hN3 := HN2.out.kept hb3
      have k0 := (hb3.cell (p := ⟨w.heap.size, 0, none⟩) hz2).trans g0
      have k1 := (hb3.cell (p := ⟨w.heap.size, 1, none⟩) hz2).trans g1
      obtain ⟨gb, goff, rfl, hgb, y0, y1, y2, y3⟩ := (HS2.out.kept hb3).at hj
      clear hb3 x0 x1 x2 x3 x4 x5 g0 g1 hz2 hb0
      have HN3 := hidden hN3
      clear hN3
      have HKA : Hid (kindAt l j = l[j].2.2.1) := hidden (by unfold kindAt; rw [List.getElem?_eq_getElem hj])
      have hj' : (j : Int) < (l.length : Int) := by omega
      have HE : Hid (fltC c = flt (c.1 : Int) c.2.1 (bytesT c.2.2)) := hidden rfl
      rw [HKA.out] at HD
      generalize l[j].2.2.1 = kd at *
      obtain ⟨fl, hfl⟩ : ∃ fl, fl = flt (c.1 : Int) c.2.1 (bytesT c.2.2) := ⟨_, rfl⟩
      rw [← hfl] at HE ⊢
      rw [HE.out] at HD
      clear hfl HE HKA
      by_cases h0 : fl = 0
      · subst h0
        simp only [if_true] at HD
        go_wp2_with fail
        refine (faultOfValue_any HN3.out kd).mono ?_
        rintro e w4 ⟨rfl, hb4⟩
        have HB4 := hidden (below_then HB3.out hb4)
        clear hb4
        go_wp2_with fail
        go_ret
        rw [HD.out]
        exact ⟨rfl, below_then HB1.out HB4.out⟩
      · have h0' : (fl == 0) = false := beq_eq_false_iff_ne.2 h0
        simp only [if_neg h0] at HD
        by_cases h1 : fl = 1
        · subst h1
          simp only [if_true] at HD
          clear h0
          go_wp2_with fail
          go_ret
          rw [HD.out]
          exact ⟨rfl, below_then HB1.out HB3.out⟩
        · have h1' : (fl == 1) = false := beq_eq_false_iff_ne.2 h1
          simp only [if_neg h1] at HD
          clear h0 h1
          go_wp2_with fail
          go_ret
          rw [HD.out]
          exact ⟨rfl, below_then HB1.out HB3.out⟩

set_option maxRecDepth 100000 in
set_option maxHeartbeats 4000000 in
theorem pfault_any {w : World} {b off op f si : Nat} {c : Cl} {a : Option Addr} {n cap : Nat} {fv : Value} {l : List Fd} (hn : NodeAt w b off op f c (.slice a n cap)) (hs : Sf w fv l) (hok : Okc c) : Calls Try.prog 56 #[.pointer (some ⟨b, off, none⟩), .agg #[.int .u32 (si : Int), fv]] w fun e w' => e = .returned (.int .i64 (faultN l op f c n)) ∧ Below w.heap.size w w' := by
  obtain ⟨fa, fcap, rfl, hfc, hfm⟩ := hs.form
  have hb1 := below_one w (.cells #[.int .u32 (si : Int), .slice fa l.length fcap] 42)
  have HB1 := hidden hb1
  obtain ⟨e0, e1⟩ := cell_new2 w (.int .u32 (si : Int)) (.slice fa l.length fcap) 42
  have HS := hidden (hs.kept hb1)
  have HN := hidden (hn.kept hb1)
  have HO := hidden hok
  generalize hA : w.alloc (.cells #[.int .u32 (si : Int), .slice fa l.length fcap] 42) = A at *
  clear hb1 hs hn hok
  obtain ⟨hb0, x0, x1, x2, x3, x4, x5⟩ := HN.out
  have HD : Hid (faultN l op f c n = if 1 ≤ op ∧ op ≤ 5 then ffM l op f c n else if 6 ≤ op ∧ op ≤ 8 then fkM op f c n else 90) := hidden rfl
  generalize faultN l op f c n = R at *
  by_cases h5 : 1 ≤ op ∧ op ≤ 5
  · rw [if_pos h5] at HD
    have HC := hidden (fun (U : World) (hU : Below A.heap.size A U) => faultOfField_any (si := si) (HN.out.kept hU) (HS.out.kept hU) HO.out)
    generalize ffM l op f c n = R2 at *
    obtain h | h | h | h | h : op = 1 ∨ op = 2 ∨ op = 3 ∨ op = 4 ∨ op = 5 := by omega
    all_goals
      subst h
      clear h5
      go_enter Try.func56, Try.ntmps56
      go_wp2_with fail
      try rw [hA]
      refine (HC.out _ (Below.refl _ _)).mono ?_
      rintro e w2 ⟨rfl, hb2⟩
      have HB2 := hidden (below_then HB1.out hb2)
      clear hb2
      go_wp2_with fail
      go_ret
      rw [HD.out]
      exact ⟨rfl, HB2.out⟩
  · rw [if_neg h5] at HD
    have n1 : ((op : Int) == 1) = false := beq_eq_false_iff_ne.2 (by omega)
    have n2 : ((op : Int) == 2) = false := beq_eq_false_iff_ne.2 (by omega)
    have n3 : ((op : Int) == 3) = false := beq_eq_false_iff_ne.2 (by omega)
    have n4 : ((op : Int) == 4) = false := beq_eq_false_iff_ne.2 (by omega)
    have n5 : ((op : Int) == 5) = false := beq_eq_false_iff_ne.2 (by omega)
    by_cases h8 : 6 ≤ op ∧ op ≤ 8
    · rw [if_pos h8] at HD
      have HC := hidden (fun (U : World) (hU : Below A.heap.size A U) => faultOfKids_any (HN.out.kept hU))
      generalize fkM op f c n = R2 at *
      obtain h | h | h : op = 6 ∨ op = 7 ∨ op = 8 := by omega
      all_goals
        subst h
        clear h5 h8 n1 n2 n3 n4 n5
        go_enter Try.func56, Try.ntmps56
        go_wp2_with fail
        try rw [hA]
        refine (HC.out _ (Below.refl _ _)).mono ?_
        rintro e w2 ⟨rfl, hb2⟩
        have HB2 := hidden (below_then HB1.out hb2)
        clear hb2
        go_wp2_with fail
        go_ret
        rw [HD.out]
        exact ⟨rfl, HB2.out⟩
    · rw [if_neg h8] at HD
      have n6 : ((op : Int) == 6) = false := beq_eq_false_iff_ne.2 (by omega)
      have n7 : ((op : Int) == 7) = false := beq_eq_false_iff_ne.2 (by omega)
      have n8 : ((op : Int) == 8) = false := beq_eq_false_iff_ne.2 (by omega)
      clear h5 h8
      go_enter Try.func56, Try.ntmps56
      go_wp2_with fail
      go_ret
      rw [HD.out]
      exact ⟨rfl, by first | exact HB1.out | (rw [hA]; exact HB1.out)⟩

set_option maxRecDepth 100000 in
set_option maxHeartbeats 4000000 in
theorem firstFault_any {si : Nat} {fv : Value} {l : List Fd} (t : PT) : Okp t → ∀ (w : World) (b off : Nat), Sf w fv l → Lies w b off t →
    Calls Try.prog 39 #[.pointer (some ⟨b, off, none⟩), .agg #[.int .u32 (si : Int), fv]] w fun e w' => e = .returned (.int .i64 (firstM l t)) ∧ Below w.heap.size w w' := by
  refine PT.ind (P := fun t => Okp t → ∀ (w : World) (b off : Nat), Sf w fv l → Lies w b off t → Calls Try.prog 39 #[.pointer (some ⟨b, off, none⟩), .agg #[.int .u32 (si : Int), fv]] w fun e w' => e = .returned (.int .i64 (firstM l t)) ∧ Below w.heap.size w w') (fun op f c ks ih hok w b off hs hlies => ?_) t
  have HIH := hidden ih
  simp only [Okp] at hok
  obtain ⟨_, _, hoc, hoks⟩ := hok
  have HOC := hidden hoc
  have HOK := hidden hoks.get
  obtain ⟨fa, fcap, rfl, hfc, hfm⟩ := hs.form
  have hb1 := below_one w (.cells #[.int .u32 (si : Int), .slice fa l.length fcap] 42)
  have HB1 := hidden hb1
  obtain ⟨e0, e1⟩ := cell_new2 w (.int .u32 (si : Int)) (.slice fa l.length fcap) 42
  have hz : w.heap.size < (w.alloc (.cells #[.int .u32 (si : Int), .slice fa l.length fcap] 42)).heap.size := by rw [World.size_alloc]; omega
  have HS := hidden (hs.kept hb1)
  obtain ⟨a, cap, hnode, hkids⟩ := (Lies.kept hb1 _ _ _ hlies).open
  generalize hA : w.alloc (.cells #[.int .u32 (si : Int), .slice fa l.length fcap] 42) = A at *
  have HN := hidden hnode
  have HK := hidden hkids
  have hkf := hkids.form
  obtain ⟨_, _, hke, hkc, hkm⟩ := hkf
  simp only [Value.slice.injEq] at hke
  obtain ⟨rfl, _, rfl⟩ := hke
  have hkm' : ks.length ≤ 9223372036854775807 := by unfold maxLen at hkm; omega
  clear hb1 hs hlies hnode hkids hoc hoks ih hkm
  have HD : Hid (firstM l (.node op f c ks) = if faultN l op f c ks.length ≠ 0 then faultN l op f c ks.length else firstAll l ks) := hidden (by simp only [firstM])
  generalize firstM l (.node op f c ks) = R at *
  have HC := hidden (fun (U : World) (hU : Below A.heap.size A U) => pfault_any (si := si) (HN.out.kept hU) (HS.out.kept hU) HOC.out)
  generalize faultN l op f c ks.length = e1v at *
  go_enter Try.func39, Try.ntmps39
  go_wp2_with fail
  try rw [hA]
  refine (HC.out _ (Below.refl _ _)).mono ?_
  rintro e w2 ⟨rfl, hb2⟩
  have HB2 := hidden hb2
  have HN2 := hidden (HN.out.kept hb2)
  have g0 := (hb2.cell (p := ⟨w.heap.size, 0, none⟩) hz).trans e0
  have g1 := (hb2.cell (p := ⟨w.heap.size, 1, none⟩) hz).trans e1
  have hz2 := Nat.lt_of_lt_of_le hz hb2.size
  have hzA := hb2.size
  clear hb2 e0 e1 hA
  by_cases h0 : e1v = 0
  · subst h0
    rw [if_neg (by simp)] at HD
    have HD' : Hid (R = firstAll l (ks.drop 0)) := HD
    clear HD
    obtain ⟨hb0, x0, x1, x2, x3, x4, x5⟩ := HN2.out
    go_wp2_with fail
    clear x0 x1 x2 x3 x4 x5
    go_loopw [19] (fun i wr => ∃ k : Nat, k ≤ ks.length ∧ i = .int .i64 (k : Int) ∧ R = firstAll l (ks.drop k) ∧ Below w2.heap.size w2 wr) (fun i _ => ks.length - (intOf i).toNat)
    case atStart => exact ⟨0, by omega, rfl, HD'.out, Below.refl _ _⟩
    case round =>
      obtain ⟨k, hk, rfl, hfe, hbel⟩ := hrel
      have HF := hidden hfe
      have HB := hidden hbel
      have hzr := hbel.size
      clear hfe hbel HD'
      by_cases hlt : k < ks.length
      · have hbA : Below A.heap.size A wr := below_then HB2.out HB.out
        obtain ⟨g, o, rfl, hlk⟩ := (HK.out.kept hbA).at hlt
        have hlt' : (k : Int) < (ks.length : Int) := by omega
        obtain ⟨hb1, x0, x1, x2, x3, x4, x5⟩ := HN2.out.kept HB.out
        have HT := hidden (HF.out.trans (firstAll_step hlt))
        have HSA := hidden (HS.out.kept hbA)
        have HCK := hidden (fun (U : World) (hU : Below wr.heap.size wr U) => HIH.out ks[k] (List.getElem_mem hlt) (HOK.out _ (List.getElem_mem hlt)) U g (o + k * 6) (HSA.out.kept hU) (Lies.kept hU _ _ _ hlk))
        generalize firstM l ks[k] = ev at *
        clear hlk HF hbA
        have hr0 : ∀ s : SubW (fun x => Below wr.heap.size wr x), s.w.cell? ⟨w.heap.size, 0, none⟩ = some (.int .u32 (si : Int)) := fun s => (s.ok.cell (p := ⟨w.heap.size, 0, none⟩) (show w.heap.size < _ by omega)).trans ((HB.out.cell (p := ⟨w.heap.size, 0, none⟩) hz2).trans g0)
        have hr1 : ∀ s : SubW (fun x => Below wr.heap.size wr x), s.w.cell? ⟨w.heap.size, 1, none⟩ = some (.slice fa l.length fcap) := fun s => (s.ok.cell (p := ⟨w.heap.size, 1, none⟩) (show w.heap.size < _ by omega)).trans ((HB.out.cell (p := ⟨w.heap.size, 1, none⟩) hz2).trans g1)
        have hr2 : ∀ s : SubW (fun x => Below wr.heap.size wr x), s.w.cell? ⟨b, off + 5, none⟩ = some (.slice (some ⟨g, o, none⟩) ks.length cap) := fun s => (s.ok.cell (p := ⟨b, off + 5, none⟩) hb1).trans x5
        haveI : Nonempty (SubW (fun x => Below wr.heap.size wr x)) := ⟨SubW.mk wr (Below.refl _ _)⟩
        clear x0 x1 x2 x3 x4 x5
        go_wp2_with fail
        refine wp_region_still (S := fun x => Below wr.heap.size wr x) (by kernel_rfl) (by kernel_rfl) (Below.refl _ _).drew ?_
        repeat (go_big_quiet_step ((go_at_call 39; exact (HCK.out _ (SubW.ok _)).mono (fun e w' h => ⟨h.1, SubW.mk w' (below_then (SubW.ok _) h.2), rfl⟩))))
        refine wpQuiet_nil ?_
        rintro _ ⟨s3, rfl⟩
        obtain ⟨w3, hw3⟩ : ∃ x, x = s3.w := ⟨_, rfl⟩
        have hb3 := s3.ok
        rw [← hw3] at hb3 ⊢
        have HB3 := hidden (HB.out.trans (hb3.mono hzr))
        clear hw3 hb3 hr0 hr1 hr2
        by_cases hv : ev = 0
        · subst hv
          rw [if_neg (by simp)] at HT
          go_wp2_with fail
          go_roundw
          case rel => exact ⟨k + 1, by omega, by go_num, HT.out, HB3.out⟩
          case measure => simp [intOf]; omega
        · rw [if_pos hv] at HT
          have hv' : (ev != 0) = true := by simpa using hv
          clear hv
          go_wp2_with fail
          go_ret
          rw [HT.out]
          exact ⟨rfl, below_then HB1.out (below_then HB2.out HB3.out)⟩
      · obtain rfl : k = ks.length := by omega
        have hge : ¬ ((ks.length : Nat) : Int) < (ks.length : Int) := by omega
        have HT := hidden (HF.out.trans firstAll_end)
        clear HF
        go_wp2_with fail
        go_ret
        rw [HT.out]
        exact ⟨rfl, below_then HB1.out (below_then HB2.out HB.out)⟩
  · rw [if_pos h0] at HD
    have h0' : (e1v != 0) = true := by simpa using h0
    clear h0
    go_wp2_with fail
    go_ret
    rw [HD.out]
    exact ⟨rfl, below_then HB1.out HB2.out⟩

/-- What is left of the room for nodes. -/
def RoomPost (w : World) (t : PT) (m d : Nat) (e : Ending) (w' : World) : Prop := (∃ n : Int, e = .returned (.int .i64 n) ∧ -1 ≤ n ∧ n < 100 ∧ (∀ op f c, t = .node op f c [] → 0 < m → 0 < d → n = (m : Int) - 1)) ∧ w' = w

set_option maxRecDepth 100000 in
set_option maxHeartbeats 4000000 in
theorem room_any (t : PT) : ∀ (w : World) (b off m d : Nat), m < 100 → d < 100 → Lies w b off t → Calls Try.prog 38 #[.pointer (some ⟨b, off, none⟩), .int .i64 (m : Int), .int .i64 (d : Int)] w (RoomPost w t m d) := by
  refine PT.ind (P := fun t => ∀ (w : World) (b off m d : Nat), m < 100 → d < 100 → Lies w b off t → Calls Try.prog 38 #[.pointer (some ⟨b, off, none⟩), .int .i64 (m : Int), .int .i64 (d : Int)] w (RoomPost w t m d)) (fun op f c ks ih w b off m d hm hd hlies => ?_) t
  have HIH := hidden ih
  obtain ⟨a, cap, hnode, hkids⟩ := hlies.open
  have HK := hidden hkids
  have hkf := hkids.form
  obtain ⟨_, _, hke, hkc, hkm⟩ := hkf
  simp only [Value.slice.injEq] at hke
  obtain ⟨rfl, _, rfl⟩ := hke
  have hkm' : ks.length ≤ 9223372036854775807 := by unfold maxLen at hkm; omega
  clear hlies hkids ih hkm
  obtain ⟨hb0, x0, x1, x2, x3, x4, x5⟩ := hnode
  have HP0 : Hid (∀ w', m = 0 ∨ d = 0 → w' = w → RoomPost w (.node op f c ks) m d (.returned (.int .i64 (-1))) w') := hidden (fun w' h hw => ⟨⟨-1, rfl, by omega, by omega, fun _ _ _ _ h1 h2 => by omega⟩, hw⟩)
  by_cases hm0 : m = 0
  · subst hm0
    go_enter Try.func38, Try.ntmps38
    go_wp2_with fail
    go_ret
    exact HP0.out _ (by simp) rfl
  have hm0' : ((m : Int) == 0) = false := beq_eq_false_iff_ne.2 (by omega)
  by_cases hd0 : d = 0
  · subst hd0
    go_enter Try.func38, Try.ntmps38
    go_wp2_with fail
    go_ret
    exact HP0.out _ (by simp) rfl
  have hd0' : ((d : Int) == 0) = false := beq_eq_false_iff_ne.2 (by omega)
  have HMD : Hid (0 < m ∧ 0 < d ∧ m < 100 ∧ d < 100) := hidden ⟨by omega, by omega, hm, hd⟩
  clear HP0
  go_enter Try.func38, Try.ntmps38
  go_wp2_with fail
  go_loopw [1, 21] (fun s i wr => ∃ k n : Nat, k ≤ ks.length ∧ i = .int .i64 (k : Int) ∧ s = .int .i64 (n : Int) ∧ n < 100 ∧ (k = 0 → (n : Int) = (m : Int) - 1) ∧ wr = w) (fun _ i _ => ks.length - (intOf i).toNat)
  case atStart => exact ⟨0, m - 1, by omega, rfl, by congr 1; omega, by omega, fun _ => by omega, rfl⟩
  case round =>
    obtain ⟨k, n, hk, rfl, rfl, hn, hn0, rfl⟩ := hrel
    have HN0 := hidden hn0
    clear hn0
    by_cases hlt : k < ks.length
    · obtain ⟨g, o, rfl, hlk⟩ := HK.out.at hlt
      have hlt' : (k : Int) < (ks.length : Int) := by omega
      have hdd : ((d : Int) - 1) = ((d - 1 : Nat) : Int) := by omega
      have HC : Hid (∀ z : Int, z = (d : Int) - 1 → Calls Try.prog 38 #[.pointer (some ⟨g, o + k * 6, none⟩), .int .i64 (n : Int), .int .i64 z] wr (RoomPost wr ks[k] n (d - 1))) := hidden (fun z hz => by rw [hz, hdd]; exact HIH.out ks[k] (List.getElem_mem hlt) wr g (o + k * 6) n (d - 1) hn (by omega) hlk)
      have HNE : Hid (∀ op' f' c', ¬ (PT.node op f c ks = .node op' f' c' [])) := hidden (fun op' f' c' h => by
        simp only [PT.node.injEq] at h
        rw [h.2.2.2] at hlt
        simp at hlt)
      clear hlk hdd
      go_wp2_with fail
      refine (HC.out _ (by omega)).mono ?_
      rintro e w2 ⟨⟨z, rfl, hz1, hz2, _⟩, rfl⟩
      by_cases hz : z < 0
      · go_wp2_with fail
        go_ret
        exact ⟨⟨z, rfl, hz1, hz2, fun _ _ _ h => absurd h (HNE.out _ _ _)⟩, rfl⟩
      · obtain ⟨zn, rfl⟩ : ∃ zn : Nat, z = (zn : Int) := ⟨z.toNat, by omega⟩
        go_wp2_with fail
        go_roundw
        case rel => exact ⟨k + 1, zn, by omega, by go_num, rfl, by omega, fun h => by omega, trivial⟩
        case measure => simp [intOf]; omega
    · obtain rfl : k = ks.length := by omega
      have hge : ¬ ((ks.length : Nat) : Int) < (ks.length : Int) := by omega
      go_wp2_with fail
      go_ret
      exact ⟨⟨(n : Int), rfl, by omega, by omega, fun op' f' c' h _ _ => HN0.out (by simp only [PT.node.injEq] at h; rw [h.2.2.2]; rfl)⟩, rfl⟩

/-- What Check says. -/
def CheckPost (w : World) (l : List Fd) (t : PT) (e : Ending) (w' : World) : Prop := (∃ n : Int, e = .returned (.int .i64 n) ∧ (∀ op f c, t = .node op f c [] → n = firstM l t)) ∧ Below w.heap.size w w'
set_option maxRecDepth 100000 in
set_option maxHeartbeats 4000000 in
theorem check9_any {w : World} {op f si : Nat} {c : Cl} {ks : List PT} {kv fv : Value} {l : List Fd} (hk : Kids w kv ks) (hok : Okp (.node op f c ks)) (hs : Sf w fv l) :
    Calls Try.prog 14 #[.agg #[.int .u8 (op : Int), .int .u32 (f : Int), .int .u8 (c.1 : Int), .int .i64 c.2.1, .string (bytesT c.2.2), kv], .agg #[.int .u32 (si : Int), fv]] w (CheckPost w l (.node op f c ks)) := by
  have HK := hidden hk
  have HS := hidden hs
  have HO := hidden hok
  obtain ⟨ka, kcap, rfl, _, _⟩ := hk.form
  obtain ⟨fa, fcap, rfl, _, _⟩ := hs.form
  clear hk hs hok
  have hn := node_new w op f c (.slice ka ks.length kcap)
  have hb1 := below_one w (.cells #[.int .u8 (op : Int), .int .u32 (f : Int), .int .u8 (c.1 : Int), .int .i64 c.2.1, .string (bytesT c.2.2), .slice ka ks.length kcap] 39)
  generalize hA : w.alloc (.cells #[.int .u8 (op : Int), .int .u32 (f : Int), .int .u8 (c.1 : Int), .int .i64 c.2.1, .string (bytesT c.2.2), .slice ka ks.length kcap] 39) = A at *
  have hb2 := below_one A (.cells #[.int .u32 (si : Int), .slice fa l.length fcap] 42)
  obtain ⟨e0, e1⟩ := cell_new2 A (.int .u32 (si : Int)) (.slice fa l.length fcap) 42
  generalize hB : A.alloc (.cells #[.int .u32 (si : Int), .slice fa l.length fcap] 42) = B at *
  have hbw : Below w.heap.size w B := below_then hb1 hb2
  have HLI : Hid (Lies B w.heap.size 0 (.node op f c ks)) := hidden (Lies.shut (hn.kept hb2) (HK.out.kept hbw))
  have HSB := hidden (HS.out.kept hbw)
  have HBW := hidden hbw
  clear hn hb1 hb2 hbw
  go_enter Try.func14, Try.ntmps14
  go_wp2_with fail
  refine (room_any (.node op f c ks) _ _ _ 32 8 (by omega) (by omega) HLI.out).mono ?_
  rintro e w2 ⟨⟨z, rfl, hz1, hz2, hz3⟩, rfl⟩
  have HZ3 := hidden hz3
  clear hz3
  by_cases hz : z < 0
  · go_wp2_with fail
    go_ret
    exact ⟨⟨90, rfl, fun op' f' c' h => by have := HZ3.out op' f' c' h (by omega) (by omega); omega⟩, HBW.out⟩
  · go_wp2_with fail
    refine (firstFault_any (.node op f c ks) HO.out _ _ _ HSB.out HLI.out).mono ?_
    rintro e w3 ⟨rfl, hb3⟩
    have HB3 := hidden hb3
    clear hb3
    go_wp2_with fail
    go_ret
    exact ⟨⟨_, rfl, fun _ _ _ _ => rfl⟩, below_then HBW.out HB3.out⟩
end Go.Proofs.Ytfcnoeehfhncjaa
