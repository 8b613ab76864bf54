/- The reader of layer column: number, choice, packed, lastNumbers, countedNumbers. -/
import Derived.Test.YtcmmednihoaekaaGreatRdA
set_option linter.unusedVariables false
set_option linter.unusedSimpArgs false
namespace Go.Proofs.YtcmmednihoaekaaGreat
open Go.RowKit Go.Lib

set_option maxRecDepth 100000 in
set_option maxHeartbeats 2000000 in
theorem cnumber_any {w : World} {p f : Nat} {b : List Nat} (h : Rs w p b f) :
    Calls Tryz.prog 139 #[.pointer (some ⟨p, 0, none⟩)] w fun r w' => r = .returned (.int .u64 ((gt b).1 : Int)) ∧ Rs w' p (b.drop (gt b).2.1) (orf f (gt b).2.2) ∧ Fr p w.heap.size w w' := by
  have HS := hidden h
  have HB := hidden h.bs
  obtain ⟨a, cap, h0, h1, h2, h3, h4, h5, h6, h7, h8, h9, h10⟩ := h.cells
  obtain ⟨g1, g2, g3, g4⟩ := gt_form b
  have HG := hidden (get_sv HB.out h6)
  clear h h6 h7 h8 h9 h10 g4
  generalize gt b = x at *
  obtain ⟨n, u, c⟩ := x
  simp only at *
  unfold tell at HG
  go_enter Tryz.func139, Tryz.ntmps139
  go_wp2_with fail
  refine HG.out.mono ?_
  rintro e w1 ⟨rfl, rfl⟩
  go_wp2_with fail
  refine (crefuse_any HS.out c).mono ?_
  rintro e w2 ⟨rfl, hs2, hf2⟩
  obtain ⟨A0, Cap, k0, k1, k2, k3, k4, k5, k6, k7, k8, k9, k10⟩ := hs2.cells
  obtain ⟨A, hA, hSA⟩ := k9 u g2
  have HSA := hidden hSA
  have HF2 := hidden (hf2.set 0 (.slice A (b.length - u) (Cap - u)))
  clear hs2 hf2 k6 k7 k8 k9 k10 hSA h0 h1 h2 h3
  go_wp2_with fail
  go_ret
  exact ⟨rfl, HSA.out, HF2.out⟩

/-- Which of two bytes it is, and the fault behind it. -/
def chX : List Nat → Nat
  | [] => 0
  | x :: _ => if x ≤ 1 then x else 0
def chF (b : List Nat) (f : Nat) : Nat :=
  match b with
  | [] => orf f 30
  | x :: _ => if x ≤ 1 then f else orf f 40

theorem tk_one_cons (x : Nat) (t : List Nat) (f : Nat) : tkB 1 (x :: t) = [x] ∧ tkR 1 (x :: t) = t ∧ tkF 1 (x :: t) f = f := by
  refine ⟨?_, ?_, ?_⟩
  · unfold tkB; rw [if_neg (by simp)]; rfl
  · unfold tkR; rw [if_neg (by simp)]; rfl
  · unfold tkF; rw [if_neg (by simp)]

set_option maxRecDepth 100000 in
set_option maxHeartbeats 2000000 in
theorem choice_any {w : World} {p f : Nat} {b : List Nat} (h : Rs w p b f) :
    Calls Tryz.prog 82 #[.pointer (some ⟨p, 0, none⟩), .int .u8 0, .int .u8 1] w fun r w' => r = .returned (.int .u8 (chX b : Int)) ∧ Rs w' p b.tail (chF b f) ∧ Fr p w.heap.size w w' := by
  have HT := hidden (ctake_any h 1 (by omega))
  have HBS := hidden h.bs
  have hlt := h.lt
  clear h
  cases b with
  | nil =>
    have HE : Hid (tkB 1 [] = [] ∧ tkR 1 [] = [] ∧ tkF 1 [] f = orf f 30) := ⟨rfl, rfl, rfl⟩
    rw [HE.out.1, HE.out.2.1, HE.out.2.2] at HT
    go_enter Tryz.func82, Tryz.ntmps82
    go_wp2_with fail
    refine HT.out.mono ?_
    rintro e w1 ⟨⟨v1, rfl, hv1⟩, hs1, hf1⟩
    have HS1 := hidden hs1
    have HF1 := hidden hf1
    obtain ⟨a, cap, rfl, _, _⟩ := hv1.form1
    rw [vals_length] at *
    clear hs1 hf1 hv1
    go_wp2_with fail
    go_ret
    exact ⟨rfl, HS1.out, HF1.out⟩
  | cons x t =>
    rw [(tk_one_cons x t f).1, (tk_one_cons x t f).2.1, (tk_one_cons x t f).2.2] at HT
    have hx := HBS.out x (by simp)
    go_enter Tryz.func82, Tryz.ntmps82
    go_wp2_with fail
    refine HT.out.mono ?_
    rintro e w1 ⟨⟨v1, rfl, hv1⟩, hs1, hf1⟩
    have HS1 := hidden hs1
    have HF1 := hidden hf1
    obtain ⟨a, cap, rfl, _, hcm⟩ := hv1.form1
    have hcm' : cap ≤ 9223372036854775807 := by unfold maxLen at hcm; omega
    obtain ⟨g, off, rfl, hg, hcell⟩ := hv1.at1 (k := 0) (x := .int .u8 (x : Int)) rfl
    rw [Nat.add_zero] at hcell
    rw [vals_length] at *
    clear hv1 hcm
    by_cases hx1 : x ≤ 1
    · have HE : Hid (chX (x :: t) = x ∧ chF (x :: t) f = f) := ⟨if_pos hx1, if_pos hx1⟩
      obtain rfl | rfl : x = 0 ∨ x = 1 := by omega
      · clear hs1 hf1
        go_wp2_with fail
        go_ret
        rw [HE.out.1, HE.out.2]
        exact ⟨rfl, HS1.out, HF1.out⟩
      · clear hs1 hf1
        go_wp2_with fail
        go_ret
        rw [HE.out.1, HE.out.2]
        exact ⟨rfl, HS1.out, HF1.out⟩
    · have HE : Hid (chX (x :: t) = 0 ∧ chF (x :: t) f = orf f 40) := ⟨if_neg hx1, if_neg hx1⟩
      have hn0 : ((x : Int) != 0) = true := by
        have : (x : Int) ≠ 0 := by omega
        simpa using this
      have hn1 : ((x : Int) != 1) = true := by
        have : (x : Int) ≠ 1 := by omega
        simpa using this
      have HR := hidden (crefuse_any hs1 40)
      clear hs1 hf1 hx1
      go_wp2_with fail
      refine HR.out.mono ?_
      rintro e w2 ⟨rfl, hs2, hf2⟩
      have HS2 := hidden hs2
      have HF2 := hidden (HF1.out.trans (hf2.mono HF1.out.size))
      clear hs2 hf2
      go_wp2_with fail
      go_ret
      rw [HE.out.1, HE.out.2]
      exact ⟨rfl, HS2.out, HF2.out⟩

theorem OwnU.frp {p : Nat} {w w' : World} {B : Nat} {v : Value} {l : List Nat} (h : OwnU w B v l) (hf : Fr p w.heap.size w w') (hp : p < B) : OwnU w' B v l := hf.own h hp

theorem tkB_bs {c : Nat} {b : List Nat} (h : Bs b) : Bs (tkB c b) := by
  unfold tkB
  split
  · exact fun x hx => by simp at hx
  · exact h.take c

set_option maxRecDepth 100000 in
set_option maxHeartbeats 2000000 in
theorem cpacked_any {w : World} {p f : Nat} {b : List Nat} (h : Rs w p b f) (n : Nat) (hn : n ≤ 256) :
    Calls Tryz.prog 83 #[.pointer (some ⟨p, 0, none⟩), .int .i64 (n : Int)] w fun r w' => (∃ v, r = .returned v ∧ OwnU w' w.heap.size v (unR (tkB (by8 n) b) n 1)) ∧ Rs w' p (tkR (by8 n) b) (orf (tkF (by8 n) b f) (unE (tkB (by8 n) b) n 1)) ∧ Fr p w.heap.size w w' := by
  have HB := hidden h.bs
  have hlt := h.lt
  have hby2 : ((n : Int) + 8 - 1) / 8 = ((by8 n : Nat) : Int) := by unfold by8; omega
  have hbl : by8 n ≤ 2048 := by unfold by8; omega
  have HT := hidden (ctake_any h (by8 n) (by omega))
  have HBT := hidden (tkB_bs (c := by8 n) h.bs)
  clear h
  generalize by8 n = L at *
  generalize tkB L b = tb at *
  generalize tkR L b = tr at *
  generalize tkF L b f = tf at *
  go_enter Tryz.func83, Tryz.ntmps83
  go_wp2_with fail
  refine HT.out.mono ?_
  rintro e w1 ⟨⟨v1, rfl, hv1⟩, hs1, hf1⟩
  have HS1 := hidden hs1
  have HF1 := hidden hf1
  have hz1 := hf1.size
  have HU := hidden (unpack_any hv1.sx HBT.out (n : Int) 1)
  clear hs1 hf1 hv1
  go_wp2_with fail
  refine HU.out.mono ?_
  rintro e w2 ⟨v2, rfl, ho2, hb2⟩
  have HO2 := hidden (own_low ho2 hz1)
  have hz2 := hb2.size
  have HS2 := hidden (HS1.out.kept hb2 HS1.out.lt)
  have HF2 := hidden (HF1.out.trans (Fr.of_below (hb2.mono hz1)))
  clear ho2 hb2
  go_wp2_with fail
  refine (crefuse_any HS2.out _).mono ?_
  rintro e w3 ⟨rfl, hs3, hf3⟩
  have HS3 := hidden hs3
  have HO3 : Hid (OwnU w3 w.heap.size v2 (unR tb n 1)) := hidden (hf3.own HO2.out hlt)
  have HF3 := hidden (HF2.out.trans (hf3.mono (by omega)))
  clear hs3 hf3
  go_wp2_with fail
  go_ret
  exact ⟨⟨_, rfl, HO3.out⟩, HS3.out, HF3.out⟩

set_option maxRecDepth 100000 in
set_option maxHeartbeats 2000000 in
theorem lastNumbers_any {w : World} {p f : Nat} {b : List Nat} (h : Rs w p b f) (n : Nat) :
    Calls Tryz.prog 85 #[.pointer (some ⟨p, 0, none⟩), .int .i64 (n : Int)] w fun r w' => (∃ v, r = .returned v ∧ OwnI w' w.heap.size v (readM b n).1) ∧ Rs w' p [] (orf f (readM b n).2) ∧ Fr p w.heap.size w w' := by
  have HS := hidden h
  have hlt := h.lt
  obtain ⟨a, cap, h0, h1, h2, h3, h4, h5, h6, h7, h8, h9, h10⟩ := h.cells
  have HR := hidden (read_any h6 h.bs (n : Int))
  clear h h6 h7 h8 h9 h10
  unfold ReadPost at HR
  generalize readM b n = rd at *
  obtain ⟨l, er⟩ := rd
  simp only at *
  go_enter Tryz.func85, Tryz.ntmps85
  go_wp2_with fail
  refine HR.out.mono ?_
  rintro e w1 ⟨⟨v1, rfl, ho1⟩, hb1⟩
  have HO1 := hidden ho1
  have HS1 := hidden (HS.out.kept hb1 hlt)
  have HF1 := hidden (Fr.of_below (p := p) hb1)
  have hz1 := hb1.size
  clear ho1 hb1 h0 h1 h2 h3
  go_wp2_with fail
  refine (crefuse_any HS1.out _).mono ?_
  rintro e w2 ⟨rfl, hs2, hf2⟩
  have HO2 := hidden (HO1.out.fr hf2 hlt)
  have HF2 := hidden (HF1.out.trans (hf2.mono hz1))
  have hz2 := hf2.size
  obtain ⟨A0, Cap, k0, k1, k2, k3, k4, k5, k6, k7, k8, k9, k10⟩ := hs2.cells
  have HS3 := hidden k10
  have HF3 := hidden (HF2.out.set 0 (.slice none 0 0))
  have HO3 := hidden (HO2.out.fr ((Fr.refl p w2.heap.size w2).set 0 (.slice none 0 0)) hlt)
  clear hs2 hf2 k6 k7 k8 k9 k10
  go_wp2_with fail
  go_ret
  exact ⟨⟨_, rfl, HO3.out⟩, HS3.out, HF3.out⟩

set_option maxRecDepth 100000 in
set_option maxHeartbeats 2000000 in
theorem countedNumbers_any {w : World} {p f : Nat} {b : List Nat} (h : Rs w p b f) (n : Nat) :
    Calls Tryz.prog 140 #[.pointer (some ⟨p, 0, none⟩), .int .i64 (n : Int)] w fun r w' => (∃ v, r = .returned v ∧ OwnI w' w.heap.size v (readM (tkB (gt b).1 (b.drop (gt b).2.1)) n).1) ∧
      Rs w' p (tkR (gt b).1 (b.drop (gt b).2.1)) (orf (tkF (gt b).1 (b.drop (gt b).2.1) (orf f (gt b).2.2)) (readM (tkB (gt b).1 (b.drop (gt b).2.1)) n).2) ∧ Fr p w.heap.size w w' := by
  have hlt := h.lt
  have HN := hidden (cnumber_any h)
  have g1 := (gt_form b).1
  have HBD := hidden (tkB_bs (c := (gt b).1) (h.bs.drop (gt b).2.1))
  clear h
  generalize (gt b).1 = sz at *
  generalize b.drop (gt b).2.1 = b1 at *
  generalize orf f (gt b).2.2 = f1 at *
  have HTK := hidden (fun (W : World) (hs : Rs W p b1 f1) => ctake_any hs sz g1)
  generalize tkB sz b1 = tb at *
  generalize tkR sz b1 = tr at *
  generalize tkF sz b1 f1 = tf at *
  have HRD := hidden (fun (W : World) (v : Value) (hv : Sv W v (vals .u8 tb)) => read_any hv HBD.out (n : Int))
  unfold ReadPost at HRD
  generalize readM tb n = rd at *
  obtain ⟨l, er⟩ := rd
  simp only at *
  go_enter Tryz.func140, Tryz.ntmps140
  go_wp2_with fail
  refine HN.out.mono ?_
  rintro e w1 ⟨rfl, hs1, hf1⟩
  have HT := hidden (HTK.out _ hs1)
  have HF1 := hidden hf1
  have hz1 := hf1.size
  clear hs1 hf1
  go_wp2_with fail
  refine HT.out.mono ?_
  rintro e w2 ⟨⟨v2, rfl, hv2⟩, hs2, hf2⟩
  have HS2 := hidden hs2
  have HF2 := hidden (HF1.out.trans (hf2.mono hz1))
  have hz2 := hf2.size
  have HR := hidden (HRD.out _ _ hv2)
  clear hs2 hf2 hv2
  go_wp2_with fail
  refine HR.out.mono ?_
  rintro e w3 ⟨⟨v3, rfl, ho3⟩, hb3⟩
  have HO3 := hidden (own_low ho3 (Nat.le_trans hz1 hz2))
  have HS3 := hidden (HS2.out.kept hb3 HS2.out.lt)
  have HF3 := hidden (HF2.out.trans (Fr.of_below (hb3.mono (Nat.le_trans hz1 hz2))))
  have hz3 := hb3.size
  clear ho3 hb3
  go_wp2_with fail
  refine (crefuse_any HS3.out _).mono ?_
  rintro e w4 ⟨rfl, hs4, hf4⟩
  have HO4 : Hid (OwnI w4 w.heap.size v3 l) := hidden (hf4.own HO3.out hlt)
  have HS4 := hidden hs4
  have HF4 := hidden (HF3.out.trans (hf4.mono (by omega)))
  clear hs4 hf4
  go_wp2_with fail
  go_ret
  exact ⟨⟨_, rfl, HO4.out⟩, HS4.out, HF4.out⟩
end Go.Proofs.YtcmmednihoaekaaGreat
