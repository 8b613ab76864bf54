/- Contracts: putEach, putSteps. -/
import Derived.Test.YtnlanilejhjkkaaSv
set_option linter.unusedVariables false
set_option linter.unusedSimpArgs false
namespace Go.Proofs.Ytnlanilejhjkkaa
open Go.RowKit Go.Lib

theorem enc0_append (a b : List Int) : enc0 (a ++ b) = enc0 a ++ enc0 b := by
  induction a with
  | nil => rfl
  | cons x t ih => rw [List.cons_append, enc0, ih, enc0, List.append_assoc]

theorem enc0_succ {l : List Int} {k : Nat} (h : k < l.length) : enc0 (l.take (k + 1)) = enc0 (l.take k) ++ wv l[k] := by
  rw [List.take_succ_eq_append_getElem h, enc0_append]
  simp [enc0]

theorem Is.take {l : List Int} (h : Is l) (k : Nat) : Is (l.take k) := fun x hx => h x (List.mem_of_mem_take hx)
theorem Is.get {l : List Int} (h : Is l) {k : Nat} (hk : k < l.length) : I64 l[k] := h _ (List.getElem_mem hk)

/-- The cell of a slice of whole numbers. -/
theorem Sv.at {W : World} {a : Option Addr} {n cap : Nat} {l : List Int} (h : Sv W (.slice a n cap) (ivals l)) {k : Nat} (hk : k < l.length) :
    ∃ b off, a = some ⟨b, off, none⟩ ∧ b < W.heap.size ∧ W.cell? ⟨b, off + k, none⟩ = some (.int .i64 l[k]) := by
  obtain ⟨a', c, h1, h2, h3, h4, h5⟩ := h
  simp only [Value.slice.injEq] at h1
  obtain ⟨rfl, _, rfl⟩ := h1
  obtain ⟨b, off, h6, h7, h8⟩ := h5 (by rw [ivals_length]; omega)
  exact ⟨b, off, h6, h7, h8 k _ (ivals_get hk)⟩

theorem Sv.form {W : World} {v : Value} {l : List Int} (h : Sv W v (ivals l)) : ∃ a cap, v = .slice a l.length cap ∧ l.length ≤ cap ∧ cap ≤ maxLen := by
  obtain ⟨a, cap, rfl, h1, h2, _⟩ := h
  rw [ivals_length] at *
  exact ⟨a, cap, rfl, h1, h2⟩

set_option maxRecDepth 100000 in
set_option maxHeartbeats 2000000 in
theorem putEach_any {w : World} {v : Value} {l : List Int} (hs : Sv w v (ivals l)) (hl : l.length ≤ 256) (hi : Is l) :
    Calls Try.prog 29 #[v] w (Told w (enc0 l)) := by
  have HI := hidden hi
  have HS := hidden hs
  obtain ⟨a, cap, rfl, hcap, hcm⟩ := hs.form
  clear hs hi hcap hcm
  go_enter Try.func29, Try.ntmps29
  go_wp2_with fail
  go_loopw [3, 8] (fun b i wr => ∃ k : Nat, k ≤ l.length ∧ i = .int .i64 (k : Int) ∧ OwnB wr w.heap.size b (enc0 (l.take k)) ∧ Below w.heap.size w wr) (fun _ i _ => l.length - (intOf i).toNat)
  case atStart => exact ⟨0, by omega, rfl, OwnB.nil _ _, Below.refl _ _⟩
  case round =>
    obtain ⟨k, hk, rfl, hown, hbel⟩ := hrel
    have HO := hidden hown
    have HB := hidden hbel
    have hzr := hbel.size
    clear hown hbel
    by_cases hlt : k < l.length
    · obtain ⟨b, off, rfl, hb, hck⟩ := (HS.out.kept HB.out).at hlt
      have HX := hidden (HI.out.get hlt)
      have HT := hidden (enc0_succ hlt)
      have hsz := (enc0_size (HI.out.take k)).1
      rw [List.length_take] at hsz
      have hten := wv_ten (HI.out.get hlt)
      generalize l[k] = x at *
      generalize enc0 (l.take k) = acc at *
      go_wp2_with fail
      refine (putInt_told HX.out _).mono ?_
      rintro e w2 ⟨⟨v2, rfl, hown2⟩, hb2⟩
      have HO2 := hidden hown2
      have HOk := hidden (HO.out.kept hb2)
      have HB2 := hidden (HB.out.trans (hb2.mono hzr))
      have hz2 := hb2.size
      clear hown2 hb2
      go_wp2_with (first | (at_builtin; refine wpList_append_sv rfl _ _ rfl w.heap.size _ _ acc (wv x) rfl HOk.out rfl HO2.out.sv ?c1 ?c2 ?_))
      case c1 => omega
      case c2 => omega
      intro v3 w3 o3 b3
      have HO3 := hidden o3
      have HB3 := hidden (HB2.out.trans b3)
      clear o3 b3
      go_wp2_with fail
      go_roundw
      case rel => exact ⟨k + 1, by omega, by go_num, by rw [HT.out]; exact HO3.out, HB3.out⟩
      case measure => simp [intOf]; omega
    · obtain rfl : k = l.length := by omega
      rw [List.take_length] at HO
      go_wp2_with fail
      go_ret
      exact ⟨⟨_, rfl, HO.out⟩, HB.out⟩
end Go.Proofs.Ytnlanilejhjkkaa
