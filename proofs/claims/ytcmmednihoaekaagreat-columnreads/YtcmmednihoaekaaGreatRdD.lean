/- The reader of layer column: lengthsAndBytes. -/
import Derived.Test.YtcmmednihoaekaaGreatRdC
set_option linter.unusedVariables false
set_option linter.unusedSimpArgs false
namespace Go.Proofs.YtcmmednihoaekaaGreat
open Go.RowKit Go.Lib

theorem Sv.keptFr {W W' : World} {p B : Nat} {v : Value} {xs : List Value} (h : Sv W v xs) (hv : ∀ k, v.ownBlock = some k → k < B ∧ k ≠ p) (hf : Fr p B W W') : Sv W' v xs := by
  obtain ⟨a, cap, rfl, h1, h2, h3, h4⟩ := h
  refine ⟨a, cap, rfl, h1, h2, h3, fun h0 => ?_⟩
  obtain ⟨b, off, rfl, h5, h6⟩ := h4 h0
  have hb := hv b rfl
  exact ⟨b, off, rfl, Nat.lt_of_lt_of_le h5 hf.size, fun j x hj => (World.cell?_of_block (w := W) (a := ⟨b, off + j, none⟩) (hf.block b hb.1 hb.2)).trans (h6 j x hj)⟩

/-- The texts that were read up to a place. -/
def LI (sz : List Int) (b1 : List Nat) (f1 j : Nat) (l : List (List Nat)) (bj : List Nat) (fj : Nat) : Prop :=
  l.length = j ∧ Ts l ∧ Er fj ∧ (fj = 0 → f1 = 0) ∧ ∀ y r, f1 = 0 → Ts y → sizes y = sz → b1 = y.flatten ++ r → fj = 0 ∧ l = y.take j ∧ bj = (y.drop j).flatten ++ r

theorem LI.start {sz : List Int} {b1 : List Nat} {f1 : Nat} (hf : Er f1) : LI sz b1 f1 0 [] b1 f1 :=
  ⟨rfl, fun s hs => by simp at hs, hf, fun h => h, fun y r h1 _ _ h4 => ⟨h1, by simp, by simpa using h4⟩⟩

theorem tkB_len {c : Nat} {b : List Nat} : (tkB c b).length ≤ c := by
  unfold tkB
  split
  · simp
  · rw [List.length_take]; omega

theorem LI.step {sz : List Int} {b1 : List Nat} {f1 j : Nat} {l : List (List Nat)} {bj : List Nat} {fj : Nat} (h : LI sz b1 f1 j l bj fj) (hb : Bs bj) (hj : j < sz.length) (h0 : 0 ≤ sz[j]) (h64 : sz[j] ≤ 64) :
    LI sz b1 f1 (j + 1) (l ++ [tkB sz[j].toNat bj]) (tkR sz[j].toNat bj) (tkF sz[j].toNat bj fj) := by
  obtain ⟨h1, h2, h3, h4, h5⟩ := h
  have hl := tkB_len (c := sz[j].toNat) (b := bj)
  refine ⟨by simp [h1], fun s hs => ?_, tkF_er h3, fun h => h4 (tkF_zero h).1, fun y r a1 a2 a3 a4 => ?_⟩
  · rcases List.mem_append.1 hs with hs | hs
    · exact h2 s hs
    · have : s = tkB sz[j].toNat bj := by simpa using hs
      subst this
      exact ⟨by omega, tkB_bs hb⟩
  · obtain ⟨c1, c2, c3⟩ := h5 y r a1 a2 a3 a4
    have hy : j < y.length := by rw [← a3, sizes_length] at hj; exact hj
    have hz : sz[j] = (y[j].length : Int) := by
      have : (sizes y)[j]? = some (y[j].length : Int) := by simp [sizes, hy]
      rw [a3, List.getElem?_eq_getElem hj] at this
      exact Option.some.inj this
    have hd : y.drop j = y[j] :: y.drop (j + 1) := List.drop_eq_getElem_cons hy
    rw [hd, List.flatten_cons, List.append_assoc] at c3
    rw [hz, Int.toNat_natCast, c3, (tk_left (a := y[j]) fj).1, (tk_left (a := y[j]) fj).2.1, (tk_left (a := y[j]) fj).2.2, c2, List.take_succ_eq_append_getElem hy]
    exact ⟨c1, rfl, rfl⟩

/-- The lengths are told wrong. -/
theorem LI.bad {sz : List Int} {b b1 bz : List Nat} {f f1 j n : Nat} {l : List (List Nat)} {bj : List Nat} {fj : Nat} (hc : RP (Ni n) (fun l r => b = cnt l ++ r) f sz b1 f1) (h : LI sz b1 f1 j l bj fj) (hj : j < sz.length) (hw : sz[j] < 0 ∨ 64 < sz[j]) :
    RP (Nt n) (fun l r => b = txts l ++ r) f [] bz (orf fj 40) := by
  obtain ⟨h1, h2, h3, h4, h5⟩ := h
  refine ⟨h3.orf er40, fun h => absurd (orf_eq_zero h).2 (by omega), fun y r a1 a2 a3 => ?_⟩
  obtain ⟨d1, d2, d3⟩ := hc.2.2 (sizes y) (y.flatten ++ r) a1 ⟨by rw [sizes_length]; exact a2.1, sizes_i64 a2.2⟩ (by rw [a3]; unfold txts; rw [List.append_assoc])
  have hy : j < y.length := by rw [d2, sizes_length] at hj; exact hj
  have hz : sz[j] = (y[j].length : Int) := by
    have : (sizes y)[j]? = some (y[j].length : Int) := by simp [sizes, hy]
    rw [← d2, List.getElem?_eq_getElem hj] at this
    exact Option.some.inj this
  have := (a2.2 _ (List.getElem_mem hy)).1
  omega

theorem LI.done {sz : List Int} {b b1 : List Nat} {f f1 n : Nat} {l : List (List Nat)} {bj : List Nat} {fj : Nat} (hc : RP (Ni n) (fun l r => b = cnt l ++ r) f sz b1 f1) (h : LI sz b1 f1 sz.length l bj fj) :
    RP (Nt n) (fun l r => b = txts l ++ r) f l bj fj := by
  obtain ⟨h1, h2, h3, h4, h5⟩ := h
  refine ⟨h3, fun h => ?_, fun y r a1 a2 a3 => ?_⟩
  · obtain ⟨e1, e2⟩ := hc.2.1 (h4 h)
    exact ⟨e1, by rw [h1]; exact e2.1, h2⟩
  · obtain ⟨d1, d2, d3⟩ := hc.2.2 (sizes y) (y.flatten ++ r) a1 ⟨by rw [sizes_length]; exact a2.1, sizes_i64 a2.2⟩ (by rw [a3]; unfold txts; rw [List.append_assoc])
    obtain ⟨c1, c2, c3⟩ := h5 y r d1 a2.2 d2.symm d3
    have hyl : sz.length = y.length := by rw [d2, sizes_length]
    rw [hyl] at c2 c3
    rw [List.take_length] at c2
    rw [List.drop_length] at c3
    exact ⟨c1, c2, by simpa using c3⟩

/-- What the reading of texts tells. -/
def TPost (n : Nat) (G : List (List Nat) → List Nat → Prop) (p f : Nat) (w : World) (r : Ending) (w' : World) : Prop :=
  ∃ l b' f', (∃ v, r = .returned v ∧ OwnS w' w.heap.size v l) ∧ Ts l ∧ l.length ≤ n ∧ Rs w' p b' f' ∧ RP (Nt n) G f l b' f' ∧ Fr p w.heap.size w w'

set_option maxRecDepth 100000 in
set_option maxHeartbeats 4000000 in
theorem lens_any {w : World} {p f : Nat} {b : List Nat} (h : Rs w p b f) (hf : Er f) (n : Nat) (hn : n ≤ 256) :
    Calls Tryz.prog 106 #[.pointer (some ⟨p, 0, none⟩), .int .i64 (n : Int)] w (TPost n (fun l r => b = txts l ++ r) p f w) := by
  have hlt := h.lt
  have HCN := hidden (countedNumbers_any h n)
  have HRP := hidden (counted_rp h.bs hn hf)
  have HSF := hidden (readM_safe (tkB_bs (c := (gt b).1) (h.bs.drop (gt b).2.1)) hn)
  clear h
  generalize (readM (tkB (gt b).1 (b.drop (gt b).2.1)) n).1 = sz at *
  generalize (orf (tkF (gt b).1 (b.drop (gt b).2.1) (orf f (gt b).2.2)) (readM (tkB (gt b).1 (b.drop (gt b).2.1)) n).2) = f1 at *
  generalize tkR (gt b).1 (b.drop (gt b).2.1) = b1 at *
  have hszl := HSF.out.2
  go_enter Tryz.func106, Tryz.ntmps106
  go_wp2_with fail
  refine HCN.out.mono ?_
  rintro e w1 ⟨⟨v1, rfl, ho1⟩, hs1, hf1⟩
  have HS1 := hidden hs1
  have HF1 := hidden hf1
  have hz1 := hf1.size
  have HV1 := hidden ho1.sv
  have HVB : Hid (∀ k, v1.ownBlock = some k → k < w1.heap.size ∧ k ≠ p) := hidden (fun k hk => by
    have := ho1.lt k hk
    exact ⟨this.2, by omega⟩)
  obtain ⟨a1, c1, rfl, hc1, hcm1⟩ := own_slice ho1
  have hcm1' : c1 ≤ 9223372036854775807 := by unfold maxLen at hcm1; omega
  clear hs1 hf1 ho1 hcm1
  go_wp2_with fail
  go_loopw [5, 12] (fun o i wr => ∃ (j : Nat) (l : List (List Nat)) (bj : List Nat) (fj : Nat), j ≤ sz.length ∧ i = .int .i64 (j : Int) ∧ OwnS wr w1.heap.size o l ∧ LI sz b1 f1 j l bj fj ∧ Rs wr p bj fj ∧ Fr p w1.heap.size w1 wr) (fun _ i _ => sz.length - (intOf i).toNat)
  case atStart => exact ⟨0, [], b1, f1, by omega, rfl, OwnS.nil _ _, LI.start HRP.out.1, HS1.out, Fr.refl _ _ _⟩
  case round =>
    obtain ⟨j, l, bj, fj, hj, rfl, hown, hli, hsj, hfj⟩ := hrel
    have HO := hidden hown
    have HLI := hidden hli
    have HSJ := hidden hsj
    have HFJ := hidden hfj
    have hzr := hfj.size
    have hll : l.length = j := hli.1
    clear hown hli hsj hfj
    by_cases hjl : j < sz.length
    · obtain ⟨g, off, rfl, hg, hcell⟩ := (HV1.out.keptFr HVB.out HFJ.out).at hjl
      have HST := hidden (HLI.out.step HSJ.out.bs hjl)
      have HBAD := hidden (fun bz hw => HLI.out.bad (bz := bz) HRP.out hjl hw)
      have hjl' : (j : Int) < (sz.length : Int) := by omega
      generalize sz[j] = z at *
      by_cases hz0 : z < 0
      · go_wp2_with fail
        refine (crefuse_any HSJ.out 40).mono ?_
        rintro e w3 ⟨rfl, hs3, hf3⟩
        have HS3 := hidden hs3
        have HF3 := hidden (HF1.out.trans ((HFJ.out.trans (hf3.mono hzr)).mono hz1))
        clear hs3 hf3
        go_wp2_with fail
        go_ret
        exact ⟨[], _, _, ⟨_, rfl, OwnS.nil _ _⟩, fun s hs => by simp at hs, by simp, HS3.out, HBAD.out _ (Or.inl hz0), HF3.out⟩
      · by_cases hz64 : z > 64
        · go_wp2_with fail
          refine (crefuse_any HSJ.out 40).mono ?_
          rintro e w3 ⟨rfl, hs3, hf3⟩
          have HS3 := hidden hs3
          have HF3 := hidden (HF1.out.trans ((HFJ.out.trans (hf3.mono hzr)).mono hz1))
          clear hs3 hf3
          go_wp2_with fail
          go_ret
          exact ⟨[], _, _, ⟨_, rfl, OwnS.nil _ _⟩, fun s hs => by simp at hs, by simp, HS3.out, HBAD.out _ (Or.inr (by omega)), HF3.out⟩
        · obtain ⟨zn, rfl⟩ : ∃ zn : Nat, z = (zn : Int) := ⟨z.toNat, by omega⟩
          have HST' := hidden (HST.out (by omega) (by omega))
          rw [Int.toNat_natCast] at HST'
          have HTK := hidden (ctake_any HSJ.out zn (by omega))
          have HTB := hidden (tkB_bs (c := zn) HSJ.out.bs)
          clear HST HBAD
          generalize tkB zn bj = tb at *
          generalize tkR zn bj = tr at *
          generalize tkF zn bj fj = tf at *
          go_wp2_with fail
          refine HTK.out.mono ?_
          rintro e w3 ⟨⟨v3, rfl, hv3⟩, hs3, hf3⟩
          have hcv := hv3.conv HTB.out
          have HS3 := hidden hs3
          have HF3 := hidden (HFJ.out.trans (hf3.mono hzr))
          have hz3 := hf3.size
          have HO3 : Hid (OwnS w3 w1.heap.size _ l) := hidden (hf3.own HO.out (by omega))
          clear hs3 hf3 hv3
          unfold txt at hcv
          have hlen' : l.length ≤ 100000 := by omega
          go_wp2_with (first | (at_builtin; refine wpList_append_s rfl _ _ rfl w1.heap.size _ _ tb l rfl (HO3.out.kept (below_one _ _)) rfl (cell_new _ _ _) hlen' ?c2 ?_))
          case c2 => first | omega | (rw [World.size_alloc]; omega)
          intro v' w4 o4 b4
          have HO4 := hidden o4
          have hb4 := ((below_one w3 (.cells #[txt tb] 9)).mono (show w1.heap.size ≤ w3.heap.size by omega)).trans b4
          have HS4 := hidden (HS3.out.kept hb4 (by omega))
          have HF4 := hidden (HF3.out.then hb4)
          clear o4 b4 hb4
          go_wp2_with fail
          go_roundw
          case rel => exact ⟨j + 1, l ++ [tb], tr, tf, by omega, by go_num, HO4.out, HST'.out, HS4.out, HF4.out⟩
          case measure => simp [intOf]; omega
    · have : j = sz.length := by omega
      subst this
      have HDN := hidden (HLI.out.done HRP.out)
      have HTS := hidden HLI.out.2.1
      have hge : ¬ ((sz.length : Nat) : Int) < (sz.length : Int) := by omega
      have HFA := hidden (HF1.out.trans (HFJ.out.mono hz1))
      go_wp2_with fail
      go_ret
      exact ⟨l, bj, fj, ⟨_, rfl, own_low HO.out hz1⟩, HTS.out, by omega, HSJ.out, HDN.out, HFA.out⟩
end Go.Proofs.YtcmmednihoaekaaGreat
