/- Under way. -/
import Derived.Test.YtfcnoeehfhncjaaAl1
import Derived.Test.YtfcnoeehfhncjaaPn
import Derived.Test.YtfcnoeehfhncjaaPe
import Derived.Test.YtfcnoeehfhncjaaMay
import Derived.Test.YtfcnoeehfhncjaaPc
import Derived.Test.YtfcnoeehfhncjaaFit
import Derived.Test.YtfcnoeehfhncjaaRws
import Derived.Test.YtfcnoeehfhncjaaBne
import Derived.Test.YtfcnoeehfhncjaaDevS
import Derived.Deep.CutBlock
set_option linter.unusedVariables false
set_option linter.unusedSimpArgs false
namespace Go.Proofs.Ytfcnoeehfhncjaa
open Go.RowKit Go.Lib

/-- What the law has in memory. -/
def Pr (X : World) (p q : Nat) (op f : Nat) (c : Cl) (ks : List PT) (kv : Value) (si : Nat) (fv : Value) (l : List Fd) (rv : Value) (rs : List (List Cl)) : Prop :=
  (NodeAt X p 0 op f c kv ∧ Kids X kv ks) ∧ (q < X.heap.size ∧ X.cell? ⟨q, 0, none⟩ = some (.int .u32 (si : Int)) ∧ X.cell? ⟨q, 1, none⟩ = some fv ∧ Sf X fv l) ∧ Sr X rv rs
theorem Pr.kept {X Y : World} {p q op f : Nat} {c : Cl} {ks : List PT} {kv : Value} {si : Nat} {fv : Value} {l : List Fd} {rv : Value} {rs : List (List Cl)} (h : Pr X p q op f c ks kv si fv l rv rs) (hb : Below X.heap.size X Y) : Pr Y p q op f c ks kv si fv l rv rs := by
  obtain ⟨⟨h1, h2⟩, ⟨h5, h6, h7, h8⟩, h9⟩ := h
  exact ⟨⟨h1.kept hb, h2.kept hb⟩, ⟨Nat.lt_of_lt_of_le h5 hb.size, (hb.cell (p := ⟨q, 0, none⟩) h5).trans h6, (hb.cell (p := ⟨q, 1, none⟩) h5).trans h7, h8.kept hb⟩, h9.kept hb⟩
theorem Pr.facts {X : World} {p q op f : Nat} {c : Cl} {ks : List PT} {kv : Value} {si : Nat} {fv : Value} {l : List Fd} {rv : Value} {rs : List (List Cl)} (h : Pr X p q op f c ks kv si fv l rv rs) :
    (X.cell? ⟨p, 0, none⟩ = some (.int .u8 (op : Int)) ∧ X.cell? ⟨p, 1, none⟩ = some (.int .u32 (f : Int)) ∧ X.cell? ⟨p, 2, none⟩ = some (.int .u8 (c.1 : Int)) ∧ X.cell? ⟨p, 3, none⟩ = some (.int .i64 c.2.1) ∧ X.cell? ⟨p, 4, none⟩ = some (.string (bytesT c.2.2)) ∧ X.cell? ⟨p, 5, none⟩ = some kv) ∧
    (X.cell? ⟨q, 0, none⟩ = some (.int .u32 (si : Int)) ∧ X.cell? ⟨q, 1, none⟩ = some fv) := by
  obtain ⟨⟨⟨_, a0, a1, a2, a3, a4, a5⟩, _⟩, ⟨_, h6, h7, _⟩, _⟩ := h
  exact ⟨⟨a0, a1, a2, a3, a4, a5⟩, h6, h7⟩
/-- The k-th cells of rows. -/
def colN (frs : List (Value × List Cl)) (k : Nat) : List Cl := frs.map fun x => x.2.getD k nul
/-- Rows that fit. -/
def Fits (l : List Fd) (frs : List (Value × List Cl)) : Prop := ∀ x ∈ frs, x.2.length = l.length ∧ ∀ c ∈ x.2, Fine c
theorem Fits.nil (l : List Fd) : Fits l [] := fun x hx => by simp at hx
theorem Fits.push {l : List Fd} {frs : List (Value × List Cl)} (h : Fits l frs) {v : Value} {r : List Cl} (hr : fitM l r = 0) (hf : ∀ c ∈ r, Fine c) : Fits l (frs ++ [(v, r)]) := fun x hx => by
  rcases List.mem_append.1 hx with hx | hx
  · exact h x hx
  · rw [List.mem_singleton.1 hx]
    exact ⟨fit_len hr, hf⟩
theorem colN_fine {l : List Fd} {frs : List (Value × List Cl)} (h : Fits l frs) (k : Nat) : ∀ c ∈ colN frs k, Fine c := fun c hc => by
  obtain ⟨x, hx, rfl⟩ := List.mem_map.1 hc
  rw [List.getD_eq_getElem?_getD]
  cases hg : x.2[k]? with
  | none => exact Or.inl rfl
  | some y => exact (h x hx).2 y (List.mem_of_getElem? hg)
def stsN (l : List Fd) (frs : List (Value × List Cl)) (n : Nat) : List Stt := (List.range n).map fun k => statM (colN frs k)
theorem stsN_succ (l : List Fd) (frs : List (Value × List Cl)) (n : Nat) : stsN l frs (n + 1) = stsN l frs n ++ [statM (colN frs n)] := by
  unfold stsN
  rw [List.range_succ, List.map_append]
  rfl
theorem stsN_len (l : List Fd) (frs : List (Value × List Cl)) (n : Nat) : (stsN l frs n).length = n := by simp [stsN]
theorem stsN_oks {l : List Fd} {frs : List (Value × List Cl)} (h : Fits l frs) (n : Nat) : ∀ x ∈ stsN l frs n, Oks x := fun x hx => by
  obtain ⟨k, _, rfl⟩ := List.mem_map.1 hx
  have := statM_fine (colN_fine h k)
  exact ⟨this.1.okc, this.2.okc⟩
/-- What is left holds the answer of each row. -/
theorem fits_cover {l : List Fd} {frs : List (Value × List Cl)} (h : Fits l frs) {x : Value × List Cl} (hx : x ∈ frs) (t : PT) : getB (mayM l (stsN l frs l.length) t) (evalM l x.2 t) = true := by
  refine cover (by rw [stsN_len]; exact (h x hx).1) (fun j y st hy hst => ?_) t
  have hj : j < l.length := by
    have := (List.getElem?_eq_some_iff.1 hst).1
    rwa [stsN_len] at this
  have e : st = statM (colN frs j) := by
    unfold stsN at hst
    rw [List.getElem?_map, List.getElem?_range hj] at hst
    exact (Option.some.inj hst).symm
  rw [e]
  refine statM_cov (colN_fine h j) (List.mem_map.2 ⟨x, hx, ?_⟩)
  rw [List.getD_eq_getElem?_getD, hy]
  rfl

set_option maxRecDepth 100000 in
set_option maxHeartbeats 16000000 in
theorem walkP (HAL : ∀ w : World, Calls Try.prog 6 #[] w fun e w' => e = .returned (.bool true) ∧ Below w.heap.size w w') {w : World} {op f : Nat} {c : Cl} {ks : List PT} {kv : Value} (hk : Kids w kv ks) (ho : Okp (.node op f c ks))
    {fv : Value} {l : List Fd} (hl : Sf w fv l) (hol : ∀ f ∈ l, Okf f) (si : Nat) (hsi : si < 4294967296) {rv : Value} {rs : List (List Cl)} (hr : Sr w rv rs) (hor : ∀ x ∈ rs, ∀ c ∈ x, Okc c) :
    Calls Try.prog 4 #[.agg #[.int .u8 (op : Int), .int .u32 (f : Int), .int .u8 (c.1 : Int), .int .i64 c.2.1, .string (bytesT c.2.2), kv], .agg #[.int .u32 (si : Int), fv], rv] w fun e w' => e = .returned (.bool true) ∧ Below w.heap.size w w' := by
  obtain ⟨ka, kcap, rfl, _, _⟩ := hk.form
  obtain ⟨fla, fcap, rfl, _, _⟩ := hl.form
  obtain ⟨ra, rcap, rfl, hrc, hrm⟩ := hr.form
  have hrm' : rcap ≤ 9223372036854775807 := by unfold maxLen at hrm; omega
  have HO := hidden ho
  have HOR := hidden hor
  have hn1 := node_new w op f c (.slice ka ks.length kcap)
  have hb1 := below_one w (.cells #[.int .u8 (op : Int), .int .u32 (f : Int), .int .u8 (c.1 : Int), .int .i64 c.2.1, .string (bytesT c.2.2), .slice ka ks.length kcap] 39)
  have s1 : (w.alloc (.cells #[.int .u8 (op : Int), .int .u32 (f : Int), .int .u8 (c.1 : Int), .int .i64 c.2.1, .string (bytesT c.2.2), .slice ka ks.length kcap] 39)).heap.size = w.heap.size + 1 := World.size_alloc _ _
  generalize hA : w.alloc (.cells #[.int .u8 (op : Int), .int .u32 (f : Int), .int .u8 (c.1 : Int), .int .i64 c.2.1, .string (bytesT c.2.2), .slice ka ks.length kcap] 39) = A at *
  have hb2 := below_one A (.cells #[.int .u32 (si : Int), .slice fla l.length fcap] 42)
  obtain ⟨e0, e1⟩ := cell_new2 A (.int .u32 (si : Int)) (.slice fla l.length fcap) 42
  have s2 : (A.alloc (.cells #[.int .u32 (si : Int), .slice fla l.length fcap] 42)).heap.size = A.heap.size + 1 := World.size_alloc _ _
  generalize hB : A.alloc (.cells #[.int .u32 (si : Int), .slice fla l.length fcap] 42) = B at *
  have hbw : Below w.heap.size w B := below_then hb1 hb2
  have HPR : Hid (Pr B w.heap.size (w.heap.size + 1) op f c ks (.slice ka ks.length kcap) si (.slice fla l.length fcap) l (.slice ra rs.length rcap) rs) := hidden (by
    rw [s1] at e0 e1
    exact ⟨⟨hn1.kept hb2, hk.kept hbw⟩, ⟨by omega, e0, e1, hl.kept hbw⟩, hr.kept hbw⟩)
  have HBW := hidden hbw
  clear hk ho hl hol hr hor hn1 hb1 hb2 e0 e1 hbw hrm
  go_enter Try.func4, Try.ntmps4
  go_wp2_with fail
  clear hA hB s1 s2
  refine (HAL _).mono ?_
  rintro e w1 ⟨rfl, hb⟩
  have HP1 := hidden (HPR.out.kept hb)
  have HB1 := hidden (below_then HBW.out hb)
  clear hb HPR HBW
  generalize hq : w.heap.size + 1 = q at *
  clear hq
  obtain ⟨⟨a0, a1, a2, a3, a4, a5⟩, b0, b1⟩ := HP1.out.facts
  go_wp2_with fail
  refine (greatP_any HP1.out.1.2).mono ?_
  rintro e w2 ⟨⟨g1, rfl, hg1⟩, hb⟩
  have HP2 := hidden (HP1.out.kept hb)
  have HB2 := hidden (below_then HB1.out hb)
  have HG1 := hidden hg1
  clear hb HP1 HB1 hg1 a0 a1 a2 a3 a4 a5 b0 b1
  obtain ⟨⟨a0, a1, a2, a3, a4, a5⟩, b0, b1⟩ := HP2.out.facts
  cases g1
  · have HLA := hidden (HG1.out rfl)
    clear HG1
    go_wp2_with fail
    refine (great_any HP2.out.2.1.2.2.2 si).mono ?_
    rintro e w3 ⟨⟨g2, rfl, hg2⟩, hb⟩
    have HP3 := hidden (HP2.out.kept hb)
    have HB3 := hidden (below_then HB2.out hb)
    have HG2 := hidden hg2
    clear hb HP2 HB2 hg2 a0 a1 a2 a3 a4 a5 b0 b1
    obtain ⟨⟨a0, a1, a2, a3, a4, a5⟩, b0, b1⟩ := HP3.out.facts
    cases g2
    · have HLL : Hid (l.length ≤ 100) := hidden (HG2.out rfl).1
      clear HG2
      go_wp2_with fail
      refine (check9_any HP3.out.1.2 HO.out HP3.out.2.1.2.2.2).mono ?_
      rintro e w4 ⟨⟨n, rfl, _⟩, hb⟩
      have HP4 := hidden (HP3.out.kept hb)
      have HB4 := hidden (below_then HB3.out hb)
      clear hb HP3 HB3 a0 a1 a2 a3 a4 a5 b0 b1
      have hgo : ((n : Int) != 0) = true ∨ ((n : Int) != 0) = false := by cases ((n : Int) != 0) <;> simp
      rcases hgo with h0 | h0
      · go_wp2_with fail
        go_ret
        exact ⟨rfl, HB4.out⟩
      · go_upto_block 0 with fail
        have HZ4 : Hid (w.heap.size ≤ w4.heap.size) := hidden HB4.out.size
        go_cut [7, 8, 9] from 30 to 58 (fun fitv s8 s9 wx => ∃ frs : List (Value × List Cl), Rr wx w4.heap.size fitv frs ∧ Fits l frs ∧ frs.length ≤ 40 ∧ Below w4.heap.size w4 wx)
        case first =>
          go_wp2_with fail
          go_loopw [7, 8] (fun fitv i wr => ∃ (j : Nat) (frs : List (Value × List Cl)), j ≤ rs.length ∧ j ≤ 40 ∧ i = .int .i64 (j : Int) ∧ Rr wr w4.heap.size fitv frs ∧ Fits l frs ∧ frs.length ≤ j ∧ Below w4.heap.size w4 wr) (fun _ i _ => rs.length - (intOf i).toNat)
          case atStart => exact ⟨0, [], by omega, by omega, rfl, Rr.nil _ _, Fits.nil _, by simp, Below.refl _ _⟩
          case round =>
            obtain ⟨j, frs, hj, hj4, rfl, hfr, hfit, hfl, hbel⟩ := hrel
            have HFR := hidden hfr
            have HFT := hidden hfit
            have HB := hidden hbel
            have HFL := hidden hfl
            have HP := hidden (HP4.out.kept hbel)
            have hzr := hbel.size
            clear hfr hfit hbel hfl
            by_cases hlt : j < rs.length
            · have hlt' : (j : Int) < (rs.length : Int) := by omega
              by_cases h4 : j < 40
              · have h4' : (j : Int) < 40 := by omega
                obtain ⟨b, off, rv, rfl, hbb, hcell, hsc⟩ := HP.out.2.2.at hlt
                have HSC := hidden hsc
                obtain ⟨xa, xcap, rfl, _, _⟩ := hsc.form
                have HOX := hidden (HOR.out rs[j] (List.getElem_mem hlt))
                generalize rs[j] = x at *
                obtain ⟨b0, b1⟩ := HP.out.facts.2
                clear hsc
                by_cases h100 : (100 : Int) < (x.length : Int)
                · go_wp2_with fail
                  go_ret
                  exact ⟨rfl, below_then HB4.out HB.out⟩
                · have h600 : x.length ≤ 600 := by omega
                  have HFX := hidden (fixRow_any HSC.out h600)
                  go_wp2_with fail
                  refine (HFX.out).mono ?_
                  rintro e w5 ⟨⟨v5, rfl, ho5⟩, hb5⟩
                  have HO5 := hidden ho5
                  have HP5 := hidden (HP.out.kept hb5)
                  have HFR5 := hidden (HFR.out.kept hb5)
                  have HB5 := hidden (below_then HB.out hb5)
                  have hzw := hb5.size
                  have HAP := hidden (apart_fresh HFR.out ho5 (Nat.le_refl _))
                  obtain ⟨ya, ycap, rfl, _, _⟩ := ho5.sc.form
                  have HFI : Hid (∀ c ∈ x.map fixC, Fine c) := hidden (fun c hc => by
                    obtain ⟨y, hy, rfl⟩ := List.mem_map.1 hc
                    exact fixC_fine (HOX.out y hy))
                  clear ho5 hb5 hcell b0 b1 HFX HSC HOX
                  obtain ⟨b0, b1⟩ := HP5.out.facts.2
                  have HRF := hidden (refFit_any (HP5.out.2.1.2.2.2) HO5.out.sc si)
                  rw [List.length_map] at *
                  generalize x.map fixC = y at *
                  go_wp2_with fail
                  refine (HRF.out).mono ?_
                  rintro e w6 ⟨rfl, hb6⟩
                  have HO6 := hidden (HO5.out.kept hb6)
                  have HFR6 := hidden (HFR5.out.kept hb6)
                  have HB6 := hidden (below_then HB5.out hb6)
                  have hzv := hb6.size
                  clear hb6 b0 b1 HRF HO5 HP5 HFR5 HB5
                  by_cases h0 : fitM l y = 0
                  · have h0' : (((fitM l y : Nat) : Int) == 0) = true := by rw [h0]; rfl
                    have HFP := hidden (fun v => HFT.out.push (v := v) h0 HFI.out)
                    clear h0
                    have hcn : ∀ W : World, (W.alloc (.cells #[.slice ya x.length ycap] 22)).cell? ⟨W.heap.size, 0, none⟩ = some (.slice ya x.length ycap) := fun W => cell_new _ _ _
                    have HCN := hidden hcn
                    have HL5 : Hid (frs.length ≤ 100000) := hidden (by have := HFL.out; omega)
                    clear hcn
                    go_wp2_with (first | (at_builtin; refine wpList_append_r rfl _ _ rfl w4.heap.size _ _ _ y frs rfl (HFR6.out.kept (below_one _ _)) rfl (HCN.out _) (own_lower (HO6.out.kept (below_one _ _)) ?c1) HAP.out HL5.out ?c2 ?_))
                    case c1 => omega
                    case c2 => rw [World.size_alloc]; omega
                    intro v' w8 o8 b8
                    have HFR8 := hidden o8
                    have HB8 := hidden ((HB6.out.alloc (by omega) _).trans b8)
                    clear o8 b8
                    go_wp2_with fail
                    go_roundw
                    case rel => exact ⟨j + 1, _, by omega, by omega, by go_num, HFR8.out, HFP.out _, by have := HFL.out; rw [List.length_append]; simp only [List.length_cons, List.length_nil]; omega, HB8.out⟩
                    case measure => simp [intOf]; omega
                  · have h0' : (((fitM l y : Nat) : Int) == 0) = false := beq_eq_false_iff_ne.2 (by omega)
                    clear h0
                    go_wp2_with fail
                    go_roundw
                    case rel => exact ⟨j + 1, frs, by omega, by omega, by go_num, HFR6.out, HFT.out, by have := HFL.out; omega, HB6.out⟩
                    case measure => simp [intOf]; omega
              · have h4' : ¬ (j : Int) < 40 := by omega
                go_wp2_with fail
                go_meet
                exact ⟨frs, HFR.out, HFT.out, by have := HFL.out; omega, HB.out⟩
            · have hge : ¬ (j : Int) < (rs.length : Int) := by omega
              go_wp2_with fail
              go_meet
              exact ⟨frs, HFR.out, HFT.out, by have := HFL.out; omega, HB.out⟩
        case rest =>
          obtain ⟨frs, hfr, hfit, hfl, hbel⟩ := hcut
          obtain ⟨wd, hwd⟩ : ∃ wd, wd = wc := ⟨_, rfl⟩
          subst hwd
          obtain ⟨fa, fcp, rfl, hfc, hfm⟩ := hfr.form
          have hfm' : fcp ≤ 9223372036854775807 := by unfold maxLen at hfm; omega
          have HFR := hidden hfr
          have HFT := hidden hfit
          have HP := hidden (HP4.out.kept hbel)
          have HBC := hidden (below_then HB4.out hbel)
          clear hfr hfit hbel hfm HP4 HB4
          go_wp2_with fail
          go_loopw [10, 11] (fun sv kk wr => ∃ k : Nat, k ≤ l.length ∧ kk = .int .i64 (k : Int) ∧ OwnT wr wd.heap.size sv (stsN l frs k) ∧ Below wd.heap.size wd wr) (fun _ kk _ => l.length - (intOf kk).toNat)
          case atStart => exact ⟨0, by omega, rfl, OwnT.nil _ _, Below.refl _ _⟩
          case round =>
            obtain ⟨k, hk, rfl, hst, hbel⟩ := hrel
            have HST := hidden hst
            have HB := hidden hbel
            have HPW := hidden (HP.out.kept hbel)
            have HFW := hidden (HFR.out.kept hbel)
            have hzr := hbel.size
            clear hst hbel
            obtain ⟨b0, b1⟩ := HPW.out.facts.2
            by_cases hlt : k < l.length
            · have hlt' : (k : Int) < (l.length : Int) := by omega
              have hk9 : (k : Int) ≤ 9223372036854775807 := by have := HLL.out; omega
              obtain ⟨wo, hwo⟩ : ∃ wo, wo = wr := ⟨_, rfl⟩
              subst hwo
              go_upto_block 4 with fail
              go_cut [12, 13] from 66 to 81 (fun lv s13 wx => OwnC wx wo.heap.size lv (colN frs k) ∧ Below wo.heap.size wo wx)
              case first =>
                go_wp2_with fail
                go_loopw [12, 13] (fun lv i wy => ∃ j : Nat, j ≤ frs.length ∧ i = .int .i64 (j : Int) ∧ OwnC wy wo.heap.size lv (colN (frs.take j) k) ∧ Below wo.heap.size wo wy) (fun _ i _ => frs.length - (intOf i).toNat)
                case atStart => exact ⟨0, by omega, rfl, OwnC.nil _ _, Below.refl _ _⟩
                case round =>
                  obtain ⟨j, hj, rfl, hown, hbel⟩ := hrel
                  have HOW := hidden hown
                  have HBY := hidden hbel
                  have HFY := hidden (HFW.out.kept hbel)
                  have hzy := hbel.size
                  clear hown hbel
                  by_cases hjt : j < frs.length
                  · have hjt' : (j : Int) < (frs.length : Int) := by omega
                    obtain ⟨g, rfl, hgg, hcell, hrow⟩ := HFY.out.at hjt
                    have hft := HFT.out frs[j] (List.getElem_mem hjt)
                    have HNX : Hid (colN (frs.take (j + 1)) k = colN (frs.take j) k ++ [frs[j].2.getD k nul]) := hidden (by
                      unfold colN
                      rw [List.take_succ_eq_append_getElem hjt, List.map_append]
                      rfl)
                    have hlen' : (colN (frs.take j) k).length ≤ 100000 := by
                      unfold colN
                      rw [List.length_map, List.length_take]
                      omega
                    generalize frs[j] = x at *
                    obtain ⟨xv, x⟩ := x
                    simp only at hcell hrow hft HNX
                    obtain ⟨xa, xcap, rfl, hxc, hxm⟩ := hrow.sc.form
                    have hxm' : xcap ≤ 9223372036854775807 := by unfold maxLen at hxm; omega
                    have hkx : k < x.length := by rw [hft.1]; exact hlt
                    have hkx' : (k : Int) < (x.length : Int) := by omega
                    obtain ⟨g2, o2, rfl, hg2, c0, c1, c2⟩ := hrow.sc.at hkx
                    rw [txt_eq] at c2
                    have hgd : x.getD k nul = x[k] := by
                      rw [List.getD_eq_getElem?_getD, List.getElem?_eq_getElem hkx]
                      rfl
                    rw [hgd] at HNX
                    generalize x[k] = y at *
                    have HCN := hidden (fun W : World => cell_new3 W (.int .u8 (y.1 : Int)) (.int .i64 y.2.1) (.string (bytesT y.2.2)) 27)
                    clear hgd hft hrow hxm
                    generalize colN (frs.take j) k = LL at *
                    go_wp2_with (first | (at_builtin; refine wpList_append_c rfl _ _ rfl wo.heap.size _ _ y LL rfl (HOW.out.kept (below_one _ _)) rfl (HCN.out _).1 (HCN.out _).2.1 (HCN.out _).2.2 hlen' ?c2 ?_))
                    case c2 => rw [World.size_alloc]; omega
                    intro v' w8 o8 b8
                    have HO8 := hidden o8
                    have HB8 := hidden ((HBY.out.alloc (by omega) _).trans b8)
                    clear o8 b8
                    go_wp2_with fail
                    go_roundw
                    case rel => exact ⟨j + 1, by omega, by go_num, by rw [HNX.out]; exact HO8.out, HB8.out⟩
                    case measure => simp [intOf]; omega
                  · obtain rfl : j = frs.length := by omega
                    have hjg : ¬ ((frs.length : Nat) : Int) < (frs.length : Int) := by omega
                    rw [List.take_length] at HOW
                    go_wp2_with fail
                    go_meet
                    exact ⟨HOW.out, HBY.out⟩
              case rest =>
                obtain ⟨hco, hcb⟩ := hcut
                have HCO := hidden hco
                have HCB := hidden hcb
                have HFI := hidden (colN_fine HFT.out k)
                have hcl : (colN frs k).length ≤ 100 := by
                  unfold colN
                  rw [List.length_map]
                  omega
                have H6 := hidden (row6_any hco.sc (fun c hc => (HFI.out c hc).okc) (by omega))
                rw [map_fix HFI.out] at H6
                have HNS := hidden (stsN_succ l frs k)
                have HSL : Hid ((stsN l frs k).length ≤ 100000) := hidden (by rw [stsN_len]; have := HLL.out; omega)
                have hzc := hcb.size
                clear hco hcb
                obtain ⟨cn, hcn⟩ : ∃ cn, cn = colN frs k := ⟨_, rfl⟩
                rw [← hcn] at H6 HNS HFI hcl HCO
                clear hcn
                generalize stsN l frs k = SL at *
                go_wp2_with fail
                refine (H6.out).mono ?_
                rintro e w6 ⟨⟨v6, rfl, ho6⟩, hb6⟩
                have HB6 := hidden (below_then HCB.out hb6)
                have HSS := hidden (stats_any ho6.sv HFI.out (by omega))
                have hz6 := hb6.size
                clear ho6 hb6 H6
                go_wp2_with fail
                refine (HSS.out).mono ?_
                rintro e w7 ⟨rfl, hb7⟩
                have HB7 := hidden (below_then HB6.out hb7)
                have HST7 := hidden (HST.out.kept (below_then HB6.out hb7))
                have hz7 := hb7.size
                clear hb7 HSS
                generalize statM cn = st at *
                unfold aggS
                have HNW : Hid (∀ W : World, Stb (W.alloc (.cells #[.int .i64 st.rows, .int .i64 st.nulls, .bool st.some, .bool st.high, .int .u8 (st.lo.1 : Int), .int .i64 st.lo.2.1, .string (bytesT st.lo.2.2), .int .u8 (st.hi.1 : Int), .int .i64 st.hi.2.1, .string (bytesT st.hi.2.2)] 29)) W.heap.size st) := hidden (fun W => Stb.new W st)
                go_wp2_with (first | (at_builtin; refine wpList_append_t rfl _ _ rfl wd.heap.size _ _ st SL rfl (HST7.out.kept (below_one _ _)) rfl (HNW.out _) HSL.out ?c2 ?_))
                case c2 => rw [World.size_alloc]; omega
                intro v' w8 o8 b8
                have HO8 := hidden o8
                have HB8 := hidden (((HB.out.trans (HB7.out.mono hzr)).alloc (by omega) _).trans b8)
                clear o8 b8
                go_wp2_with fail
                go_roundw
                case rel => exact ⟨k + 1, by omega, by go_num, by rw [HNS.out]; exact HO8.out, HB8.out⟩
                case measure => simp [intOf]; omega
            · obtain rfl : k = l.length := by omega
              have hge : ¬ ((l.length : Nat) : Int) < (l.length : Int) := by omega
              have HSB : Hid (Below w.heap.size w wr) := hidden (below_then HBC.out HB.out)
              have HMA := hidden (may_any (si := si) HPW.out.1.2 HO.out HPW.out.2.1.2.2.2 HST.out.ss (stsN_oks HFT.out l.length))
              have HCV := hidden (fun (x : Value × List Cl) (h : x ∈ frs) => fits_cover HFT.out h (.node op f c ks))
              generalize mayM l (stsN l frs l.length) (.node op f c ks) = MV at *
              obtain ⟨m0, m1, m2⟩ := MV
              clear HST HP HFR
              rw [show b3V (m0, m1, m2) = Value.agg #[.bool m0, .bool m1, .bool m2] from rfl] at HMA
              obtain ⟨⟨a0, a1, a2, a3, a4, a5⟩, _, _⟩ := HPW.out.facts
              go_wp2_with fail
              refine (HMA.out).mono ?_
              rintro e w5 ⟨rfl, hb5⟩
              have HP5 := hidden (HPW.out.kept hb5)
              have HF5 := hidden (HFW.out.kept hb5)
              have HB5 := hidden (below_then HSB.out hb5)
              clear hb5 HPW HFW HB HSB HMA a0 a1 a2 a3 a4 a5 b0 b1
              have hfl2 := Flg.new w5 (m0, m1, m2)
              have hbl := below_one w5 (.cells #[.bool m0, .bool m1, .bool m2] 51)
              simp only at hfl2
              have HPV := hidden (HP5.out.kept hbl)
              have HFV := hidden (HF5.out.kept hbl)
              have HBV := hidden (below_then HB5.out hbl)
              have HGV := hidden hfl2
              clear hfl2 hbl
              go_wp2_with fail
              generalize hV : w5.alloc (.cells #[.bool m0, .bool m1, .bool m2] 51) = V at *
              generalize w5.heap.size = p14 at *
              clear hV HP5 HF5 HB5
              go_loopw [15] (fun i wr => ∃ j : Nat, j ≤ frs.length ∧ i = .int .i64 (j : Int) ∧ Below V.heap.size V wr) (fun i _ => frs.length - (intOf i).toNat)
              case atStart => exact ⟨0, by omega, rfl, Below.refl _ _⟩
              case round =>
                obtain ⟨j, hj, rfl, hbel⟩ := hrel
                have HBJ := hidden hbel
                have HPJ := hidden (HPV.out.kept hbel)
                have HFJ := hidden (HFV.out.kept hbel)
                have HGJ := hidden (HGV.out.kept hbel)
                clear hbel
                by_cases hlt2 : j < frs.length
                · have hlt2' : (j : Int) < (frs.length : Int) := by omega
                  obtain ⟨g, rfl, hgg, hcell, hrow⟩ := HFJ.out.at hlt2
                  have hft := HFT.out frs[j] (List.getElem_mem hlt2)
                  have hcv := HCV.out frs[j] (List.getElem_mem hlt2)
                  have hle := evalM_le l frs[j].2 (.node op f c ks)
                  generalize frs[j] = x at *
                  obtain ⟨xv, x⟩ := x
                  simp only at hcell hrow hft hcv hle
                  obtain ⟨xa, xcap, rfl, hxc, hxm⟩ := hrow.sc.form
                  have HXR := hidden hrow.sc
                  have HXF := hidden hft.2
                  have HXL : Hid (x.length ≤ 600) := hidden (by rw [hft.1]; have := HLL.out; omega)
                  obtain ⟨EV, hEV⟩ : ∃ EV, EV = evalM l x (.node op f c ks) := ⟨_, rfl⟩
                  rw [← hEV] at hcv hle
                  have HEV := hidden hEV
                  have hcp : wr.cell? ⟨p14, EV, none⟩ = some (.bool true) := by
                    obtain ⟨⟨t0, t1, t2⟩, _, _⟩ := HGJ.out.facts
                    obtain rfl | rfl | rfl : EV = 0 ∨ EV = 1 ∨ EV = 2 := by omega
                    · have : m0 = true := hcv
                      rw [t0, this]
                    · have : m1 = true := hcv
                      rw [t1, this]
                    · have : m2 = true := hcv
                      rw [t2, this]
                  have hev3 : (EV : Int) < 3 := by omega
                  have hev0 : (0 : Int) ≤ (EV : Int) := by omega
                  have hrem : (EV : Int).tmod 3 = (EV : Int) := by
                    obtain rfl | rfl | rfl : EV = 0 ∨ EV = 1 ∨ EV = 2 := by omega
                    all_goals rfl
                  have hpz : p14 < wr.heap.size := HGJ.out.facts.2.2
                  have HSS : Hid (∀ w', Below wr.heap.size wr w' → w'.cell? ⟨w.heap.size, 0, none⟩ = some (.int .u8 (op : Int)) ∧ w'.cell? ⟨w.heap.size, 1, none⟩ = some (.int .u32 (f : Int)) ∧ w'.cell? ⟨w.heap.size, 2, none⟩ = some (.int .u8 (c.1 : Int)) ∧ w'.cell? ⟨w.heap.size, 3, none⟩ = some (.int .i64 c.2.1) ∧ w'.cell? ⟨w.heap.size, 4, none⟩ = some (.string (bytesT c.2.2)) ∧ w'.cell? ⟨w.heap.size, 5, none⟩ = some (.slice ka ks.length kcap) ∧ w'.cell? ⟨q, 0, none⟩ = some (.int .u32 (si : Int)) ∧ w'.cell? ⟨q, 1, none⟩ = some (.slice fla l.length fcap) ∧ w'.cell? ⟨g, j, none⟩ = some (.slice xa x.length xcap) ∧ w'.cell? ⟨p14, EV, none⟩ = some (.bool true)) := hidden (fun w' h => by
                    obtain ⟨⟨a0, a1, a2, a3, a4, a5⟩, b0, b1⟩ := (HPJ.out.kept h).facts
                    exact ⟨a0, a1, a2, a3, a4, a5, b0, b1, (h.cell (p := ⟨g, j, none⟩) hgg).trans hcell, (h.cell (p := ⟨p14, EV, none⟩) hpz).trans hcp⟩)
                  have H9 : Hid (∀ U, Below wr.heap.size wr U → Calls Try.prog 9 #[.slice xa x.length xcap] U fun e w' => ∃ v9, e = .returned v9 ∧ Below wr.heap.size wr w' ∧ Sv w' v9 (vvals x) ∧ w'.cell? ⟨w.heap.size, 0, none⟩ = some (.int .u8 (op : Int)) ∧ w'.cell? ⟨w.heap.size, 1, none⟩ = some (.int .u32 (f : Int)) ∧ w'.cell? ⟨w.heap.size, 2, none⟩ = some (.int .u8 (c.1 : Int)) ∧ w'.cell? ⟨w.heap.size, 3, none⟩ = some (.int .i64 c.2.1) ∧ w'.cell? ⟨w.heap.size, 4, none⟩ = some (.string (bytesT c.2.2)) ∧ w'.cell? ⟨w.heap.size, 5, none⟩ = some (.slice ka ks.length kcap) ∧ w'.cell? ⟨q, 0, none⟩ = some (.int .u32 (si : Int)) ∧ w'.cell? ⟨q, 1, none⟩ = some (.slice fla l.length fcap) ∧ w'.cell? ⟨g, j, none⟩ = some (.slice xa x.length xcap) ∧ w'.cell? ⟨p14, EV, none⟩ = some (.bool true)) := hidden (fun U hU => by
                    refine (row6_any (HXR.out.kept hU) (fun c hc => (HXF.out c hc).okc) HXL.out).mono ?_
                    rintro e w6 ⟨⟨v9, rfl, ho9⟩, hb6⟩
                    have h7 := below_then hU hb6
                    rw [map_fix HXF.out] at ho9
                    exact ⟨v9, rfl, h7, ho9.sv, HSS.out _ h7⟩)
                  have H18 : Hid (∀ U, Below wr.heap.size wr U → ∀ v9, Sv U v9 (vvals x) → Calls Try.prog 18 #[.agg #[.int .u8 (op : Int), .int .u32 (f : Int), .int .u8 (c.1 : Int), .int .i64 c.2.1, .string (bytesT c.2.2), .slice ka ks.length kcap], .agg #[.int .u32 (si : Int), .slice fla l.length fcap], v9] U fun e w' => e = .returned (.int .u8 (EV : Int)) ∧ Below wr.heap.size wr w' ∧ w'.cell? ⟨w.heap.size, 0, none⟩ = some (.int .u8 (op : Int)) ∧ w'.cell? ⟨w.heap.size, 1, none⟩ = some (.int .u32 (f : Int)) ∧ w'.cell? ⟨w.heap.size, 2, none⟩ = some (.int .u8 (c.1 : Int)) ∧ w'.cell? ⟨w.heap.size, 3, none⟩ = some (.int .i64 c.2.1) ∧ w'.cell? ⟨w.heap.size, 4, none⟩ = some (.string (bytesT c.2.2)) ∧ w'.cell? ⟨w.heap.size, 5, none⟩ = some (.slice ka ks.length kcap) ∧ w'.cell? ⟨q, 0, none⟩ = some (.int .u32 (si : Int)) ∧ w'.cell? ⟨q, 1, none⟩ = some (.slice fla l.length fcap) ∧ w'.cell? ⟨g, j, none⟩ = some (.slice xa x.length xcap) ∧ w'.cell? ⟨p14, EV, none⟩ = some (.bool true)) := hidden (fun U hU v9 h9 => by
                    refine (eval_any (HPJ.out.kept hU).1.2 HO.out HLA.out (HPJ.out.kept hU).2.1.2.2.2 h9 HXF.out).mono ?_
                    rintro e w6 ⟨rfl, hb6⟩
                    have h7 := below_then hU hb6
                    exact ⟨by rw [HEV.out], h7, HSS.out _ h7⟩)
                  have hkk0 := HSS.out wr (Below.refl _ _)
                  clear hcell hrow hft hcv hle hEV hcp hxm hpz hgg HXR HXF HXL HSS HEV
                  go_wp2_with fail
                  go_region_held3 (fun w' => w'.cell? ⟨w.heap.size, 0, none⟩ = some (.int .u8 (op : Int)) ∧ w'.cell? ⟨w.heap.size, 1, none⟩ = some (.int .u32 (f : Int)) ∧ w'.cell? ⟨w.heap.size, 2, none⟩ = some (.int .u8 (c.1 : Int)) ∧ w'.cell? ⟨w.heap.size, 3, none⟩ = some (.int .i64 c.2.1) ∧ w'.cell? ⟨w.heap.size, 4, none⟩ = some (.string (bytesT c.2.2)) ∧ w'.cell? ⟨w.heap.size, 5, none⟩ = some (.slice ka ks.length kcap) ∧ w'.cell? ⟨q, 0, none⟩ = some (.int .u32 (si : Int)) ∧ w'.cell? ⟨q, 1, none⟩ = some (.slice fla l.length fcap) ∧ w'.cell? ⟨g, j, none⟩ = some (.slice xa x.length xcap) ∧ w'.cell? ⟨p14, EV, none⟩ = some (.bool true)) (first | assumption | go_keep) (first
                    | (go_at_call 9; refine (H9.out _ ?_).mono ?_; (first | exact (Below.refl _ _).drew | exact below_drewN (Below.refl _ _) _); rintro e w10 ⟨v9, rfl, hbX, hv9, hkk⟩)
                    | (go_at_call 18; refine (H18.out _ ?_ _ ?_).mono ?_; exact hbX; exact hv9; rintro e w11 ⟨rfl, hbX, hkk2⟩))
                  all_goals clear hkk hkk2 hkk0
                  all_goals go_wp2_with fail
                  all_goals go_roundw
                  case rel => exact ⟨j + 1, by omega, by go_num, below_then HBJ.out hbX⟩
                  case measure => simp [intOf]; omega
                · obtain rfl : j = frs.length := by omega
                  have hge2 : ¬ ((frs.length : Nat) : Int) < (frs.length : Int) := by omega
                  go_wp2_with fail
                  go_ret
                  exact ⟨rfl, below_then HBV.out HBJ.out⟩
    · go_wp2_with fail
      go_ret
      exact ⟨rfl, HB3.out⟩
  · go_wp2_with fail
    go_ret
    exact ⟨rfl, HB2.out⟩
end Go.Proofs.Ytfcnoeehfhncjaa
