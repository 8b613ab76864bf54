/- Contracts: the document's Signs and First. -/
import Derived.Test.YtgcdnigfojihiaaSign
import Derived.Maps.AppendAt
set_option linter.unusedVariables false
set_option linter.unusedSimpArgs false
namespace Go.Proofs.Ytgcdnigfojihiaa
open Go.RowKit

theorem hidden {p : Prop} (h : p) : Hid p := h

def sgn (u : List (Nat × Nat)) (k : Nat) : List Value := (u.take k).map fun x => Value.int .i64 (x.1 : Int)
def ats (u : List (Nat × Nat)) (k : Nat) : List Value := (List.range k).map fun j => Value.int .i64 (offs u j : Int)

theorem sgn_succ {l : List UInt8} {p k : Nat} (h : At l p k) (hp : p < l.length) : sgn (V l) (k + 1) = sgn (V l) k ++ [.int .i64 ((unit (l.drop p)).1 : Int)] := by
  unfold sgn
  rw [take_all h hp]
  simp

theorem ats_succ {l : List UInt8} {p k : Nat} (h : At l p k) : ats (V l) (k + 1) = ats (V l) k ++ [.int .i64 (p : Int)] := by
  unfold ats
  rw [List.range_succ, List.map_append, h.2.2.1]
  rfl

/-- Two lists of the call's own share no block. -/
def Apart (a b : Value) : Prop := ∀ g, a.ownBlock = some g → b.ownBlock ≠ some g

theorem Apart.symm {a b : Value} (h : Apart a b) : Apart b a := fun g hg h2 => h g h2 hg
theorem Apart.ne {a b : Value} (h : Apart a b) : a.ownBlock = none ∨ a.ownBlock ≠ b.ownBlock := by
  cases ha : a.ownBlock with
  | none => exact Or.inl rfl
  | some g => exact Or.inr (fun h2 => h g ha h2.symm)
theorem Apart.grow {a a' b : Value} {n : Nat} (h : Apart a b) (hn : a'.ownBlock = a.ownBlock ∨ a'.ownBlock = some n) (hb : ∀ k, b.ownBlock = some k → k < n) : Apart a' b := by
  intro g hg h2
  rcases hn with hn | hn
  · exact h g (hn ▸ hg) h2
  · rw [hn] at hg
    have := hb g h2
    have := Option.some.inj hg
    omega

theorem info3 : (Try.prog.info? 3).map (fun i => (i.zero, i.size, i.bytes)) = some (some (.int .i64 0), 1, 8) := by kernel_rfl

theorem cell_one_new' (w : World) (x : Value) (e : TypeId) : ∀ j u, [x][j]? = some u → (w.alloc (.cells #[x] e)).cell? ((⟨w.heap.size, 0, none⟩ : Addr).add j) = some u := cell_one_new w x e

set_option maxRecDepth 100000 in
set_option maxHeartbeats 2000000 in
theorem signs_any (s : ByteArray) (hs : s.size ≤ 100000) (w : World) :
    Calls Try.prog 10 #[.string s] w fun e w' => (∃ a b, e = .returned (.tuple #[a, b, .bool (clean (lb s))]) ∧ w'.ownsRow w.heap.size 3 1 a (V (lb s)).length (sgn (V (lb s)) (V (lb s)).length) ∧ w'.ownsRow w.heap.size 3 1 b (V (lb s)).length (ats (V (lb s)) (V (lb s)).length)) ∧ Below w.heap.size w w' := by
  obtain ⟨i0, hi, hz0, hz1', hz2⟩ := info_parts info3
  have hL := lb_size s
  have hV := V_le (lb s)
  go_enter Try.func10, Try.ntmps10
  go_wp2_with fail
  go_loopw [5, 6, 7, 8] (fun a b c i wr => ∃ p k : Nat, At (lb s) p k ∧ i = .int .i64 p ∧ c = .bool (((V (lb s)).take k).all ok) ∧ wr.ownsRow w.heap.size 3 1 a k (sgn (V (lb s)) k) ∧ wr.ownsRow w.heap.size 3 1 b k (ats (V (lb s)) k) ∧ Apart a b ∧ Below w.heap.size w wr) (fun _ _ _ i _ => s.size - (intOf i).toNat)
  case atStart => exact ⟨0, 0, At.zero _, rfl, rfl, World.ownsRow_nil _ _ _ _, World.ownsRow_nil _ _ _ _, (fun g hg => by simp [Value.ownBlock] at hg), Below.refl _ _⟩
  case round =>
    obtain ⟨p, k, hat, rfl, rfl, hown, hown2, hap, hbel⟩ := hrel
    by_cases hp : p < s.size
    · have hk := hat.len (by omega)
      have hw := unit_width _ (drop_ne (l := lb s) (p := p) (by omega))
      simp only [List.length_drop] at hw
      have HN := hidden (hat.next (by omega))
      have HS := hidden (sgn_succ hat (by omega))
      have HA := hidden (ats_succ hat)
      have HT := hidden (take_all hat (by omega))
      have HO := hidden hown
      have HO2 := hidden hown2
      have HP := hidden hap
      have HB := hidden hbel
      have hzr := hbel.size
      clear hat hown hown2 hap hbel
      have hex : lb (s.extract p s.size) = (lb s).drop p := by rw [lb_extract, List.take_of_length_le (by simp; omega)]
      have hes : (s.extract p s.size).size = s.size - p := by rw [← lb_size, hex]; simp; omega
      have hc := sign_any (s.extract p s.size) (by omega) (by omega)
      rw [hex] at hc
      have HC := hidden hc
      clear hc hex hes
      generalize unit ((lb s).drop p) = u at *
      obtain ⟨c, wd⟩ := u
      simp only at *
      generalize hc1 : ((V (lb s)).take k).all ok = ck at *
      have HC1 := hidden hc1
      clear hc1
      go_wp2_with fail
      refine (HC.out _).mono ?_
      rintro e w1 ⟨rfl, rfl⟩
      go_wp2_with (first | (at_builtin; refine wpList_append_own_at _ rfl _ _ 23 rfl w.heap.size 3 i0 (.int .i64 0) 1 8 Try.underlying23 hi hz0 hz1' hz2 rfl (by decide) _ _ _ rfl (HO.out.alloc _) ⟨w1.heap.size, 0, none⟩ 1 1 [.int .i64 (c : Int)] rfl rfl ?c1 ?c2 ?c3 ?c4 ?c5 ?_))
      case c1 => exact cell_one_new _ _ _
      case c2 => intro u hu; simp at hu; subst hu; rfl
      case c3 => unfold maxLen; omega
      case c4 => omega
      case c5 => simp; omega
      intro v1 w2 o1 g1 _ e1
      have hz2w := g1.size
      simp at hz2w
      have HO1 := hidden o1
      have HO3 := hidden ((HO2.out.alloc (.cells #[.int .i64 (c : Int)] 3)).kept g1 HP.out.symm.ne)
      have HP1 := hidden (HP.out.grow e1 (fun k hk => by have := (HO2.out.lt k hk).2; simp; omega))
      have HB1 := hidden ((HB.out.alloc (by omega) _).grown g1 (by simp; omega) (fun k hk => (HO.out.lt k hk).1))
      clear o1 g1 e1
      go_wp2_with (first | (at_builtin; refine wpList_append_own_at _ rfl _ _ 23 rfl w.heap.size 3 i0 (.int .i64 0) 1 8 Try.underlying23 hi hz0 hz1' hz2 rfl (by decide) _ _ _ rfl (HO3.out.alloc _) ⟨w2.heap.size, 0, none⟩ 1 1 [.int .i64 (p : Int)] rfl rfl ?d1 ?d2 ?d3 ?d4 ?d5 ?_))
      case d1 => exact cell_one_new _ _ _
      case d2 => intro u hu; simp at hu; subst hu; rfl
      case d3 => unfold maxLen; omega
      case d4 => omega
      case d5 => simp; omega
      intro v2 w3 o2 g2 _ e2
      have HO4 := hidden o2
      have HO5 := hidden ((HO1.out.alloc (.cells #[.int .i64 (p : Int)] 3)).kept g2 HP1.out.ne)
      have HP2 := hidden (HP1.out.symm.grow e2 (fun k hk => by have := (HO1.out.lt k hk).2; simp; omega)).symm
      have HB2 := hidden ((HB1.out.alloc (by omega) _).grown g2 (by simp; omega) (fun k hk => (HO3.out.lt k hk).1))
      clear o2 g2 e2
      cases ck
      all_goals
        go_wp2_with fail
        go_roundw
        case rel =>
          refine ⟨p + wd, k + 1, HN.out, by go_num, ?_, ?_, ?_, HP2.out, HB2.out⟩
          · rw [HT.out, List.all_append, HC1.out]; simp
          · rw [HS.out]; exact HO5.out
          · rw [HA.out]; exact HO4.out
        case measure => simp [intOf]; omega
    · have he := hat.end (by omega)
      have HE := hidden he
      clear he hat
      go_wp2_with fail
      go_ret3
      obtain ⟨rfl, _⟩ := HE.out
      exact ⟨⟨_, _, (by rw [List.take_length]; rfl), hown, hown2⟩, hbel⟩

theorem own_kept {w w' : World} {B e size n : Nat} {v : Value} {xs : List Value} (h : w.ownsRow B e size v n xs) (hb : Below w.heap.size w w') : w'.ownsRow B e size v n xs := by
  obtain ⟨hl, h⟩ := h
  refine ⟨hl, ?_⟩
  rcases h with h | ⟨g, cap, cur, h1, h2, h3, h4⟩
  · exact Or.inl h
  · have hg : g < w.heap.size := by
      rcases Nat.lt_or_ge g w.heap.size with hg | hg
      · exact hg
      · rw [Array.getElem?_eq_none hg] at h3; cases h3
    exact Or.inr ⟨g, cap, cur, h1, h2, (hb.block g hg).trans h3, h4⟩

/-- A row of the call's own: a slice with its cells. -/
theorem own_form {w : World} {B e n : Nat} {v : Value} {xs : List Value} (h : w.ownsRow B e 1 v n xs) : (∃ ad cap, v = .slice ad n cap ∧ ∀ g, ad = some g → g.spot = none) ∧ (0 < n → ∃ g cap, v = .slice (some ⟨g, 0, none⟩) n cap ∧ g < w.heap.size ∧ B ≤ g ∧ ∀ j x, xs[j]? = some x → w.cell? ⟨g, j, none⟩ = some x) := by
  obtain ⟨hl, h1⟩ := id h
  rcases h1 with ⟨rfl, rfl⟩ | ⟨g, cap, cur, rfl, hb, hg, h4⟩
  · exact ⟨⟨none, 0, rfl, fun g hg => by cases hg⟩, fun h => by omega⟩
  · refine ⟨⟨_, cap, rfl, fun x hx => by cases hx; rfl⟩, fun _ => ⟨g, cap, rfl, (Array.getElem?_eq_some_iff.1 hg).1, hb, fun j x hx => ?_⟩⟩
    have := h.cells (g := g) rfl j x hx
    have hadd : (⟨g, 0, none⟩ : Addr).add j = ⟨g, j, none⟩ := by unfold Addr.add; split <;> simp_all
    rwa [hadd] at this

theorem ats_get {u : List (Nat × Nat)} {n j : Nat} (h : j < n) : (ats u n)[j]? = some (.int .i64 (offs u j : Int)) := by
  simp [ats, h]

theorem sgn_get {u : List (Nat × Nat)} {j : Nat} (h : j < u.length) : (sgn u u.length)[j]? = some (.int .i64 (u[j].1 : Int)) := by
  simp [sgn, h]

theorem offs_le {l : List UInt8} : ∀ k, k ≤ (V l).length → At l (offs (V l) k) k := by
  intro k
  induction k with
  | zero => intro _; rw [offs_zero]; exact At.zero l
  | succ k ih =>
    intro hk
    have h := ih (by omega)
    have hlt : offs (V l) k < l.length := by
      rcases Nat.lt_or_ge (offs (V l) k) l.length with h1 | h1
      · exact h1
      · have := (h.end (by omega)).1
        omega
    have h2 := h.next hlt
    rw [h2.2.2.1] at h2
    exact h2

set_option maxRecDepth 100000 in
theorem refFirst_any (s : ByteArray) (n : Int) (hs : s.size ≤ 100000) (w : World) :
    Calls Try.prog 14 #[.string s, .int .i64 n] w fun e w' => (∃ t, e = .returned (.string t) ∧ lb t = firstL (lb s) n) ∧ Below w.heap.size w w' := by
  have hL := lb_size s
  have hV := V_le (lb s)
  have HEx := hidden (lb_extract s)
  go_enter Try.func14, Try.ntmps14
  go_wp2_with fail
  refine (signs_any s hs _).mono ?_
  rintro e w1 ⟨⟨a, b, rfl, ha, hb⟩, hbel⟩
  have HB := hidden hbel
  have hz := hbel.size
  clear hbel ha
  obtain ⟨⟨ad, cap, rfl, _⟩, hcells⟩ := own_form hb
  clear hb
  by_cases h1 : n < 1
  · clear hcells
    go_wp2_with fail
    go_ret
    refine ⟨⟨_, rfl, ?_⟩, HB.out⟩
    have : n.toNat = 0 := by omega
    rw [firstL, this, offs_zero]
    rfl
  · by_cases h2 : n ≥ ((V (lb s)).length : Int)
    · clear hcells
      go_wp2_with fail
      go_ret
      refine ⟨⟨_, rfl, ?_⟩, HB.out⟩
      have h3 := (offs_le (l := lb s) (V (lb s)).length (by omega))
      have h4 : offs (V (lb s)) (V (lb s)).length = (lb s).length := by
        rcases Nat.lt_or_ge (offs (V (lb s)) (V (lb s)).length) (lb s).length with h5 | h5
        · have := h3.len h5; omega
        · exact (h3.end (by omega)).2
      rw [firstL, offs_all _ _ (by omega), List.take_of_length_le (by omega)]
    · obtain ⟨g, cap2, hsl, hg, _, hc⟩ := hcells (by omega)
      obtain ⟨k, rfl⟩ : ∃ k : Nat, n = k := ⟨n.toNat, by omega⟩
      simp only [Value.slice.injEq] at hsl
      obtain ⟨rfl, _, rfl⟩ := hsl
      have hck := hc k _ (ats_get (by omega))
      have hol := (offs_le (l := lb s) k (by omega)).1
      clear hc
      generalize ho : offs (V (lb s)) k = o at *
      have HOF : Hid (offs (V (lb s)) k = o) := ho
      clear ho
      go_wp2_with fail
      go_ret
      refine ⟨⟨_, rfl, ?_⟩, HB.out⟩
      rw [HEx.out, firstL, Int.toNat_natCast, HOF.out]
      simp
end Go.Proofs.Ytgcdnigfojihiaa
