/- Contract: Turn. -/
import Derived.Test.YtgcdnigfojihiaaRev
import Derived.WalkSmall
import Derived.Laws.Cover4
set_option linter.unusedVariables false
set_option linter.unusedSimpArgs false
namespace Go.Proofs.Ytgcdnigfojihiaa
open Go.RowKit

def runeVals (rs : List Nat) : List Value := rs.map fun (r : Nat) => Value.int .i32 (r : Int)

theorem runesBytes_flat : ∀ (rs : List Nat) (hv : ∀ r ∈ rs, vr r) (b : ByteArray), lb ((rs.map fun (r : Nat) => (r : Int)).foldl (fun s n => s ++ Utf8.encode n) b) = lb b ++ flat rs := by
  intro rs
  induction rs with
  | nil => intro _ b; simp
  | cons c rs ih =>
    intro hv b
    rw [List.map_cons, List.foldl_cons, ih (fun r hr => hv r (by simp [hr])), lb_append, lb_encode (hv c (by simp)), flat_cons, List.append_assoc]

theorem conv_runes {w : World} {B n : Nat} {v : Value} {rs : List Nat} (hv : ∀ r ∈ rs, vr r) (h : w.ownsRow B 21 1 v n (runeVals rs)) : ∃ E, (convert 41 9 v).run Try.prog w = .ok (.string E) w ∧ lb E = flat rs := by
  have hl : rs.length = n := by have := h.1; simpa [runeVals] using this
  rcases h.2 with ⟨rfl, rfl⟩ | ⟨g, cap, cur, rfl, h3⟩
  · refine ⟨.empty, run_convert_runes_nil w 41 9 21 0 0 Try.underlying41 Try.underlying21 Try.underlying9, ?_⟩
    obtain rfl : rs = [] := List.eq_nil_of_length_eq_zero hl
    rfl
  · refine ⟨_, run_convert_runes w 41 9 21 ⟨g, 0, none⟩ n cap (rs.map fun (r : Nat) => (r : Int)) (by simp [hl]) Try.underlying41 Try.underlying21 Try.underlying9 (fun j hj => ?_), ?_⟩
    · have hadd : (⟨g, 0, none⟩ : Addr).add j = ⟨g, j, none⟩ := by unfold Addr.add; split <;> simp_all
      simp at hj
      rw [hadd, h.cellAt j (by omega)]
      simp [runeVals, List.getD_eq_getElem?_getD, hj]
    · rw [List.take_of_length_le (by simp [hl])]
      have := runesBytes_flat rs hv ByteArray.empty
      unfold runesBytes
      rw [this]
      rfl

theorem info21 : (Try.prog.info? 21).map (fun i => (i.zero, i.size, i.bytes)) = some (some (.int .i32 0), 1, 4) := by kernel_rfl

theorem i32s_runes (rs : List Nat) : I32s (runeVals rs) := fun x hx => by
  simp [runeVals] at hx
  obtain ⟨r, _, rfl⟩ := hx
  exact ⟨_, rfl⟩

theorem runes_take_succ {l : List UInt8} {p k : Nat} (h : At l p k) (hp : p < l.length) : runeVals ((runes l).take (k + 1)) = runeVals ((runes l).take k) ++ [.int .i32 ((unit (l.drop p)).1 : Int)] := by
  unfold runeVals runes
  rw [← List.map_take, take_all h hp, ← List.map_take]
  simp

set_option maxRecDepth 100000 in
set_option maxHeartbeats 1000000 in
theorem turn_any (s : ByteArray) (hs : s.size ≤ 100000) (w : World) :
    Calls Try.prog 19 #[.string s] w fun e w' => (∃ t, e = .returned (.string t) ∧ lb t = flat (runes (lb s)).reverse) ∧ Below w.heap.size w w' := by
  obtain ⟨i0, hi, hz0, hz1', hz2⟩ := info_parts info21
  have hL := lb_size s
  have hV := V_le (lb s)
  have hR := runes_len (lb s)
  have HVR := hidden (runes_vr (lb s))
  have HR := hidden hR
  clear hR
  go_enter Try.func19, Try.ntmps19
  go_wp2_with fail
  go_loopw [3] (fun v wr => ∃ p k : Nat, At (lb s) p k ∧ wr.heap[w.heap.size]? = some (.stringIter s p) ∧ wr.ownsRow (w.heap.size + 1) 21 1 v k (runeVals ((runes (lb s)).take k)) ∧ Below w.heap.size w wr) (fun _ wr => s.size - wr.iterPos w.heap.size)
  case atStart => exact ⟨0, 0, At.zero _, World.iter_heap w s 0, World.ownsRow_nil _ _ _ _, below_iter _ _ _⟩
  case round =>
    obtain ⟨p, k, hat, hit, hown, hbel⟩ := hrel
    have hzr : w.heap.size < wr.heap.size := (Array.getElem?_eq_some_iff.1 hit).1
    by_cases hp : p < s.size
    · have hnx : ∀ ty, (Instr.next (.pointer (some ⟨w.heap.size, 0, none⟩)) true ty).run Try.prog wr = _ := fun ty => Lib.run_next_any_at wr w.heap.size s p ty hit hp
      rw [decode_lb] at hnx
      have hk := hat.len (by omega)
      have hw := unit_width _ (drop_ne (l := lb s) (p := p) (by omega))
      have HN := hidden (hat.next (by omega))
      have HT := hidden (runes_take_succ hat (by omega))
      have hmeas := iterPos_of hit
      have hm0 : p + 1 ≤ p + (unit ((lb s).drop p)).2 := by omega
      generalize unit ((lb s).drop p) = u at *
      obtain ⟨c, wd⟩ := u
      simp only at *
      have HI1 := hidden (Lib.iterAt_heap wr w.heap.size s p (p + wd) hit)
      have HO1 := hidden (ownsRow_iterAt hown (k := w.heap.size) (by omega) s (p + wd))
      have HB1 := hidden (Lib.below_iterAt hbel (Nat.le_refl _) s (p + wd))
      have hz1 := Lib.iterAt_size wr w.heap.size s (p + wd)
      clear hat hit hown hbel
      generalize wr.iterAt w.heap.size s (p + wd) = W at *
      have hzW : w.heap.size < W.heap.size := by omega
      clear hz1
      go_wp2_with (first | (at_builtin; refine wpList_append_own_at _ rfl _ _ 41 rfl (w.heap.size + 1) 21 i0 (.int .i32 0) 1 4 Try.underlying41 hi hz0 hz1' hz2 rfl (by decide) _ _ _ rfl (HO1.out.alloc _) ⟨W.heap.size, 0, none⟩ 1 1 [.int .i32 (c : Int)] rfl rfl ?c1 ?c2 ?c3 ?c4 ?c5 ?_))
      case c1 => exact cell_one_new _ _ _
      case c2 => intro u hu; simp at hu; subst hu; rfl
      case c3 => unfold maxLen; omega
      case c4 => omega
      case c5 => simp; omega
      intro v1 w2 o1 g1 _ e1
      have HO2 := hidden o1
      have HB2 := hidden ((HB1.out.alloc (by omega) (.cells #[.int .i32 (c : Int)] 21)).grown g1 (by simp; omega) (fun k hk => by have := (HO1.out.lt k hk).1; omega))
      have HI2 : Hid (w2.heap[w.heap.size]? = some (.stringIter s (p + wd))) := by
        show w2.heap[w.heap.size]? = some (.stringIter s (p + wd))
        rw [g1.block w.heap.size (by simp; omega) (fun e => by have := (HO1.out.lt _ e.symm).1; omega)]
        rw [heap_alloc_old _ _ hzW]
        exact HI1.out
      clear o1 g1 e1
      go_wp2_with fail
      go_roundw
      case rel => exact ⟨p + wd, k + 1, HN.out, HI2.out, by rw [HT.out]; exact HO2.out, HB2.out⟩
      case measure => rw [iterPos_of HI2.out, hmeas]; omega
    · have hnx : ∀ ty, (Instr.next (.pointer (some ⟨w.heap.size, 0, none⟩)) true ty).run Try.prog wr = _ := fun ty => Lib.run_next_end_at wr w.heap.size s p ty hit hp
      have HE := hidden (hat.end (by omega))
      have HO := hidden hown
      have HB := hidden hbel
      clear hat hown hbel hit
      have hke := HE.out.1
      subst hke
      have hrl : (runes (lb s)).length ≤ 100000 := by rw [HR.out]; omega
      rw [← HR.out, List.take_length] at HO
      clear HE
      rcases HO.out.2 with ⟨rfl, hn⟩ | ⟨g, cap, cur, rfl, hg, hgr, _⟩
      · obtain ⟨E, hE, hEl⟩ := conv_runes HVR.out HO.out
        have hrs : (runes (lb s)) = [] := List.eq_nil_of_length_eq_zero hn
        have HEL : Hid (lb E = flat (runes (lb s)).reverse) := by
          show lb E = flat (runes (lb s)).reverse
          rw [hEl, hrs]; rfl
        clear hEl hrs hn
        go_wp2_with fail
        refine (reverse_nil _).mono ?_
        rintro e w2 ⟨rfl, rfl⟩
        go_wp2_with fail
        go_ret
        exact ⟨⟨_, rfl, HEL.out⟩, HB.out⟩
      · have HC := hidden (reverse_any (w.heap.size + 1) g (runes (lb s)).length cap _ (by omega) (i32s_runes _) wr hg HO.out)
        clear hgr
        go_wp2_with fail
        refine HC.out.mono ?_
        rintro e w2 ⟨rfl, ho2, hb2⟩
        have hrev : (runeVals (runes (lb s))).reverse = runeVals (runes (lb s)).reverse := by simp [runeVals]
        rw [hrev] at ho2
        obtain ⟨E, hE, hEl⟩ := conv_runes (fun r hr => HVR.out r (by simpa using hr)) ho2
        have HEL := hidden hEl
        have HB2 := hidden (HB.out.trans (hb2.mono (by omega)))
        clear hEl hrev ho2 hb2
        go_wp2_with fail
        go_ret
        exact ⟨⟨_, rfl, HEL.out⟩, HB2.out⟩
end Go.Proofs.Ytgcdnigfojihiaa
