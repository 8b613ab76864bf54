/- Contracts: HasPrefix, Count, Clean, First. -/
import Derived.Test.YtgcdnigfojihiaaRows
import Derived.WalkKit
import Derived.WalkLawsBesides
import Derived.Outline
import Derived.WalkSpells
import Derived.Lib.OthersKept
import Derived.Test.YtgcdnigfojihiaaUnits
set_option linter.unusedVariables false
set_option linter.unusedSimpArgs false
namespace Go.Proofs.Ytgcdnigfojihiaa
open Go.RowKit

def lb (s : ByteArray) : List UInt8 := s.data.toList
theorem lb_size (s : ByteArray) : (lb s).length = s.size := rfl
theorem lb_inj {a b : ByteArray} (h : lb a = lb b) : a = b := by
  cases a; cases b
  simp [lb] at h
  subst h
  rfl
theorem lb_extract (s : ByteArray) (a e : Nat) : lb (s.extract a e) = ((lb s).drop a).take (e - a) := by
  simp [lb, ByteArray.data_extract, Array.toList_extract, List.extract_eq_take_drop]

theorem decode_lb (s : ByteArray) (p : Nat) : Utf8.decode s p = unit ((lb s).drop p) := decode_unit s p

theorem ret_int {k : IntKind} {a b : Int} (h : a = b) : Ending.returned (.int k a) = .returned (.int k b) := by rw [h]
theorem ret_bool {a b : Bool} (h : a = b) : Ending.returned (.bool a) = .returned (.bool b) := by rw [h]
theorem ret_str {a b : ByteArray} (h : lb a = lb b) : Ending.returned (.string a) = .returned (.string b) := by rw [lb_inj h]

theorem toList_lb (s : ByteArray) : s.toList = lb s := ByteArray.toList_eq s

theorem prefix_take (b a : List UInt8) : (a.take b.length == b) = b.isPrefixOf a := by
  rw [Bool.eq_iff_iff]
  simp only [beq_iff_eq, List.isPrefixOf_iff_prefix]
  constructor
  · intro h; rw [← h]; exact List.take_prefix _ _
  · rintro ⟨t, rfl⟩; simp

theorem litePrefix_any (a b : ByteArray) (w : World) : Calls Try.prog 28 #[.string a, .string b] w fun e w' => e = .returned (.bool ((lb b).isPrefixOf (lb a))) ∧ w' = w := by
  have ha := lb_size a
  have hb := lb_size b
  by_cases h : (a.size : Int) ≥ b.size
  · go_enter Try.func28, Try.ntmps28
    go_wp2
    go_ret
    refine ⟨ret_bool ?_, rfl⟩
    rw [toList_lb, toList_lb, lb_extract, ← prefix_take]
    simp [hb]
  · go_enter Try.func28, Try.ntmps28
    go_wp2
    go_ret
    refine ⟨ret_bool ?_, rfl⟩
    cases hp : (lb b).isPrefixOf (lb a) with
    | false => rfl
    | true =>
      obtain ⟨y, hy⟩ := List.isPrefixOf_iff_prefix.1 hp
      have := congrArg List.length hy
      simp at this
      omega

theorem hasPrefix_any (a b : ByteArray) (w : World) : Calls Try.prog 22 #[.string a, .string b] w fun e w' => e = .returned (.bool ((lb b).isPrefixOf (lb a))) ∧ w' = w := by
  go_enter Try.func22, Try.ntmps22
  go_wp2_with fail
  refine (litePrefix_any _ _ _).mono ?_
  rintro e w1 ⟨rfl, rfl⟩
  go_wp2_with fail
  go_ret
  exact ⟨rfl, rfl⟩

theorem below_iter (w : World) (s : ByteArray) (p : Nat) : Below w.heap.size w (w.iter s p) := (Below.refl _ _).alloc (Nat.le_refl _) _

theorem count_any (s : ByteArray) (hs : s.size ≤ 100000) (w : World) :
    Calls Try.prog 11 #[.string s] w fun e w' => e = .returned (.int .i64 (V (lb s)).length) ∧ Below w.heap.size w w' := by
  have hL := lb_size s
  have hV := V_le (lb s)
  go_enter Try.func11, Try.ntmps11
  go_wp2
  go_loopw [3] (fun n w' => ∃ p k : Nat, w' = w.iter s p ∧ n = .int .i64 k ∧ At (lb s) p k) (fun _ w' => s.size - w'.iterPos w.heap.size)
  case atStart => exact ⟨0, 0, rfl, rfl, At.zero _⟩
  case round =>
    obtain ⟨p, k, rfl, rfl, hat⟩ := hrel
    by_cases hp : p < s.size
    · have hnx : ∀ ty, (Instr.next (.pointer (some ⟨w.heap.size, 0, none⟩)) true ty).run Try.prog (w.iter s p) = _ := fun ty => run_next_any w s p ty hp
      rw [decode_lb] at hnx
      have hk := hat.len (by omega)
      have hw := unit_width _ (drop_ne (l := lb s) (p := p) (by omega))
      have hn := hat.next (by omega)
      clear hat
      go_wp2
      go_roundw
      case rel => exact ⟨_, k + 1, rfl, by go_num, hn⟩
      case measure => simp; omega
    · have hnx : ∀ ty, (Instr.next (.pointer (some ⟨w.heap.size, 0, none⟩)) true ty).run Try.prog (w.iter s p) = _ := fun ty => run_next_end w s p ty hp
      have HE : Hid (k = (V (lb s)).length ∧ p = (lb s).length) := hat.end (by omega)
      clear hat
      go_wp2
      go_ret
      exact ⟨ret_int (by rw [HE.out.1]), below_iter _ _ _⟩

theorem all_take_succ {l : List UInt8} {p k : Nat} (h : At l p k) (hp : p < l.length) (ha : ((V l).take k).all ok = true) : ((V l).take (k + 1)).all ok = ok (unit (l.drop p)) := by
  rw [take_all h hp, List.all_append, ha]
  simp

theorem all_of_take {u : List (Nat × Nat)} {k : Nat} (h : (u.take k).all ok = false) : u.all ok = false := by
  cases hu : u.all ok with
  | false => rfl
  | true =>
    rw [List.all_eq_true] at hu
    rw [List.all_eq_false] at h
    obtain ⟨x, hx, hx2⟩ := h
    exact absurd (hu x (List.mem_of_mem_take hx)) hx2

theorem clean_any (s : ByteArray) (hs : s.size ≤ 100000) (w : World) :
    Calls Try.prog 12 #[.string s] w fun e w' => e = .returned (.bool (clean (lb s))) ∧ Below w.heap.size w w' := by
  have hL := lb_size s
  go_enter Try.func12, Try.ntmps12
  go_wp2
  go_loopw [3] (fun i w' => ∃ p k : Nat, w' = w.iter s p ∧ At (lb s) p k ∧ ((V (lb s)).take k).all ok = true) (fun _ w' => s.size - w'.iterPos w.heap.size)
  case atStart => exact ⟨0, 0, rfl, At.zero _, rfl⟩
  case round =>
    obtain ⟨p, k, rfl, hat, hall⟩ := hrel
    by_cases hp : p < s.size
    · have hnx : ∀ ty, (Instr.next (.pointer (some ⟨w.heap.size, 0, none⟩)) true ty).run Try.prog (w.iter s p) = _ := fun ty => run_next_any w s p ty hp
      rw [decode_lb] at hnx
      have hw := unit_width _ (drop_ne (l := lb s) (p := p) (by omega))
      have hn := hat.next (by omega)
      have hal := all_take_succ hat (by omega) hall
      have hst := stray_prefix (l := (lb s).drop p) (drop_ne (by omega))
      clear hat hall
      generalize (unit ((lb s).drop p)) = u at *
      obtain ⟨c, wd⟩ := u
      simp only at *
      by_cases hc : c = 65533
      · subst hc
        have hs1 := hst rfl
        clear hst
        go_wp2_with fail
        refine (hasPrefix_any _ _ _).mono ?_
        rintro e w1 ⟨rfl, rfl⟩
        have hs2 : (lb { data := #[239, 191, 189] }).isPrefixOf (lb (s.extract p s.size)) = ok (65533, wd) := by
          rw [← hs1, lb_extract, List.take_of_length_le (by simp; omega)]
          rfl
        rw [hs2]
        clear hs1 hs2
        cases ho : ok (65533, wd) with
        | true =>
          go_wp2_with fail
          go_roundw
          case rel => exact ⟨_, k + 1, rfl, hn, by rw [hal, ho]⟩
          case measure => simp; omega
        | false =>
          go_wp2_with fail
          go_ret
          exact ⟨ret_bool (by rw [clean, all_of_take (k := k + 1)]; rw [hal, ho]), below_iter _ _ _⟩
      · have hcb : ((c : Int) == 65533) = false := by simp; omega
        have ho : ok (c, wd) = true := by simp [ok, hc]
        clear hst
        go_wp2_with fail
        go_roundw
        case rel => exact ⟨_, k + 1, rfl, hn, by rw [hal, ho]⟩
        case measure => simp; omega
    · have hnx : ∀ ty, (Instr.next (.pointer (some ⟨w.heap.size, 0, none⟩)) true ty).run Try.prog (w.iter s p) = _ := fun ty => run_next_end w s p ty hp
      have HE : Hid (k = (V (lb s)).length ∧ p = (lb s).length) := hat.end (by omega)
      clear hat
      go_wp2_with fail
      go_ret
      refine ⟨ret_bool ?_, below_iter _ _ _⟩
      rw [HE.out.1, List.take_length] at hall
      exact hall.symm

/-- The first n signs. -/
def firstL (l : List UInt8) (n : Int) : List UInt8 := l.take (offs (V l) n.toNat)

theorem offs_all (u : List (Nat × Nat)) (k : Nat) (h : u.length ≤ k) : offs u k = offs u u.length := by
  unfold offs
  rw [List.take_of_length_le h, List.take_length]

theorem first_any (s : ByteArray) (n : Int) (hs : s.size ≤ 100000) (w : World) :
    Calls Try.prog 13 #[.string s, .int .i64 n] w fun e w' => (∃ t, e = .returned (.string t) ∧ lb t = firstL (lb s) n) ∧ Below w.heap.size w w' := by
  have hL := lb_size s
  have hV := V_le (lb s)
  go_enter Try.func13, Try.ntmps13
  go_wp2
  go_loopw [5] (fun m w' => ∃ p k : Nat, w' = w.iter s p ∧ m = .int .i64 k ∧ At (lb s) p k ∧ (k = 0 ∨ (k : Int) ≤ n)) (fun _ w' => s.size - w'.iterPos w.heap.size)
  case atStart => exact ⟨0, 0, rfl, rfl, At.zero _, Or.inl rfl⟩
  case round =>
    obtain ⟨p, k, rfl, rfl, hat, hkn⟩ := hrel
    by_cases hp : p < s.size
    · have hnx : ∀ ty, (Instr.next (.pointer (some ⟨w.heap.size, 0, none⟩)) true ty).run Try.prog (w.iter s p) = _ := fun ty => run_next_any w s p ty hp
      rw [decode_lb] at hnx
      have hk := hat.len (by omega)
      have hw := unit_width _ (drop_ne (l := lb s) (p := p) (by omega))
      have hn := hat.next (by omega)
      have HPO : Hid (p = offs (V (lb s)) k) := hat.2.2.1
      clear hat
      by_cases hg : (k : Int) ≥ n
      · go_wp2_with fail
        go_ret
        refine ⟨⟨_, rfl, ?_⟩, below_iter _ _ _⟩
        have hnk : n.toNat = k := by omega
        rw [firstL, hnk, ← HPO.out, lb_extract]
        simp
      · go_wp2_with fail
        go_roundw
        case rel => exact ⟨_, k + 1, rfl, by go_num, hn, Or.inr (by omega)⟩
        case measure => simp; omega
    · have hnx : ∀ ty, (Instr.next (.pointer (some ⟨w.heap.size, 0, none⟩)) true ty).run Try.prog (w.iter s p) = _ := fun ty => run_next_end w s p ty hp
      have HE : Hid (k = (V (lb s)).length ∧ p = (lb s).length) := hat.end (by omega)
      have HPO : Hid (p = offs (V (lb s)) k) := hat.2.2.1
      clear hat
      go_wp2_with fail
      go_ret
      refine ⟨⟨_, rfl, ?_⟩, below_iter _ _ _⟩
      rw [firstL]
      have hpo := HPO.out
      have he := HE.out
      have hge : (lb s).length ≤ offs (V (lb s)) n.toNat := by
        by_cases hk0 : (V (lb s)).length ≤ n.toNat
        · rw [offs_all _ _ hk0, ← HE.out.1, ← HPO.out]; omega
        · have : k = 0 := by omega
          rw [this] at hpo
          simp at hpo
          omega
      rw [List.take_of_length_le hge]
end Go.Proofs.Ytgcdnigfojihiaa
