/- Slices and what they hold, whoever made them: of any values, of whole numbers; parts of them; bytes put behind bytes. Contracts: putEach, putSteps. The library's slices functions at whole numbers and at texts, and bits.Mul: the kit's contracts laid at this program. Contracts: slices.Clone, Sort, Compact, BinarySearch, Min over whole numbers, in words of rows. -/
import Derived.Test.YtcmmednihoaekaaGreatBitsRef
import Derived.Test.YtcmmednihoaekaaGreatVars
import Derived.Test.YtcmmednihoaekaaGreatMath
import Derived.Shelf.Bits.Mul64
import Derived.Shelf.SlicesG.Turned
import Derived.Shelf.SlicesG.Clone
import Derived.Shelf.SlicesG.CompactI
import Derived.Shelf.SlicesG.CompactS
import Derived.Shelf.SlicesG.SearchI
import Derived.Shelf.SortM.Plain
import Derived.Shelf.Spec.SearchS
import Derived.Shelf.SortM.SortNone
import Derived.Test.YtcmmednihoaekaaGreatProg
import Derived.Lib.OwnBridge
set_option linter.unusedVariables false
set_option linter.unusedSimpArgs false
namespace Go.Proofs.YtcmmednihoaekaaGreat
open Go.RowKit Go.Lib

/-- Whole numbers as values. -/
def ivals (l : List Int) : List Value := l.map fun z => Value.int .i64 z
theorem ivals_append (a b : List Int) : ivals (a ++ b) = ivals a ++ ivals b := List.map_append
theorem ivals_length (a : List Int) : (ivals a).length = a.length := List.length_map _
theorem ivals_get {l : List Int} {j : Nat} (h : j < l.length) : (ivals l)[j]? = some (.int .i64 l[j]) := by simp [ivals, h]
theorem ivals_set (l : List Int) (j : Nat) (c : Int) : (ivals l).set j (.int .i64 c) = ivals (l.set j c) := by simp [ivals, List.map_set]
theorem ivals_oneCell (l : List Int) : ∀ u ∈ ivals l, u.oneCell' = true := by
  intro u hu
  obtain ⟨b, _, rfl⟩ := List.mem_map.1 hu
  rfl

/-- A slice that holds xs. -/
def Sv (W : World) (v : Value) (xs : List Value) : Prop :=
  ∃ a cap, v = .slice a xs.length cap ∧ xs.length ≤ cap ∧ cap ≤ maxLen ∧ (a = none → cap = 0) ∧
    (0 < xs.length → ∃ b off, a = some ⟨b, off, none⟩ ∧ b < W.heap.size ∧ ∀ j x, xs[j]? = some x → W.cell? ⟨b, off + j, none⟩ = some x)

theorem Sv.kept {W W' : World} {v : Value} {xs : List Value} (h : Sv W v xs) (hb : Below W.heap.size W W') : Sv W' v xs := by
  obtain ⟨a, cap, rfl, h1, h2, h3, h4⟩ := h
  refine ⟨a, cap, rfl, h1, h2, h3, fun h0 => ?_⟩
  obtain ⟨b, off, rfl, h5, h6⟩ := h4 h0
  exact ⟨b, off, rfl, Nat.lt_of_lt_of_le h5 hb.size, fun j x hj => (hb.cell (p := ⟨b, off + j, none⟩) h5).trans (h6 j x hj)⟩

theorem Sv.nil (W : World) : Sv W (.slice none 0 0) [] := ⟨none, 0, rfl, Nat.le_refl _, by unfold maxLen; omega, fun _ => rfl, fun h => by simp at h⟩

theorem Sv.of_own {W : World} {B e n : Nat} {v : Value} {xs : List Value} (h : W.ownsRow B e 1 v n xs) : Sv W v xs := by
  have hl : xs.length = n := by have := h.1; simpa using this
  obtain ⟨_, h1⟩ := id h
  rcases h1 with ⟨rfl, rfl⟩ | ⟨g, cap, cur, rfl, hb, hg, h4, h5, _⟩
  · exact ⟨none, 0, by rw [hl], by omega, by unfold maxLen; omega, fun _ => rfl, fun h0 => by omega⟩
  · refine ⟨_, cap, by rw [hl], by omega, h5, fun h => (by cases h), fun _ => ⟨g, 0, rfl, (Array.getElem?_eq_some_iff.1 hg).1, fun j x hj => ?_⟩⟩
    have := h.cells (g := g) rfl j _ hj
    rw [add0] at this
    rwa [Nat.zero_add]

theorem Sv.len {W : World} {v : Value} {xs : List Value} (h : Sv W v xs) : xs.length ≤ maxLen := by obtain ⟨_, _, _, h1, h2, _⟩ := h; omega

theorem Sv.sx {k : IntKind} {W : World} {v : Value} {l : List Nat} (h : Sv W v (vals k l)) : Sx k W v l := by
  have hm := h.len
  obtain ⟨a, cap, rfl, h1, h2, h3, h4⟩ := h
  rw [vals_length] at *
  refine ⟨a, cap, rfl, hm, fun h0 => ?_⟩
  obtain ⟨b, off, rfl, h5, h6⟩ := h4 h0
  exact ⟨b, off, rfl, h5, fun j hj => h6 j _ (vals_get hj)⟩

theorem vals_bytes (l : List UInt8) : vals .u8 (l.map UInt8.toNat) = byteVals l := by simp [vals, byteVals]
theorem bytes_vals {l : List Nat} (h : Bs l) : byteVals (l.map Nat.toUInt8) = vals .u8 l := by rw [← vals_bytes, map_fwd h]

theorem Sv.sl {W : World} {v : Value} {l : List Nat} (hb : Bs l) (h : Sv W v (vals .u8 l)) : Sl W v (l.map Nat.toUInt8) := by
  rw [← bytes_vals hb] at h
  obtain ⟨a, cap, rfl, h1, h2, h3, h4⟩ := h
  rw [byteVals_length] at *
  refine ⟨a, cap, rfl, h1, h2, fun h0 => ?_⟩
  obtain ⟨b, off, rfl, h5, h6⟩ := h4 h0
  exact ⟨b, off, rfl, h5, fun j hj => h6 j _ (byteVals_get hj)⟩

/-- A part from the beginning; a part to the end. -/
theorem Sv.take {W : World} {a : Option Addr} {n cap : Nat} {xs : List Value} (h : Sv W (.slice a n cap) xs) {k : Nat} (hk : k ≤ xs.length) : Sv W (.slice a k cap) (xs.take k) := by
  obtain ⟨a', c, h1, h2, h3, h4, h5⟩ := h
  simp only [Value.slice.injEq] at h1
  obtain ⟨rfl, _, rfl⟩ := h1
  have hl : (xs.take k).length = k := by rw [List.length_take]; omega
  refine ⟨_, cap, by rw [hl], by omega, h3, h4, fun h0 => ?_⟩
  obtain ⟨b', off', h6, h7, h8⟩ := h5 (by omega)
  refine ⟨b', off', h6, h7, fun j x hj => h8 j x ?_⟩
  have hjl := (List.getElem?_eq_some_iff.1 hj).1
  rw [List.getElem?_take] at hj
  rwa [if_pos (by omega)] at hj

theorem Sv.drop {W : World} {b off n cap : Nat} {xs : List Value} (h : Sv W (.slice (some ⟨b, off, none⟩) n cap) xs) {k : Nat} (hk : k ≤ xs.length) {a : Addr} (ha : a = if cap = k then ⟨b, off, none⟩ else ⟨b, off + k, none⟩) :
    Sv W (.slice (some a) (n - k) (cap - k)) (xs.drop k) := by
  obtain ⟨a', c, h1, h2, h3, h4, h5⟩ := h
  simp only [Value.slice.injEq] at h1
  obtain ⟨rfl, rfl, rfl⟩ := h1
  have hl : (xs.drop k).length = xs.length - k := by rw [List.length_drop]
  refine ⟨_, _, by rw [hl], by omega, by omega, fun h => (by cases h), fun h0 => ?_⟩
  obtain ⟨b', off', h6, h7, h8⟩ := h5 (by omega)
  cases h6
  rw [if_neg (by omega)] at ha
  refine ⟨b, off + k, by rw [ha], h7, fun j x hj => ?_⟩
  rw [List.getElem?_drop] at hj
  have := h8 (k + j) x hj
  rwa [← Nat.add_assoc] at this

/-- Bytes, numbers, whole numbers of the call's own. -/
def OwnB (W : World) (B : Nat) (v : Value) (bs : List Nat) : Prop := W.ownsRow B 5 1 v bs.length (vals .u8 bs)
def OwnU (W : World) (B : Nat) (v : Value) (bs : List Nat) : Prop := W.ownsRow B 63 1 v bs.length (vals .u64 bs)
def OwnI (W : World) (B : Nat) (v : Value) (l : List Int) : Prop := W.ownsRow B 2 1 v l.length (ivals l)

theorem OwnB.nil (W : World) (B : Nat) : OwnB W B (.slice none 0 0) [] := World.ownsRow_nil _ _ _ _
theorem OwnU.nil (W : World) (B : Nat) : OwnU W B (.slice none 0 0) [] := World.ownsRow_nil _ _ _ _
theorem OwnI.nil (W : World) (B : Nat) : OwnI W B (.slice none 0 0) [] := World.ownsRow_nil _ _ _ _
theorem OwnB.kept {w w' : World} {B : Nat} {v : Value} {bs : List Nat} (h : OwnB w B v bs) (hb : Below w.heap.size w w') : OwnB w' B v bs := own_kept h hb
theorem OwnU.kept {w w' : World} {B : Nat} {v : Value} {bs : List Nat} (h : OwnU w B v bs) (hb : Below w.heap.size w w') : OwnU w' B v bs := own_kept h hb
theorem OwnI.kept {w w' : World} {B : Nat} {v : Value} {bs : List Int} (h : OwnI w B v bs) (hb : Below w.heap.size w w') : OwnI w' B v bs := own_kept h hb
theorem OwnB.sv {W : World} {B : Nat} {v : Value} {bs : List Nat} (h : OwnB W B v bs) : Sv W v (vals .u8 bs) := Sv.of_own h
theorem OwnU.sv {W : World} {B : Nat} {v : Value} {bs : List Nat} (h : OwnU W B v bs) : Sv W v (vals .u64 bs) := Sv.of_own h
theorem OwnI.sv {W : World} {B : Nat} {v : Value} {l : List Int} (h : OwnI W B v l) : Sv W v (ivals l) := Sv.of_own h

/-- What a call tells: bytes of its own, and all else as it was. -/
def Told (w : World) (bs : List Nat) (e : Ending) (w' : World) : Prop := (∃ v, e = .returned v ∧ OwnB w' w.heap.size v bs) ∧ Below w.heap.size w w'

theorem uv_vals (n : Nat) : vals .u8 (uv n) = byteVals (uvarint n) := vals_bytes _

theorem vput_told (n : Nat) (hn : n < 18446744073709551616) (w : World) : Calls Tryz.prog 76 #[.int .u64 (n : Int)] w (Told w (uv n)) := by
  refine (vput_any n hn w).mono ?_
  rintro e w' ⟨⟨v, rfl, h⟩, hb⟩
  exact ⟨⟨v, rfl, by unfold OwnB; rw [uv_vals, uv_len]; exact h⟩, hb⟩

theorem refPut_told (n : Nat) (hn : n < 18446744073709551616) (w : World) : Calls Tryz.prog 35 #[.int .u64 (n : Int)] w (Told w (uv n)) := by
  refine (refPut_any n hn w).mono ?_
  rintro e w' ⟨⟨v, rfl, h⟩, hb⟩
  exact ⟨⟨v, rfl, by unfold OwnB; rw [uv_vals, uv_len]; exact h⟩, hb⟩

theorem putInt_told {z : Int} (hz : I64 z) (w : World) : Calls Tryz.prog 108 #[.int .i64 z] w (Told w (wv z)) := by
  refine (putInt_any z hz.1 hz.2 w).mono ?_
  rintro e w' ⟨⟨v, rfl, h⟩, hb⟩
  exact ⟨⟨v, rfl, by unfold OwnB; rw [wv, uv_vals, uv_len]; exact h⟩, hb⟩

theorem refPutInt_told {z : Int} (hz : I64 z) (w : World) : Calls Tryz.prog 79 #[.int .i64 z] w (Told w (wv z)) := by
  refine (refPutInt_any z hz.1 hz.2 w).mono ?_
  rintro e w' ⟨⟨v, rfl, h⟩, hb⟩
  exact ⟨⟨v, rfl, by unfold OwnB; rw [wv, uv_vals, uv_len]; exact h⟩, hb⟩

theorem wpList_append_sv {w : World} {ops : Array Oper} {rest : List Oper} {o : Oper} {a : Act} {Q : Exit → Act → World → Prop} (hgd : o.guard = none) (s x : Operand)
    (ho : o.op = .call { callee := .builtin .append, args := #[s, x], argTypes := #[24, 24] })
    (base : Nat) (v vx : Value) (l0 l : List Nat) (hs : a.eval s = v) (hown : OwnB w base v l0) (hx : a.eval x = vx) (hsl : Sv w vx (vals .u8 l))
    (hbytes : l0.length + l.length ≤ 140737488355328) (hbase : base ≤ w.heap.size)
    (h : ∀ v' w', OwnB w' base v' (l0 ++ l) → Below base w w' → wpList Tryz.prog ops Q rest (a.put o.dst v') w') :
    wpList Tryz.prog ops Q (o :: rest) a w := by
  obtain ⟨i0, hi, hz0, hz1', hz2⟩ := info_parts info5
  unfold OwnB at *
  obtain ⟨ad, cap, rfl, h1, h2, h3, h4⟩ := hsl
  rw [vals_length] at *
  cases ad with
  | none =>
    have hc := h3 rfl
    subst hc
    have hl : l = [] := List.eq_nil_of_length_eq_zero (by omega)
    subst hl
    refine wpList_plain hgd fun K hK => ?_
    have hr := run_append_owned_none (P := Tryz.prog) (w := w) base 24 o.type 5 i0 1 Tryz.underlying24 hi v l0.length (vals .u8 l0) hown
    unfold Oper.wp execOp
    simp only [ho, resolve, invoke, builtin, Sem.run_bind, Sem.run_pure, Result.andThen_ok, List.map_toArray, List.map_cons, List.map_nil, hs, hx, hr, List.length_nil]
    refine hK _ _ (h v w ?_ (Below.refl _ _))
    rw [List.append_nil]
    exact hown
  | some ad =>
    refine wpList_append_own_at (w := w) hgd s x 24 ho base 5 i0 (.int .u8 0) 1 1 Tryz.underlying24 hi hz0 hz1' hz2 rfl (by decide) v l0.length (vals .u8 l0) hs hown ad l.length cap (vals .u8 l) hx (by rw [vals_length]; omega) ?_ (vals_oneCell _ _) (by unfold maxLen; omega) (by omega) hbase ?_
    · intro j u hu
      have hj : j < l.length := by
        have := (List.getElem?_eq_some_iff.1 hu).1
        rwa [vals_length] at this
      obtain ⟨b, off, h5, _, h6⟩ := h4 (by omega)
      cases h5
      rw [addj]
      exact h6 j u hu
    · intro v' w' o1 g1 _ _
      refine h v' w' ?_ ((Below.refl base w).grown g1 hbase (fun k hk => (hown.lt k hk).1))
      rw [vals_append, List.length_append]
      exact o1
end Go.Proofs.YtcmmednihoaekaaGreat
set_option linter.unusedVariables false
set_option linter.unusedSimpArgs false
namespace Go.Proofs.YtcmmednihoaekaaGreat
open Go.RowKit Go.Lib

theorem enc0_append (a b : List Int) : enc0 (a ++ b) = enc0 a ++ enc0 b := by
  induction a with
  | nil => rfl
  | cons x t ih => rw [List.cons_append, enc0, ih, enc0, List.append_assoc]

theorem enc0_succ {l : List Int} {k : Nat} (h : k < l.length) : enc0 (l.take (k + 1)) = enc0 (l.take k) ++ wv l[k] := by
  rw [List.take_succ_eq_append_getElem h, enc0_append]
  simp [enc0]

theorem Is.take {l : List Int} (h : Is l) (k : Nat) : Is (l.take k) := fun x hx => h x (List.mem_of_mem_take hx)
theorem Is.get {l : List Int} (h : Is l) {k : Nat} (hk : k < l.length) : I64 l[k] := h _ (List.getElem_mem hk)

/-- The cell of a slice of whole numbers. -/
theorem Sv.at {W : World} {a : Option Addr} {n cap : Nat} {l : List Int} (h : Sv W (.slice a n cap) (ivals l)) {k : Nat} (hk : k < l.length) :
    ∃ b off, a = some ⟨b, off, none⟩ ∧ b < W.heap.size ∧ W.cell? ⟨b, off + k, none⟩ = some (.int .i64 l[k]) := by
  obtain ⟨a', c, h1, h2, h3, h4, h5⟩ := h
  simp only [Value.slice.injEq] at h1
  obtain ⟨rfl, _, rfl⟩ := h1
  obtain ⟨b, off, h6, h7, h8⟩ := h5 (by rw [ivals_length]; omega)
  exact ⟨b, off, h6, h7, h8 k _ (ivals_get hk)⟩

theorem Sv.form {W : World} {v : Value} {l : List Int} (h : Sv W v (ivals l)) : ∃ a cap, v = .slice a l.length cap ∧ l.length ≤ cap ∧ cap ≤ maxLen := by
  obtain ⟨a, cap, rfl, h1, h2, _⟩ := h
  rw [ivals_length] at *
  exact ⟨a, cap, rfl, h1, h2⟩

set_option maxRecDepth 100000 in
set_option maxHeartbeats 2000000 in
theorem putEach_any {w : World} {v : Value} {l : List Int} (hs : Sv w v (ivals l)) (hl : l.length ≤ 256) (hi : Is l) :
    Calls Tryz.prog 92 #[v] w (Told w (enc0 l)) := by
  have HI := hidden hi
  have HS := hidden hs
  obtain ⟨a, cap, rfl, hcap, hcm⟩ := hs.form
  clear hs hi hcap hcm
  go_enter Tryz.func92, Tryz.ntmps92
  go_wp2_with fail
  go_loopw [3, 8] (fun b i wr => ∃ k : Nat, k ≤ l.length ∧ i = .int .i64 (k : Int) ∧ OwnB wr w.heap.size b (enc0 (l.take k)) ∧ Below w.heap.size w wr) (fun _ i _ => l.length - (intOf i).toNat)
  case atStart => exact ⟨0, by omega, rfl, OwnB.nil _ _, Below.refl _ _⟩
  case round =>
    obtain ⟨k, hk, rfl, hown, hbel⟩ := hrel
    have HO := hidden hown
    have HB := hidden hbel
    have hzr := hbel.size
    clear hown hbel
    by_cases hlt : k < l.length
    · obtain ⟨b, off, rfl, hb, hck⟩ := (HS.out.kept HB.out).at hlt
      have HX := hidden (HI.out.get hlt)
      have HT := hidden (enc0_succ hlt)
      have hsz := (enc0_size (HI.out.take k)).1
      rw [List.length_take] at hsz
      have hten := wv_ten (HI.out.get hlt)
      generalize l[k] = x at *
      generalize enc0 (l.take k) = acc at *
      go_wp2_with fail
      refine (putInt_told HX.out _).mono ?_
      rintro e w2 ⟨⟨v2, rfl, hown2⟩, hb2⟩
      have HO2 := hidden hown2
      have HOk := hidden (HO.out.kept hb2)
      have HB2 := hidden (HB.out.trans (hb2.mono hzr))
      have hz2 := hb2.size
      clear hown2 hb2
      go_wp2_with (first | (at_builtin; refine wpList_append_sv rfl _ _ rfl w.heap.size _ _ acc (wv x) rfl HOk.out rfl HO2.out.sv ?c1 ?c2 ?_))
      case c1 => omega
      case c2 => omega
      intro v3 w3 o3 b3
      have HO3 := hidden o3
      have HB3 := hidden (HB2.out.trans b3)
      clear o3 b3
      go_wp2_with fail
      go_roundw
      case rel => exact ⟨k + 1, by omega, by go_num, by rw [HT.out]; exact HO3.out, HB3.out⟩
      case measure => simp [intOf]; omega
    · obtain rfl : k = l.length := by omega
      rw [List.take_length] at HO
      go_wp2_with fail
      go_ret
      exact ⟨⟨_, rfl, HO.out⟩, HB.out⟩
end Go.Proofs.YtcmmednihoaekaaGreat
namespace Go.Proofs.YtcmmednihoaekaaGreat
open Go.Shelf
def lays212_ren : Go.Shelf.Ren := ⟨fun | 212 => 103 | 263 => 133 | 264 => 134 | n => n, fun | 46 => 95 | 51 => 152 | 146 => 157 | 53 => 63 | 148 => 159 | n => n, fun | n => n⟩
theorem lays212 : Go.Proofs.Lays.n212 Tryz.prog lays212_ren := {
  mixed := by kernel_rfl
  f212 := Tryz.func103.trans (congrArg some (by kernel_rfl))
  f263 := Tryz.func133.trans (congrArg some (by kernel_rfl))
  f264 := Tryz.func134.trans (congrArg some (by kernel_rfl))
  t46 := Tryz.underlying95
  a46 := Tryz.isAgg95
  z46 := Tryz.sizeOf95
  v46 := Tryz.zeroValue95
  t51 := Tryz.underlying152
  a51 := Tryz.isAgg152
  z51 := Tryz.sizeOf152
  v51 := Tryz.zeroValue152
  t53 := Tryz.underlying63
  a53 := Tryz.isAgg63
  z53 := Tryz.sizeOf63
  v53 := Tryz.zeroValue63
  t146 := Tryz.underlying157
  a146 := Tryz.isAgg157
  z146 := Tryz.sizeOf157
  v146 := Tryz.zeroValue157
  t148 := Tryz.underlying159
  a148 := Tryz.isAgg159
  z148 := Tryz.sizeOf159
  v148 := Tryz.zeroValue159 }
def laysSlN39_f117_ren : Go.Shelf.Ren := ⟨fun | 39 => 117 | n => n, fun | 22 => 53 | 23 => 2 | 3 => 3 | 4 => 4 | 9 => 9 | 20 => 20 | 0 => 0 | n => n, fun | n => n⟩
theorem laysSlN39_f117 : Go.Proofs.SlLaysN.n39 Tryz.prog laysSlN39_f117_ren := {
  mixed := by kernel_rfl
  f39 := ⟨Tryz.f117.name, by decide, Tryz.func117.trans (congrArg some (by kernel_rfl))⟩
  t0 := Tryz.underlying0
  a0 := Tryz.isAgg0
  z0 := Tryz.sizeOf0
  v0 := Tryz.zeroValue0
  t3 := Tryz.underlying3
  a3 := Tryz.isAgg3
  z3 := Tryz.sizeOf3
  v3 := Tryz.zeroValue3
  t4 := Tryz.underlying4
  a4 := Tryz.isAgg4
  z4 := Tryz.sizeOf4
  v4 := Tryz.zeroValue4
  t9 := Tryz.underlying9
  a9 := Tryz.isAgg9
  z9 := Tryz.sizeOf9
  v9 := Tryz.zeroValue9
  t20 := Tryz.underlying20
  a20 := Tryz.isAgg20
  z20 := Tryz.sizeOf20
  v20 := Tryz.zeroValue20
  t22 := Tryz.underlying53
  a22 := Tryz.isAgg53
  z22 := Tryz.sizeOf53
  v22 := Tryz.zeroValue53
  t23 := Tryz.underlying2
  a23 := Tryz.isAgg2
  z23 := Tryz.sizeOf2
  v23 := Tryz.zeroValue2 }
def laysSlN41_f110_ren : Go.Shelf.Ren := ⟨fun | 41 => 110 | n => n, fun | 22 => 53 | 23 => 2 | 4 => 4 | n => n, fun | n => n⟩
theorem laysSlN41_f110 : Go.Proofs.SlLaysN.n41 Tryz.prog laysSlN41_f110_ren := {
  mixed := by kernel_rfl
  f41 := ⟨Tryz.f110.name, by decide, Tryz.func110.trans (congrArg some (by kernel_rfl))⟩
  t4 := Tryz.underlying4
  a4 := Tryz.isAgg4
  z4 := Tryz.sizeOf4
  v4 := Tryz.zeroValue4
  t22 := Tryz.underlying53
  a22 := Tryz.isAgg53
  z22 := Tryz.sizeOf53
  v22 := Tryz.zeroValue53
  t23 := Tryz.underlying2
  a23 := Tryz.isAgg2
  z23 := Tryz.sizeOf2
  v23 := Tryz.zeroValue2
  i23 := by kernel_rfl }
def laysSlN42_f72_ren : Go.Shelf.Ren := ⟨fun | 42 => 72 | n => n, fun | 25 => 59 | 26 => 9 | 4 => 4 | n => n, fun | n => n⟩
theorem laysSlN42_f72 : Go.Proofs.SlLaysN.n42 Tryz.prog laysSlN42_f72_ren := {
  mixed := by kernel_rfl
  f42 := ⟨Tryz.f72.name, by decide, Tryz.func72.trans (congrArg some (by kernel_rfl))⟩
  t4 := Tryz.underlying4
  a4 := Tryz.isAgg4
  z4 := Tryz.sizeOf4
  v4 := Tryz.zeroValue4
  t25 := Tryz.underlying59
  a25 := Tryz.isAgg59
  z25 := Tryz.sizeOf59
  v25 := Tryz.zeroValue59
  t26 := Tryz.underlying9
  a26 := Tryz.isAgg9
  z26 := Tryz.sizeOf9
  v26 := Tryz.zeroValue9
  i26 := by kernel_rfl }
def laysSlN43_f112_ren : Go.Shelf.Ren := ⟨fun | 43 => 112 | n => n, fun | 22 => 53 | 23 => 2 | 3 => 3 | 4 => 4 | 0 => 0 | n => n, fun | n => n⟩
theorem laysSlN43_f112 : Go.Proofs.SlLaysN.n43 Tryz.prog laysSlN43_f112_ren := {
  mixed := by kernel_rfl
  f43 := ⟨Tryz.f112.name, by decide, Tryz.func112.trans (congrArg some (by kernel_rfl))⟩
  t0 := Tryz.underlying0
  a0 := Tryz.isAgg0
  z0 := Tryz.sizeOf0
  v0 := Tryz.zeroValue0
  t3 := Tryz.underlying3
  a3 := Tryz.isAgg3
  z3 := Tryz.sizeOf3
  v3 := Tryz.zeroValue3
  t4 := Tryz.underlying4
  a4 := Tryz.isAgg4
  z4 := Tryz.sizeOf4
  v4 := Tryz.zeroValue4
  t22 := Tryz.underlying53
  a22 := Tryz.isAgg53
  z22 := Tryz.sizeOf53
  v22 := Tryz.zeroValue53
  t23 := Tryz.underlying2
  a23 := Tryz.isAgg2
  z23 := Tryz.sizeOf2
  v23 := Tryz.zeroValue2
  i23 := by kernel_rfl }
def laysSlN44_f74_ren : Go.Shelf.Ren := ⟨fun | 44 => 74 | n => n, fun | 25 => 59 | 26 => 9 | 3 => 3 | 4 => 4 | 0 => 0 | n => n, fun | n => n⟩
theorem laysSlN44_f74 : Go.Proofs.SlLaysN.n44 Tryz.prog laysSlN44_f74_ren := {
  mixed := by kernel_rfl
  f44 := ⟨Tryz.f74.name, by decide, Tryz.func74.trans (congrArg some (by kernel_rfl))⟩
  t0 := Tryz.underlying0
  a0 := Tryz.isAgg0
  z0 := Tryz.sizeOf0
  v0 := Tryz.zeroValue0
  t3 := Tryz.underlying3
  a3 := Tryz.isAgg3
  z3 := Tryz.sizeOf3
  v3 := Tryz.zeroValue3
  t4 := Tryz.underlying4
  a4 := Tryz.isAgg4
  z4 := Tryz.sizeOf4
  v4 := Tryz.zeroValue4
  t25 := Tryz.underlying59
  a25 := Tryz.isAgg59
  z25 := Tryz.sizeOf59
  v25 := Tryz.zeroValue59
  t26 := Tryz.underlying9
  a26 := Tryz.isAgg9
  z26 := Tryz.sizeOf9
  v26 := Tryz.zeroValue9
  i26 := by kernel_rfl }
def laysSlN49_f142_ren : Go.Shelf.Ren := ⟨fun | 49 => 142 | 59 => 162 | 60 => 165 | 68 => 175 | n => n, fun | 22 => 53 | 23 => 2 | 3 => 3 | 4 => 4 | 51 => 95 | 0 => 0 | n => n, fun | n => n⟩
theorem laysSlN49_f142 : Go.Proofs.SlLaysN.n49 Tryz.prog laysSlN49_f142_ren := {
  mixed := by kernel_rfl
  f49 := ⟨Tryz.f142.name, by decide, Tryz.func142.trans (congrArg some (by kernel_rfl))⟩
  f59 := ⟨Tryz.f162.name, by decide, Tryz.func162.trans (congrArg some (by kernel_rfl))⟩
  f60 := ⟨Tryz.f165.name, by decide, Tryz.func165.trans (congrArg some (by kernel_rfl))⟩
  f68 := ⟨Tryz.f175.name, by decide, Tryz.func175.trans (congrArg some (by kernel_rfl))⟩
  t0 := Tryz.underlying0
  a0 := Tryz.isAgg0
  z0 := Tryz.sizeOf0
  v0 := Tryz.zeroValue0
  t3 := Tryz.underlying3
  a3 := Tryz.isAgg3
  z3 := Tryz.sizeOf3
  v3 := Tryz.zeroValue3
  t4 := Tryz.underlying4
  a4 := Tryz.isAgg4
  z4 := Tryz.sizeOf4
  v4 := Tryz.zeroValue4
  t22 := Tryz.underlying53
  a22 := Tryz.isAgg53
  z22 := Tryz.sizeOf53
  v22 := Tryz.zeroValue53
  t23 := Tryz.underlying2
  a23 := Tryz.isAgg2
  z23 := Tryz.sizeOf2
  v23 := Tryz.zeroValue2
  t51 := Tryz.underlying95
  a51 := Tryz.isAgg95
  z51 := Tryz.sizeOf95
  v51 := Tryz.zeroValue95 }
def laysSlM5_f111_ren : Go.Shelf.Ren := ⟨fun | 5 => 111 | 8 => 99 | 7 => 141 | 19 => 128 | 20 => 129 | 10 => 156 | 11 => 157 | 12 => 158 | 13 => 159 | 14 => 160 | 15 => 161 | 16 => 162 | 17 => 163 | 18 => 164 | 30 => 172 | 31 => 144 | 32 => 145 | 33 => 173 | 34 => 174 | 35 => 175 | 40 => 177 | n => n, fun | 23 => 53 | 25 => 2 | 3 => 3 | 32 => 95 | 22 => 53 | 0 => 0 | 44 => 152 | 46 => 63 | 4 => 4 | 36 => 145 | 35 => 144 | 41 => 127 | 5 => 5 | 9 => 9 | 53 => 168 | 57 => 171 | 63 => 183 | 64 => 184 | n => n, fun | n => n⟩
theorem laysSlM5_f111 : Go.Proofs.SlLaysM.n5 Tryz.prog laysSlM5_f111_ren := {
  mixed := by kernel_rfl
  f5 := ⟨Tryz.f111.name, by decide, Tryz.func111.trans (congrArg some (by kernel_rfl))⟩
  f7 := ⟨Tryz.f141.name, by decide, Tryz.func141.trans (congrArg some (by kernel_rfl))⟩
  f8 := Tryz.func99.trans (congrArg some (by kernel_rfl))
  f10 := ⟨Tryz.f156.name, by decide, Tryz.func156.trans (congrArg some (by kernel_rfl))⟩
  f11 := ⟨Tryz.f157.name, by decide, Tryz.func157.trans (congrArg some (by kernel_rfl))⟩
  f12 := ⟨Tryz.f158.name, by decide, Tryz.func158.trans (congrArg some (by kernel_rfl))⟩
  f13 := ⟨Tryz.f159.name, by decide, Tryz.func159.trans (congrArg some (by kernel_rfl))⟩
  f14 := ⟨Tryz.f160.name, by decide, Tryz.func160.trans (congrArg some (by kernel_rfl))⟩
  f15 := ⟨Tryz.f161.name, by decide, Tryz.func161.trans (congrArg some (by kernel_rfl))⟩
  f16 := ⟨Tryz.f162.name, by decide, Tryz.func162.trans (congrArg some (by kernel_rfl))⟩
  f17 := ⟨Tryz.f163.name, by decide, Tryz.func163.trans (congrArg some (by kernel_rfl))⟩
  f18 := ⟨Tryz.f164.name, by decide, Tryz.func164.trans (congrArg some (by kernel_rfl))⟩
  f19 := Tryz.func128.trans (congrArg some (by kernel_rfl))
  f20 := Tryz.func129.trans (congrArg some (by kernel_rfl))
  f30 := ⟨Tryz.f172.name, by decide, Tryz.func172.trans (congrArg some (by kernel_rfl))⟩
  f31 := Tryz.func144.trans (congrArg some (by kernel_rfl))
  f32 := Tryz.func145.trans (congrArg some (by kernel_rfl))
  f33 := ⟨Tryz.f173.name, by decide, Tryz.func173.trans (congrArg some (by kernel_rfl))⟩
  f34 := ⟨Tryz.f174.name, by decide, Tryz.func174.trans (congrArg some (by kernel_rfl))⟩
  f35 := ⟨Tryz.f175.name, by decide, Tryz.func175.trans (congrArg some (by kernel_rfl))⟩
  f40 := ⟨Tryz.f177.name, by decide, Tryz.func177.trans (congrArg some (by kernel_rfl))⟩
  t0 := Tryz.underlying0
  a0 := Tryz.isAgg0
  z0 := Tryz.sizeOf0
  v0 := Tryz.zeroValue0
  t3 := Tryz.underlying3
  a3 := Tryz.isAgg3
  z3 := Tryz.sizeOf3
  v3 := Tryz.zeroValue3
  t4 := Tryz.underlying4
  a4 := Tryz.isAgg4
  z4 := Tryz.sizeOf4
  v4 := Tryz.zeroValue4
  t5 := Tryz.underlying5
  a5 := Tryz.isAgg5
  z5 := Tryz.sizeOf5
  v5 := Tryz.zeroValue5
  t9 := Tryz.underlying9
  a9 := Tryz.isAgg9
  z9 := Tryz.sizeOf9
  v9 := Tryz.zeroValue9
  t22 := Tryz.underlying53
  a22 := Tryz.isAgg53
  z22 := Tryz.sizeOf53
  v22 := Tryz.zeroValue53
  t23 := Tryz.underlying53
  a23 := Tryz.isAgg53
  z23 := Tryz.sizeOf53
  v23 := Tryz.zeroValue53
  t25 := Tryz.underlying2
  a25 := Tryz.isAgg2
  z25 := Tryz.sizeOf2
  v25 := Tryz.zeroValue2
  t32 := Tryz.underlying95
  a32 := Tryz.isAgg95
  z32 := Tryz.sizeOf95
  v32 := Tryz.zeroValue95
  t35 := Tryz.underlying144
  a35 := Tryz.isAgg144
  z35 := Tryz.sizeOf144
  v35 := Tryz.zeroValue144
  t36 := Tryz.underlying145
  a36 := Tryz.isAgg145
  z36 := Tryz.sizeOf145
  v36 := Tryz.zeroValue145
  t41 := Tryz.underlying127
  a41 := Tryz.isAgg127
  z41 := Tryz.sizeOf127
  v41 := Tryz.zeroValue127
  t44 := Tryz.underlying152
  a44 := Tryz.isAgg152
  z44 := Tryz.sizeOf152
  v44 := Tryz.zeroValue152
  t46 := Tryz.underlying63
  a46 := Tryz.isAgg63
  z46 := Tryz.sizeOf63
  v46 := Tryz.zeroValue63
  t53 := Tryz.underlying168
  a53 := Tryz.isAgg168
  z53 := Tryz.sizeOf168
  v53 := Tryz.zeroValue168
  t57 := Tryz.underlying171
  a57 := Tryz.isAgg171
  z57 := Tryz.sizeOf171
  v57 := Tryz.zeroValue171
  t63 := Tryz.underlying183
  a63 := Tryz.isAgg183
  z63 := Tryz.sizeOf183
  v63 := Tryz.zeroValue183
  t64 := Tryz.underlying184
  a64 := Tryz.isAgg184
  z64 := Tryz.sizeOf184
  v64 := Tryz.zeroValue184 }
def laysSlM6_f73_ren : Go.Shelf.Ren := ⟨fun | 6 => 73 | 8 => 99 | 9 => 98 | 19 => 128 | 20 => 129 | 21 => 119 | 22 => 120 | 23 => 121 | 24 => 122 | 25 => 123 | 26 => 124 | 27 => 125 | 28 => 126 | 29 => 127 | 36 => 143 | 31 => 144 | 32 => 145 | 37 => 146 | 38 => 147 | 39 => 148 | 41 => 166 | n => n, fun | 27 => 59 | 29 => 9 | 3 => 3 | 32 => 95 | 26 => 59 | 0 => 0 | 44 => 152 | 46 => 63 | 4 => 4 | 36 => 145 | 35 => 144 | 41 => 127 | 5 => 5 | 9 => 9 | 53 => 168 | 57 => 171 | 63 => 183 | 64 => 184 | n => n, fun | n => n⟩
theorem laysSlM6_f73 : Go.Proofs.SlLaysM.n6 Tryz.prog laysSlM6_f73_ren := {
  mixed := by kernel_rfl
  f6 := ⟨Tryz.f73.name, by decide, Tryz.func73.trans (congrArg some (by kernel_rfl))⟩
  f8 := Tryz.func99.trans (congrArg some (by kernel_rfl))
  f9 := ⟨Tryz.f98.name, by decide, Tryz.func98.trans (congrArg some (by kernel_rfl))⟩
  f19 := Tryz.func128.trans (congrArg some (by kernel_rfl))
  f20 := Tryz.func129.trans (congrArg some (by kernel_rfl))
  f21 := ⟨Tryz.f119.name, by decide, Tryz.func119.trans (congrArg some (by kernel_rfl))⟩
  f22 := ⟨Tryz.f120.name, by decide, Tryz.func120.trans (congrArg some (by kernel_rfl))⟩
  f23 := ⟨Tryz.f121.name, by decide, Tryz.func121.trans (congrArg some (by kernel_rfl))⟩
  f24 := ⟨Tryz.f122.name, by decide, Tryz.func122.trans (congrArg some (by kernel_rfl))⟩
  f25 := ⟨Tryz.f123.name, by decide, Tryz.func123.trans (congrArg some (by kernel_rfl))⟩
  f26 := ⟨Tryz.f124.name, by decide, Tryz.func124.trans (congrArg some (by kernel_rfl))⟩
  f27 := ⟨Tryz.f125.name, by decide, Tryz.func125.trans (congrArg some (by kernel_rfl))⟩
  f28 := ⟨Tryz.f126.name, by decide, Tryz.func126.trans (congrArg some (by kernel_rfl))⟩
  f29 := ⟨Tryz.f127.name, by decide, Tryz.func127.trans (congrArg some (by kernel_rfl))⟩
  f31 := Tryz.func144.trans (congrArg some (by kernel_rfl))
  f32 := Tryz.func145.trans (congrArg some (by kernel_rfl))
  f36 := ⟨Tryz.f143.name, by decide, Tryz.func143.trans (congrArg some (by kernel_rfl))⟩
  f37 := ⟨Tryz.f146.name, by decide, Tryz.func146.trans (congrArg some (by kernel_rfl))⟩
  f38 := ⟨Tryz.f147.name, by decide, Tryz.func147.trans (congrArg some (by kernel_rfl))⟩
  f39 := ⟨Tryz.f148.name, by decide, Tryz.func148.trans (congrArg some (by kernel_rfl))⟩
  f41 := ⟨Tryz.f166.name, by decide, Tryz.func166.trans (congrArg some (by kernel_rfl))⟩
  t0 := Tryz.underlying0
  a0 := Tryz.isAgg0
  z0 := Tryz.sizeOf0
  v0 := Tryz.zeroValue0
  t3 := Tryz.underlying3
  a3 := Tryz.isAgg3
  z3 := Tryz.sizeOf3
  v3 := Tryz.zeroValue3
  t4 := Tryz.underlying4
  a4 := Tryz.isAgg4
  z4 := Tryz.sizeOf4
  v4 := Tryz.zeroValue4
  t5 := Tryz.underlying5
  a5 := Tryz.isAgg5
  z5 := Tryz.sizeOf5
  v5 := Tryz.zeroValue5
  t9 := Tryz.underlying9
  a9 := Tryz.isAgg9
  z9 := Tryz.sizeOf9
  v9 := Tryz.zeroValue9
  t26 := Tryz.underlying59
  a26 := Tryz.isAgg59
  z26 := Tryz.sizeOf59
  v26 := Tryz.zeroValue59
  t27 := Tryz.underlying59
  a27 := Tryz.isAgg59
  z27 := Tryz.sizeOf59
  v27 := Tryz.zeroValue59
  t29 := Tryz.underlying9
  a29 := Tryz.isAgg9
  z29 := Tryz.sizeOf9
  v29 := Tryz.zeroValue9
  t32 := Tryz.underlying95
  a32 := Tryz.isAgg95
  z32 := Tryz.sizeOf95
  v32 := Tryz.zeroValue95
  t35 := Tryz.underlying144
  a35 := Tryz.isAgg144
  z35 := Tryz.sizeOf144
  v35 := Tryz.zeroValue144
  t36 := Tryz.underlying145
  a36 := Tryz.isAgg145
  z36 := Tryz.sizeOf145
  v36 := Tryz.zeroValue145
  t41 := Tryz.underlying127
  a41 := Tryz.isAgg127
  z41 := Tryz.sizeOf127
  v41 := Tryz.zeroValue127
  t44 := Tryz.underlying152
  a44 := Tryz.isAgg152
  z44 := Tryz.sizeOf152
  v44 := Tryz.zeroValue152
  t46 := Tryz.underlying63
  a46 := Tryz.isAgg63
  z46 := Tryz.sizeOf63
  v46 := Tryz.zeroValue63
  t53 := Tryz.underlying168
  a53 := Tryz.isAgg168
  z53 := Tryz.sizeOf168
  v53 := Tryz.zeroValue168
  t57 := Tryz.underlying171
  a57 := Tryz.isAgg171
  z57 := Tryz.sizeOf171
  v57 := Tryz.zeroValue171
  t63 := Tryz.underlying183
  a63 := Tryz.isAgg183
  z63 := Tryz.sizeOf183
  v63 := Tryz.zeroValue183
  t64 := Tryz.underlying184
  a64 := Tryz.isAgg184
  z64 := Tryz.sizeOf184
  v64 := Tryz.zeroValue184 }
def lays2n26_ren : Go.Shelf.Ren := ⟨fun | 26 => 100 | 33 => 125 | 34 => 130 | 38 => 148 | n => n, fun | 24 => 59 | 9 => 9 | 3 => 3 | 4 => 4 | 40 => 95 | 0 => 0 | n => n, fun | n => n⟩
theorem lays2n26 : Go.Proofs.Lays2.n26 Tryz.prog lays2n26_ren := {
  mixed := by kernel_rfl
  f26 := Tryz.func100.trans (congrArg some (by kernel_rfl))
  f33 := Tryz.func125.trans (congrArg some (by kernel_rfl))
  f34 := Tryz.func130.trans (congrArg some (by kernel_rfl))
  f38 := Tryz.func148.trans (congrArg some (by kernel_rfl))
  t0 := Tryz.underlying0
  a0 := Tryz.isAgg0
  z0 := Tryz.sizeOf0
  v0 := Tryz.zeroValue0
  t3 := Tryz.underlying3
  a3 := Tryz.isAgg3
  z3 := Tryz.sizeOf3
  v3 := Tryz.zeroValue3
  t4 := Tryz.underlying4
  a4 := Tryz.isAgg4
  z4 := Tryz.sizeOf4
  v4 := Tryz.zeroValue4
  t9 := Tryz.underlying9
  a9 := Tryz.isAgg9
  z9 := Tryz.sizeOf9
  v9 := Tryz.zeroValue9
  t24 := Tryz.underlying59
  a24 := Tryz.isAgg59
  z24 := Tryz.sizeOf59
  v24 := Tryz.zeroValue59
  t40 := Tryz.underlying95
  a40 := Tryz.isAgg95
  z40 := Tryz.sizeOf95
  v40 := Tryz.zeroValue95 }
end Go.Proofs.YtcmmednihoaekaaGreat
set_option linter.unusedVariables false
set_option linter.unusedSimpArgs false
namespace Go.Proofs.YtcmmednihoaekaaGreat
open Go.RowKit Go.Lib Go.Shelf

theorem Sv.cells {W : World} {b off n cap : Nat} {l : List Int} (h : Sv W (.slice (some ⟨b, off, none⟩) n cap) (ivals l)) : ∀ j, j < l.length → W.cell? ⟨b, off + j, none⟩ = some (.int .i64 (l.getD j 0)) := by
  intro j hj
  obtain ⟨b', off', h1, _, h2⟩ := h.at hj
  cases h1
  rw [h2]
  simp [List.getD_eq_getElem?_getD, hj]

theorem clone_any {w : World} {v : Value} {l : List Int} (hs : Sv w v (ivals l)) (hl : l.length ≤ 256) :
    Calls Tryz.prog 110 #[v] w fun e w' => (∃ v', e = .returned v' ∧ OwnI w' w.heap.size v' l) ∧ Below w.heap.size w w' := by
  have hs0 := hs
  obtain ⟨a, cap, rfl, h1, h2, h3, h4⟩ := hs
  rw [ivals_length] at *
  cases a with
  | none =>
    have hc := h3 rfl
    have hl0 : l = [] := List.eq_nil_of_length_eq_zero (by omega)
    subst hl0
    refine Calls.mono (AnyG.slices_Clone_int_nil laysSlN41_f110 _ _ w) ?_
    rintro e w' ⟨rfl, rfl⟩
    exact ⟨⟨_, rfl, OwnI.nil _ _⟩, Below.refl _ _⟩
  | some a =>
    rcases Nat.eq_zero_or_pos l.length with h0 | h0
    · have hl0 : l = [] := List.eq_nil_of_length_eq_zero h0
      subst hl0
      refine Calls.mono (AnyG.slices_Clone_int_zero laysSlN41_f110 a cap w) ?_
      rintro e w' ⟨v', rfl, ho, _, hb⟩
      exact ⟨⟨_, rfl, ho⟩, hb⟩
    · obtain ⟨b, off, h5, h6, h7⟩ := h4 h0
      cases h5
      refine Calls.mono (AnyG.slices_Clone_int laysSlN41_f110 b off l.length cap l w (Nat.le_refl _) (by omega) hs0.cells) ?_
      rintro e w' ⟨v', rfl, ho, _, hb⟩
      rw [List.take_length] at ho
      exact ⟨⟨_, rfl, ho⟩, hb⟩

/-- Rising, each as often as it is there. -/
def srt (l : List Int) : List Int := l.mergeSort fun x y => decide (x ≤ y)
theorem srt_length (l : List Int) : (srt l).length = l.length := List.length_mergeSort l

theorem below_grow {B : Nat} {w : World} (os : Array Obj) (hB : B ≤ w.heap.size) : Below B w (Sort.grow w os) :=
  ⟨rfl, rfl, rfl, by simp, fun k hk => Sort.heap_grow_old _ _ (by omega)⟩

theorem sort_own {w : World} {B : Nat} {v : Value} {l : List Int} (h : OwnI w B v l) (hl : l.length ≤ 256) (hB : B ≤ w.heap.size) :
    Calls Tryz.prog 111 #[v] w fun e w' => e = .returned (.tuple #[]) ∧ OwnI w' B v (srt l) ∧ Below B w w' := by
  by_cases hv : v = .slice none 0 0
  · subst hv
    have hl0 : l = [] := by
      have h1 := h.1
      rcases h.2 with ⟨_, h2⟩ | ⟨g, cap, cur, h2, _⟩
      · exact List.eq_nil_of_length_eq_zero h2
      · cases h2
    subst hl0
    refine Calls.mono (AnyM.slices_Sort_int_none laysSlM5_f111 none 0 w) ?_
    rintro e w' ⟨rfl, rfl⟩
    exact ⟨rfl, (by unfold srt; rw [List.mergeSort_nil]; exact h), Below.refl _ _⟩
  · obtain ⟨g, cap, rfl, hb, hg, hc, hm, hlen, hH⟩ := holds_of_ownsRow (enc := Value.int .i64) h hv
    refine Calls.mono (AnyM.slices_Sort_int laysSlM5_f111 g 0 cap l w hH hg (by omega)) ?_
    rintro e w' ⟨rfl, n, os, rfl⟩
    have h1 := ownsRow_putRow (enc := Value.int .i64) (q := n) (k := l.length) (ys := srt l) h (srt_length l) (Nat.le_refl _)
    have hb1 := below_putRow (enc := Value.int .i64) (q := n) (d := (srt l).toArray) (Below.refl B w) hb
    refine ⟨rfl, ?_, hb1.trans (below_grow os (by have := hb1.size; omega))⟩
    unfold OwnI
    rw [srt_length]
    rw [List.take_of_length_le (by rw [srt_length]; omega)] at h1
    exact own_kept h1 (below_grow os (Nat.le_refl _))

theorem compact_own {w : World} {B : Nat} {v : Value} {l : List Int} (h : OwnI w B v l) (hl : l.length ≤ 256) (hB : B ≤ w.heap.size) :
    Calls Tryz.prog 112 #[v] w fun e w' => (∃ v', e = .returned v' ∧ OwnI w' B v' (Lib.compact l)) ∧ Below B w w' := by
  by_cases hv : v = .slice none 0 0
  · subst hv
    have hl0 : l = [] := by
      have h1 := h.1
      rcases h.2 with ⟨_, h2⟩ | ⟨g, cap, cur, h2, _⟩
      · exact List.eq_nil_of_length_eq_zero h2
      · cases h2
    subst hl0
    refine Calls.mono (AnyG.slices_Compact_int_empty laysSlN43_f112 none 0 w) ?_
    rintro e w' ⟨rfl, rfl⟩
    exact ⟨⟨_, rfl, h⟩, Below.refl _ _⟩
  · obtain ⟨g, cap, rfl, hb, hg, hc, hm, hlen, hH⟩ := holds_of_ownsRow (enc := Value.int .i64) h hv
    have hle := Lib.compact_length_le l
    refine Calls.mono (AnyG.slices_Compact_int laysSlN43_f112 g 0 cap l w hH (by omega) (by omega)) ?_
    rintro e w' ⟨rfl, q, rfl⟩
    have h1 := ownsRow_putRow (enc := Value.int .i64) (q := q) (k := (Lib.compact l).length) (ys := Lib.compact l ++ List.replicate (l.length - (Lib.compact l).length) 0) h (by simp; omega) (by omega)
    rw [List.take_left] at h1
    exact ⟨⟨_, rfl, h1⟩, below_putRow (enc := Value.int .i64) (Below.refl B w) hb⟩

/-- Of rising numbers the place of one, if it is among them. -/
theorem search_any {w : World} {v : Value} {u : List Int} (hs : Sv w v (ivals u)) (hu : 0 < u.length) (hl : u.length ≤ 256) (hr : Rising u) (x : Int) :
    Calls Tryz.prog 142 #[v, .int .i64 x] w fun e w' => (∃ r, e = .returned (.tuple #[.int .i64 (u.countP (· < x) : Nat), r])) ∧ Below w.heap.size w w' := by
  have hs0 := hs
  obtain ⟨a, cap, rfl, h1, h2, h3, h4⟩ := hs
  rw [ivals_length] at *
  obtain ⟨b, off, rfl, h6, h7⟩ := h4 hu
  refine Calls.mono (AnyG.slices_BinarySearch_int laysSlN49_f142 b off u.length cap u x w (Nat.le_refl _) (by omega) hs0.cells (by rw [List.take_length]; exact hr.imp Int.le_of_lt)) ?_
  rintro e w' ⟨rfl, q, rfl⟩
  rw [List.take_length]
  exact ⟨⟨_, rfl⟩, below_drewN (Below.refl _ _) q⟩

theorem min_any {w : World} {v : Value} {l : List Int} (hs : Sv w v (ivals l)) (hp : 0 < l.length) (hl : l.length ≤ 256) :
    Calls Tryz.prog 117 #[v] w fun e w' => e = .returned (.int .i64 (Lib.minOf l)) ∧ w' = w := by
  have hs0 := hs
  obtain ⟨a, cap, rfl, h1, h2, h3, h4⟩ := hs
  rw [ivals_length] at *
  obtain ⟨b, off, rfl, h6, h7⟩ := h4 hp
  have := AnyG.slices_Min_int laysSlN39_f117 b off l.length cap l w hp (Nat.le_refl _) (by omega) hs0.cells
  rw [List.take_length] at this
  exact this

/-- Sorted and compacted are the unlike numbers, rising. -/
theorem countP_pl {x : Int} : ∀ {u : List Int}, Rising u → x ∈ u → u.countP (· < x) = pl u x
  | y :: t, hr, hx => by
    have h1 : (∀ z ∈ t, y < z) ∧ Rising t := List.pairwise_cons.1 hr
    unfold pl
    split
    · next e =>
      subst e
      rw [List.countP_eq_zero]
      intro z hz
      rcases List.mem_cons.1 hz with rfl | hz
      · simp
      · have := h1.1 z hz
        simp; omega
    · next hne =>
      have ht : x ∈ t := by
        rcases List.mem_cons.1 hx with rfl | h
        · exact absurd rfl hne
        · exact h
      have hlt := h1.1 x ht
      rw [List.countP_cons_of_pos (by simpa using hlt), countP_pl h1.2 ht]

theorem rising_ext : ∀ {a b : List Int}, Rising a → Rising b → (∀ z, z ∈ a ↔ z ∈ b) → a = b
  | [], [], _, _, _ => rfl
  | [], y :: t, _, _, h => by have := (h y).2 (by simp); simp at this
  | x :: s, [], _, _, h => by have := (h x).1 (by simp); simp at this
  | x :: s, y :: t, ha, hb, h => by
    have h1 : (∀ z ∈ s, x < z) ∧ Rising s := List.pairwise_cons.1 ha
    have h2 : (∀ z ∈ t, y < z) ∧ Rising t := List.pairwise_cons.1 hb
    have hxy : x = y := by
      rcases List.mem_cons.1 ((h x).1 (by simp)) with e | e
      · exact e
      · rcases List.mem_cons.1 ((h y).2 (by simp)) with e' | e'
        · exact e'.symm
        · have := h1.1 y e'
          have := h2.1 x e
          omega
    subst hxy
    congr 1
    refine rising_ext h1.2 h2.2 (fun z => ?_)
    have h3 := h z
    constructor
    · intro hz
      rcases List.mem_cons.1 (h3.1 (by simp [hz])) with rfl | e
      · have := h1.1 z hz; omega
      · exact e
    · intro hz
      rcases List.mem_cons.1 (h3.2 (by simp [hz])) with rfl | e
      · have := h2.1 z hz; omega
      · exact e

theorem mem_compactUpTo {l : List Int} : ∀ m, m ≤ l.length → ∀ z, z ∈ compactUpTo l.toArray m ↔ z ∈ l.take m
  | 0, _, z => by simp [compactUpTo]
  | m + 1, hm, z => by
    have ih := mem_compactUpTo (l := l) m (by omega)
    have hg : l.toArray[m]! = l[m] := by simp [show m < l.length by omega]
    rw [compactUpTo_succ, List.mem_append, ih z, List.take_succ_eq_append_getElem (by omega), List.mem_append, hg]
    by_cases hk : keeps l.toArray m = true
    · rw [if_pos hk]
    · rw [if_neg hk]
      constructor
      · rintro (h | h)
        · exact Or.inl h
        · simp at h
      · rintro (h | h)
        · exact Or.inl h
        · left
          have h' : z = l[m] := by simpa using h
          unfold keeps at hk
          simp only [decide_eq_true_eq] at hk
          have hg1 : l.toArray[m - 1]! = l[m - 1] := by simp [show m - 1 < l.length by omega]
          rw [hg, hg1] at hk
          have hm0 : m ≠ 0 := fun e => hk (Or.inl e)
          have he : l[m] = l[m - 1] := Decidable.byContradiction fun e => hk (Or.inr e)
          rw [h', he]
          exact List.mem_take_iff_getElem.2 ⟨m - 1, by omega, rfl⟩

theorem rising_compactUpTo {l : List Int} (hs : l.Pairwise (· ≤ ·)) : ∀ m, m ≤ l.length → Rising (compactUpTo l.toArray m)
  | 0, _ => by simp [compactUpTo, Rising]
  | m + 1, hm => by
    have ih := rising_compactUpTo hs m (by omega)
    have hg : l.toArray[m]! = l[m] := by simp [show m < l.length by omega]
    rw [compactUpTo_succ, hg]
    by_cases hk : keeps l.toArray m = true
    · rw [if_pos hk]
      refine List.pairwise_append.2 ⟨ih, by simp, fun a ha b hb => ?_⟩
      have hb' : b = l[m] := by simpa using hb
      subst hb'
      have h1 := (mem_compactUpTo m (by omega) a).1 ha
      obtain ⟨j, hj, rfl⟩ := List.mem_take_iff_getElem.1 h1
      have hjm : j < m := by omega
      unfold keeps at hk
      simp only [decide_eq_true_eq] at hk
      have hg1 : l.toArray[m - 1]! = l[m - 1] := by simp [show m - 1 < l.length by omega]
      rw [hg, hg1] at hk
      have h2 : l[m] ≠ l[m - 1] := by
        rcases hk with h | h
        · omega
        · exact h
      have h3 : l[m - 1] ≤ l[m] := List.pairwise_iff_getElem.1 hs (m - 1) m (by omega) (by omega) (by omega)
      have h4 : l[j] ≤ l[m - 1] := by
        rcases Nat.lt_or_ge j (m - 1) with h | h
        · exact List.pairwise_iff_getElem.1 hs j (m - 1) (by omega) (by omega) h
        · have : j = m - 1 := by omega
          subst this
          exact Int.le_refl _
      omega
    · rw [if_neg hk, List.append_nil]
      exact ih

theorem compact_srt (l : List Int) : Lib.compact (srt l) = uniq l := by
  have hs : (srt l).Pairwise (· ≤ ·) := by
    have := List.pairwise_mergeSort (le := fun x y : Int => decide (x ≤ y)) (fun a b c h1 h2 => by simp at *; omega) (fun a b => by simp; omega) l
    exact this.imp (fun h => by simpa using h)
  refine rising_ext (rising_compactUpTo hs _ (Nat.le_refl _)) (uniq_rising l) (fun z => ?_)
  rw [mem_uniq]
  have := mem_compactUpTo (l := srt l) (srt l).length (Nat.le_refl _) z
  rw [List.take_length] at this
  unfold Lib.compact
  rw [this]
  exact List.mem_mergeSort

theorem minOf_least {l : List Int} (h : 0 < l.length) : Lib.minOf l = least l := by
  have key : ∀ (t : List Int) (a : Int), t.foldl min a ≤ a ∧ (∀ x ∈ t, t.foldl min a ≤ x) ∧ (t.foldl min a = a ∨ t.foldl min a ∈ t) := by
    intro t
    induction t with
    | nil => intro a; simp
    | cons y t ih =>
      intro a
      obtain ⟨i1, i2, i3⟩ := ih (min a y)
      simp only [List.foldl_cons]
      refine ⟨by omega, fun x hx => ?_, ?_⟩
      · rcases List.mem_cons.1 hx with rfl | hx
        · omega
        · exact i2 x hx
      · rcases i3 with i3 | i3
        · rw [i3]
          rcases Int.le_total a y with h | h
          · left; omega
          · right; simp; left; omega
        · right; simp [i3]
  have h1 : Lib.minOf l ∈ l ∧ ∀ x ∈ l, Lib.minOf l ≤ x := by
    cases l with
    | nil => simp at h
    | cons a t =>
      have := key (a :: t) a
      unfold Lib.minOf
      rw [List.headD_cons]
      refine ⟨?_, this.2.1⟩
      rcases this.2.2 with e | e
      · rw [e]; simp
      · exact e
  have h2 := least_mem h
  have h3 := h1.2 _ h2
  have h4 := least_le _ h1.1
  omega
end Go.Proofs.YtcmmednihoaekaaGreat
