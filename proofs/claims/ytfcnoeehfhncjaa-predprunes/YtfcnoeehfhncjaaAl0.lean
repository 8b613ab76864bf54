/- What alive has: the schema, the statistics, the predicates. -/
import Derived.Test.YtfcnoeehfhncjaaPs4
import Derived.Test.YtfcnoeehfhncjaaMay
import Derived.Test.YtfcnoeehfhncjaaPc
set_option linter.unusedVariables false
set_option linter.unusedSimpArgs false
namespace Go.Proofs.Ytfcnoeehfhncjaa
open Go.RowKit Go.Lib

def sId : ByteArray := ⟨#[105, 100]⟩

def sName : ByteArray := ⟨#[110, 97, 109, 101]⟩

/-- The document's schema, and with one field more. -/
def twoL : List Fd := [(1, sId, 1, true), (2, sName, 3, false)]

theorem fine_int {n : Int} (h : I64 n) : Fine (1, n, []) := Or.inr (Or.inl ⟨n, rfl, h⟩)

theorem fine_nul : Fine (0, 0, []) := Or.inl rfl

theorem i64_7 : I64 7 := ⟨by omega, by omega⟩

theorem fine_two {x y : Cl} (hx : Fine x) (hy : Fine y) : ∀ c ∈ [x, y], Fine c := fun c hc => by
  rcases List.mem_cons.1 hc with rfl | hc
  · exact hx
  · have : c = y := by simpa using hc
    rw [this]; exact hy

theorem litV (w : World) (l : List Cl) (hl : l.length ≤ 256) : OwnV (w.alloc (.cells (vvals l).toArray 61)) w.heap.size (.slice (some ⟨w.heap.size, 0, none⟩) l.length l.length) l :=
  World.ownsRow_lit (e := 61) (size := 1) w (vvals l).toArray l.length (base := w.heap.size) (Nat.le_refl _) (by unfold maxLen; omega) (by simp [vvals])

theorem two_any (w : World) : Calls Try.prog 19 #[] w fun e w' => (∃ v', e = .returned (.agg #[.int .u32 1, v']) ∧ OwnF w' w.heap.size v' twoL) ∧ Below w.heap.size w w' := by
  have HL : Hid (∀ W : World, OwnF (W.alloc (.cells #[.int .u32 1, .string ⟨#[105, 100]⟩, .int .u8 1, .bool true, .int .u32 2, .string ⟨#[110, 97, 109, 101]⟩, .int .u8 3, .bool false] 80)) W.heap.size (.slice (some ⟨W.heap.size, 0, none⟩) 2 2) twoL) := hidden (fun W => lit_fields W twoL (by unfold maxLen; decide))
  have hb1 := below_one w (.cells #[.int .u32 0, .slice none 0 0] 42)
  have hsz : (w.alloc (.cells #[.int .u32 0, .slice none 0 0] 42)).heap.size = w.heap.size + 1 := World.size_alloc _ _
  have HSZ := hidden hsz
  clear hsz
  go_enter Try.func19, Try.ntmps19
  go_wp2
  refine bodyPost_ret (v := .agg #[.int .u32 1, .slice (some ⟨w.heap.size + 1, 0, none⟩) 2 2]) (by simp [results, Try.results19, go_sem]) rfl ?_
  refine ⟨⟨_, rfl, ?_⟩, ?_⟩
  · have h := HL.out (w.alloc (.cells #[.int .u32 1, .slice (some ⟨w.heap.size + 1, 0, none⟩) 2 2] 42))
    rw [World.size_alloc] at h
    exact h.low (by omega)
  · exact ((Below.refl _ _).alloc (Nat.le_refl _) _).alloc (by rw [World.size_alloc]; omega) _

set_option maxRecDepth 100000 in
theorem whole_any (n : Int) (w : World) : Calls Try.prog 20 #[.int .i64 n] w fun e w' => e = .returned (.agg #[.int .u8 1, .int .i64 n, .string ⟨#[]⟩]) ∧ Below w.heap.size w w' := by
  go_enter Try.func20, Try.ntmps20
  go_wp2_with fail
  refine bodyPost_ret (v := .agg #[.int .u8 1, .int .i64 n, .string ⟨#[]⟩]) (by simp [results, Try.results20, go_sem]) rfl ⟨rfl, ?_⟩
  exact (Below.refl _ _).alloc (Nat.le_refl _) _
def cN (n : Int) : Cl := (1, n, [])
def sA : Stt := ⟨3, 1, true, true, cN 3, cN 5⟩
def cT1 : Cl := (3, 0, [97, 98, 99, 100, 101, 102])
def cT2 : Cl := (3, 0, [98])
def sT : Stt := ⟨2, 0, true, true, (3, 0, [97, 98, 99, 100]), (3, 0, [98])⟩
def pE : PT := .node 1 1 (cN 7) []
def pL : PT := .node 2 1 (cN 9) []
def pN : PT := .node 8 0 nul [pE]
theorem ex_s1 : statM [cN 3, cN 5, nul] = sA := by kernel_rfl
theorem ex_s2 : statM [cT1, cT2] = sT := by kernel_rfl
theorem ex_m1 : mayM twoL [sA] pE = (true, true, false) := by kernel_rfl
theorem ex_m2 : mayM twoL [sA] pL = (false, true, true) := by kernel_rfl
theorem ex_m3 : mayM twoL [sA] pN = (false, true, true) := by kernel_rfl
theorem ex_c1 : firstM twoL pE = 0 := by kernel_rfl
theorem ex_e1 : evalM twoL [cN 7, nul] pE = 2 := by kernel_rfl
end Go.Proofs.Ytfcnoeehfhncjaa
