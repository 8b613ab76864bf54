/-
  No cell of these rows narrows 'for every input' (looked for: loops, veiled, ifaces, maps, wideKeys, modest, calm, conditions, laid).
  DERIVED. THE GIVEN ROWS OF THIS SEAT. 6 by the template 'for every input the law returns true; each argument reads behind the call as it read before'; 0 by the template 'total and deterministic' (their statements: YtcmmednihoaekaaGreatTotals.lean).
  GIVEN WITH THE SEED: the statements are not yours to turn. If you find one false, say at which input.
  Laid BY PROGRAM, IN A SANDBOX (cutbox-rows.mjs): the forced cells as the released guide's own fill.sh prints them over the translation 517ab96ba732d885… (all of the seat's roots in one cut). By AI agents, Wed Nov 11 2026. No macro, syntax, notation, axiom, sorry.
-/
import Derived.Test.YtcmmednihoaekaaGreatChecked
import GoSem.Claim
import GoSem.ClaimJoined
import GoSem.ClaimMapViews
import Derived.JoinedTies
import Derived.KernelRfl
namespace Go.Proofs.YtcmmednihoaekaaGreat
/- THE CELL 'sum', in the pinned program and in every row, IS THE sha256 OF THE DUMP (.gsa) THAT YtcmmednihoaekaaGreatProg.lean LOADS. Nothing in Lean hashes anything: it is a label: what it is worth is what the hold of that sum in a sandbox is worth. -/
noncomputable def Tryz.pinned : Pinned := { name := "ytcmmednihoaekaagreat", sum := "517ab96ba732d885e93be2ec7ab7fbd332599c0200a0a087da965dd459832248", checked := Tryz.checked }
namespace Rows
def none {H : Type} : Left H := { results := [], args := [] }

/-- 'catchmentlaw06.ColumnWrites': WHATEVER THE INPUT: true; the input reads as it did. -/
def columnWritesSpec : ChangeSpec := { name := "columnWrites", fn := fun _ => fun
  | [d1, d2] => { results := [.lit (.bool true)], args := [d1, d2] }
  | _ => none }
def columnWritesRow : OpenClaim := { program := "ytcmmednihoaekaagreat", sum := "517ab96ba732d885e93be2ec7ab7fbd332599c0200a0a087da965dd459832248", func := "catchment/catchmentlaw06.ColumnWrites", spec := "columnWrites", unfollowed := true, recurses := true, apart := false }
def ColumnWritesSaid : Prop := columnWritesRow.holds Tryz.pinned (OpenSpec.ofChange columnWritesSpec)

/-- ITS FALSE NEIGHBOUR: 'it returns false'. Refute it at one input. -/
def columnWritesWrong : ChangeSpec := { name := "columnWrites", fn := fun _ => fun
  | [d1, d2] => { results := [.lit (.bool false)], args := [d1, d2] }
  | _ => none }
def ColumnWritesWrongFalsely : Prop := columnWritesRow.holds Tryz.pinned (OpenSpec.ofChange columnWritesWrong)

/-- 'catchmentlaw06.ColumnReads': WHATEVER THE INPUT: true; the input reads as it did. -/
def columnReadsSpec : ChangeSpec := { name := "columnReads", fn := fun _ => fun
  | [d1, d2, d3] => { results := [.lit (.bool true)], args := [d1, d2, d3] }
  | _ => none }
def columnReadsRow : OpenClaim := { program := "ytcmmednihoaekaagreat", sum := "517ab96ba732d885e93be2ec7ab7fbd332599c0200a0a087da965dd459832248", func := "catchment/catchmentlaw06.ColumnReads", spec := "columnReads", unfollowed := true, recurses := true, apart := false }
def ColumnReadsSaid : Prop := columnReadsRow.holds Tryz.pinned (OpenSpec.ofChange columnReadsSpec)

/-- ITS FALSE NEIGHBOUR: 'it returns false'. Refute it at one input. -/
def columnReadsWrong : ChangeSpec := { name := "columnReads", fn := fun _ => fun
  | [d1, d2, d3] => { results := [.lit (.bool false)], args := [d1, d2, d3] }
  | _ => none }
def ColumnReadsWrongFalsely : Prop := columnReadsRow.holds Tryz.pinned (OpenSpec.ofChange columnReadsWrong)

/-- 'catchmentlaw06.ColumnBack': WHATEVER THE INPUT: true; the input reads as it did. -/
def columnBackSpec : ChangeSpec := { name := "columnBack", fn := fun _ => fun
  | [d1, d2] => { results := [.lit (.bool true)], args := [d1, d2] }
  | _ => none }
def columnBackRow : OpenClaim := { program := "ytcmmednihoaekaagreat", sum := "517ab96ba732d885e93be2ec7ab7fbd332599c0200a0a087da965dd459832248", func := "catchment/catchmentlaw06.ColumnBack", spec := "columnBack", unfollowed := true, recurses := true, apart := false }
def ColumnBackSaid : Prop := columnBackRow.holds Tryz.pinned (OpenSpec.ofChange columnBackSpec)

/-- ITS FALSE NEIGHBOUR: 'it returns false'. Refute it at one input. -/
def columnBackWrong : ChangeSpec := { name := "columnBack", fn := fun _ => fun
  | [d1, d2] => { results := [.lit (.bool false)], args := [d1, d2] }
  | _ => none }
def ColumnBackWrongFalsely : Prop := columnBackRow.holds Tryz.pinned (OpenSpec.ofChange columnBackWrong)

/-- 'catchmentlaw06.ColumnCut': WHATEVER THE INPUT: true; the input reads as it did. -/
def columnCutSpec : ChangeSpec := { name := "columnCut", fn := fun _ => fun
  | [d1, d2, d3, d4] => { results := [.lit (.bool true)], args := [d1, d2, d3, d4] }
  | _ => none }
def columnCutRow : OpenClaim := { program := "ytcmmednihoaekaagreat", sum := "517ab96ba732d885e93be2ec7ab7fbd332599c0200a0a087da965dd459832248", func := "catchment/catchmentlaw06.ColumnCut", spec := "columnCut", unfollowed := true, recurses := true, apart := false }
def ColumnCutSaid : Prop := columnCutRow.holds Tryz.pinned (OpenSpec.ofChange columnCutSpec)

/-- ITS FALSE NEIGHBOUR: 'it returns false'. Refute it at one input. -/
def columnCutWrong : ChangeSpec := { name := "columnCut", fn := fun _ => fun
  | [d1, d2, d3, d4] => { results := [.lit (.bool false)], args := [d1, d2, d3, d4] }
  | _ => none }
def ColumnCutWrongFalsely : Prop := columnCutRow.holds Tryz.pinned (OpenSpec.ofChange columnCutWrong)

/-- 'catchmentlaw06.ColumnNulls': WHATEVER THE INPUT: true; the input reads as it did. -/
def columnNullsSpec : ChangeSpec := { name := "columnNulls", fn := fun _ => fun
  | [d1, d2] => { results := [.lit (.bool true)], args := [d1, d2] }
  | _ => none }
def columnNullsRow : OpenClaim := { program := "ytcmmednihoaekaagreat", sum := "517ab96ba732d885e93be2ec7ab7fbd332599c0200a0a087da965dd459832248", func := "catchment/catchmentlaw06.ColumnNulls", spec := "columnNulls", unfollowed := true, recurses := true, apart := false }
def ColumnNullsSaid : Prop := columnNullsRow.holds Tryz.pinned (OpenSpec.ofChange columnNullsSpec)

/-- ITS FALSE NEIGHBOUR: 'it returns false'. Refute it at one input. -/
def columnNullsWrong : ChangeSpec := { name := "columnNulls", fn := fun _ => fun
  | [d1, d2] => { results := [.lit (.bool false)], args := [d1, d2] }
  | _ => none }
def ColumnNullsWrongFalsely : Prop := columnNullsRow.holds Tryz.pinned (OpenSpec.ofChange columnNullsWrong)

/-- 'catchmentlaw06.ColumnOwn': WHATEVER THE INPUT: true; the input reads as it did. -/
def columnOwnSpec : ChangeSpec := { name := "columnOwn", fn := fun _ => fun
  | [d1, d2] => { results := [.lit (.bool true)], args := [d1, d2] }
  | _ => none }
def columnOwnRow : OpenClaim := { program := "ytcmmednihoaekaagreat", sum := "517ab96ba732d885e93be2ec7ab7fbd332599c0200a0a087da965dd459832248", func := "catchment/catchmentlaw06.ColumnOwn", spec := "columnOwn", unfollowed := true, recurses := true, apart := false }
def ColumnOwnSaid : Prop := columnOwnRow.holds Tryz.pinned (OpenSpec.ofChange columnOwnSpec)

/-- ITS FALSE NEIGHBOUR: 'it returns false'. Refute it at one input. -/
def columnOwnWrong : ChangeSpec := { name := "columnOwn", fn := fun _ => fun
  | [d1, d2] => { results := [.lit (.bool false)], args := [d1, d2] }
  | _ => none }
def ColumnOwnWrongFalsely : Prop := columnOwnRow.holds Tryz.pinned (OpenSpec.ofChange columnOwnWrong)

/- THE SECOND FORM. 'bulk': how many values and letters a reading holds, each counted each time it is reached (what is shared counts as often as it is met; a slice's spare places count too). A statement '..UptoSaid' is the law's where the arguments, and the package variables that the reading takes, are together of bulk at most 1048576: NARROWER than '..Said'. Prove '..Said' where nothing that the law and all that it calls make is longer than what came in: it says more and counts as full. Else prove '..UptoSaid'. A law counts once. -/
mutual
def uptoBulk {H : Type} : DataW H → Nat
  | .lit (.string bytes) => bytes.length + 1
  | .lit _ => 1
  | .nil => 1
  | .ptr d => uptoBulk d + 1
  | .slice elems spare => uptoBulkAll elems + uptoBulkAll spare + 1
  | .agg parts => uptoBulkAll parts + 1
  | .iface _ d => uptoBulk d + 1
  | .map entries => uptoBulkEntries entries + 1
  | .held _ => 1
def uptoBulkAll {H : Type} : List (DataW H) → Nat
  | [] => 0
  | d :: r => uptoBulk d + uptoBulkAll r
def uptoBulkEntries {H : Type} : List (Lit × DataW H) → Nat
  | [] => 0
  | x :: r => uptoBulkEntry x + uptoBulkEntries r
def uptoBulkEntry {H : Type} : Lit × DataW H → Nat
  | (.string bytes, d) => bytes.length + uptoBulk d + 1
  | (_, d) => uptoBulk d + 1
 end
def uptoSmall : (H : Type) → List (DataW H) → Bool := fun _ ds => decide (uptoBulkAll ds ≤ 1048576)
def OpenSpec.upto (s : _root_.Go.ChangeSpec) : _root_.Go.OpenSpec := { _root_.Go.OpenSpec.ofChange s with cond := some uptoSmall }

/-- 'catchmentlaw06.ColumnWrites', WHERE WHAT IT READS IS OF BULK AT MOST 1048576: true; the input reads as it did. -/
def columnWritesUptoRow : OpenClaim := { program := "ytcmmednihoaekaagreat", sum := "517ab96ba732d885e93be2ec7ab7fbd332599c0200a0a087da965dd459832248", func := "catchment/catchmentlaw06.ColumnWrites", spec := "columnWrites", unfollowed := true, recurses := true, apart := false, narrowed := true }
def ColumnWritesUptoSaid : Prop := columnWritesUptoRow.holds Tryz.pinned (OpenSpec.upto columnWritesSpec)

/-- 'catchmentlaw06.ColumnReads', WHERE WHAT IT READS IS OF BULK AT MOST 1048576: true; the input reads as it did. -/
def columnReadsUptoRow : OpenClaim := { program := "ytcmmednihoaekaagreat", sum := "517ab96ba732d885e93be2ec7ab7fbd332599c0200a0a087da965dd459832248", func := "catchment/catchmentlaw06.ColumnReads", spec := "columnReads", unfollowed := true, recurses := true, apart := false, narrowed := true }
def ColumnReadsUptoSaid : Prop := columnReadsUptoRow.holds Tryz.pinned (OpenSpec.upto columnReadsSpec)

/-- 'catchmentlaw06.ColumnBack', WHERE WHAT IT READS IS OF BULK AT MOST 1048576: true; the input reads as it did. -/
def columnBackUptoRow : OpenClaim := { program := "ytcmmednihoaekaagreat", sum := "517ab96ba732d885e93be2ec7ab7fbd332599c0200a0a087da965dd459832248", func := "catchment/catchmentlaw06.ColumnBack", spec := "columnBack", unfollowed := true, recurses := true, apart := false, narrowed := true }
def ColumnBackUptoSaid : Prop := columnBackUptoRow.holds Tryz.pinned (OpenSpec.upto columnBackSpec)

/-- 'catchmentlaw06.ColumnCut', WHERE WHAT IT READS IS OF BULK AT MOST 1048576: true; the input reads as it did. -/
def columnCutUptoRow : OpenClaim := { program := "ytcmmednihoaekaagreat", sum := "517ab96ba732d885e93be2ec7ab7fbd332599c0200a0a087da965dd459832248", func := "catchment/catchmentlaw06.ColumnCut", spec := "columnCut", unfollowed := true, recurses := true, apart := false, narrowed := true }
def ColumnCutUptoSaid : Prop := columnCutUptoRow.holds Tryz.pinned (OpenSpec.upto columnCutSpec)

/-- 'catchmentlaw06.ColumnNulls', WHERE WHAT IT READS IS OF BULK AT MOST 1048576: true; the input reads as it did. -/
def columnNullsUptoRow : OpenClaim := { program := "ytcmmednihoaekaagreat", sum := "517ab96ba732d885e93be2ec7ab7fbd332599c0200a0a087da965dd459832248", func := "catchment/catchmentlaw06.ColumnNulls", spec := "columnNulls", unfollowed := true, recurses := true, apart := false, narrowed := true }
def ColumnNullsUptoSaid : Prop := columnNullsUptoRow.holds Tryz.pinned (OpenSpec.upto columnNullsSpec)

/-- 'catchmentlaw06.ColumnOwn', WHERE WHAT IT READS IS OF BULK AT MOST 1048576: true; the input reads as it did. -/
def columnOwnUptoRow : OpenClaim := { program := "ytcmmednihoaekaagreat", sum := "517ab96ba732d885e93be2ec7ab7fbd332599c0200a0a087da965dd459832248", func := "catchment/catchmentlaw06.ColumnOwn", spec := "columnOwn", unfollowed := true, recurses := true, apart := false, narrowed := true }
def ColumnOwnUptoSaid : Prop := columnOwnUptoRow.holds Tryz.pinned (OpenSpec.upto columnOwnSpec)

end Rows
end Go.Proofs.YtcmmednihoaekaaGreat
