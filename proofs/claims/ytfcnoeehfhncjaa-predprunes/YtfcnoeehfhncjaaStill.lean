/- Regions that draw, whose callees leave what lies there. -/
import Derived.Test.YtfcnoeehfhncjaaPut
set_option linter.unusedVariables false
set_option linter.unusedSimpArgs false
namespace Go.Proofs.Ytfcnoeehfhncjaa
open Go.RowKit Go.Lib

/-- The worlds that meet S, as a type of their own. -/
def SubW (S : World → Prop) : Type := {x : World // S x}
def SubW.w {S : World → Prop} (s : SubW S) : World := s.val
theorem SubW.ok {S : World → Prop} (s : SubW S) : S s.w := s.property
def SubW.mk {S : World → Prop} (x : World) (h : S x) : SubW S := ⟨x, h⟩
theorem SubW.mk_w {S : World → Prop} (x : World) (h : S x) : (SubW.mk x h).w = x := rfl

/-- A region that draws, whose operations read and whose callees tell the same in each world that meets S, and leave one that meets it: one walk, in the order of the text. -/
theorem wp_region_still {P : Program} {id : Nat} {Q : Exit → Act → World → Prop} {a : Act} {w : World} {l : List Oper} {S : World → Prop} (hm : P.follows .mixedOrders = true) (hB : Region.lexB .any l.toArray = true) (hS : S w.drew)
    (h : wpQuiet P l.toArray (fun w' => ∃ s : SubW S, w' = s.w) (fun a' => ∀ w', (∃ s : SubW S, w' = s.w) → Q .normal a' w') l a) : (Code.region id l.toArray true).wp P Q a w :=
  wp_region_quiet (C := fun w' => ∃ s : SubW S, w' = s.w) hm hB ⟨SubW.mk _ hS, rfl⟩ (by simpa using h)
end Go.Proofs.Ytfcnoeehfhncjaa
