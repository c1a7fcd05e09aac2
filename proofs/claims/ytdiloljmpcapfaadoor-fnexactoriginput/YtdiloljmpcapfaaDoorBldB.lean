/- A builder behind what leaves it. -/
import Derived.Test.YtdiloljmpcapfaaDoorBld
set_option linter.unusedVariables false
namespace Go.Proofs.YtdiloljmpcapfaaDoor
open Go.RowKit Go.Shelf

theorem builder_below {B b : Nat} {bs : List Value} {w w' : World} (h : Lib.IsBuilderF 107 5 B b bs w) (k : Below w.heap.size w w') : Lib.IsBuilderF 107 5 B b bs w' := by
  have one : ∀ p, Lib.BuilderAtF 107 5 B b p bs w → Lib.BuilderAtF 107 5 B b p bs w' := by
    intro p hp
    have hlt := hp.lt
    obtain ⟨hB, v, hb, hown, hne⟩ := hp
    have hg : w.grownBy w' none := ⟨k.os, k.tape, k.output, k.size, fun j hj _ => k.block j hj⟩
    refine ⟨hB, v, (k.block b hlt).trans hb, hown.kept hg ?_, hne⟩
    cases h : v.ownBlock with
    | none => exact .inl rfl
    | some x => exact .inr (by simp)
  rcases h with h | h
  · exact .inl (one _ h)
  · exact .inr (one _ h)
end Go.Proofs.YtdiloljmpcapfaaDoor
