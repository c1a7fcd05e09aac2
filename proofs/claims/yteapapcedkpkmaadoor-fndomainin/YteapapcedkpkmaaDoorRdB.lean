/- A reader behind what leaves it. -/
import Derived.Test.YteapapcedkpkmaaDoorRd
set_option linter.unusedVariables false
namespace Go.Proofs.YteapapcedkpkmaaDoor
open Go.RowKit Go.Shelf

theorem grown_below {a b c : World} {row : Option Nat} (h : a.grownBy b row) (k : Below a.heap.size b c) : a.grownBy c row :=
  ⟨k.os.trans h.os, k.tape.trans h.tape, k.output.trans h.output, Nat.le_trans h.size k.size, fun j hj hn => (k.block j hj).trans (h.block j hj hn)⟩

theorem Rd.below {B r p N : Nat} {w w' : World} (h : Rd B r p w) (k : Below N w w') (hr : r < N) : Rd B r p w' :=
  h.stays (k.block r hr) (fun j hj => k.block j (by have := h.1; omega))
end Go.Proofs.YteapapcedkpkmaaDoor
