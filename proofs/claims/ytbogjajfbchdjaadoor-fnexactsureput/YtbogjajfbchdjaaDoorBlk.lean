/- A block of the heap with given cells, and what stays of it. -/
import Derived.Test.YtbogjajfbchdjaaDoorOwn
set_option linter.unusedVariables false
namespace Go.Proofs.YtbogjajfbchdjaaDoor
open Go.RowKit Go.Shelf

/-- Block g holds these cells, none of them frozen. -/
def Blk (g : Nat) (A : Array Value) (t : TypeId) (w : World) : Prop := w.heap[g]? = some (.cells A t (0, 0))
theorem Blk.lt {g : Nat} {A : Array Value} {t : TypeId} {w : World} (h : Blk g A t w) : g < w.heap.size := (Array.getElem?_eq_some_iff.1 h).1
theorem Blk.cell {g : Nat} {A : Array Value} {t : TypeId} {w : World} (h : Blk g A t w) (j : Nat) : w.cell? ⟨g, j, none⟩ = A[j]? := Lib.cell_of_heap h j
theorem Blk.free {g : Nat} {A : Array Value} {t : TypeId} {w : World} (h : Blk g A t w) (j : Nat) : w.frozen? ⟨g, j, none⟩ = false := Lib.frozen_of_heap h j
theorem Blk.below {g B : Nat} {A : Array Value} {t : TypeId} {w w' : World} (h : Blk g A t w) (b : Below B w w') (hB : g < B) : Blk g A t w' := (b.block g hB).trans h
theorem Blk.alloc {g : Nat} {A : Array Value} {t : TypeId} {w : World} (h : Blk g A t w) (o : Obj) : Blk g A t (w.alloc o) := (Lib.alloc_old w o g h.lt).trans h
theorem Blk.new (w : World) (A : Array Value) (t : TypeId) : Blk w.heap.size A t (w.alloc (.cells A t)) := heap_alloc_new w _
theorem Blk.drew {g : Nat} {A : Array Value} {t : TypeId} {w : World} (h : Blk g A t w) : Blk g A t w.drew := h
end Go.Proofs.YtbogjajfbchdjaaDoor
