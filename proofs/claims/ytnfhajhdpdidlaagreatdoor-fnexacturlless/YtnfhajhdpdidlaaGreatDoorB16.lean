/- What the laid tables and io.EOF give a walk. Two addresses side by side; texts that are not the same. -/
import Derived.Test.YtnfhajhdpdidlaaGreatDoorRows
import Derived.Test.YtnfhajhdpdidlaaGreatDoorB15
import Derived.Stop.LaidErr
import Derived.Lib.LaidTab
import Derived.WalkKit
import Derived.ProofKit
import Derived.Deep.DeepHandedRow
import Derived.Test.YtnfhajhdpdidlaaGreatDoorB12
set_option linter.unusedVariables false
set_option linter.unusedSimpArgs false
section
namespace Go.Proofs.YtnfhajhdpdidlaaGreatDoor
open Go.RowKit Go.Shelf
def laidRow (k : IntKind) (cs : List Int) : Obj → Obj
 | .cells _ t frozen => .cells (cs.map (Value.int k)).toArray t frozen
 | o => o
def eofRow (g : Nat) : Obj → Obj
 | .cells _ t frozen => .cells #[.iface 143 (.pointer (some ⟨g, 0, none⟩))] t frozen
 | o => o
theorem max_shaped {W : World} (h : W.ShapedOpen Tryz.prog) : ∃ m, W.cell? ⟨0, 0, none⟩ = some (.int .i64 m) :=
 Go.Proofs.cell_of_shapedOpen_int (zero := #[.int .i64 0]) (t := 3) h (of_decide_eq_true (by kernel_rfl)) (by kernel_rfl) rfl (by kernel_rfl) (by kernel_rfl) Tryz.underlying3
theorem row_eof (u : TypeId) (h : Tryz.prog.typeName? 3 u = some "*errors.errorString") : u = 143 :=
 typeName_ptr_named (nm := "errors.errorString") (by rw [show "*" ++ "errors.errorString" = "*errors.errorString" by decide]; kernel_rfl) (by kernel_rfl) (by decide) u (by rw [show "*" ++ "errors.errorString" = "*errors.errorString" by decide]; exact h)
theorem pow10_named : Tryz.prog.globalNamed "internal/strconv.uint64pow10" = some 4 := by kernel_rfl
theorem lean1_laid {W : World} (h : laidMet Tryz.prog Rows.fnExactPathOfRow.laid W) (hsh : W.ShapedOpen Tryz.prog) : Lean1 W := by
 have h1 : laidMet Tryz.prog (("internal/strconv.uint64pow10", Rows.laid_internal_strconv_uint64pow10) :: ("unicode/utf8.acceptRanges", Rows.laid_unicode_utf8_acceptRanges) :: ("io.EOF", Rows.laid_io_EOF) :: ("unicode/utf8.first", Rows.laid_unicode_utf8_first) :: []) W := laidMet.tail (laidMet.tail h)
 have h2 : laidMet Tryz.prog (("io.EOF", Rows.laid_io_EOF) :: ("unicode/utf8.first", Rows.laid_unicode_utf8_first) :: []) W := laidMet.tail (laidMet.tail h1)
 have e : (Rows.laid_internal_strconv_uint64pow10 : DataW Unit) = Lib.tabData .u64 Lib.pow10Tab := by kernel_rfl
 rw [e] at h1
 have ht : Lib.TabIs Tryz.prog W "internal/strconv.uint64pow10" .u64 Lib.pow10Tab := Lib.tabIs_of_head pow10_named (by kernel_rfl) Tryz.underlying168 Tryz.underlying150 (by kernel_rfl) (by kernel_rfl) h1
 have hlt : 4 < W.heap.size := cell_in (ht.cell pow10_named 0 (by decide))
 have hg : Tryz.prog.globalNamed "io.EOF" = some 1 := by kernel_rfl
 obtain ⟨a, s, hv, _⟩ := laid_sentinel h2 hg (by kernel_rfl) Tryz.underlying69 row_eof Tryz.underlying143 Tryz.underlying145 rfl rfl Tryz.underlying9 (by kernel_rfl) (by kernel_rfl)
 have hc := World.var?_cell hg hv 0
 exact ⟨⟨max_shaped hsh, hlt, ht⟩, ⟨_, _, by simpa using hc⟩⟩
end Go.Proofs.YtnfhajhdpdidlaaGreatDoor
end
section
namespace Go.Proofs.YtnfhajhdpdidlaaGreatDoor
open Go.RowKit Go.Shelf
theorem tl_ne {x y : ByteArray} (h : ¬ x = y) : ¬ x.toList = y.toList := fun e => h (by
 rw [ByteArray.toList_eq, ByteArray.toList_eq] at e
 exact ByteArray.ext (Array.ext' e))
theorem tlb_ne {x y : ByteArray} (h : ¬ x = y) : (x.toList == y.toList) = false := by
 cases hb : x.toList == y.toList with
 | false => rfl
 | true => exact absurd (eq_of_beq hb) (tl_ne h)
theorem below2 (w : World) (a b : Obj) : Below w.heap.size w ((w.alloc a).alloc b) := ((Below.refl _ w).alloc (Nat.le_refl _) a).alloc (by simp) b
structure Tw (w : World) (A B : Array Value) (W : World) : Prop where
 make ::
 b1 : Blk w.heap.size A 31 W
 b2 : Blk (w.heap.size + 1) B 31 W
 bw : Below w.heap.size w W
theorem Tw.start (w : World) (A B : Array Value) : Tw w A B ((w.alloc (.cells A 31)).alloc (.cells B 31)) where
 b1 := Blk.alloc (Blk.new w _ _) _
 b2 := by
  have := Blk.new (w.alloc (.cells A 31)) B 31
  rw [show (w.alloc (Obj.cells A 31)).heap.size = w.heap.size + 1 by simp] at this
  exact this
 bw := ((Below.refl _ w).alloc (Nat.le_refl _) _).alloc (by simp) _
theorem Tw.later {w W W' : World} {A B : Array Value} (h : Tw w A B W) (b : Below W.heap.size W W') : Tw w A B W' := ⟨h.b1.below b h.b1.lt, h.b2.below b h.b2.lt, h.bw.trans (b.mono h.bw.size)⟩
theorem Blk.cells13a {g : Nat} {x0 x1 x2 x3 x4 x5 x6 x7 x8 x9 x10 x11 x12 : Value} {t : TypeId} {W : World} (h : Blk g #[x0, x1, x2, x3, x4, x5, x6, x7, x8, x9, x10, x11, x12] t W) :
  W.cell? ⟨g, 0, none⟩ = some x0 ∧ W.cell? ⟨g, 1, none⟩ = some x1 ∧ W.cell? ⟨g, 2, none⟩ = some x2 ∧ W.cell? ⟨g, 3, none⟩ = some x3 ∧ W.cell? ⟨g, 4, none⟩ = some x4 ∧ W.cell? ⟨g, 5, none⟩ = some x5 ∧ W.cell? ⟨g, 6, none⟩ = some x6 ∧ W.cell? ⟨g, 7, none⟩ = some x7 ∧ W.cell? ⟨g, 8, none⟩ = some x8 ∧ W.cell? ⟨g, 9, none⟩ = some x9 ∧ W.cell? ⟨g, 10, none⟩ = some x10 ∧ W.cell? ⟨g, 11, none⟩ = some x11 ∧ W.cell? ⟨g, 12, none⟩ = some x12 :=
 ⟨h.cell 0, h.cell 1, h.cell 2, h.cell 3, h.cell 4, h.cell 5, h.cell 6, h.cell 7, h.cell 8, h.cell 9, h.cell 10, h.cell 11, h.cell 12⟩
end Go.Proofs.YtnfhajhdpdidlaaGreatDoor
end
