/- What the laid tables and io.EOF give a walk. -/
import Derived.Test.YtcmglinehdpnlaaGreatDoorRows
import Derived.Test.YtcmglinehdpnlaaGreatDoorB20
import Derived.Stop.LaidErr
import Derived.Lib.LaidTab
import Derived.WalkKit
import Derived.ProofKit
import Derived.Deep.DeepHandedRow
section
set_option linter.unusedVariables false
set_option linter.unusedSimpArgs false
namespace Go.Proofs.YtcmglinehdpnlaaGreatDoor
open Go.RowKit Go.Shelf

def laidRow (k : IntKind) (cs : List Int) : Obj → Obj
  | .cells _ t frozen => .cells (cs.map (Value.int k)).toArray t frozen
  | o => o
def eofRow (g : Nat) : Obj → Obj
  | .cells _ t frozen => .cells #[.iface 147 (.pointer (some ⟨g, 0, none⟩))] t frozen
  | o => o
theorem max_shaped {W : World} (h : W.ShapedOpen Tryz.prog) : ∃ m, W.cell? ⟨1, 0, none⟩ = some (.int .i64 m) :=
  Go.Proofs.cell_of_shapedOpen_int (zero := #[.int .i64 0]) (t := 3) h (of_decide_eq_true (by kernel_rfl)) (by kernel_rfl) rfl (by kernel_rfl) (by kernel_rfl) Tryz.underlying3
theorem row_eof (u : TypeId) (h : Tryz.prog.typeName? 3 u = some "*errors.errorString") : u = 147 :=
  typeName_ptr_named (nm := "errors.errorString") (by rw [show "*" ++ "errors.errorString" = "*errors.errorString" by decide]; kernel_rfl) (by kernel_rfl) (by decide) u (by rw [show "*" ++ "errors.errorString" = "*errors.errorString" by decide]; exact h)
theorem pow10_named : Tryz.prog.globalNamed "internal/strconv.uint64pow10" = some 2 := by kernel_rfl
theorem lean1_laid {W : World} (h : laidMet Tryz.prog Rows.fnExactUrlGetRow.laid W) (hsh : W.ShapedOpen Tryz.prog) : Lean1 W := by
  have h1 : laidMet Tryz.prog (("internal/strconv.uint64pow10", Rows.laid_internal_strconv_uint64pow10) :: ("unicode/utf8.acceptRanges", Rows.laid_unicode_utf8_acceptRanges) :: ("io.EOF", Rows.laid_io_EOF) :: ("unicode/utf8.first", Rows.laid_unicode_utf8_first) :: []) W := laidMet.tail (laidMet.tail h)
  have h2 : laidMet Tryz.prog (("io.EOF", Rows.laid_io_EOF) :: ("unicode/utf8.first", Rows.laid_unicode_utf8_first) :: []) W := laidMet.tail (laidMet.tail h1)
  have e : (Rows.laid_internal_strconv_uint64pow10 : DataW Unit) = Lib.tabData .u64 Lib.pow10Tab := by kernel_rfl
  rw [e] at h1
  have ht : Lib.TabIs Tryz.prog W "internal/strconv.uint64pow10" .u64 Lib.pow10Tab := Lib.tabIs_of_head pow10_named (by kernel_rfl) Tryz.underlying198 Tryz.underlying175 (by kernel_rfl) (by kernel_rfl) h1
  have hlt : 2 < W.heap.size := cell_in (ht.cell pow10_named 0 (by decide))
  have hg : Tryz.prog.globalNamed "io.EOF" = some 0 := by kernel_rfl
  obtain ⟨a, s, hv, _⟩ := laid_sentinel h2 hg (by kernel_rfl) Tryz.underlying76 row_eof Tryz.underlying147 Tryz.underlying149 rfl rfl Tryz.underlying9 (by kernel_rfl) (by kernel_rfl)
  have hc := World.var?_cell hg hv 0
  exact ⟨⟨max_shaped hsh, hlt, ht⟩, ⟨_, _, by simpa using hc⟩⟩
end Go.Proofs.YtcmglinehdpnlaaGreatDoor
end
