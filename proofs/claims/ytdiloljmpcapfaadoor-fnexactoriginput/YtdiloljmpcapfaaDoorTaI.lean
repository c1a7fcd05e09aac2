/- A type switch over impl's two forms of hosts. -/
import Derived.Test.YtdiloljmpcapfaaDoorOwn
set_option linter.unusedVariables false
namespace Go.Proofs.YtdiloljmpcapfaaDoor
open Go.RowKit Go.Shelf

theorem ta_named (v : Value) (w : World) : (Instr.typeAssert (.iface 50 v) 47 50 true).run Tryd.prog w = .ok (.tuple #[v, .bool true]) w := by
  simp [Instr.typeAssert, run_underlying Tryd.underlying50, go_sem, Result.andThen]
theorem ta_numbered (v : Value) (w : World) : (Instr.typeAssert (.iface 51 v) 47 51 true).run Tryd.prog w = .ok (.tuple #[v, .bool true]) w := by
  simp [Instr.typeAssert, run_underlying Tryd.underlying51, go_sem, Result.andThen]
theorem zeroNamed : Tryd.t50.zero = some (.string ⟨#[]⟩) := by kernel_rfl
theorem zeroNumbered : Tryd.t51.zero = some (.int .i64 0) := by kernel_rfl
theorem ta_miss (v : Value) (w : World) : (Instr.typeAssert (.iface 51 v) 47 50 true).run Tryd.prog w = .ok (.tuple #[.string ⟨#[]⟩, .bool false]) w := by
  simp [Instr.typeAssert, run_underlying Tryd.underlying50, zeroValue, zeroNamed, go_sem, Result.andThen]
theorem ta_nil1 (w : World) : (Instr.typeAssert .nilIface 47 50 true).run Tryd.prog w = .ok (.tuple #[.string ⟨#[]⟩, .bool false]) w := by
  simp [Instr.typeAssert, run_underlying Tryd.underlying50, zeroValue, zeroNamed, go_sem, Result.andThen]
theorem ta_nil2 (w : World) : (Instr.typeAssert .nilIface 47 51 true).run Tryd.prog w = .ok (.tuple #[.int .i64 0, .bool false]) w := by
  simp [Instr.typeAssert, run_underlying Tryd.underlying51, zeroValue, zeroNumbered, go_sem, Result.andThen]
end Go.Proofs.YtdiloljmpcapfaaDoor
