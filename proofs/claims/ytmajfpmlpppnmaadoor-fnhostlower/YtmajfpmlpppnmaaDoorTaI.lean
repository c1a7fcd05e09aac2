/- A type switch over impl's two forms of hosts. -/
import Derived.Test.YtmajfpmlpppnmaaDoorOwn
set_option linter.unusedVariables false
namespace Go.Proofs.YtmajfpmlpppnmaaDoor
open Go.RowKit Go.Shelf

theorem ta_named (v : Value) (w : World) : (Instr.typeAssert (.iface 64 v) 43 64 true).run Tryd.prog w = .ok (.tuple #[v, .bool true]) w := by
  simp [Instr.typeAssert, run_underlying Tryd.underlying64, go_sem, Result.andThen]
theorem ta_numbered (v : Value) (w : World) : (Instr.typeAssert (.iface 65 v) 43 65 true).run Tryd.prog w = .ok (.tuple #[v, .bool true]) w := by
  simp [Instr.typeAssert, run_underlying Tryd.underlying65, go_sem, Result.andThen]
theorem zeroNamed : Tryd.t64.zero = some (.string ⟨#[]⟩) := by kernel_rfl
theorem zeroNumbered : Tryd.t65.zero = some (.int .i64 0) := by kernel_rfl
theorem ta_miss (v : Value) (w : World) : (Instr.typeAssert (.iface 65 v) 43 64 true).run Tryd.prog w = .ok (.tuple #[.string ⟨#[]⟩, .bool false]) w := by
  simp [Instr.typeAssert, run_underlying Tryd.underlying64, zeroValue, zeroNamed, go_sem, Result.andThen]
theorem ta_nil1 (w : World) : (Instr.typeAssert .nilIface 43 64 true).run Tryd.prog w = .ok (.tuple #[.string ⟨#[]⟩, .bool false]) w := by
  simp [Instr.typeAssert, run_underlying Tryd.underlying64, zeroValue, zeroNamed, go_sem, Result.andThen]
theorem ta_nil2 (w : World) : (Instr.typeAssert .nilIface 43 65 true).run Tryd.prog w = .ok (.tuple #[.int .i64 0, .bool false]) w := by
  simp [Instr.typeAssert, run_underlying Tryd.underlying65, zeroValue, zeroNumbered, go_sem, Result.andThen]
end Go.Proofs.YtmajfpmlpppnmaaDoor
