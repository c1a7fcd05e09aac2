/- A type switch over impl's two forms of hosts. -/
import Derived.Test.YtnmbflljldhjmaaDoorOwn
set_option linter.unusedVariables false
namespace Go.Proofs.YtnmbflljldhjmaaDoor
open Go.RowKit Go.Shelf

theorem ta_named (v : Value) (w : World) : (Instr.typeAssert (.iface 52 v) 36 52 true).run Tryd.prog w = .ok (.tuple #[v, .bool true]) w := by
  simp [Instr.typeAssert, run_underlying Tryd.underlying52, go_sem, Result.andThen]
theorem ta_numbered (v : Value) (w : World) : (Instr.typeAssert (.iface 53 v) 36 53 true).run Tryd.prog w = .ok (.tuple #[v, .bool true]) w := by
  simp [Instr.typeAssert, run_underlying Tryd.underlying53, go_sem, Result.andThen]
theorem zeroNamed : Tryd.t52.zero = some (.string ⟨#[]⟩) := by kernel_rfl
theorem zeroNumbered : Tryd.t53.zero = some (.int .i64 0) := by kernel_rfl
theorem ta_miss (v : Value) (w : World) : (Instr.typeAssert (.iface 53 v) 36 52 true).run Tryd.prog w = .ok (.tuple #[.string ⟨#[]⟩, .bool false]) w := by
  simp [Instr.typeAssert, run_underlying Tryd.underlying52, zeroValue, zeroNamed, go_sem, Result.andThen]
theorem ta_nil1 (w : World) : (Instr.typeAssert .nilIface 36 52 true).run Tryd.prog w = .ok (.tuple #[.string ⟨#[]⟩, .bool false]) w := by
  simp [Instr.typeAssert, run_underlying Tryd.underlying52, zeroValue, zeroNamed, go_sem, Result.andThen]
theorem ta_nil2 (w : World) : (Instr.typeAssert .nilIface 36 53 true).run Tryd.prog w = .ok (.tuple #[.int .i64 0, .bool false]) w := by
  simp [Instr.typeAssert, run_underlying Tryd.underlying53, zeroValue, zeroNumbered, go_sem, Result.andThen]
end Go.Proofs.YtnmbflljldhjmaaDoor
