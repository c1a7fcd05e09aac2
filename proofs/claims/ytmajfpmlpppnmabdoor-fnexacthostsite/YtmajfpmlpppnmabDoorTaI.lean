/- A type switch over impl's two forms of hosts. -/
import Derived.Test.YtmajfpmlpppnmabDoorOwn
set_option linter.unusedVariables false
namespace Go.Proofs.YtmajfpmlpppnmabDoor
open Go.RowKit Go.Shelf

theorem ta_named (v : Value) (w : World) : (Instr.typeAssert (.iface 43 v) 37 43 true).run Tryd.prog w = .ok (.tuple #[v, .bool true]) w := by
  simp [Instr.typeAssert, run_underlying Tryd.underlying43, go_sem, Result.andThen]
theorem ta_numbered (v : Value) (w : World) : (Instr.typeAssert (.iface 45 v) 37 45 true).run Tryd.prog w = .ok (.tuple #[v, .bool true]) w := by
  simp [Instr.typeAssert, run_underlying Tryd.underlying45, go_sem, Result.andThen]
theorem zeroNamed : Tryd.t43.zero = some (.string ⟨#[]⟩) := by kernel_rfl
theorem zeroNumbered : Tryd.t45.zero = some (.int .i64 0) := by kernel_rfl
theorem ta_miss (v : Value) (w : World) : (Instr.typeAssert (.iface 45 v) 37 43 true).run Tryd.prog w = .ok (.tuple #[.string ⟨#[]⟩, .bool false]) w := by
  simp [Instr.typeAssert, run_underlying Tryd.underlying43, zeroValue, zeroNamed, go_sem, Result.andThen]
theorem ta_nil1 (w : World) : (Instr.typeAssert .nilIface 37 43 true).run Tryd.prog w = .ok (.tuple #[.string ⟨#[]⟩, .bool false]) w := by
  simp [Instr.typeAssert, run_underlying Tryd.underlying43, zeroValue, zeroNamed, go_sem, Result.andThen]
theorem ta_nil2 (w : World) : (Instr.typeAssert .nilIface 37 45 true).run Tryd.prog w = .ok (.tuple #[.int .i64 0, .bool false]) w := by
  simp [Instr.typeAssert, run_underlying Tryd.underlying45, zeroValue, zeroNumbered, go_sem, Result.andThen]
end Go.Proofs.YtmajfpmlpppnmabDoor
