/- Plain facts of hosts with a name, and with a number. -/
import Derived.Test.YtdiloljmpcapfaaDoorFormI
set_option linter.unusedVariables false
namespace Go.Proofs.YtdiloljmpcapfaaDoor
open Go.RowKit Go.Shelf

theorem named_facts {k : Int} {s : ByteArray} {a : Int} (h : named k s a = true) : k = 1 ∧ a = 0 ∧ s.size ≤ 60 := by
  unfold named at h
  rw [Bool.and_eq_true, Bool.and_eq_true, decide_eq_true_eq] at h
  have := nameL_le _ h.1.2
  have hl : s.data.toList.length = s.size := by simp
  exact ⟨h.1.1.1, h.1.1.2, by omega⟩
theorem numbered_facts {k : Int} {s : ByteArray} {a : Int} (h : numbered k s a = true) : k = 2 ∧ 0 ≤ a ∧ a ≤ 4294967295 ∧ named k s a = false := by
  unfold numbered at h
  rw [Bool.and_eq_true, decide_eq_true_eq] at h
  exact ⟨h.1.1, h.1.2.1, h.1.2.2, named_no (by omega)⟩
end Go.Proofs.YtdiloljmpcapfaaDoor
