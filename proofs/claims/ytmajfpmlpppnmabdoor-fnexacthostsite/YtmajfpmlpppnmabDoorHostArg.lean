/- laws.toHost, laws.szHost: a host as the laws hand it in. -/
import Derived.Test.YtmajfpmlpppnmabDoorOkS
set_option linter.unusedVariables false
namespace Go.Proofs.YtmajfpmlpppnmabDoor
open Go.RowKit Go.Shelf

set_option maxHeartbeats 1000000 in
set_option maxRecDepth 100000 in
theorem szHost (k : Int) (s : ByteArray) (a : Int) (w : World) (hs : s.size ≤ maxLen) :
    Calls Tryd.prog 5 #[.agg #[.int .i64 k, .string s, .int .i64 a], .int .i64 1048576] w fun e w' => e = .returned (.int .i64 (if (1048576 : Int) < (s.size : Int) then -1 else 1048576 - (s.size : Int))) ∧ Below w.heap.size w w' := by
  have hmx : (s.size : Int) ≤ 9223372036854775807 := by unfold maxLen at hs; omega
  by_cases h : (1048576 : Int) < (s.size : Int)
  · rw [if_pos h]
    have h2 : (1048576 : Int) - (s.size : Int) < 0 := by omega
    go_enter Tryd.func5, Tryd.ntmps5
    go_wp2
    go_ret
    exact ⟨rfl, (Below.refl _ w).alloc (Nat.le_refl _) _⟩
  · rw [if_neg h]
    have h2 : ¬ ((1048576 : Int) - (s.size : Int) < 0) := by omega
    go_enter Tryd.func5, Tryd.ntmps5
    go_wp2
    go_ret
    exact ⟨rfl, (Below.refl _ w).alloc (Nat.le_refl _) _⟩

theorem below3 (w : World) (a b c : Obj) : Below w.heap.size w (((w.alloc a).alloc b).alloc c) :=
  have h1 := (Below.refl w.heap.size w).alloc (Nat.le_refl _) a
  have h2 := h1.alloc h1.size b
  h2.alloc h2.size c

set_option maxHeartbeats 1000000 in
set_option maxRecDepth 100000 in
theorem toHost (k : Int) (s : ByteArray) (a : Int) (w : World) :
    Calls Tryd.prog 7 #[.agg #[.int .i64 k, .string s, .int .i64 a]] w fun e w' => e = .returned (.agg #[.int .i64 k, .string s, .int .i64 a]) ∧ Below w.heap.size w w' := by
  go_enter Tryd.func7, Tryd.ntmps7
  go_wp2
  refine bodyPost_ret (v := .agg #[.int .i64 k, .string s, .int .i64 a]) ?_ rfl ⟨rfl, below3 w _ _ _⟩
  have hres : Tryd.f7.results = #[.cell 2 26] := by kernel_rfl
  simp only [results, hres]
  go_simp
end Go.Proofs.YtmajfpmlpppnmabDoor
