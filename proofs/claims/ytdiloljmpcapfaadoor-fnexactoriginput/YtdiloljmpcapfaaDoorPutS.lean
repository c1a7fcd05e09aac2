/- spec.HostPut of an address and of no host. -/
import Derived.Test.YtdiloljmpcapfaaDoorOkS
import Derived.Test.YtdiloljmpcapfaaDoorDigS
set_option linter.unusedVariables false
namespace Go.Proofs.YtdiloljmpcapfaaDoor
open Go.RowKit Go.Shelf

set_option maxHeartbeats 2000000 in
set_option maxRecDepth 100000 in
theorem specPutFour (s : ByteArray) (a : Int) (w : World) (hk : okH 2 s a = true) (h0 : 0 ≤ a) (h1 : a ≤ 4294967295) (hs : s.size ≤ 1048576) :
    Calls Tryd.prog 12 #[.agg #[.int .i64 2, .string s, .int .i64 a]] w fun e w' => e = .returned (.string (mk (fourT a))) ∧ Below w.heap.size w w' := by
  have CO : Hid (∀ W, Calls Tryd.prog 10 #[.agg #[.int .i64 2, .string s, .int .i64 a]] W fun e w' => e = .returned (.bool true) ∧ Below W.heap.size W w') := fun W => by rw [← hk]; exact specOk 2 s a W hs
  have CF : Hid (∀ W, Calls Tryd.prog 18 #[.int .i64 a] W fun e w' => e = .returned (.string (mk (fourT a))) ∧ Below W.heap.size W w') := fun W => l2Four a W h0 h1
  generalize mk (fourT a) = r at *
  clear hk
  go_enter Tryd.func12, Tryd.ntmps12
  go_wp2_with fail
  refine (CO.out _).mono ?_
  rintro e W1 ⟨rfl, b1⟩
  have B1 : Below w.heap.size w W1 := box_below b1
  have c0 : W1.cell? ⟨w.heap.size, 0, none⟩ = some (.int .i64 2) := box_cell b1 0
  have c2 : W1.cell? ⟨w.heap.size, 2, none⟩ = some (.int .i64 a) := box_cell b1 2
  clear b1
  go_wp2_with fail
  refine (CF.out _).mono ?_
  rintro e W2 ⟨rfl, b2⟩
  have B2 : Below w.heap.size w W2 := B1.trans (b2.mono B1.size)
  clear b2 c0 c2
  go_wp2
  go_ret
  exact ⟨rfl, B2⟩
set_option maxHeartbeats 2000000 in
set_option maxRecDepth 100000 in
theorem specPutNone (w : World) :
    Calls Tryd.prog 12 #[.agg #[.int .i64 0, .string ⟨#[]⟩, .int .i64 0]] w fun e w' => e = .returned (.string (mk [])) ∧ Below w.heap.size w w' := by
  have hk : okH 0 ⟨#[]⟩ 0 = true := by rw [ok_zero]; rfl
  have CO : Hid (∀ W, Calls Tryd.prog 10 #[.agg #[.int .i64 0, .string ⟨#[]⟩, .int .i64 0]] W fun e w' => e = .returned (.bool true) ∧ Below W.heap.size W w') := fun W => by rw [← hk]; exact specOk 0 ⟨#[]⟩ 0 W (Nat.zero_le _)
  clear hk
  go_enter Tryd.func12, Tryd.ntmps12
  go_wp2_with fail
  refine (CO.out _).mono ?_
  rintro e W1 ⟨rfl, b1⟩
  have B1 : Below w.heap.size w W1 := box_below b1
  have c0 : W1.cell? ⟨w.heap.size, 0, none⟩ = some (.int .i64 0) := box_cell b1 0
  have c1 : W1.cell? ⟨w.heap.size, 1, none⟩ = some (.string ⟨#[]⟩) := box_cell b1 1
  clear b1
  go_wp2
  go_ret
  exact ⟨rfl, B1⟩
end Go.Proofs.YtdiloljmpcapfaaDoor
