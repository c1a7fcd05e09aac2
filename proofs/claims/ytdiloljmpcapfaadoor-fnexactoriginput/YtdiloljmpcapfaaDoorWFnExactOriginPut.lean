/- The law FnExactOriginPut answers true, whatever the origin. -/
import Derived.Test.YtdiloljmpcapfaaDoorOrgS
import Derived.Test.YtdiloljmpcapfaaDoorOrgArg
set_option linter.unusedVariables false
namespace Go.Proofs.YtdiloljmpcapfaaDoor
open Go.RowKit Go.Shelf

theorem tab_lt {w : World} (h : Lib.TabIs Tryd.prog w "internal/strconv.uint64pow10" .u64 Lib.pow10Tab) : 0 < w.heap.size := by
  have hgn : Tryd.prog.globalNamed "internal/strconv.uint64pow10" = some 0 := by kernel_rfl
  have := h.cell hgn 0 (by rw [Lib.pow10Tab_length]; omega)
  exact cell_lt this

set_option maxHeartbeats 2000000 in
set_option maxRecDepth 100000 in
theorem fnExactOriginPut_walk (w : World) (hm : ∃ m, w.cell? ⟨1, 0, none⟩ = some (.int .i64 m)) (ht : Lib.TabIs Tryd.prog w "internal/strconv.uint64pow10" .u64 Lib.pow10Tab) (c : ByteArray) (k : Int) (s : ByteArray) (a p : Int) (hc : c.size ≤ maxLen) (hs : s.size ≤ maxLen) :
    Calls Tryd.prog 3 #[.agg #[.string c, .int .i64 k, .string s, .int .i64 a, .int .i64 p]] w fun e w' => e = .returned (.bool true) ∧ Below w.heap.size w w' := by
  have hlt : 1 < w.heap.size := by
    obtain ⟨m, hm⟩ := hm
    exact cell_lt hm
  have hB : 0 < w.heap.size := tab_lt ht
  have CZ : Hid (∀ W, Calls Tryd.prog 4 #[.agg #[.string c, .int .i64 k, .string s, .int .i64 a, .int .i64 p], .int .i64 1048576] W fun e w' => e = .returned (.int .i64 (if (1048576 : Int) < (c.size : Int) + (s.size : Int) then -1 else 1048576 - (c.size : Int) - (s.size : Int))) ∧ Below W.heap.size W w') := fun W => szOrigin c k s a p W hc hs
  have hB0 : Below w.heap.size w (w.alloc (Obj.cells #[.string c, .int .i64 k, .string s, .int .i64 a, .int .i64 p] 25)) := (Below.refl _ w).alloc (Nat.le_refl _) _
  have k0 : Blk w.heap.size #[.string c, .int .i64 k, .string s, .int .i64 a, .int .i64 p] 25 (w.alloc (Obj.cells #[.string c, .int .i64 k, .string s, .int .i64 a, .int .i64 p] 25)) := Blk.new w _ _
  by_cases h : (1048576 : Int) < (c.size : Int) + (s.size : Int)
  · rw [if_pos h] at CZ
    clear hm ht h
    go_enter Tryd.func3, Tryd.ntmps3
    go_wp2_with fail
    refine (CZ.out _).mono ?_
    rintro e W1 ⟨rfl, d1⟩
    have b1 := hB0.trans (d1.mono hB0.size)
    go_wp2
    go_ret
    exact ⟨rfl, b1⟩
  · rw [if_neg h] at CZ
    have hs' : s.size ≤ 1048576 := by omega
    have h4 : ¬ ((1048576 : Int) - (c.size : Int) - (s.size : Int) < 0) := by omega
    have CI : Hid (∀ W, Below w.heap.size w W → Calls Tryd.prog 7 #[.agg #[.string c, .int .i64 k, .string s, .int .i64 a, .int .i64 p]] W fun e w' => e = .returned (.string (orgT c k s a p)) ∧ Below W.heap.size W w') := by
      intro W b
      obtain ⟨m, hm⟩ := hm
      exact implOrigin c k s a p W ⟨m, (b.cell (p := ⟨1, 0, none⟩) hlt).trans hm⟩ (Nat.lt_of_lt_of_le hB b.size) (tab_below ht b hB) hs'
    have CS : Hid (∀ W, Calls Tryd.prog 5 #[.agg #[.string c, .int .i64 k, .string s, .int .i64 a, .int .i64 p]] W fun e w' => e = .returned (.string (orgT c k s a p)) ∧ Below W.heap.size W w') := fun W => specOrigin c k s a p W hs'
    generalize orgT c k s a p = R at *
    clear hm ht h
    go_enter Tryd.func3, Tryd.ntmps3
    go_wp2_with fail
    refine (CZ.out _).mono ?_
    rintro e W1 ⟨rfl, d1⟩
    have b1 := hB0.trans (d1.mono hB0.size)
    have k1 := k0.below d1 k0.lt
    have q0 : W1.cell? ⟨w.heap.size, 0, none⟩ = some (.string c) := k1.cell 0
    have q1 : W1.cell? ⟨w.heap.size, 1, none⟩ = some (.int .i64 k) := k1.cell 1
    have q2 : W1.cell? ⟨w.heap.size, 2, none⟩ = some (.string s) := k1.cell 2
    have q3 : W1.cell? ⟨w.heap.size, 3, none⟩ = some (.int .i64 a) := k1.cell 3
    have q4 : W1.cell? ⟨w.heap.size, 4, none⟩ = some (.int .i64 p) := k1.cell 4
    clear k0 d1 hB0
    go_wp2_with fail
    refine (toOrigin c k s a p _).mono ?_
    rintro e W2 ⟨rfl, d2⟩
    have b2 := b1.trans (d2.mono b1.size)
    have k2 := k1.below d2 k1.lt
    clear k1 d2 b1 q0 q1 q2 q3 q4
    go_wp2_with fail
    refine (CS.out _).mono ?_
    rintro e W3 ⟨rfl, d3⟩
    have b3 := b2.trans (d3.mono b2.size)
    have k3 := k2.below d3 k2.lt
    have q0 : W3.cell? ⟨w.heap.size, 0, none⟩ = some (.string c) := k3.cell 0
    have q1 : W3.cell? ⟨w.heap.size, 1, none⟩ = some (.int .i64 k) := k3.cell 1
    have q2 : W3.cell? ⟨w.heap.size, 2, none⟩ = some (.string s) := k3.cell 2
    have q3 : W3.cell? ⟨w.heap.size, 3, none⟩ = some (.int .i64 a) := k3.cell 3
    have q4 : W3.cell? ⟨w.heap.size, 4, none⟩ = some (.int .i64 p) := k3.cell 4
    clear k2 d3 b2
    go_wp2_with fail
    refine (toOrigin c k s a p _).mono ?_
    rintro e W4 ⟨rfl, d4⟩
    have b4 := b3.trans (d4.mono b3.size)
    clear k3 d4 b3 q0 q1 q2 q3 q4
    go_wp2_with fail
    refine (CI.out _ b4).mono ?_
    rintro e W5 ⟨rfl, d5⟩
    have b5 := b4.trans (d5.mono b4.size)
    go_wp2
    go_ret
    exact ⟨rfl, b5⟩
end Go.Proofs.YtdiloljmpcapfaaDoor
