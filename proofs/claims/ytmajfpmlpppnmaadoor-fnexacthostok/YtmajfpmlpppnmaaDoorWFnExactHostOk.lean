/- The law FnExactHostOk answers true, whatever the host. -/
import Derived.Test.YtmajfpmlpppnmaaDoorOkI
set_option linter.unusedVariables false
namespace Go.Proofs.YtmajfpmlpppnmaaDoor
open Go.RowKit Go.Shelf

set_option maxHeartbeats 2000000 in
set_option maxRecDepth 100000 in
theorem fnExactHostOk_walk (w : World) (hm : ∃ m, w.cell? ⟨0, 0, none⟩ = some (.int .i64 m)) (k : Int) (s : ByteArray) (a : Int) (hs : s.size ≤ maxLen) :
    Calls Tryd.prog 8 #[.agg #[.int .i64 k, .string s, .int .i64 a]] w fun e w' => e = .returned (.bool true) ∧ Below w.heap.size w w' := by
  have hlt : 0 < w.heap.size := by
    obtain ⟨m, hm⟩ := hm
    exact cell_lt hm
  have HM : Hid (∀ W, Below w.heap.size w W → ∃ m, W.cell? ⟨0, 0, none⟩ = some (.int .i64 m)) := by
    obtain ⟨m, hm⟩ := hm
    intro W b
    exact ⟨m, (b.cell (p := ⟨0, 0, none⟩) hlt).trans hm⟩
  clear hm hlt
  go_enter Tryd.func8, Tryd.ntmps8
  go_wp2_with fail
  refine (szHost k s a _ hs).mono ?_
  rintro e W1 ⟨rfl, b1⟩
  have B1 : Hid (Below w.heap.size w W1) := box_below b1
  have C1 : Hid (∀ j, W1.cell? ⟨w.heap.size, j, none⟩ = (#[.int .i64 k, .string s, .int .i64 a] : Array Value)[j]?) := fun j => box_cell b1 j
  have hsz1 : W1.heap.size ≥ w.heap.size := B1.out.size
  clear b1
  by_cases h : (1048576 : Int) < (s.size : Int)
  · rw [if_pos h]
    go_wp2
    go_ret
    exact ⟨rfl, B1.out⟩
  · rw [if_neg h]
    have h2 : ¬ ((1048576 : Int) - (s.size : Int) < 0) := by omega
    have hs' : s.size ≤ 1048576 := by omega
    have c10 : W1.cell? ⟨w.heap.size, 0, none⟩ = some (.int .i64 k) := C1.out 0
    have c11 : W1.cell? ⟨w.heap.size, 1, none⟩ = some (.string s) := C1.out 1
    have c12 : W1.cell? ⟨w.heap.size, 2, none⟩ = some (.int .i64 a) := C1.out 2
    clear h
    go_wp2_with fail
    refine (toHost k s a _).mono ?_
    rintro e W2 ⟨rfl, b2⟩
    have B2 : Hid (Below w.heap.size w W2) := B1.out.trans (b2.mono hsz1)
    have hsz2 : W2.heap.size ≥ w.heap.size := B2.out.size
    have c20 : W2.cell? ⟨w.heap.size, 0, none⟩ = some (.int .i64 k) := (b2.cell (p := ⟨w.heap.size, 0, none⟩) (cell_lt c10)).trans c10
    have c21 : W2.cell? ⟨w.heap.size, 1, none⟩ = some (.string s) := (b2.cell (p := ⟨w.heap.size, 1, none⟩) (cell_lt c11)).trans c11
    have c22 : W2.cell? ⟨w.heap.size, 2, none⟩ = some (.int .i64 a) := (b2.cell (p := ⟨w.heap.size, 2, none⟩) (cell_lt c12)).trans c12
    clear b2 c10 c11 c12
    go_wp2_with fail
    refine (specOk k s a _ hs').mono ?_
    rintro e W3 ⟨rfl, b3⟩
    have B3 : Hid (Below w.heap.size w W3) := B2.out.trans (b3.mono hsz2)
    have hsz3 : W3.heap.size ≥ w.heap.size := B3.out.size
    have c30 : W3.cell? ⟨w.heap.size, 0, none⟩ = some (.int .i64 k) := (b3.cell (p := ⟨w.heap.size, 0, none⟩) (cell_lt c20)).trans c20
    have c31 : W3.cell? ⟨w.heap.size, 1, none⟩ = some (.string s) := (b3.cell (p := ⟨w.heap.size, 1, none⟩) (cell_lt c21)).trans c21
    have c32 : W3.cell? ⟨w.heap.size, 2, none⟩ = some (.int .i64 a) := (b3.cell (p := ⟨w.heap.size, 2, none⟩) (cell_lt c22)).trans c22
    clear b3 c20 c21 c22
    go_wp2_with fail
    refine (toHost k s a _).mono ?_
    rintro e W4 ⟨rfl, b4⟩
    have B4 : Hid (Below w.heap.size w W4) := B3.out.trans (b4.mono hsz3)
    have hsz4 : W4.heap.size ≥ w.heap.size := B4.out.size
    clear b4 c30 c31 c32
    go_wp2_with fail
    refine (implOk k s a _ (HM.out _ B4.out) hs').mono ?_
    rintro e W5 ⟨rfl, b5⟩
    have B5 : Hid (Below w.heap.size w W5) := B4.out.trans (b5.mono hsz4)
    clear b5
    go_wp2
    go_ret
    exact ⟨rfl, B5.out⟩
end Go.Proofs.YtmajfpmlpppnmaaDoor
