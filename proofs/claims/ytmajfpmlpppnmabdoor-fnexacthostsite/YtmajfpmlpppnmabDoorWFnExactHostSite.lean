/- The law FnExactHostSite answers true, whatever the host. -/
import Derived.Test.YtmajfpmlpppnmabDoorSiteS
set_option linter.unusedVariables false
namespace Go.Proofs.YtmajfpmlpppnmabDoor
open Go.RowKit Go.Shelf

theorem tab_lt {w : World} (h : Lib.TabIs Tryd.prog w "internal/strconv.uint64pow10" .u64 Lib.pow10Tab) : 1 < w.heap.size := by
  have hgn : Tryd.prog.globalNamed "internal/strconv.uint64pow10" = some 1 := by kernel_rfl
  have := h.cell hgn 0 (by rw [Lib.pow10Tab_length]; omega)
  exact cell_lt this

set_option maxHeartbeats 2000000 in
set_option maxRecDepth 100000 in
theorem fnExactHostSite_walk (w : World) (hm : ∃ m, w.cell? ⟨0, 0, none⟩ = some (.int .i64 m)) (ht : Lib.TabIs Tryd.prog w "internal/strconv.uint64pow10" .u64 Lib.pow10Tab) (k : Int) (s : ByteArray) (a : Int) (hs : s.size ≤ maxLen) :
    Calls Tryd.prog 3 #[.agg #[.int .i64 k, .string s, .int .i64 a]] w fun e w' => e = .returned (.bool true) ∧ Below w.heap.size w w' := by
  have hlt : 0 < w.heap.size := by
    obtain ⟨m, hm⟩ := hm
    exact cell_lt hm
  have HM : Hid (∀ W, Below w.heap.size w W → ∃ m, W.cell? ⟨0, 0, none⟩ = some (.int .i64 m)) := by
    obtain ⟨m, hm⟩ := hm
    intro W b
    exact ⟨m, (b.cell (p := ⟨0, 0, none⟩) hlt).trans hm⟩
  have hB : 1 < w.heap.size := tab_lt ht
  have HT : Hid (∀ W, Below w.heap.size w W → Lib.TabIs Tryd.prog W "internal/strconv.uint64pow10" .u64 Lib.pow10Tab) := fun W b => tab_below ht b hB
  clear hm hlt ht
  go_enter Tryd.func3, Tryd.ntmps3
  go_wp2_with fail
  refine (szHost k s a _ hs).mono ?_
  rintro e W1 ⟨rfl, b1⟩
  have B1 : Hid (Below w.heap.size w W1) := box_below b1
  have C1 : Hid (∀ j, W1.cell? ⟨w.heap.size, j, none⟩ = (#[.int .i64 k, .string s, .int .i64 a] : Array Value)[j]?) := fun j => box_cell b1 j
  have hsz1 : W1.heap.size ≥ w.heap.size := B1.out.size
  clear b1
  by_cases h : (1048576 : Int) < (s.size : Int)
  · rw [if_pos h]
    go_wp2
    go_ret
    exact ⟨rfl, B1.out⟩
  · rw [if_neg h]
    have h2 : ¬ ((1048576 : Int) - (s.size : Int) < 0) := by omega
    have hs' : s.size ≤ 1048576 := by omega
    have c10 : W1.cell? ⟨w.heap.size, 0, none⟩ = some (.int .i64 k) := C1.out 0
    have c11 : W1.cell? ⟨w.heap.size, 1, none⟩ = some (.string s) := C1.out 1
    have c12 : W1.cell? ⟨w.heap.size, 2, none⟩ = some (.int .i64 a) := C1.out 2
    clear h
    have CS : Hid (∀ W, Calls Tryd.prog 6 #[.agg #[.int .i64 k, .string s, .int .i64 a]] W fun e w' => e = .returned (.string (mk (siteT k s a))) ∧ Below W.heap.size W w') := fun W => specSite k s a W hs'
    have CI : Hid (∀ W, Below w.heap.size w W → Calls Tryd.prog 8 #[.agg #[.int .i64 k, .string s, .int .i64 a]] W fun e w' => e = .returned (.string (mk (siteT k s a))) ∧ Below W.heap.size W w') := fun W b => implSite k s a W (HM.out _ b) (Nat.lt_of_lt_of_le hB b.size) (HT.out _ b) hs'
    generalize mk (siteT k s a) = r at *
    go_wp2_with fail
    refine (toHost k s a _).mono ?_
    rintro e W2 ⟨rfl, b2⟩
    have B2 : Hid (Below w.heap.size w W2) := B1.out.trans (b2.mono hsz1)
    have hsz2 : W2.heap.size ≥ w.heap.size := B2.out.size
    have c20 : W2.cell? ⟨w.heap.size, 0, none⟩ = some (.int .i64 k) := (b2.cell (p := ⟨w.heap.size, 0, none⟩) (cell_lt c10)).trans c10
    have c21 : W2.cell? ⟨w.heap.size, 1, none⟩ = some (.string s) := (b2.cell (p := ⟨w.heap.size, 1, none⟩) (cell_lt c11)).trans c11
    have c22 : W2.cell? ⟨w.heap.size, 2, none⟩ = some (.int .i64 a) := (b2.cell (p := ⟨w.heap.size, 2, none⟩) (cell_lt c12)).trans c12
    clear b2 c10 c11 c12
    go_wp2_with fail
    refine (CS.out _).mono ?_
    rintro e W3 ⟨rfl, b3⟩
    have B3 : Hid (Below w.heap.size w W3) := B2.out.trans (b3.mono hsz2)
    have hsz3 : W3.heap.size ≥ w.heap.size := B3.out.size
    have c30 : W3.cell? ⟨w.heap.size, 0, none⟩ = some (.int .i64 k) := (b3.cell (p := ⟨w.heap.size, 0, none⟩) (cell_lt c20)).trans c20
    have c31 : W3.cell? ⟨w.heap.size, 1, none⟩ = some (.string s) := (b3.cell (p := ⟨w.heap.size, 1, none⟩) (cell_lt c21)).trans c21
    have c32 : W3.cell? ⟨w.heap.size, 2, none⟩ = some (.int .i64 a) := (b3.cell (p := ⟨w.heap.size, 2, none⟩) (cell_lt c22)).trans c22
    clear b3 c20 c21 c22
    go_wp2_with fail
    refine (toHost k s a _).mono ?_
    rintro e W4 ⟨rfl, b4⟩
    have B4 : Hid (Below w.heap.size w W4) := B3.out.trans (b4.mono hsz3)
    have hsz4 : W4.heap.size ≥ w.heap.size := B4.out.size
    clear b4 c30 c31 c32
    go_wp2_with fail
    refine (CI.out _ B4.out).mono ?_
    rintro e W5 ⟨rfl, b5⟩
    have B5 : Hid (Below w.heap.size w W5) := B4.out.trans (b5.mono hsz4)
    clear b5
    go_wp2
    go_ret
    exact ⟨rfl, B5.out⟩
end Go.Proofs.YtmajfpmlpppnmabDoor
