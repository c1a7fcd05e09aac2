/- The law FnExactFourGet answers true, whatever the text. -/
import Derived.Test.YtmajfpmlpppnmabDoorFourS
set_option linter.unusedVariables false
namespace Go.Proofs.YtmajfpmlpppnmabDoor
open Go.RowKit Go.Shelf

set_option maxHeartbeats 1000000 in
set_option maxRecDepth 100000 in
theorem fnExactFourGet_walk (w : World) (hm : ∃ m, w.cell? ⟨0, 0, none⟩ = some (.int .i64 m)) (s : ByteArray) (hs : s.size ≤ maxLen) :
    Calls Tryd.prog 4 #[.string s] w fun e w' => e = .returned (.bool true) ∧ Below w.heap.size w w' := by
  by_cases h : (1048576 : Int) < (s.size : Int)
  · go_enter Tryd.func4, Tryd.ntmps4
    go_wp2
    go_ret
    exact ⟨rfl, Below.refl _ _⟩
  · have h' : (s.size : Int) ≤ 1048576 := by omega
    have HMM : Hid (∃ m, w.cell? ⟨0, 0, none⟩ = some (.int .i64 m)) := hm
    have hlt : 0 < w.heap.size := by
      obtain ⟨m, hm⟩ := hm
      have : (⟨0, 0, none⟩ : Addr).block < w.heap.size := by
        rcases Nat.lt_or_ge (⟨0, 0, none⟩ : Addr).block w.heap.size with h' | h'
        · exact h'
        · simp [World.cell?, Array.getElem?_eq_none h'] at hm
      exact this
    clear h hm
    go_enter Tryd.func4, Tryd.ntmps4
    go_wp2_with fail
    refine (specFour s _ (by omega)).mono ?_
    rintro e w1 ⟨rfl, b1⟩
    go_wp2_with fail
    refine (implFour s _ (by omega) (by obtain ⟨m, hm⟩ := HMM.out; exact ⟨m, (b1.cell (p := ⟨0, 0, none⟩) hlt).trans hm⟩)).mono ?_
    rintro e w2 ⟨rfl, b2⟩
    go_wp2
    go_ret
    exact ⟨rfl, b1.trans (b2.mono b1.size)⟩
end Go.Proofs.YtmajfpmlpppnmabDoor
