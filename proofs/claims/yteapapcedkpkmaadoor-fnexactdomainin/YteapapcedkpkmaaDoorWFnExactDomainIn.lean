/- The law FnExactDomainIn answers true, whatever the names. -/
import Derived.Test.YteapapcedkpkmaaDoorDomI
import Derived.Test.YteapapcedkpkmaaDoorDomS
set_option linter.unusedVariables false
namespace Go.Proofs.YteapapcedkpkmaaDoor
open Go.RowKit Go.Shelf

set_option maxHeartbeats 1000000 in
set_option maxRecDepth 100000 in
theorem fnExactDomainIn_walk (w : World) (hm : ∃ m, w.cell? ⟨0, 0, none⟩ = some (.int .i64 m)) (s : ByteArray) (hs : s.size ≤ maxLen) (t : ByteArray) (ht : t.size ≤ maxLen) :
    Calls Tryd.prog 4 #[.string s, .string t] w fun e w' => e = .returned (.bool true) ∧ Below w.heap.size w w' := by
  by_cases h : (1048576 : Int) < (s.size : Int)
  · go_enter Tryd.func4, Tryd.ntmps4
    go_wp2
    go_ret
    exact ⟨rfl, Below.refl _ _⟩
  · have h' : (s.size : Int) ≤ 1048576 := by omega
    clear h
    by_cases h2 : (1048576 : Int) < (t.size : Int)
    · go_enter Tryd.func4, Tryd.ntmps4
      go_wp2
      go_ret
      exact ⟨rfl, Below.refl _ _⟩
    · have h2' : (t.size : Int) ≤ 1048576 := by omega
      clear h2
      have hlt : 0 < w.heap.size := by
        obtain ⟨m, hm⟩ := hm
        exact cell_lt hm
      have HM : Hid (∀ W, Below w.heap.size w W → ∃ m, W.cell? ⟨0, 0, none⟩ = some (.int .i64 m)) := by
        obtain ⟨m, hm⟩ := hm
        intro W b
        exact ⟨m, (b.cell (p := ⟨0, 0, none⟩) hlt).trans hm⟩
      clear hm
      go_enter Tryd.func4, Tryd.ntmps4
      go_wp2_with fail
      refine (specDomainIn s t _ (by omega) (by omega)).mono ?_
      rintro e w1 ⟨rfl, b1⟩
      go_wp2_with fail
      refine (implDomainIn s t _ (HM.out _ b1) (by omega) (by omega)).mono ?_
      rintro e w2 ⟨rfl, b2⟩
      go_wp2
      go_ret
      exact ⟨rfl, b1.trans (b2.mono b1.size)⟩
end Go.Proofs.YteapapcedkpkmaaDoor
