/- impl.figureValue and spec.l1Hex each tell what a figure is worth. -/
import Derived.Test.YtbogjajfbchdjaaDoorOwn
import Derived.Test.YtbogjajfbchdjaaDoorDecP
set_option linter.unusedVariables false
namespace Go.Proofs.YtbogjajfbchdjaaDoor
open Go.RowKit Go.Shelf

set_option maxHeartbeats 400000 in
theorem figureValue (c : UInt8) (w : World) : Calls Tryd.prog 58 #[.int .u8 (c.toNat : Int)] w fun e w' => e = .returned (.int .i64 (hexV c)) ∧ w' = w := by
  have hb := u8_lt c
  rcases (show (c.toNat : Int) < 48 ∨ ((48 : Int) ≤ (c.toNat : Int) ∧ (c.toNat : Int) ≤ 57) ∨ ((57 : Int) < (c.toNat : Int) ∧ (c.toNat : Int) < 65) ∨ ((65 : Int) ≤ (c.toNat : Int) ∧ (c.toNat : Int) ≤ 70) ∨ ((70 : Int) < (c.toNat : Int) ∧ (c.toNat : Int) < 97) ∨ ((97 : Int) ≤ (c.toNat : Int) ∧ (c.toNat : Int) ≤ 102) ∨ (102 : Int) < (c.toNat : Int) from by omega) with h | ⟨h, h'⟩ | ⟨h, h'⟩ | ⟨h, h'⟩ | ⟨h, h'⟩ | ⟨h, h'⟩ | h
  all_goals
    go_enter Tryd.func58, Tryd.ntmps58
    go_wp2
    go_ret
    exact ⟨ret_int (by unfold hexV; (repeat' split) <;> omega), rfl⟩

set_option maxHeartbeats 400000 in
theorem l1Hex (c : UInt8) (w : World) : Calls Tryd.prog 53 #[.int .u8 (c.toNat : Int)] w fun e w' => e = .returned (.int .i64 (hexV c)) ∧ w' = w := by
  have hb := u8_lt c
  rcases (show (c.toNat : Int) < 48 ∨ ((48 : Int) ≤ (c.toNat : Int) ∧ (c.toNat : Int) ≤ 57) ∨ ((57 : Int) < (c.toNat : Int) ∧ (c.toNat : Int) < 65) ∨ ((65 : Int) ≤ (c.toNat : Int) ∧ (c.toNat : Int) ≤ 70) ∨ ((70 : Int) < (c.toNat : Int) ∧ (c.toNat : Int) < 97) ∨ ((97 : Int) ≤ (c.toNat : Int) ∧ (c.toNat : Int) ≤ 102) ∨ (102 : Int) < (c.toNat : Int) from by omega) with h | ⟨h, h'⟩ | ⟨h, h'⟩ | ⟨h, h'⟩ | ⟨h, h'⟩ | ⟨h, h'⟩ | h
  all_goals
    go_enter Tryd.func53, Tryd.ntmps53
    go_wp2
    go_ret
    exact ⟨ret_int (by unfold hexV; (repeat' split) <;> omega), rfl⟩


end Go.Proofs.YtbogjajfbchdjaaDoor
