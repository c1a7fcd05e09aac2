/- laws.guPairs of lists of the same pairs. -/
import Derived.Test.YtjjpbkoglnimaaaDoorPairO
set_option linter.unusedVariables false
namespace Go.Proofs.YtjjpbkoglnimaaaDoor
open Go.RowKit Go.Shelf

set_option maxHeartbeats 1000000 in
set_option maxRecDepth 100000 in
theorem guPairs (a a' : Option Addr) (len cap len' cap' : Nat) (ps : List PairL) (w : World) (h : PairsOf a len ps w) (h' : PairsOf a' len' ps w) (hl : len ≤ 1000000000) :
    Calls Tryd.prog 10 #[.slice a len cap, .slice a' len' cap'] w fun e w' => e = .returned (.bool true) ∧ ∃ n, w' = w.drewN n := by
  have hll : len' = len := by rw [h.1, h'.1]
  subst hll
  have HLEN : Hid (len' = ps.length) := h.1
  go_enter Tryd.func10, Tryd.ntmps10
  go_wp2
  go_loopw [5] (fun i wr => ∃ k : Nat, k ≤ len' ∧ i = .int .i64 k ∧ ∃ n, wr = w.drewN n) (fun i wr => len' - (intOf i).toNat)
  case atStart => exact ⟨0, Nat.zero_le _, rfl, 0, rfl⟩
  case round =>
    obtain ⟨k, hk, rfl, n, rfl⟩ := hrel
    by_cases hp : k < len'
    · have hki : (k : Int) < (len' : Int) := by omega
      obtain ⟨b, off, y, z, rfl, hy, hz, hym, hzm⟩ := h.at k (by have := HLEN.out; omega)
      obtain ⟨b', off', y', z', rfl, hy', hz', hym', hzm'⟩ := h'.at k (by have := HLEN.out; omega)
      have e1 : y' = y := by rw [hym, hym']
      have e2 : z' = z := by rw [hzm, hzm']
      subst e1 e2
      clear hym hzm hym' hzm'
      go_wp2
      go_quiet (fail)
      go_wp2
      go_roundw
      case rel => exact ⟨k + 1, by omega, by go_num, _, rfl⟩
      case measure => simp [intOf]; omega
    · have hkk : k = len' := by omega
      subst hkk
      go_wp2
      go_ret
      exact ⟨rfl, n, rfl⟩
end Go.Proofs.YtjjpbkoglnimaaaDoor
