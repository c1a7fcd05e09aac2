/- eqStringS of two lists of the same texts. -/
import Derived.Test.YtbogjajfbchdjaaDoorStrS
set_option linter.unusedVariables false
namespace Go.Proofs.YtbogjajfbchdjaaDoor
open Go.RowKit Go.Shelf

set_option maxHeartbeats 1000000 in
set_option maxRecDepth 100000 in
theorem eqStringS (a a' : Option Addr) (len cap len' cap' : Nat) (ss : List (List UInt8)) (w : World) (h : StrsOf a len ss w) (h' : StrsOf a' len' ss w) (hl : len ≤ 1000000000) :
    Calls Tryd.prog 18 #[.slice a len cap, .slice a' len' cap'] w fun e w' => e = .returned (.bool true) ∧ ∃ n, w' = w.drewN n := by
  have hll : len' = len := by rw [h.1, h'.1]
  subst hll
  have HLEN : Hid (len' = ss.length) := h.1
  go_enter Tryd.func18, Tryd.ntmps18
  go_wp2
  go_loopw [5] (fun i wr => ∃ k : Nat, k ≤ len' ∧ i = .int .i64 k ∧ ∃ n, wr = w.drewN n) (fun i wr => len' - (intOf i).toNat)
  case atStart => exact ⟨0, Nat.zero_le _, rfl, 0, rfl⟩
  case round =>
    obtain ⟨k, hk, rfl, n, rfl⟩ := hrel
    by_cases hp : k < len'
    · have hki : (k : Int) < (len' : Int) := by omega
      obtain ⟨b, off, z, rfl, hz, hzm, hzs⟩ := h.at k (by have := HLEN.out; omega)
      obtain ⟨b', off', z', rfl, hz', hzm', hzs'⟩ := h'.at k (by have := HLEN.out; omega)
      have : z' = z := by rw [hzm, hzm']
      subst this
      clear hzm hzm' hzs hzs'
      go_wp2
      go_quiet (fail)
      go_wp2
      go_roundw
      case rel => exact ⟨k + 1, by omega, by go_num, _, rfl⟩
      case measure => simp [intOf]; omega
    · have hkk : k = len' := by omega
      subst hkk
      go_wp2
      go_ret
      exact ⟨rfl, n, rfl⟩
end Go.Proofs.YtbogjajfbchdjaaDoor
