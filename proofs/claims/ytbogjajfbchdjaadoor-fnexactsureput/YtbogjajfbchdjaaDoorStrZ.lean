/- szStringS: how many bytes a list of texts has. -/
import Derived.Test.YtbogjajfbchdjaaDoorStrS
set_option linter.unusedVariables false
namespace Go.Proofs.YtbogjajfbchdjaaDoor
open Go.RowKit Go.Shelf

set_option maxHeartbeats 1000000 in
set_option maxRecDepth 100000 in
theorem szStringS (a : Option Addr) (len cap : Nat) (ss : List (List UInt8)) (left : Int) (w : World) (h : StrsOf a len ss w) (hl : len ≤ maxLen) (hss : ∀ s ∈ ss, s.length ≤ maxLen) (h0 : 0 ≤ left) (h1 : left ≤ 1048576) :
    Calls Tryd.prog 14 #[.slice a len cap, .int .i64 left] w fun e w' => ∃ r : Int, e = .returned (.int .i64 r) ∧ w' = w ∧ (0 ≤ r → ((ss.length : Int) + (tot ss : Int)) ≤ left - r) ∧ r ≤ 1048576 := by
  unfold maxLen at hl hss
  have HLEN : Hid (len = ss.length) := h.1
  by_cases hn : left - (len : Int) < 0
  · go_enter Tryd.func14, Tryd.ntmps14
    go_wp2
    go_ret
    exact ⟨-1, rfl, rfl, fun h => absurd h (by decide), by decide⟩
  · go_enter Tryd.func14, Tryd.ntmps14
    go_wp2
    go_loop [1, 5] (fun l i => ∃ (k : Nat) (L : Int), k ≤ len ∧ i = .int .i64 k ∧ l = .int .i64 L ∧ 0 ≤ L ∧ Hid (L = left - (len : Int) - (tot (ss.take k) : Int)) ∧ L ≤ 1048576) (fun _ i => len - (intOf i).toNat)
    case atStart => exact ⟨0, left - (len : Int), Nat.zero_le _, rfl, rfl, by omega, by show _ = _; simp [tot], by omega⟩
    case round =>
      obtain ⟨k, L, hk, rfl, rfl, hL, HE, hL2⟩ := hrel
      by_cases hp : k < len
      · have hki : (k : Int) < (len : Int) := by omega
        obtain ⟨b, off, z, rfl, hz, hzm, hzs⟩ := h.at k (by have := HLEN.out; omega)
        have hzb : z.size ≤ 9223372036854775807 := by rw [hzs]; exact hss _ (List.getElem_mem _)
        have HS : Hid (tot (ss.take (k + 1)) = tot (ss.take k) + z.size) := by rw [hzs]; exact tot_snoc ss k (by have := HLEN.out; omega)
        clear hzm hzs
        by_cases hc : L - (z.size : Int) < 0
        · go_wp2
          go_ret
          exact ⟨-1, rfl, rfl, fun h => absurd h (by decide), by decide⟩
        · go_wp2
          go_round
          case rel => exact ⟨k + 1, L - (z.size : Int), by omega, by go_num, rfl, by omega, by have h1 := HE.out; have h2 := HS.out; show _ = _; rw [h2, h1]; push_cast; omega, by omega⟩
          case measure => simp [intOf]; omega
      · have hkk : k = len := by omega
        subst hkk
        go_wp2
        go_ret
        refine ⟨L, rfl, rfl, fun _ => ?_, hL2⟩
        have := HE.out
        have h3 := HLEN.out
        rw [List.take_of_length_le (by omega)] at this
        omega
end Go.Proofs.YtbogjajfbchdjaaDoor
