/- spec.Lower gives the text with small letters, of at most 2^46 bytes. -/
import Derived.Test.YtnmbflljldhjmaaDoorLow
import Derived.Test.YtnmbflljldhjmaaDoorOwn
set_option linter.unusedVariables false
namespace Go.Proofs.YtnmbflljldhjmaaDoor
open Go.RowKit Go.Shelf

set_option maxHeartbeats 1000000 in
set_option maxRecDepth 100000 in
theorem specLower (s : ByteArray) (w : World) (hs : s.size ≤ 70368744177664) :
    Calls Tryd.prog 39 #[.string s] w fun e w' => e = .returned (.string ⟨(low s.data.toList).toArray⟩) ∧ Below w.heap.size w w' := by
  obtain ⟨i0, hi, hz0, hz1, hz2⟩ := info_parts infoByte
  go_enter Tryd.func39, Tryd.ntmps39
  go_wp2
  go_loopw [3, 4] (fun v i wr => ∃ k : Nat, k ≤ s.size ∧ i = .int .i64 k ∧ OwnB w.heap.size v (low (s.data.toList.take k)) wr ∧ Below w.heap.size w wr) (fun _ i wr => s.size - (intOf i).toNat)
  case atStart => exact ⟨0, Nat.zero_le _, rfl, ownB_new w _ (Nat.le_refl _), (Below.refl _ w).alloc (Nat.le_refl _) _⟩
  case round =>
    obtain ⟨k, hk, rfl, hI, hbw⟩ := hrel
    have hsz : w.heap.size ≤ wr.heap.size := hbw.size
    by_cases hp : k < s.size
    · have hb := u8_lt s[k]
      have hll : (low (s.data.toList.take k)).length ≤ k := by rw [low_length]; exact List.length_take_le _ _
      have HT : Hid (low (s.data.toList.take (k + 1)) = low (s.data.toList.take k) ++ [lowB s[k]]) := by rw [take_snoc s k hp, low_snoc]; rfl
      by_cases h1 : (65 : Int) ≤ (s[k].toNat : Int) ∧ (s[k].toNat : Int) ≤ 90
      · obtain ⟨h1, h2⟩ := h1
        have HC : Hid (((lowB s[k]).toNat : Int) = (s[k].toNat : Int) + 32) := lowB_cap s[k] h1 h2
        go_wp2_with (at_builtin; refine wpAppendByte wr rfl _ _ rfl w.heap.size _ _ (lowB s[k]) _ HC.out hI rfl rfl (by omega) hsz ?_; intro v' w1 R b1)
        go_roundw
        case rel => exact ⟨k + 1, by omega, by go_num, by rw [HT.out]; exact R, hbw.trans b1⟩
        case measure => simp [intOf]; omega
      · have HC : Hid (((lowB s[k]).toNat : Int) = (s[k].toNat : Int)) := by rw [lowB_not s[k] h1]; rfl
        rcases (show (s[k].toNat : Int) < 65 ∨ ((65 : Int) ≤ (s[k].toNat : Int) ∧ 90 < (s[k].toNat : Int)) from by omega) with h2 | ⟨h2, h3⟩
        all_goals
          clear h1
          go_wp2_with (at_builtin; refine wpAppendByte wr rfl _ _ rfl w.heap.size _ _ (lowB s[k]) _ HC.out hI rfl rfl (by omega) hsz ?_; intro v' w1 R b1)
          go_roundw
          case rel => exact ⟨k + 1, by omega, by go_num, by rw [HT.out]; exact R, hbw.trans b1⟩
          case measure => simp [intOf]; omega
    · have hkk : k = s.size := by omega
      subst hkk
      rw [List.take_of_length_le (by simp)] at hI
      have ht := ownB_text hI
      go_wp2
      go_ret
      exact ⟨rfl, hbw⟩
end Go.Proofs.YtnmbflljldhjmaaDoor
