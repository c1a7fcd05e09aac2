/- spec.l2Digits and l2Part: the number of a part. -/
import Derived.Test.YtbogjajfbchdjaaDoorHex
import Derived.Test.YtbogjajfbchdjaaDoorPartP
set_option linter.unusedVariables false
namespace Go.Proofs.YtbogjajfbchdjaaDoor
open Go.RowKit Go.Shelf

theorem digs_at (base acc : Int) (s : ByteArray) (k : Nat) (h : k < s.size) (hc : ¬ (hexV s[k] < 0 ∨ base ≤ hexV s[k] ∨ 4294967295 < acc)) : digs base acc (s.data.toList.drop k) = digs base (acc * base + hexV s[k]) (s.data.toList.drop (k + 1)) := by
  rw [drop_at s k h, digs_yes _ _ _ _ hc]
theorem digs_bad (base acc : Int) (s : ByteArray) (k : Nat) (h : k < s.size) (hc : hexV s[k] < 0 ∨ base ≤ hexV s[k] ∨ 4294967295 < acc) : digs base acc (s.data.toList.drop k) = none := by
  rw [drop_at s k h, digs_no _ _ _ _ hc]
theorem digs_end (base acc : Int) (s : ByteArray) : digs base acc (s.data.toList.drop s.size) = some acc := by
  rw [List.drop_of_length_le (by simp)]; rfl

/-- What l2Digits answers. -/
def digsV (base : Int) (l : List UInt8) : Int := (digs base 0 l).getD (-1)

set_option maxHeartbeats 2000000 in
set_option maxRecDepth 100000 in
theorem l2Digits (s : ByteArray) (base : Int) (w : World) (hs : s.size ≤ 1000000) (hb : base = 8 ∨ base = 10 ∨ base = 16) :
    Calls Tryd.prog 45 #[.string s, .int .i64 base] w fun e w' => e = .returned (.int .i64 (digsV base s.data.toList)) ∧ w' = w := by
  have hbl : 8 ≤ base ∧ base ≤ 16 := by omega
  have HB : Hid (base = 8 ∨ base = 10 ∨ base = 16) := hb
  clear hb
  go_enter Tryd.func45, Tryd.ntmps45
  go_wp2
  go_loop [5, 6] (fun n i => ∃ (k : Nat) (acc : Int), k ≤ s.size ∧ i = .int .i64 k ∧ n = .int .i64 acc ∧ 0 ≤ acc ∧ acc ≤ 68719476735 ∧ Hid (digs base acc (s.data.toList.drop k) = digs base 0 s.data.toList)) (fun _ i => s.size - (intOf i).toNat)
  case atStart => exact ⟨0, 0, Nat.zero_le _, rfl, rfl, by omega, by omega, rfl⟩
  case round =>
    obtain ⟨k, acc, hk, rfl, rfl, ha0, ha1, HD⟩ := hrel
    by_cases hp : k < s.size
    · have hki : (k : Int) < (s.size : Int) := by omega
      have hr := hexV_range s[k]
      rcases (show hexV s[k] < 0 ∨ (0 ≤ hexV s[k] ∧ base ≤ hexV s[k]) ∨ (0 ≤ hexV s[k] ∧ hexV s[k] < base ∧ 4294967295 < acc) ∨ (0 ≤ hexV s[k] ∧ hexV s[k] < base ∧ acc ≤ 4294967295) from by omega) with h1 | ⟨h1, h2⟩ | ⟨h1, h2, h3⟩ | ⟨h1, h2, h3⟩
      · have HF : Hid (digsV base s.data.toList = -1) := by unfold digsV; rw [← HD.out, digs_bad base acc s k hp (by omega)]; rfl
        go_wp2_with (go_at_call 53; refine (l1Hex s[k] _).mono ?_; rintro e W1 ⟨rfl, hW⟩; have hW2 := hW.symm; subst hW2)
        go_ret
        exact ⟨ret_int HF.out.symm, rfl⟩
      · have HF : Hid (digsV base s.data.toList = -1) := by unfold digsV; rw [← HD.out, digs_bad base acc s k hp (by omega)]; rfl
        go_wp2_with (go_at_call 53; refine (l1Hex s[k] _).mono ?_; rintro e W1 ⟨rfl, hW⟩; have hW2 := hW.symm; subst hW2)
        go_ret
        exact ⟨ret_int HF.out.symm, rfl⟩
      · have HF : Hid (digsV base s.data.toList = -1) := by unfold digsV; rw [← HD.out, digs_bad base acc s k hp (by omega)]; rfl
        go_wp2_with (go_at_call 53; refine (l1Hex s[k] _).mono ?_; rintro e W1 ⟨rfl, hW⟩; have hW2 := hW.symm; subst hW2)
        go_ret
        exact ⟨ret_int HF.out.symm, rfl⟩
      · have HD2 : Hid (digs base (acc * base + hexV s[k]) (s.data.toList.drop (k + 1)) = digs base 0 s.data.toList) := (digs_at base acc s k hp (by omega)).symm.trans HD.out
        obtain ⟨q, hq, hq0, hq1⟩ : ∃ q : Int, acc * base = q ∧ 0 ≤ q ∧ q ≤ 68719476720 := ⟨_, rfl, Int.mul_nonneg ha0 (by omega), by rcases HB.out with e | e | e <;> rw [e] <;> omega⟩
        rw [hq] at HD2
        go_wp2_with (go_at_call 53; refine (l1Hex s[k] _).mono ?_; rintro e W1 ⟨rfl, hW⟩; have hW2 := hW.symm; subst hW2)
        go_round
        case rel => exact ⟨k + 1, q + hexV s[k], by omega, by go_num, rfl, by omega, by omega, HD2⟩
        case measure => simp [intOf]; omega
    · have hkk : k = s.size := by omega
      subst hkk
      have HF : Hid (digsV base s.data.toList = acc) := by unfold digsV; rw [← HD.out, digs_end]; rfl
      go_wp2
      go_ret
      exact ⟨ret_int HF.out.symm, rfl⟩
end Go.Proofs.YtbogjajfbchdjaaDoor
