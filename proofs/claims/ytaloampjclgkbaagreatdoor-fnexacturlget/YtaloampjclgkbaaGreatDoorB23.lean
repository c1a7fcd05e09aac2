/- spec.Decode reads a text of figures, of whatever size. -/
import Derived.Test.YtaloampjclgkbaaGreatDoorB10
import Derived.Deep.RegionHeld3
section
set_option linter.unusedVariables false
namespace Go.Proofs.YtaloampjclgkbaaGreatDoor
open Go.RowKit Go.Shelf

set_option maxHeartbeats 2000000 in
set_option maxRecDepth 100000 in
theorem specDecode (s : ByteArray) (w : World) (hs : s.size ≤ maxLen) :
    Calls Tryz.prog 120 #[.string s] w fun e w' => e = .returned (.string ⟨(decode s).toArray⟩) ∧ Below w.heap.size w w' := by
  unfold maxLen at hs
  by_cases hL : s.size ≤ 600
  · rw [decode_small s hL]
    have hLi : (s.size : Int) ≤ 600 := by omega
    go_enter Tryz.func120, Tryz.ntmps120
    go_wp2
    go_loopw [3, 4] (fun v i wr => ∃ (k : Nat) (acc : List UInt8), k ≤ s.size ∧ i = .int .i64 k ∧ OwnB w.heap.size v acc wr ∧ Below w.heap.size w wr ∧ acc.length ≤ k ∧ Hid (acc ++ dec (s.data.toList.drop k) = dec s.data.toList)) (fun _ i wr => s.size - (intOf i).toNat)
    case atStart =>
      exact ⟨0, [], Nat.zero_le _, rfl, ownB_new w _ (Nat.le_refl _), (Below.refl _ w).alloc (Nat.le_refl _) _, Nat.le_refl _, rfl⟩
    case round =>
      obtain ⟨k, acc, hk, rfl, hI, hbw, hal, HA⟩ := hrel
      have hsz : w.heap.size ≤ wr.heap.size := hbw.size
      by_cases hp : k < s.size
      · have hki : (k : Int) < (s.size : Int) := by omega
        by_cases hc : s[k] = 37
        · have h37 : ((s[k].toNat : Int) == 37) = true := by rw [hc]; rfl
          have HC : Hid (s[k] = 37) := hc
          clear hc
          by_cases h2 : k + 2 < s.size
          · have h2i : (k : Int) + 2 < (s.size : Int) := by omega
            have h1i : (k : Int) + 1 < (s.size : Int) := by omega
            have hw1 : IntKind.i64.wrap ((k : Int) + 1) = (k : Int) + 1 := by rw [IntKind.wrap_i64]; omega
            have hw2 : IntKind.i64.wrap ((k : Int) + 2) = (k : Int) + 2 := by rw [IntKind.wrap_i64]; omega
            have h01 : (0 : Int) ≤ (k : Int) + 1 := by omega
            have h02 : (0 : Int) ≤ (k : Int) + 2 := by omega
            have ht1 : ((k : Int) + 1).toNat = k + 1 := by omega
            have ht2 : ((k : Int) + 2).toNat = k + 2 := by omega
            have ra := hexV_range s[k + 1]
            have rb := hexV_range s[k + 2]
            rcases (show hexV s[k + 1] < 0 ∨ (0 ≤ hexV s[k + 1] ∧ hexV s[k + 2] < 0) ∨ (0 ≤ hexV s[k + 1] ∧ 0 ≤ hexV s[k + 2]) from by omega) with ha | ⟨ha, hb⟩ | ⟨ha, hb⟩
            · have HA2 : Hid ((acc ++ [s[k]]) ++ dec (s.data.toList.drop (k + 1)) = dec s.data.toList) := acc_not hp HA.out ((escAt_of s k h2).trans (esc_no1 _ _ _ ha))
              go_wp2_with (first | (go_at_call 145; refine (l1Hex _ _).mono ?_; rintro e W1 ⟨rfl, hW⟩; have hW2 := hW.symm; subst hW2) | (at_builtin; refine wpAppendByte wr rfl _ _ rfl w.heap.size _ _ s[k] _ rfl hI rfl rfl (by omega) hsz ?_; intro v1 w1 R b1))
              go_roundw
              case rel => exact ⟨k + 1, acc ++ [s[k]], by omega, by go_num, R, hbw.trans b1, by simp; omega, HA2⟩
              case measure => simp [intOf]; omega
            · have HA2 : Hid ((acc ++ [s[k]]) ++ dec (s.data.toList.drop (k + 1)) = dec s.data.toList) := acc_not hp HA.out ((escAt_of s k h2).trans (esc_no2 _ _ _ hb))
              go_wp2_with (first | (go_at_call 145; refine (l1Hex _ _).mono ?_; rintro e W1 ⟨rfl, hW⟩; have hW2 := hW.symm; subst hW2) | (at_builtin; refine wpAppendByte wr rfl _ _ rfl w.heap.size _ _ s[k] _ rfl hI rfl rfl (by omega) hsz ?_; intro v1 w1 R b1))
              go_roundw
              case rel => exact ⟨k + 1, acc ++ [s[k]], by omega, by go_num, R, hbw.trans b1, by simp; omega, HA2⟩
              case measure => simp [intOf]; omega
            · have HA2 : Hid ((acc ++ [hexB s[k + 1] s[k + 2]]) ++ dec (s.data.toList.drop (k + 3)) = dec s.data.toList) := by
                have := (acc_esc hp HA.out ((escAt_of s k h2).trans (esc_yes _ _ _ HC.out ha hb))).1
                rw [decB_val s k h2 (esc_yes _ _ _ HC.out ha hb)] at this; exact this
              go_wp2_with (first | (go_at_call 145; refine (l1Hex _ _).mono ?_; rintro e W1 ⟨rfl, hW⟩; have hW2 := hW.symm; subst hW2))
              have hm1 : IntKind.i64.wrap (16 * hexV s[k + 1]) = 16 * hexV s[k + 1] := by rw [IntKind.wrap_i64]; omega
              have hm2 : IntKind.i64.wrap (16 * hexV s[k + 1] + hexV s[k + 2]) = 16 * hexV s[k + 1] + hexV s[k + 2] := by rw [IntKind.wrap_i64]; omega
              have hm3 : IntKind.u8.wrap (16 * hexV s[k + 1] + hexV s[k + 2]) = 16 * hexV s[k + 1] + hexV s[k + 2] := by rw [IntKind.wrap_u8]; omega
              have HB : Hid (((hexB s[k + 1] s[k + 2]).toNat : Int) = 16 * hexV s[k + 1] + hexV s[k + 2]) := hexB_val _ _ ha hb
              go_region_held3 (fun _ => True) (trivial) (first | (go_at_call 145; refine (l1Hex _ _).mono ?_; rintro e W1 ⟨rfl, hW⟩; have hW2 := hW.symm; subst hW2) | (refine stepAppendBytes _ (by rfl) (.tmp 44) (.tmp 58) (by rfl) w.heap.size u3 acc [hexB s[k + 1] s[k + 2]] (by exact (hI.alloc _).drew) wr.heap.size #[.int .u8 (16 * hexV s[k + 1] + hexV s[k + 2])] (0, 0) (by exact heap_alloc_new wr _) (by simp [Lib.byteCells, HB.out]) (by rfl) 1 (by rfl) (by simp; omega) (by simp; omega) ?_; intro v1 w1 R b1) | fail)
              all_goals
                go_wp2
                go_roundw
                case rel => exact ⟨k + 3, acc ++ [hexB s[k + 1] s[k + 2]], by omega, by go_num, R, (hbw.alloc hsz _).drew.trans b1, by simp; omega, HA2⟩
                case measure => simp [intOf]; omega
          · have HA2 : Hid ((acc ++ [s[k]]) ++ dec (s.data.toList.drop (k + 1)) = dec s.data.toList) := acc_not hp HA.out (escAt_end s k h2)
            have h2i : ¬ ((k : Int) + 2 < (s.size : Int)) := by omega
            go_wp2_with (first | (go_at_call 145; refine (l1Hex _ _).mono ?_; rintro e W1 ⟨rfl, hW⟩; have hW2 := hW.symm; subst hW2) | (at_builtin; refine wpAppendByte wr rfl _ _ rfl w.heap.size _ _ s[k] _ rfl hI rfl rfl (by omega) hsz ?_; intro v1 w1 R b1))
            go_roundw
            case rel => exact ⟨k + 1, acc ++ [s[k]], by omega, by go_num, R, hbw.trans b1, by simp; omega, HA2⟩
            case measure => simp [intOf]; omega
        · have HA2 : Hid ((acc ++ [s[k]]) ++ dec (s.data.toList.drop (k + 1)) = dec s.data.toList) := acc_not hp HA.out (escAt_no0 s k hp hc)
          have h37 : ((s[k].toNat : Int) == 37) = false := by
            rw [beq_eq_false_iff_ne]; intro h; exact hc (UInt8.toNat_inj.1 (by have : (37 : UInt8).toNat = 37 := rfl; omega))
          go_wp2_with (first | (go_at_call 145; refine (l1Hex _ _).mono ?_; rintro e W1 ⟨rfl, hW⟩; have hW2 := hW.symm; subst hW2) | (at_builtin; refine wpAppendByte wr rfl _ _ rfl w.heap.size _ _ s[k] _ rfl hI rfl rfl (by omega) hsz ?_; intro v1 w1 R b1))
          go_roundw
          case rel => exact ⟨k + 1, acc ++ [s[k]], by omega, by go_num, R, hbw.trans b1, by simp; omega, HA2⟩
          case measure => simp [intOf]; omega
      · have hkk : k = s.size := by omega
        subst hkk
        have hacc : acc = dec s.data.toList := by have := HA.out; rw [drop_end] at this; simpa [dec] using this
        subst hacc
        have ht := ownB_text hI
        go_wp2
        go_ret
        exact ⟨rfl, hbw⟩
  · rw [decode_great s hL]
    have hLi : (600 : Int) < (s.size : Int) := by omega
    go_enter Tryz.func120, Tryz.ntmps120
    go_wp2
    go_loopw [3, 4] (fun v i wr => i = .int .i64 0 ∧ OwnB w.heap.size v [] wr ∧ Below w.heap.size w wr) (fun _ i wr => 0)
    case atStart => exact ⟨rfl, ownB_new w _ (Nat.le_refl _), (Below.refl _ w).alloc (Nat.le_refl _) _⟩
    case round =>
      obtain ⟨rfl, hI, hbw⟩ := hrel
      have ht := ownB_text hI
      go_wp2
      go_ret
      exact ⟨rfl, hbw⟩
end Go.Proofs.YtaloampjclgkbaaGreatDoor
end
