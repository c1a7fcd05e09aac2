/- spec.l1Piece: a piece of a query, written. -/
import Derived.Test.YtjjpbkoglnimaaaDoorFormPP
set_option linter.unusedVariables false
namespace Go.Proofs.YtjjpbkoglnimaaaDoor
open Go.RowKit Go.Shelf

theorem formB_ok (c : UInt8) (x : Int) (hx : x = (c.toNat : Int)) (h : (97 ≤ x ∧ x ≤ 122) ∨ (65 ≤ x ∧ x ≤ 90) ∨ (48 ≤ x ∧ x ≤ 57) ∨ x = 42 ∨ x = 45 ∨ x = 46 ∨ x = 95) : formB c = [c] := by
  unfold formB
  have ho : okB c = true := by unfold okB; rw [decide_eq_true_eq]; omega
  rw [if_neg (by omega), if_pos ho]
theorem formB_no (c : UInt8) (x : Int) (hx : x = (c.toNat : Int)) (h : ¬ ((97 ≤ x ∧ x ≤ 122) ∨ (65 ≤ x ∧ x ≤ 90) ∨ (48 ≤ x ∧ x ≤ 57) ∨ x = 42 ∨ x = 45 ∨ x = 46 ∨ x = 95)) (h2 : x ≠ 32) : formB c = [37, fig (x / 16).toNat, fig (x % 16).toNat] := by
  unfold formB
  have ho : ¬ okB c = true := by unfold okB; rw [decide_eq_true_eq]; omega
  have q1 : (x / 16).toNat = c.toNat / 16 := by omega
  have q2 : (x % 16).toNat = c.toNat % 16 := by omega
  rw [if_neg (by omega), if_neg ho, q1, q2]
theorem formB_blank (c : UInt8) (x : Int) (hx : x = (c.toNat : Int)) (h : x = 32) : formB c = [43] := by
  unfold formB; rw [if_pos (by omega)]

set_option maxHeartbeats 4000000 in
set_option maxRecDepth 100000 in
theorem l1Piece (s : ByteArray) (w : World) (hs : s.size ≤ 2000000) :
    Calls Tryd.prog 26 #[.string s] w fun e w' => e = .returned (.string (mk (textP s.data.toList))) ∧ Below w.heap.size w w' := by
  go_enter Tryd.func26, Tryd.ntmps26
  go_wp2
  go_loopw [3, 4] (fun v i wr => ∃ k : Nat, k ≤ s.size ∧ i = .int .i64 k ∧ OwnB w.heap.size v (textP (s.data.toList.take k)) wr ∧ Below w.heap.size w wr) (fun _ i wr => s.size - (intOf i).toNat)
  case atStart => exact ⟨0, Nat.zero_le _, rfl, ownB_new w _ (Nat.le_refl _), (Below.refl _ w).alloc (Nat.le_refl _) _⟩
  case round =>
    obtain ⟨k, hk, rfl, hI, hbw⟩ := hrel
    have hsz : w.heap.size ≤ wr.heap.size := hbw.size
    by_cases hp : k < s.size
    · have hb := u8_lt s[k]
      have hki : (k : Int) < (s.size : Int) := by omega
      have hll : (textP (s.data.toList.take k)).length ≤ 3 * k := by
        have h1 := textP_len (s.data.toList.take k); have h2 := List.length_take_le k s.data.toList; omega
      have HT : Hid (textP (s.data.toList.take (k + 1)) = textP (s.data.toList.take k) ++ formB s[k]) := textP_snoc s k hp
      obtain ⟨hb0, hb1⟩ := hb
      rcases byte_kinds (s[k].toNat : Int) hb0 hb1 with hk2 | hk2 | hk2 | hk2 | hk2 | ⟨h1, h2⟩ | ⟨h1, h2⟩ | ⟨h1, h2⟩ | ⟨h1, h2, h3, h4, h5, hr⟩
      · have HB : Hid (formB s[k] = [43]) := formB_blank s[k] _ rfl hk2
        have e32 : ((s[k].toNat : Int) == 32) = true := by rw [hk2]; rfl
        clear hk2
        go_wp2_with (at_builtin; refine wpAppendByte wr rfl _ _ rfl w.heap.size _ _ 43 _ rfl hI rfl rfl (by omega) hsz ?_; intro v1 w1 R b1)
        go_roundw
        case rel => exact ⟨k + 1, by omega, by go_num, by rw [HT.out, HB.out]; exact R, hbw.trans b1⟩
        case measure => simp [intOf]; omega
      · have HB : Hid (formB s[k] = [s[k]]) := formB_ok s[k] _ rfl (by omega)
        have e32 : ((s[k].toNat : Int) == 32) = false := by rw [beq_eq_false_iff_ne]; omega
        have l97 : (s[k].toNat : Int) < 97 := by omega
        have l65 : (s[k].toNat : Int) < 65 := by omega
        have l48 : (s[k].toNat : Int) < 48 := by omega
        have e42 : ((s[k].toNat : Int) == 42) = true := by rw [hk2]; rfl
        clear hk2
        go_wp2_with (at_builtin; refine wpAppendByte wr rfl _ _ rfl w.heap.size _ _ s[k] _ rfl hI rfl rfl (by omega) hsz ?_; intro v1 w1 R b1)
        go_roundw
        case rel => exact ⟨k + 1, by omega, by go_num, by rw [HT.out, HB.out]; exact R, hbw.trans b1⟩
        case measure => simp [intOf]; omega
      · have HB : Hid (formB s[k] = [s[k]]) := formB_ok s[k] _ rfl (by omega)
        have e32 : ((s[k].toNat : Int) == 32) = false := by rw [beq_eq_false_iff_ne]; omega
        have l97 : (s[k].toNat : Int) < 97 := by omega
        have l65 : (s[k].toNat : Int) < 65 := by omega
        have l48 : (s[k].toNat : Int) < 48 := by omega
        have e42 : ((s[k].toNat : Int) == 42) = false := by rw [beq_eq_false_iff_ne]; omega
        have e45 : ((s[k].toNat : Int) == 45) = true := by rw [hk2]; rfl
        clear hk2
        go_wp2_with (at_builtin; refine wpAppendByte wr rfl _ _ rfl w.heap.size _ _ s[k] _ rfl hI rfl rfl (by omega) hsz ?_; intro v1 w1 R b1)
        go_roundw
        case rel => exact ⟨k + 1, by omega, by go_num, by rw [HT.out, HB.out]; exact R, hbw.trans b1⟩
        case measure => simp [intOf]; omega
      · have HB : Hid (formB s[k] = [s[k]]) := formB_ok s[k] _ rfl (by omega)
        have e32 : ((s[k].toNat : Int) == 32) = false := by rw [beq_eq_false_iff_ne]; omega
        have l97 : (s[k].toNat : Int) < 97 := by omega
        have l65 : (s[k].toNat : Int) < 65 := by omega
        have l48 : (s[k].toNat : Int) < 48 := by omega
        have e42 : ((s[k].toNat : Int) == 42) = false := by rw [beq_eq_false_iff_ne]; omega
        have e45 : ((s[k].toNat : Int) == 45) = false := by rw [beq_eq_false_iff_ne]; omega
        have e46 : ((s[k].toNat : Int) == 46) = true := by rw [hk2]; rfl
        clear hk2
        go_wp2_with (at_builtin; refine wpAppendByte wr rfl _ _ rfl w.heap.size _ _ s[k] _ rfl hI rfl rfl (by omega) hsz ?_; intro v1 w1 R b1)
        go_roundw
        case rel => exact ⟨k + 1, by omega, by go_num, by rw [HT.out, HB.out]; exact R, hbw.trans b1⟩
        case measure => simp [intOf]; omega
      · have HB : Hid (formB s[k] = [s[k]]) := formB_ok s[k] _ rfl (by omega)
        have e32 : ((s[k].toNat : Int) == 32) = false := by rw [beq_eq_false_iff_ne]; omega
        have l97 : (s[k].toNat : Int) < 97 := by omega
        have p65 : (65 : Int) ≤ (s[k].toNat : Int) := by omega
        have g90 : (90 : Int) < (s[k].toNat : Int) := by omega
        have p48 : (48 : Int) ≤ (s[k].toNat : Int) := by omega
        have g57 : (57 : Int) < (s[k].toNat : Int) := by omega
        have e42 : ((s[k].toNat : Int) == 42) = false := by rw [beq_eq_false_iff_ne]; omega
        have e45 : ((s[k].toNat : Int) == 45) = false := by rw [beq_eq_false_iff_ne]; omega
        have e46 : ((s[k].toNat : Int) == 46) = false := by rw [beq_eq_false_iff_ne]; omega
        have e95 : ((s[k].toNat : Int) == 95) = true := by rw [hk2]; rfl
        clear hk2
        go_wp2_with (at_builtin; refine wpAppendByte wr rfl _ _ rfl w.heap.size _ _ s[k] _ rfl hI rfl rfl (by omega) hsz ?_; intro v1 w1 R b1)
        go_roundw
        case rel => exact ⟨k + 1, by omega, by go_num, by rw [HT.out, HB.out]; exact R, hbw.trans b1⟩
        case measure => simp [intOf]; omega
      · have HB : Hid (formB s[k] = [s[k]]) := formB_ok s[k] _ rfl (by omega)
        have e32 : ((s[k].toNat : Int) == 32) = false := by rw [beq_eq_false_iff_ne]; omega
        go_wp2_with (at_builtin; refine wpAppendByte wr rfl _ _ rfl w.heap.size _ _ s[k] _ rfl hI rfl rfl (by omega) hsz ?_; intro v1 w1 R b1)
        go_roundw
        case rel => exact ⟨k + 1, by omega, by go_num, by rw [HT.out, HB.out]; exact R, hbw.trans b1⟩
        case measure => simp [intOf]; omega
      · have HB : Hid (formB s[k] = [s[k]]) := formB_ok s[k] _ rfl (by omega)
        have e32 : ((s[k].toNat : Int) == 32) = false := by rw [beq_eq_false_iff_ne]; omega
        have l97 : (s[k].toNat : Int) < 97 := by omega
        go_wp2_with (at_builtin; refine wpAppendByte wr rfl _ _ rfl w.heap.size _ _ s[k] _ rfl hI rfl rfl (by omega) hsz ?_; intro v1 w1 R b1)
        go_roundw
        case rel => exact ⟨k + 1, by omega, by go_num, by rw [HT.out, HB.out]; exact R, hbw.trans b1⟩
        case measure => simp [intOf]; omega
      · have HB : Hid (formB s[k] = [s[k]]) := formB_ok s[k] _ rfl (by omega)
        have e32 : ((s[k].toNat : Int) == 32) = false := by rw [beq_eq_false_iff_ne]; omega
        have l97 : (s[k].toNat : Int) < 97 := by omega
        have l65 : (s[k].toNat : Int) < 65 := by omega
        go_wp2_with (at_builtin; refine wpAppendByte wr rfl _ _ rfl w.heap.size _ _ s[k] _ rfl hI rfl rfl (by omega) hsz ?_; intro v1 w1 R b1)
        go_roundw
        case rel => exact ⟨k + 1, by omega, by go_num, by rw [HT.out, HB.out]; exact R, hbw.trans b1⟩
        case measure => simp [intOf]; omega
      · have HB : Hid (formB s[k] = [37, fig ((s[k].toNat : Int) / 16).toNat, fig ((s[k].toNat : Int) % 16).toNat]) := formB_no s[k] _ rfl (by omega) h1
        have e32 : ((s[k].toNat : Int) == 32) = false := by rw [beq_eq_false_iff_ne]; omega
        have e42 : ((s[k].toNat : Int) == 42) = false := by rw [beq_eq_false_iff_ne]; omega
        have e45 : ((s[k].toNat : Int) == 45) = false := by rw [beq_eq_false_iff_ne]; omega
        have e46 : ((s[k].toNat : Int) == 46) = false := by rw [beq_eq_false_iff_ne]; omega
        have e95 : ((s[k].toNat : Int) == 95) = false := by rw [beq_eq_false_iff_ne]; omega
        clear h1 h2 h3 h4 h5
        rcases hr with hr | ⟨h6, h7⟩ | ⟨h6, h7⟩ | hr
        · have l97 : (s[k].toNat : Int) < 97 := by omega
          have l65 : (s[k].toNat : Int) < 65 := by omega
          go_wp2_with (first
            | (go_at_call 46; refine (l1Figure _ _ (by omega) (by omega)).mono ?_; rintro e W1 ⟨rfl, hW⟩; have hW2 := hW.symm; subst hW2)
            | (at_builtin; refine wpAppendBytes wr rfl _ _ rfl w.heap.size _ _ [37, fig ((s[k].toNat : Int) / 16).toNat, fig ((s[k].toNat : Int) % 16).toNat] _ rfl hI rfl 3 rfl (by simp; omega) hsz ?_; intro v1 w1 R b1))
          go_roundw
          case rel => exact ⟨k + 1, by omega, by go_num, by rw [HT.out, HB.out]; exact R, hbw.trans b1⟩
          case measure => simp [intOf]; omega
        · have l97 : (s[k].toNat : Int) < 97 := by omega
          have l65 : (s[k].toNat : Int) < 65 := by omega
          have p48 : (48 : Int) ≤ (s[k].toNat : Int) := by omega
          go_wp2_with (first
            | (go_at_call 46; refine (l1Figure _ _ (by omega) (by omega)).mono ?_; rintro e W1 ⟨rfl, hW⟩; have hW2 := hW.symm; subst hW2)
            | (at_builtin; refine wpAppendBytes wr rfl _ _ rfl w.heap.size _ _ [37, fig ((s[k].toNat : Int) / 16).toNat, fig ((s[k].toNat : Int) % 16).toNat] _ rfl hI rfl 3 rfl (by simp; omega) hsz ?_; intro v1 w1 R b1))
          go_roundw
          case rel => exact ⟨k + 1, by omega, by go_num, by rw [HT.out, HB.out]; exact R, hbw.trans b1⟩
          case measure => simp [intOf]; omega
        · have l97 : (s[k].toNat : Int) < 97 := by omega
          have p65 : (65 : Int) ≤ (s[k].toNat : Int) := by omega
          have p48 : (48 : Int) ≤ (s[k].toNat : Int) := by omega
          have g57 : (57 : Int) < (s[k].toNat : Int) := by omega
          go_wp2_with (first
            | (go_at_call 46; refine (l1Figure _ _ (by omega) (by omega)).mono ?_; rintro e W1 ⟨rfl, hW⟩; have hW2 := hW.symm; subst hW2)
            | (at_builtin; refine wpAppendBytes wr rfl _ _ rfl w.heap.size _ _ [37, fig ((s[k].toNat : Int) / 16).toNat, fig ((s[k].toNat : Int) % 16).toNat] _ rfl hI rfl 3 rfl (by simp; omega) hsz ?_; intro v1 w1 R b1))
          go_roundw
          case rel => exact ⟨k + 1, by omega, by go_num, by rw [HT.out, HB.out]; exact R, hbw.trans b1⟩
          case measure => simp [intOf]; omega
        · have p97 : (97 : Int) ≤ (s[k].toNat : Int) := by omega
          have p65 : (65 : Int) ≤ (s[k].toNat : Int) := by omega
          have g90 : (90 : Int) < (s[k].toNat : Int) := by omega
          have p48 : (48 : Int) ≤ (s[k].toNat : Int) := by omega
          have g57 : (57 : Int) < (s[k].toNat : Int) := by omega
          go_wp2_with (first
            | (go_at_call 46; refine (l1Figure _ _ (by omega) (by omega)).mono ?_; rintro e W1 ⟨rfl, hW⟩; have hW2 := hW.symm; subst hW2)
            | (at_builtin; refine wpAppendBytes wr rfl _ _ rfl w.heap.size _ _ [37, fig ((s[k].toNat : Int) / 16).toNat, fig ((s[k].toNat : Int) % 16).toNat] _ rfl hI rfl 3 rfl (by simp; omega) hsz ?_; intro v1 w1 R b1))
          go_roundw
          case rel => exact ⟨k + 1, by omega, by go_num, by rw [HT.out, HB.out]; exact R, hbw.trans b1⟩
          case measure => simp [intOf]; omega
    · have hkk : k = s.size := by omega
      subst hkk
      rw [List.take_of_length_le (by simp)] at hI
      have ht := ownB_text hI
      go_wp2
      go_ret
      exact ⟨rfl, hbw⟩
end Go.Proofs.YtjjpbkoglnimaaaDoor
