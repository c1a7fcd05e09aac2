/- spec.l1Set, l1Has, l1Figure: a set's bytes; whether a text has a byte; a figure. -/
import Derived.Test.YtjkbgdnjghlakaaDoorOwn
import Derived.Test.YtjkbgdnjghlakaaDoorEncP
set_option linter.unusedVariables false
namespace Go.Proofs.YtjkbgdnjghlakaaDoor
open Go.RowKit Go.Shelf

set_option maxHeartbeats 1000000 in
theorem l1Set (set : Int) (w : World) : Calls Tryd.prog 42 #[.int .i64 set] w fun e w' => e = .returned (.string ⟨(setB set).toArray⟩) ∧ w' = w := by
  unfold setB
  by_cases h1 : set = 1
  · subst h1
    go_enter Tryd.func42, Tryd.ntmps42
    go_wp2
    go_ret
    exact ⟨rfl, rfl⟩
  by_cases h2 : set = 2
  · subst h2
    go_enter Tryd.func42, Tryd.ntmps42
    go_wp2
    go_ret
    exact ⟨rfl, rfl⟩
  by_cases h3 : set = 3
  · subst h3
    go_enter Tryd.func42, Tryd.ntmps42
    go_wp2
    go_ret
    exact ⟨rfl, rfl⟩
  by_cases h4 : set = 4
  · subst h4
    go_enter Tryd.func42, Tryd.ntmps42
    go_wp2
    go_ret
    exact ⟨rfl, rfl⟩
  by_cases h5 : set = 5
  · subst h5
    go_enter Tryd.func42, Tryd.ntmps42
    go_wp2
    go_ret
    exact ⟨rfl, rfl⟩
  · rw [if_neg h1, if_neg h2, if_neg h3, if_neg h4, if_neg h5]
    have e1 : (set == 1) = false := beq_eq_false_iff_ne.2 h1
    have e2 : (set == 2) = false := beq_eq_false_iff_ne.2 h2
    have e3 : (set == 3) = false := beq_eq_false_iff_ne.2 h3
    have e4 : (set == 4) = false := beq_eq_false_iff_ne.2 h4
    have e5 : (set == 5) = false := beq_eq_false_iff_ne.2 h5
    clear h1 h2 h3 h4 h5
    go_enter Tryd.func42, Tryd.ntmps42
    go_wp2
    go_ret
    exact ⟨rfl, rfl⟩

theorem contains_false_of (l : List UInt8) (c : UInt8) (h : ∀ j (hj : j < l.length), l[j] ≠ c) : hasB l c = false := by
  show l.contains c = false
  rw [Bool.eq_false_iff]
  intro hc
  rw [List.contains_iff_mem] at hc
  obtain ⟨j, hj, e⟩ := List.getElem_of_mem hc
  exact h j hj e

set_option maxHeartbeats 1000000 in
theorem l1Has (s : ByteArray) (c : UInt8) (w : World) (hs : s.size ≤ 1000000) : Calls Tryd.prog 43 #[.string s, .int .u8 (c.toNat : Int)] w fun e w' => e = .returned (.bool (hasB s.data.toList c)) ∧ w' = w := by
  go_enter Tryd.func43, Tryd.ntmps43
  go_wp2
  go_loop [5] (fun i => ∃ k : Nat, k ≤ s.size ∧ i = .int .i64 k ∧ Hid (∀ j (hj : j < s.size), j < k → s[j] ≠ c)) (fun i => s.size - (intOf i).toNat)
  case atStart => exact ⟨0, Nat.zero_le _, rfl, fun j hj h => absurd h (by omega)⟩
  case round =>
    obtain ⟨k, hk, rfl, HN⟩ := hrel
    by_cases hp : k < s.size
    · by_cases hc : s[k] = c
      · have HF : Hid (hasB s.data.toList c = true) := by
          show s.data.toList.contains c = true
          rw [List.contains_iff_mem, ← hc]
          exact List.getElem_mem (by simpa using hp)
        have e1 : ((s[k].toNat : Int) == (c.toNat : Int)) = true := by rw [hc]; simp
        clear hc
        go_wp2
        go_ret
        exact ⟨by rw [HF.out]; rfl, rfl⟩
      · have e1 : ((s[k].toNat : Int) == (c.toNat : Int)) = false := by
          rw [beq_eq_false_iff_ne]; intro h; exact hc (UInt8.toNat_inj.1 (by omega))
        have HN2 : Hid (∀ j (hj : j < s.size), j < k + 1 → s[j] ≠ c) := by
          intro j hj h
          by_cases hjk : j = k
          · subst hjk; exact hc
          · exact HN.out j hj (by omega)
        clear hc
        go_wp2
        go_round
        case rel => exact ⟨k + 1, by omega, by go_num, HN2⟩
        case measure => simp [intOf]; omega
    · have HF : Hid (hasB s.data.toList c = false) := by
        refine contains_false_of _ _ (fun j hj => ?_)
        exact HN.out j (by simpa using hj) (by have : j < s.size := by simpa using hj
                                               omega)
      go_wp2
      go_ret
      exact ⟨by rw [HF.out]; rfl, rfl⟩

theorem fig_at (n : Nat) (h : n < 16) (h' : n < (⟨#[48, 49, 50, 51, 52, 53, 54, 55, 56, 57, 65, 66, 67, 68, 69, 70]⟩ : ByteArray).size) : (⟨#[48, 49, 50, 51, 52, 53, 54, 55, 56, 57, 65, 66, 67, 68, 69, 70]⟩ : ByteArray)[n] = fig n := by
  match n, h with
  | 0, _ => rfl
  | 1, _ => rfl
  | 2, _ => rfl
  | 3, _ => rfl
  | 4, _ => rfl
  | 5, _ => rfl
  | 6, _ => rfl
  | 7, _ => rfl
  | 8, _ => rfl
  | 9, _ => rfl
  | 10, _ => rfl
  | 11, _ => rfl
  | 12, _ => rfl
  | 13, _ => rfl
  | 14, _ => rfl
  | 15, _ => rfl
  | n + 16, h => exact absurd h (by omega)

set_option maxHeartbeats 1000000 in
theorem l1Figure (x : Int) (w : World) (h0 : 0 ≤ x) (h1 : x < 16) : Calls Tryd.prog 44 #[.int .i64 x] w fun e w' => e = .returned (.int .u8 ((fig x.toNat).toNat : Int)) ∧ w' = w := by
  obtain ⟨n, rfl⟩ := Int.eq_ofNat_of_zero_le h0
  rw [Int.toNat_natCast]
  go_enter Tryd.func44, Tryd.ntmps44
  go_wp2
  go_ret
  exact ⟨ret_int (by rw [fig_at n (by omega)]), rfl⟩

/-- What Encode answers. -/
def encode (set : Int) (s : ByteArray) : List UInt8 := if s.size ≤ 200 then enc (isIn set) s.data.toList else []
theorem encode_small (set : Int) (s : ByteArray) (h : s.size ≤ 200) : encode set s = enc (isIn set) s.data.toList := if_pos h
theorem encode_great (set : Int) (s : ByteArray) (h : ¬ s.size ≤ 200) : encode set s = [] := if_neg h

theorem isIn_low (set : Int) (c : UInt8) (h : (c.toNat : Int) < 32) : isIn set c = true := by
  have : c.toNat < 32 := by omega
  simp [isIn, this]
theorem isIn_high (set : Int) (c : UInt8) (h : (126 : Int) < (c.toNat : Int)) : isIn set c = true := by
  have : 126 < c.toNat := by omega
  simp [isIn, this]
theorem isIn_mid (set : Int) (c : UInt8) (h1 : (32 : Int) ≤ (c.toNat : Int)) (h2 : (c.toNat : Int) ≤ 126) : isIn set c = hasB (setB set) c := by
  have e1 : ¬ c.toNat < 32 := by omega
  have e2 : ¬ 126 < c.toNat := by omega
  simp [isIn, e1, e2]

theorem enc_take (P : UInt8 → Bool) (s : ByteArray) (k : Nat) (h : k < s.size) : enc P (s.data.toList.take (k + 1)) = enc P (s.data.toList.take k) ++ encB P s[k] := by
  rw [take_snoc s k h, enc_snoc]

theorem enc_take_len (P : UInt8 → Bool) (s : ByteArray) (k : Nat) : (enc P (s.data.toList.take k)).length ≤ 3 * k := by
  have := enc_length P (s.data.toList.take k)
  have := List.length_take_le k s.data.toList
  omega

set_option maxHeartbeats 2000000 in
set_option maxRecDepth 100000 in
theorem specEncode (set : Int) (s : ByteArray) (w : World) (hs : s.size ≤ maxLen) :
    Calls Tryd.prog 33 #[.int .i64 set, .string s] w fun e w' => e = .returned (.string ⟨(encode set s).toArray⟩) ∧ Below w.heap.size w w' := by
  unfold maxLen at hs
  obtain ⟨m, hm⟩ : ∃ m : ByteArray, m = ⟨(setB set).toArray⟩ := ⟨_, rfl⟩
  have CS : Hid (∀ W, Calls Tryd.prog 42 #[.int .i64 set] W fun e w' => e = .returned (.string m) ∧ w' = W) := fun W => by rw [hm]; exact l1Set set W
  have HM : Hid (m.data.toList = setB set) := by rw [hm]; rfl
  have hml : m.size ≤ 1000000 := by
    rw [hm]; show (setB set).toArray.size ≤ _; unfold setB
    simp only [List.size_toArray]
    (repeat' split) <;> simp
  clear hm
  by_cases hL : s.size ≤ 200
  · rw [encode_small set s hL]
    have hLi : (s.size : Int) ≤ 200 := by omega
    go_enter Tryd.func33, Tryd.ntmps33
    go_wp2_with fail
    refine (CS.out _).mono ?_
    rintro e W1 ⟨rfl, hW⟩
    have hW2 := hW.symm
    subst hW2
    go_wp2_with fail
    go_loopw [5, 7] (fun v i wr => ∃ k : Nat, k ≤ s.size ∧ i = .int .i64 k ∧ OwnB w.heap.size v (enc (isIn set) (s.data.toList.take k)) wr ∧ Below w.heap.size w wr) (fun _ i wr => s.size - (intOf i).toNat)
    case atStart => exact ⟨0, Nat.zero_le _, rfl, ownB_new w _ (Nat.le_refl _), (Below.refl _ w).alloc (Nat.le_refl _) _⟩
    case round =>
      obtain ⟨k, hk, rfl, hI, hbw⟩ := hrel
      have hsz : w.heap.size ≤ wr.heap.size := hbw.size
      by_cases hp : k < s.size
      · have hb := u8_lt s[k]
        have hki : (k : Int) < (s.size : Int) := by omega
        have hll := enc_take_len (isIn set) s k
        have HT : Hid (enc (isIn set) (s.data.toList.take (k + 1)) = enc (isIn set) (s.data.toList.take k) ++ encB (isIn set) s[k]) := enc_take _ s k hp
        cases hin : isIn set s[k] with
        | true =>
          have HT2 : Hid (enc (isIn set) (s.data.toList.take (k + 1)) = enc (isIn set) (s.data.toList.take k) ++ [37, fig ((s[k].toNat : Int) / 16).toNat, fig ((s[k].toNat : Int) % 16).toNat]) := by
            show _ = _
            rw [HT.out, encB_yes _ _ hin]
            have q1 : ((s[k].toNat : Int) / 16).toNat = s[k].toNat / 16 := by omega
            have q2 : ((s[k].toNat : Int) % 16).toNat = s[k].toNat % 16 := by omega
            rw [q1, q2]
          have HM2 : Hid ((32 : Int) ≤ (s[k].toNat : Int) → (s[k].toNat : Int) ≤ 126 → hasB m.data.toList s[k] = true) := fun a b => by rw [HM.out, ← isIn_mid set s[k] a b]; exact hin
          clear hin HT
          rcases (show (s[k].toNat : Int) < 32 ∨ ((32 : Int) ≤ (s[k].toNat : Int) ∧ (126 : Int) < (s[k].toNat : Int)) ∨ ((32 : Int) ≤ (s[k].toNat : Int) ∧ (s[k].toNat : Int) ≤ 126) from by omega) with h1 | ⟨h1, h2⟩ | ⟨h1, h2⟩
          all_goals
            first
              | (have hh := HM2.out h1 h2)
              | skip
            go_wp2_with (first
              | (go_at_call 43; refine (l1Has m s[k] _ hml).mono ?_; rintro e W1 ⟨rfl, hW⟩; have hW2 := hW.symm; subst hW2; rw [hh])
              | (go_at_call 44; refine (l1Figure _ _ (by omega) (by omega)).mono ?_; rintro e W1 ⟨rfl, hW⟩; have hW2 := hW.symm; subst hW2)
              | (at_builtin; refine wpAppendBytes wr rfl _ _ rfl w.heap.size _ _ [37, fig ((s[k].toNat : Int) / 16).toNat, fig ((s[k].toNat : Int) % 16).toNat] _ rfl hI rfl 3 rfl (by simp; omega) hsz ?_; intro v1 w1 R b1))
            go_roundw
            case rel => exact ⟨k + 1, by omega, by go_num, by rw [HT2.out]; exact R, hbw.trans b1⟩
            case measure => simp [intOf]; omega
        | false =>
          have HT2 : Hid (enc (isIn set) (s.data.toList.take (k + 1)) = enc (isIn set) (s.data.toList.take k) ++ [s[k]]) := by
            show _ = _
            rw [HT.out, encB_no _ _ hin]
          have h1 : (32 : Int) ≤ (s[k].toNat : Int) := by
            rcases (show (s[k].toNat : Int) < 32 ∨ (32 : Int) ≤ (s[k].toNat : Int) from by omega) with h | h
            · rw [isIn_low set s[k] h] at hin; cases hin
            · exact h
          have h2 : (s[k].toNat : Int) ≤ 126 := by
            rcases (show (126 : Int) < (s[k].toNat : Int) ∨ (s[k].toNat : Int) ≤ 126 from by omega) with h | h
            · rw [isIn_high set s[k] h] at hin; cases hin
            · exact h
          have HH : Hid (hasB m.data.toList s[k] = false) := by
            show _ = _
            rw [HM.out, ← isIn_mid set s[k] h1 h2]; exact hin
          clear hin HT
          go_wp2_with (first
            | (go_at_call 43; refine (l1Has m s[k] _ hml).mono ?_; rintro e W1 ⟨rfl, hW⟩; have hW2 := hW.symm; subst hW2; rw [HH.out])
            | (at_builtin; refine wpAppendByte wr rfl _ _ rfl w.heap.size _ _ s[k] _ rfl hI rfl rfl (by omega) hsz ?_; intro v1 w1 R b1))
          go_roundw
          case rel => exact ⟨k + 1, by omega, by go_num, by rw [HT2.out]; exact R, hbw.trans b1⟩
          case measure => simp [intOf]; omega
      · have hkk : k = s.size := by omega
        subst hkk
        rw [List.take_of_length_le (by simp)] at hI
        have ht := ownB_text hI
        go_wp2
        go_ret
        exact ⟨rfl, hbw⟩
  · rw [encode_great set s hL]
    have hLi : (200 : Int) < (s.size : Int) := by omega
    go_enter Tryd.func33, Tryd.ntmps33
    go_wp2_with fail
    refine (CS.out _).mono ?_
    rintro e W1 ⟨rfl, hW⟩
    have hW2 := hW.symm
    subst hW2
    go_wp2_with fail
    go_loopw [5, 7] (fun v i wr => i = .int .i64 0 ∧ OwnB w.heap.size v [] wr ∧ Below w.heap.size w wr) (fun _ i wr => 0)
    case atStart => exact ⟨rfl, ownB_new w _ (Nat.le_refl _), (Below.refl _ w).alloc (Nat.le_refl _) _⟩
    case round =>
      obtain ⟨rfl, hI, hbw⟩ := hrel
      have ht := ownB_text hI
      go_wp2
      go_ret
      exact ⟨rfl, hbw⟩
end Go.Proofs.YtjkbgdnjghlakaaDoor
