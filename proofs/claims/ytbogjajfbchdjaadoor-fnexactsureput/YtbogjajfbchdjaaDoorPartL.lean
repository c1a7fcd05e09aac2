/- spec.l2Part: the number of a part. -/
import Derived.Test.YtbogjajfbchdjaaDoorPartS
set_option linter.unusedVariables false
namespace Go.Proofs.YtbogjajfbchdjaaDoor
open Go.RowKit Go.Shelf

theorem two_ahead (s : ByteArray) (h : 2 ≤ s.size) : s.data.toList = s[0] :: s[1] :: s.data.toList.drop 2 := by
  have e0 := drop_at s 0 (by omega)
  have e1 := drop_at s 1 (by omega)
  rw [List.drop_zero] at e0
  rw [e1] at e0
  exact e0
theorem hexA_yes (s : ByteArray) (h : 2 ≤ s.size) (h0 : s[0] = 48) (h1 : s[1] = 120 ∨ s[1] = 88) : hexA s.data.toList = true := by
  rw [two_ahead s h]
  rcases h1 with h1 | h1 <;> simp [hexA, h0, h1]
theorem hexA_no0 (s : ByteArray) (h : 2 ≤ s.size) (h0 : s[0] ≠ 48) : hexA s.data.toList = false := by
  rw [two_ahead s h]; simp [hexA, h0]
theorem hexA_no1 (s : ByteArray) (h : 2 ≤ s.size) (h1 : s[1] ≠ 120) (h2 : s[1] ≠ 88) : hexA s.data.toList = false := by
  rw [two_ahead s h]; simp [hexA, h1, h2]
theorem hexA_short (s : ByteArray) (h : s.size < 2) : hexA s.data.toList = false := by
  have hl : s.data.toList.length = s.size := by simp
  match hs : s.data.toList with
  | [] => rfl
  | [a] => rfl
  | a :: b :: r => rw [hs] at hl; simp at hl; omega
theorem octA_yes (s : ByteArray) (h : 2 ≤ s.size) (h0 : s[0] = 48) : octA s.data.toList = true := by
  rw [two_ahead s h]; simp [octA, h0]
theorem octA_no (s : ByteArray) (h : 2 ≤ s.size) (h0 : s[0] ≠ 48) : octA s.data.toList = false := by
  rw [two_ahead s h]; simp [octA, h0]
theorem octA_short (s : ByteArray) (h : s.size < 2) : octA s.data.toList = false := by
  have hl : s.data.toList.length = s.size := by simp
  match hs : s.data.toList with
  | [] => rfl
  | [a] => rfl
  | a :: b :: r => rw [hs] at hl; simp at hl; omega
theorem list_ne (s : ByteArray) (h : s.size ≠ 0) : s.data.toList ≠ [] := by
  intro e
  have hl : s.data.toList.length = s.size := by simp
  rw [e] at hl; simp at hl; omega

/-- What l2Part answers. -/
def partV (l : List UInt8) : Int := (partN l).getD (-1)
theorem partV_none : partV [] = -1 := rfl
theorem partV_hex (s : ByteArray) (h : s.size ≠ 0) (h1 : hexA s.data.toList = true) : partV s.data.toList = digsV 16 (s.data.toList.drop 2) := by
  unfold partV partN digsV; rw [if_neg (list_ne s h), if_pos h1]
theorem partV_oct (s : ByteArray) (h : s.size ≠ 0) (h1 : hexA s.data.toList = false) (h2 : octA s.data.toList = true) : partV s.data.toList = digsV 8 (s.data.toList.drop 1) := by
  unfold partV partN digsV; rw [if_neg (list_ne s h), h1, if_neg Bool.false_ne_true, if_pos h2, oct_drop _ h2]
theorem partV_dec (s : ByteArray) (h : s.size ≠ 0) (h1 : hexA s.data.toList = false) (h2 : octA s.data.toList = false) : partV s.data.toList = digsV 10 s.data.toList := by
  unfold partV partN digsV; rw [if_neg (list_ne s h), h1, if_neg Bool.false_ne_true, h2, if_neg Bool.false_ne_true]
theorem ext_drop (s : ByteArray) (k : Nat) : (s.extract k s.size).data.toList = s.data.toList.drop k := by
  simp only [ByteArray.data_extract, Array.toList_extract, List.extract_eq_take_drop]
  rw [List.take_of_length_le]
  simp
theorem u8_beq (c : UInt8) (n : Nat) (hn : n < 256) (h : c = UInt8.ofNat n) : ((c.toNat : Int) == (n : Int)) = true := by
  subst h; rw [beq_iff_eq, UInt8.toNat_ofNat']; omega
theorem u8_bne (c : UInt8) (n : Nat) (hn : n < 256) (h : c ≠ UInt8.ofNat n) : ((c.toNat : Int) == (n : Int)) = false := by
  rw [beq_eq_false_iff_ne]
  intro e
  apply h
  apply UInt8.toNat_inj.1
  rw [UInt8.toNat_ofNat']; omega

theorem take_all (s : ByteArray) (k : Nat) : List.take (s.size - k) (List.drop k s.data.toList) = List.drop k s.data.toList := List.take_of_length_le (by simp)
theorem ext_le (s : ByteArray) (k : Nat) : (s.extract k s.size).size ≤ s.size := by rw [ByteArray.size_extract]; omega

set_option maxHeartbeats 2000000 in
set_option maxRecDepth 100000 in
theorem l2Part (s : ByteArray) (w : World) (hs : s.size ≤ 1000000) :
    Calls Tryd.prog 41 #[.string s] w fun e w' => e = .returned (.int .i64 (partV s.data.toList)) ∧ w' = w := by
  by_cases h0 : s.size = 0
  · have he : s = ⟨#[]⟩ := by
      have := mk_list s
      have hl : s.data.toList.length = s.size := by simp
      rw [List.length_eq_zero_iff.1 (show s.data.toList.length = 0 by omega)] at this
      exact this.symm
    subst he
    go_enter Tryd.func41, Tryd.ntmps41
    go_wp2
    go_ret
    exact ⟨rfl, rfl⟩
  by_cases h1 : s.size = 1
  · have hne1 : (s.toList == []) = false := by rw [beq_eq_false_iff_ne, ByteArray.toList_eq]; exact list_ne s h0
    have hne2 : s.toList.isEmpty = false := by rw [ByteArray.toList_eq]; exact List.isEmpty_eq_false_iff.2 (list_ne s h0)
    have hne3 : ¬ s.toList = [] := by rw [ByteArray.toList_eq]; exact list_ne s h0
    have HP : Hid (partV s.data.toList = digsV 10 s.data.toList) := partV_dec s h0 (hexA_short s (by omega)) (octA_short s (by omega))
    have hl : (s.size : Int) < 2 := by omega
    go_enter Tryd.func41, Tryd.ntmps41
    go_wp2_with (go_at_call 45; refine (l2Digits _ _ _ (by first | exact hs | exact Nat.le_trans (ext_le s _) hs) (by omega)).mono ?_; rintro e W1 ⟨rfl, hW⟩; have hW2 := hW.symm; subst hW2)
    go_ret
    exact ⟨ret_int (by first | exact HP.out.symm | rw [HP.out, take_all] | rw [HP.out, ← List.drop_one, take_all]), rfl⟩
  have h2 : 2 ≤ s.size := by omega
  by_cases hz : s[0] = 48
  · by_cases hx : s[1] = 120
    · have hne1 : (s.toList == []) = false := by rw [beq_eq_false_iff_ne, ByteArray.toList_eq]; exact list_ne s h0
      have hne2 : s.toList.isEmpty = false := by rw [ByteArray.toList_eq]; exact List.isEmpty_eq_false_iff.2 (list_ne s h0)
      have hne3 : ¬ s.toList = [] := by rw [ByteArray.toList_eq]; exact list_ne s h0
      have hl : (2 : Int) ≤ (s.size : Int) := by omega
      have HP : Hid (partV s.data.toList = digsV 16 (s.data.toList.drop 2)) := partV_hex s h0 (hexA_yes s h2 hz (.inl hx))
      have e0 : ((s[0].toNat : Int) == 48) = true := u8_beq _ 48 (by omega) hz
      have e1 : ((s[1].toNat : Int) == 120) = true := u8_beq _ 120 (by omega) hx
      clear hz hx
      go_enter Tryd.func41, Tryd.ntmps41
      go_wp2_with (go_at_call 45; refine (l2Digits _ _ _ (by first | exact hs | exact Nat.le_trans (ext_le s _) hs) (by omega)).mono ?_; rintro e W1 ⟨rfl, hW⟩; have hW2 := hW.symm; subst hW2)
      go_ret
      exact ⟨ret_int (by first | exact HP.out.symm | rw [HP.out, take_all] | rw [HP.out, ← List.drop_one, take_all]), rfl⟩
    by_cases hX : s[1] = 88
    · have hne1 : (s.toList == []) = false := by rw [beq_eq_false_iff_ne, ByteArray.toList_eq]; exact list_ne s h0
      have hne2 : s.toList.isEmpty = false := by rw [ByteArray.toList_eq]; exact List.isEmpty_eq_false_iff.2 (list_ne s h0)
      have hne3 : ¬ s.toList = [] := by rw [ByteArray.toList_eq]; exact list_ne s h0
      have hl : (2 : Int) ≤ (s.size : Int) := by omega
      have HP : Hid (partV s.data.toList = digsV 16 (s.data.toList.drop 2)) := partV_hex s h0 (hexA_yes s h2 hz (.inr hX))
      have e0 : ((s[0].toNat : Int) == 48) = true := u8_beq _ 48 (by omega) hz
      have e1 : ((s[1].toNat : Int) == 120) = false := u8_bne _ 120 (by omega) hx
      have e2 : ((s[1].toNat : Int) == 88) = true := u8_beq _ 88 (by omega) hX
      clear hz hx hX
      go_enter Tryd.func41, Tryd.ntmps41
      go_wp2_with (go_at_call 45; refine (l2Digits _ _ _ (by first | exact hs | exact Nat.le_trans (ext_le s _) hs) (by omega)).mono ?_; rintro e W1 ⟨rfl, hW⟩; have hW2 := hW.symm; subst hW2)
      go_ret
      exact ⟨ret_int (by first | exact HP.out.symm | rw [HP.out, take_all] | rw [HP.out, ← List.drop_one, take_all]), rfl⟩
    have hne1 : (s.toList == []) = false := by rw [beq_eq_false_iff_ne, ByteArray.toList_eq]; exact list_ne s h0
    have hne2 : s.toList.isEmpty = false := by rw [ByteArray.toList_eq]; exact List.isEmpty_eq_false_iff.2 (list_ne s h0)
    have hne3 : ¬ s.toList = [] := by rw [ByteArray.toList_eq]; exact list_ne s h0
    have hl : (2 : Int) ≤ (s.size : Int) := by omega
    have HP : Hid (partV s.data.toList = digsV 8 (s.data.toList.drop 1)) := partV_oct s h0 (hexA_no1 s h2 hx hX) (octA_yes s h2 hz)
    have e0 : ((s[0].toNat : Int) == 48) = true := u8_beq _ 48 (by omega) hz
    have e1 : ((s[1].toNat : Int) == 120) = false := u8_bne _ 120 (by omega) hx
    have e2 : ((s[1].toNat : Int) == 88) = false := u8_bne _ 88 (by omega) hX
    clear hz hx hX
    go_enter Tryd.func41, Tryd.ntmps41
    go_wp2_with (go_at_call 45; refine (l2Digits _ _ _ (by first | exact hs | exact Nat.le_trans (ext_le s _) hs) (by omega)).mono ?_; rintro e W1 ⟨rfl, hW⟩; have hW2 := hW.symm; subst hW2)
    go_ret
    exact ⟨ret_int (by first | exact HP.out.symm | rw [HP.out, take_all] | rw [HP.out, ← List.drop_one, take_all]), rfl⟩
  · have hne1 : (s.toList == []) = false := by rw [beq_eq_false_iff_ne, ByteArray.toList_eq]; exact list_ne s h0
    have hne2 : s.toList.isEmpty = false := by rw [ByteArray.toList_eq]; exact List.isEmpty_eq_false_iff.2 (list_ne s h0)
    have hne3 : ¬ s.toList = [] := by rw [ByteArray.toList_eq]; exact list_ne s h0
    have hl : (2 : Int) ≤ (s.size : Int) := by omega
    have HP : Hid (partV s.data.toList = digsV 10 s.data.toList) := partV_dec s h0 (hexA_no0 s h2 hz) (octA_no s h2 hz)
    have e0 : ((s[0].toNat : Int) == 48) = false := u8_bne _ 48 (by omega) hz
    clear hz
    go_enter Tryd.func41, Tryd.ntmps41
    go_wp2_with (go_at_call 45; refine (l2Digits _ _ _ (by first | exact hs | exact Nat.le_trans (ext_le s _) hs) (by omega)).mono ?_; rintro e W1 ⟨rfl, hW⟩; have hW2 := hW.symm; subst hW2)
    go_ret
    exact ⟨ret_int (by first | exact HP.out.symm | rw [HP.out, take_all] | rw [HP.out, ← List.drop_one, take_all]), rfl⟩
end Go.Proofs.YtbogjajfbchdjaaDoor
