/- spec.l2Part: the number of a part. impl.isHex, partBase and partNumber: the number of a part. impl.partNumber: the number of a part, if it has one. impl.hostParts: the parts of a host's text. Plain facts on a host's name: its bytes, its pieces, whether it ends with a number. -/
import Derived.Test.YtnfhajhdpdidlaaGreatDoorB06
import Derived.BigQuiet
import Derived.Deep.QuietTactic
import Derived.WalkSmall
import Derived.Test.YtnfhajhdpdidlaaGreatDoorB04
set_option linter.unusedVariables false
set_option maxHeartbeats 2000000
set_option maxRecDepth 100000
section
namespace Go.Proofs.YtnfhajhdpdidlaaGreatDoor
open Go.RowKit Go.Shelf
theorem two_ahead (s : ByteArray) (h : 2 ≤ s.size) : s.data.toList = s[0] :: s[1] :: s.data.toList.drop 2 := by
 have e0 := drop_at s 0 (by omega)
 have e1 := drop_at s 1 (by omega)
 rw [List.drop_zero] at e0
 rw [e1] at e0
 exact e0
theorem hexA_yes (s : ByteArray) (h : 2 ≤ s.size) (h0 : s[0] = 48) (h1 : s[1] = 120 ∨ s[1] = 88) : hexA s.data.toList = true := by
 rw [two_ahead s h]
 rcases h1 with h1 | h1 <;> simp [hexA, h0, h1]
theorem hexA_no0 (s : ByteArray) (h : 2 ≤ s.size) (h0 : s[0] ≠ 48) : hexA s.data.toList = false := by
 rw [two_ahead s h]; simp [hexA, h0]
theorem hexA_no1 (s : ByteArray) (h : 2 ≤ s.size) (h1 : s[1] ≠ 120) (h2 : s[1] ≠ 88) : hexA s.data.toList = false := by
 rw [two_ahead s h]; simp [hexA, h1, h2]
theorem hexA_short (s : ByteArray) (h : s.size < 2) : hexA s.data.toList = false := by
 have hl : s.data.toList.length = s.size := by simp
 match hs : s.data.toList with
 | [] => rfl
 | [a] => rfl
 | a :: b :: r => rw [hs] at hl; simp at hl; omega
theorem octA_yes (s : ByteArray) (h : 2 ≤ s.size) (h0 : s[0] = 48) : octA s.data.toList = true := by
 rw [two_ahead s h]; simp [octA, h0]
theorem octA_no (s : ByteArray) (h : 2 ≤ s.size) (h0 : s[0] ≠ 48) : octA s.data.toList = false := by
 rw [two_ahead s h]; simp [octA, h0]
theorem octA_short (s : ByteArray) (h : s.size < 2) : octA s.data.toList = false := by
 have hl : s.data.toList.length = s.size := by simp
 match hs : s.data.toList with
 | [] => rfl
 | [a] => rfl
 | a :: b :: r => rw [hs] at hl; simp at hl; omega
theorem list_ne (s : ByteArray) (h : s.size ≠ 0) : s.data.toList ≠ [] := by
 intro e
 have hl : s.data.toList.length = s.size := by simp
 rw [e] at hl; simp at hl; omega
def partV (l : List UInt8) : Int := (partN l).getD (-1)
theorem partV_hex (s : ByteArray) (h : s.size ≠ 0) (h1 : hexA s.data.toList = true) : partV s.data.toList = digsV 16 (s.data.toList.drop 2) := by
 unfold partV partN digsV; rw [if_neg (list_ne s h), if_pos h1]
theorem partV_oct (s : ByteArray) (h : s.size ≠ 0) (h1 : hexA s.data.toList = false) (h2 : octA s.data.toList = true) : partV s.data.toList = digsV 8 (s.data.toList.drop 1) := by
 unfold partV partN digsV; rw [if_neg (list_ne s h), h1, if_neg Bool.false_ne_true, if_pos h2, oct_drop _ h2]
theorem partV_dec (s : ByteArray) (h : s.size ≠ 0) (h1 : hexA s.data.toList = false) (h2 : octA s.data.toList = false) : partV s.data.toList = digsV 10 s.data.toList := by
 unfold partV partN digsV; rw [if_neg (list_ne s h), h1, if_neg Bool.false_ne_true, h2, if_neg Bool.false_ne_true]
theorem ext_drop (s : ByteArray) (k : Nat) : (s.extract k s.size).data.toList = s.data.toList.drop k := by
 simp only [ByteArray.data_extract, Array.toList_extract, List.extract_eq_take_drop]
 rw [List.take_of_length_le]
 simp
theorem u8_beq (c : UInt8) (n : Nat) (hn : n < 256) (h : c = UInt8.ofNat n) : ((c.toNat : Int) == (n : Int)) = true := by
 subst h; rw [beq_iff_eq, UInt8.toNat_ofNat']; omega
theorem u8_bne (c : UInt8) (n : Nat) (hn : n < 256) (h : c ≠ UInt8.ofNat n) : ((c.toNat : Int) == (n : Int)) = false := by
 rw [beq_eq_false_iff_ne]
 intro e
 apply h
 apply UInt8.toNat_inj.1
 rw [UInt8.toNat_ofNat']; omega
theorem take_all (s : ByteArray) (k : Nat) : List.take (s.size - k) (List.drop k s.data.toList) = List.drop k s.data.toList := List.take_of_length_le (by simp)
theorem ext_le (s : ByteArray) (k : Nat) : (s.extract k s.size).size ≤ s.size := by rw [ByteArray.size_extract]; omega
theorem l2Part (s : ByteArray) (w : World) (hs : s.size ≤ 1000000) :
  Calls Tryz.prog 135 #[.string s] w fun e w' => e = .returned (.int .i64 (partV s.data.toList)) ∧ w' = w := by
 by_cases h0 : s.size = 0
 ·have he : s = ⟨#[]⟩ := by
   have := mk_list s
   have hl : s.data.toList.length = s.size := by simp
   rw [List.length_eq_zero_iff.1 (show s.data.toList.length = 0 by omega)] at this
   exact this.symm
  subst he
  go_enter Tryz.func135, Tryz.ntmps135
  go_wp2
  go_ret
  exact ⟨rfl, rfl⟩
 by_cases h1 : s.size = 1
 ·have hne1 : (s.toList == []) = false := by rw [beq_eq_false_iff_ne, ByteArray.toList_eq]; exact list_ne s h0
  have hne2 : s.toList.isEmpty = false := by rw [ByteArray.toList_eq]; exact List.isEmpty_eq_false_iff.2 (list_ne s h0)
  have hne3 : ¬ s.toList = [] := by rw [ByteArray.toList_eq]; exact list_ne s h0
  have HP : Hid (partV s.data.toList = digsV 10 s.data.toList) := partV_dec s h0 (hexA_short s (by omega)) (octA_short s (by omega))
  have hl : (s.size : Int) < 2 := by omega
  go_enter Tryz.func135, Tryz.ntmps135
  go_wp2_with (go_at_call 157; refine (l2Digits _ _ _ (by first | exact hs | exact Nat.le_trans (ext_le s _) hs) (by omega)).mono ?_; rintro e W1 ⟨rfl, hW⟩; have hW2 := hW.symm; subst hW2)
  go_ret
  exact ⟨ret_int (by first | exact HP.out.symm | rw [HP.out, take_all] | rw [HP.out, ← List.drop_one, take_all]), rfl⟩
 have h2 : 2 ≤ s.size := by omega
 by_cases hz : s[0] = 48
 ·by_cases hx : s[1] = 120
  ·have hne1 : (s.toList == []) = false := by rw [beq_eq_false_iff_ne, ByteArray.toList_eq]; exact list_ne s h0
   have hne2 : s.toList.isEmpty = false := by rw [ByteArray.toList_eq]; exact List.isEmpty_eq_false_iff.2 (list_ne s h0)
   have hne3 : ¬ s.toList = [] := by rw [ByteArray.toList_eq]; exact list_ne s h0
   have hl : (2 : Int) ≤ (s.size : Int) := by omega
   have HP : Hid (partV s.data.toList = digsV 16 (s.data.toList.drop 2)) := partV_hex s h0 (hexA_yes s h2 hz (.inl hx))
   have e0 : ((s[0].toNat : Int) == 48) = true := u8_beq _ 48 (by omega) hz
   have e1 : ((s[1].toNat : Int) == 120) = true := u8_beq _ 120 (by omega) hx
   clear hz hx
   go_enter Tryz.func135, Tryz.ntmps135
   go_wp2_with (go_at_call 157; refine (l2Digits _ _ _ (by first | exact hs | exact Nat.le_trans (ext_le s _) hs) (by omega)).mono ?_; rintro e W1 ⟨rfl, hW⟩; have hW2 := hW.symm; subst hW2)
   go_ret
   exact ⟨ret_int (by first | exact HP.out.symm | rw [HP.out, take_all] | rw [HP.out, ← List.drop_one, take_all]), rfl⟩
  by_cases hX : s[1] = 88
  ·have hne1 : (s.toList == []) = false := by rw [beq_eq_false_iff_ne, ByteArray.toList_eq]; exact list_ne s h0
   have hne2 : s.toList.isEmpty = false := by rw [ByteArray.toList_eq]; exact List.isEmpty_eq_false_iff.2 (list_ne s h0)
   have hne3 : ¬ s.toList = [] := by rw [ByteArray.toList_eq]; exact list_ne s h0
   have hl : (2 : Int) ≤ (s.size : Int) := by omega
   have HP : Hid (partV s.data.toList = digsV 16 (s.data.toList.drop 2)) := partV_hex s h0 (hexA_yes s h2 hz (.inr hX))
   have e0 : ((s[0].toNat : Int) == 48) = true := u8_beq _ 48 (by omega) hz
   have e1 : ((s[1].toNat : Int) == 120) = false := u8_bne _ 120 (by omega) hx
   have e2 : ((s[1].toNat : Int) == 88) = true := u8_beq _ 88 (by omega) hX
   clear hz hx hX
   go_enter Tryz.func135, Tryz.ntmps135
   go_wp2_with (go_at_call 157; refine (l2Digits _ _ _ (by first | exact hs | exact Nat.le_trans (ext_le s _) hs) (by omega)).mono ?_; rintro e W1 ⟨rfl, hW⟩; have hW2 := hW.symm; subst hW2)
   go_ret
   exact ⟨ret_int (by first | exact HP.out.symm | rw [HP.out, take_all] | rw [HP.out, ← List.drop_one, take_all]), rfl⟩
  have hne1 : (s.toList == []) = false := by rw [beq_eq_false_iff_ne, ByteArray.toList_eq]; exact list_ne s h0
  have hne2 : s.toList.isEmpty = false := by rw [ByteArray.toList_eq]; exact List.isEmpty_eq_false_iff.2 (list_ne s h0)
  have hne3 : ¬ s.toList = [] := by rw [ByteArray.toList_eq]; exact list_ne s h0
  have hl : (2 : Int) ≤ (s.size : Int) := by omega
  have HP : Hid (partV s.data.toList = digsV 8 (s.data.toList.drop 1)) := partV_oct s h0 (hexA_no1 s h2 hx hX) (octA_yes s h2 hz)
  have e0 : ((s[0].toNat : Int) == 48) = true := u8_beq _ 48 (by omega) hz
  have e1 : ((s[1].toNat : Int) == 120) = false := u8_bne _ 120 (by omega) hx
  have e2 : ((s[1].toNat : Int) == 88) = false := u8_bne _ 88 (by omega) hX
  clear hz hx hX
  go_enter Tryz.func135, Tryz.ntmps135
  go_wp2_with (go_at_call 157; refine (l2Digits _ _ _ (by first | exact hs | exact Nat.le_trans (ext_le s _) hs) (by omega)).mono ?_; rintro e W1 ⟨rfl, hW⟩; have hW2 := hW.symm; subst hW2)
  go_ret
  exact ⟨ret_int (by first | exact HP.out.symm | rw [HP.out, take_all] | rw [HP.out, ← List.drop_one, take_all]), rfl⟩
 ·have hne1 : (s.toList == []) = false := by rw [beq_eq_false_iff_ne, ByteArray.toList_eq]; exact list_ne s h0
  have hne2 : s.toList.isEmpty = false := by rw [ByteArray.toList_eq]; exact List.isEmpty_eq_false_iff.2 (list_ne s h0)
  have hne3 : ¬ s.toList = [] := by rw [ByteArray.toList_eq]; exact list_ne s h0
  have hl : (2 : Int) ≤ (s.size : Int) := by omega
  have HP : Hid (partV s.data.toList = digsV 10 s.data.toList) := partV_dec s h0 (hexA_no0 s h2 hz) (octA_no s h2 hz)
  have e0 : ((s[0].toNat : Int) == 48) = false := u8_bne _ 48 (by omega) hz
  clear hz
  go_enter Tryz.func135, Tryz.ntmps135
  go_wp2_with (go_at_call 157; refine (l2Digits _ _ _ (by first | exact hs | exact Nat.le_trans (ext_le s _) hs) (by omega)).mono ?_; rintro e W1 ⟨rfl, hW⟩; have hW2 := hW.symm; subst hW2)
  go_ret
  exact ⟨ret_int (by first | exact HP.out.symm | rw [HP.out, take_all] | rw [HP.out, ← List.drop_one, take_all]), rfl⟩
end Go.Proofs.YtnfhajhdpdidlaaGreatDoor
end
section
namespace Go.Proofs.YtnfhajhdpdidlaaGreatDoor
open Go.RowKit Go.Shelf
theorem hexA_pref (l : List UInt8) : (Lib.hasPrefix l [48, 120] || Lib.hasPrefix l [48, 88]) = hexA l := by
 unfold Lib.hasPrefix hexA
 match l with
 | [] => rfl
 | [a] => simp [List.isPrefixOf]
 | a :: b :: r =>
  simp only [List.isPrefixOf, Bool.and_true]
  by_cases h : a = 48
  ·subst h
   by_cases h1 : b = 120
   ·subst h1; simp
   ·by_cases h2 : b = 88
    ·subst h2; simp
    ·have e1 : (b == 120) = false := beq_eq_false_iff_ne.2 h1
     have e2 : (b == 88) = false := beq_eq_false_iff_ne.2 h2
     have e3 : ((120 : UInt8) == b) = false := beq_eq_false_iff_ne.2 (fun e => h1 e.symm)
     have e4 : ((88 : UInt8) == b) = false := beq_eq_false_iff_ne.2 (fun e => h2 e.symm)
     rw [e1, e2, e3, e4]; simp
  ·have e1 : (a == 48) = false := beq_eq_false_iff_ne.2 h
   have e2 : ((48 : UInt8) == a) = false := beq_eq_false_iff_ne.2 (fun e => h e.symm)
   rw [e1, e2]; simp
theorem isHex (s : ByteArray) (w : World) : Calls Tryz.prog 178 #[.string s] w fun e w' => e = .returned (.bool (hexA s.data.toList)) ∧ w' = w := by
 obtain ⟨b1, h1⟩ : ∃ b, b = Lib.hasPrefix s.data.toList [48, 120] := ⟨_, rfl⟩
 obtain ⟨b2, h2⟩ : ∃ b, b = Lib.hasPrefix s.data.toList [48, 88] := ⟨_, rfl⟩
 have D1 : Hid (∀ W, Calls Tryz.prog 48 #[.string s, .string ⟨#[48, 120]⟩] W fun e w' => e = .returned (.bool b1) ∧ w' = W) := fun W => by rw [h1]; exact Tryz.strings_HasPrefix s ⟨#[48, 120]⟩ W
 have D2 : Hid (∀ W, Calls Tryz.prog 48 #[.string s, .string ⟨#[48, 88]⟩] W fun e w' => e = .returned (.bool b2) ∧ w' = W) := fun W => by rw [h2]; exact Tryz.strings_HasPrefix s ⟨#[48, 88]⟩ W
 have HX : Hid (hexA s.data.toList = (b1 || b2)) := by rw [h1, h2]; exact (hexA_pref _).symm
 clear h1 h2
 cases b1
 ·go_enter Tryz.func178, Tryz.ntmps178
  go_wp2_with fail
  refine (D1.out _).mono ?_
  rintro e W1 ⟨rfl, hW⟩
  have hW2 := hW.symm
  subst hW2
  go_wp2_with fail
  refine (D2.out _).mono ?_
  rintro e W1 ⟨rfl, hW⟩
  have hW2 := hW.symm
  subst hW2
  go_wp2
  go_ret
  exact ⟨ret_bool (by rw [HX.out]; rfl), rfl⟩
 ·go_enter Tryz.func178, Tryz.ntmps178
  go_wp2_with fail
  refine (D1.out _).mono ?_
  rintro e W1 ⟨rfl, hW⟩
  have hW2 := hW.symm
  subst hW2
  go_wp2
  go_ret
  exact ⟨ret_bool (by rw [HX.out]; rfl), rfl⟩
def baseOf (s : ByteArray) : Int := if hexA s.data.toList then 16 else if octA s.data.toList then 8 else 10
def figsOf (s : ByteArray) : ByteArray := if hexA s.data.toList then s.extract 2 s.size else s
theorem baseOf_is (s : ByteArray) : baseOf s = 8 ∨ baseOf s = 10 ∨ baseOf s = 16 := by
 unfold baseOf; split
 ·omega
 ·split <;> omega
theorem figsOf_le (s : ByteArray) : (figsOf s).size ≤ s.size := by
 unfold figsOf; split
 ·exact ext_le s 2
 ·exact Nat.le_refl _
theorem partN_figs (s : ByteArray) (h : s.size ≠ 0) : partN s.data.toList = digs (baseOf s) 0 (figsOf s).data.toList := by
 unfold partN baseOf figsOf
 rw [if_neg (list_ne s h)]
 split
 ·rw [ext_drop]
 ·split <;> rfl
theorem hexA_two (s : ByteArray) (h : hexA s.data.toList = true) : 2 ≤ s.size := by
 rcases Nat.lt_or_ge s.size 2 with h' | h'
 ·rw [hexA_short s h'] at h; cases h
 ·exact h'
theorem octA_is (s : ByteArray) (h : 2 ≤ s.size) : octA s.data.toList = (s[0] == 48) := by
 rw [two_ahead s h]; rfl
theorem partBase (s : ByteArray) (w : World) (hs : s.size ≤ 1000000) :
  Calls Tryz.prog 197 #[.string s] w fun e w' => e = .returned (.tuple #[.int .i64 (baseOf s), .string (figsOf s)]) ∧ ∃ n, w' = w.drewN n := by
 cases hx : hexA s.data.toList with
 | true =>
  have h2 := hexA_two s hx
  have h2i : (2 : Int) ≤ (s.size : Int) := by omega
  have HB : Hid (baseOf s = 16) := by unfold baseOf; rw [if_pos hx]; rfl
  have HF : Hid (figsOf s = s.extract 2 s.size) := by unfold figsOf; rw [if_pos hx]; rfl
  go_enter Tryz.func197, Tryz.ntmps197
  go_wp2_with (go_at_call 178; refine (isHex s _).mono ?_; rintro e W1 ⟨rfl, hW⟩; have hW2 := hW.symm; subst hW2; rw [hx])
  go_quiet (fail)
  go_wp2
  go_ret2
  exact ⟨by rw [HB.out, HF.out]; rfl, _, rfl⟩
 | false =>
  have HF : Hid (figsOf s = s) := by unfold figsOf; rw [hx]; rfl
  by_cases h2 : 2 ≤ s.size
  ·have h2i : (2 : Int) ≤ (s.size : Int) := by omega
   by_cases hz : s[0] = 48
   ·have HB : Hid (baseOf s = 8) := by unfold baseOf; rw [hx, octA_is s h2, hz]; rfl
    have e0 : ((s[0].toNat : Int) == 48) = true := u8_beq _ 48 (by omega) hz
    clear hz
    go_enter Tryz.func197, Tryz.ntmps197
    go_wp2_with (go_at_call 178; refine (isHex s _).mono ?_; rintro e W1 ⟨rfl, hW⟩; have hW2 := hW.symm; subst hW2; rw [hx])
    go_ret2
    exact ⟨by rw [HB.out, HF.out]; rfl, 0, rfl⟩
   ·have HB : Hid (baseOf s = 10) := by unfold baseOf; rw [hx, octA_is s h2, beq_eq_false_iff_ne.2 hz]; rfl
    have e0 : ((s[0].toNat : Int) == 48) = false := u8_bne _ 48 (by omega) hz
    clear hz
    go_enter Tryz.func197, Tryz.ntmps197
    go_wp2_with (go_at_call 178; refine (isHex s _).mono ?_; rintro e W1 ⟨rfl, hW⟩; have hW2 := hW.symm; subst hW2; rw [hx])
    go_ret2
    exact ⟨by rw [HB.out, HF.out]; rfl, 0, rfl⟩
  ·have h2i : (s.size : Int) < 2 := by omega
   have HB : Hid (baseOf s = 10) := by unfold baseOf; rw [hx, octA_short s (by omega)]; rfl
   go_enter Tryz.func197, Tryz.ntmps197
   go_wp2_with (go_at_call 178; refine (isHex s _).mono ?_; rintro e W1 ⟨rfl, hW⟩; have hW2 := hW.symm; subst hW2; rw [hx])
   go_ret2
   exact ⟨by rw [HB.out, HF.out]; rfl, 0, rfl⟩
end Go.Proofs.YtnfhajhdpdidlaaGreatDoor
end
section
namespace Go.Proofs.YtnfhajhdpdidlaaGreatDoor
open Go.RowKit Go.Shelf
def partOk (l : List UInt8) : Bool := (partN l).isSome
def partZ (l : List UInt8) : Int := (partN l).getD 0
theorem part_some {s : ByteArray} {m : Int} (h : partN s.data.toList = some m) : partOk s.data.toList = true ∧ partZ s.data.toList = m := by
 unfold partOk partZ; rw [h]; exact ⟨rfl, rfl⟩
theorem part_none {s : ByteArray} (h : partN s.data.toList = none) : partOk s.data.toList = false ∧ partZ s.data.toList = 0 := by
 unfold partOk partZ; rw [h]; exact ⟨rfl, rfl⟩
theorem partNumber (s : ByteArray) (w : World) (hs : s.size ≤ 1000000) :
  Calls Tryz.prog 179 #[.string s] w fun e w' => e = .returned (.tuple #[.int .i64 (partZ s.data.toList), .bool (partOk s.data.toList)]) ∧ ∃ n, w' = w.drewN n := by
 by_cases h0 : s.size = 0
 ·have he : s = ⟨#[]⟩ := by
   have := mk_list s
   have hl : s.data.toList.length = s.size := by simp
   rw [List.length_eq_zero_iff.1 (show s.data.toList.length = 0 by omega)] at this
   exact this.symm
  subst he
  go_enter Tryz.func179, Tryz.ntmps179
  go_wp2
  go_ret2
  exact ⟨rfl, 0, rfl⟩
 ·have hne1 : (s.toList == []) = false := by rw [beq_eq_false_iff_ne, ByteArray.toList_eq]; exact list_ne s h0
  have hne2 : s.toList.isEmpty = false := by rw [ByteArray.toList_eq]; exact List.isEmpty_eq_false_iff.2 (list_ne s h0)
  have hne3 : ¬ s.toList = [] := by rw [ByteArray.toList_eq]; exact list_ne s h0
  have HN : Hid (partN s.data.toList = digs (baseOf s) 0 (figsOf s).data.toList) := partN_figs s h0
  have hfl := figsOf_le s
  have HB := baseOf_is s
  have CB : Hid (∀ W, Calls Tryz.prog 197 #[.string s] W fun e w' => e = .returned (.tuple #[.int .i64 (baseOf s), .string (figsOf s)]) ∧ ∃ n, w' = W.drewN n) := fun W => partBase s W hs
  obtain ⟨base, hbe⟩ : ∃ b, b = baseOf s := ⟨_, rfl⟩
  obtain ⟨f, hfe⟩ : ∃ f, f = figsOf s := ⟨_, rfl⟩
  rw [← hbe, ← hfe] at HN CB
  rw [← hfe] at hfl
  rw [← hbe] at HB
  clear hbe hfe
  have hbl : 8 ≤ base ∧ base ≤ 16 := by omega
  have HB2 : Hid (base = 8 ∨ base = 10 ∨ base = 16) := HB
  clear HB
  go_enter Tryz.func179, Tryz.ntmps179
  go_wp2_with fail
  refine (CB.out _).mono ?_
  rintro e W1 ⟨rfl, n1, hW⟩
  subst hW
  go_wp2_with fail
  go_loop [6, 7] (fun n i => ∃ (k : Nat) (acc : Int), k ≤ f.size ∧ i = .int .i64 k ∧ n = .int .i64 acc ∧ 0 ≤ acc ∧ acc ≤ 68719476735 ∧ Hid (digs base acc (f.data.toList.drop k) = digs base 0 f.data.toList)) (fun _ i => f.size - (intOf i).toNat)
  case atStart => exact ⟨0, 0, Nat.zero_le _, rfl, rfl, by omega, by omega, rfl⟩
  case round =>
   obtain ⟨k, acc, hk, rfl, rfl, ha0, ha1, HD⟩ := hrel
   by_cases hp : k < f.size
   ·have hki : (k : Int) < (f.size : Int) := by omega
    have hr := hexV_range f[k]
    rcases (show hexV f[k] < 0 ∨ (0 ≤ hexV f[k] ∧ base ≤ hexV f[k]) ∨ (0 ≤ hexV f[k] ∧ hexV f[k] < base ∧ 4294967295 < acc) ∨ (0 ≤ hexV f[k] ∧ hexV f[k] < base ∧ acc ≤ 4294967295) from by omega) with h1 | ⟨h1, h2⟩ | ⟨h1, h2, h3⟩ | ⟨h1, h2, h3⟩
    ·have HF : Hid (partOk s.data.toList = false ∧ partZ s.data.toList = 0) := part_none (by rw [HN.out, ← HD.out, digs_bad base acc f k hp (by omega)])
     go_wp2_with (go_at_call 198; refine (figureValue f[k] _).mono ?_; rintro e W1 ⟨rfl, hW⟩; have hW2 := hW.symm; subst hW2)
     go_ret2
     exact ⟨by rw [HF.out.1, HF.out.2]; rfl, _, rfl⟩
    ·have HF : Hid (partOk s.data.toList = false ∧ partZ s.data.toList = 0) := part_none (by rw [HN.out, ← HD.out, digs_bad base acc f k hp (by omega)])
     go_wp2_with (go_at_call 198; refine (figureValue f[k] _).mono ?_; rintro e W1 ⟨rfl, hW⟩; have hW2 := hW.symm; subst hW2)
     go_ret2
     exact ⟨by rw [HF.out.1, HF.out.2]; rfl, _, rfl⟩
    ·have HF : Hid (partOk s.data.toList = false ∧ partZ s.data.toList = 0) := part_none (by rw [HN.out, ← HD.out, digs_bad base acc f k hp (by omega)])
     go_wp2_with (go_at_call 198; refine (figureValue f[k] _).mono ?_; rintro e W1 ⟨rfl, hW⟩; have hW2 := hW.symm; subst hW2)
     go_ret2
     exact ⟨by rw [HF.out.1, HF.out.2]; rfl, _, rfl⟩
    ·have HD2 : Hid (digs base (acc * base + hexV f[k]) (f.data.toList.drop (k + 1)) = digs base 0 f.data.toList) := (digs_at base acc f k hp (by omega)).symm.trans HD.out
     obtain ⟨q, hq, hq0, hq1⟩ : ∃ q : Int, acc * base = q ∧ 0 ≤ q ∧ q ≤ 68719476720 := ⟨_, rfl, Int.mul_nonneg ha0 (by omega), by rcases HB2.out with e | e | e <;> rw [e] <;> omega⟩
     rw [hq] at HD2
     go_wp2_with (go_at_call 198; refine (figureValue f[k] _).mono ?_; rintro e W1 ⟨rfl, hW⟩; have hW2 := hW.symm; subst hW2)
     go_round
     case rel => exact ⟨k + 1, q + hexV f[k], by omega, by go_num, rfl, by omega, by omega, HD2⟩
     case measure => simp [intOf]; omega
   ·have hkk : k = f.size := by omega
    subst hkk
    have HF : Hid (partOk s.data.toList = true ∧ partZ s.data.toList = acc) := part_some (by rw [HN.out, ← HD.out, digs_end])
    go_wp2
    go_ret2
    exact ⟨by rw [HF.out.1, HF.out.2]; rfl, _, rfl⟩
end Go.Proofs.YtnfhajhdpdidlaaGreatDoor
end
section
namespace Go.Proofs.YtnfhajhdpdidlaaGreatDoor
open Go.RowKit Go.Shelf
theorem hostParts (s : ByteArray) (w : World) (hs : s.size ≤ 1000000) (hm : ∃ m, w.cell? ⟨0, 0, none⟩ = some (.int .i64 m)) :
  Calls Tryz.prog 177 #[.string s] w fun e w' => ∃ c, e = .returned (.slice (some ⟨w.heap.size, 0, none⟩) (partsL s.data.toList).length c) ∧ StrsAt w.heap.size (partsL s.data.toList) w' ∧ Below w.heap.size w w' := by
 obtain ⟨m, hm⟩ := hm
 obtain ⟨P, hP⟩ : ∃ P, P = cutL 46 s.data.toList := ⟨_, rfl⟩
 have hlen : Lib.countB s (mk [46]) + 1 = P.length := by rw [hP, cut_len]
 obtain ⟨k, hk⟩ : ∃ k, P.length = k + 1 := ⟨_, hlen.symm⟩
 have hk600 : k ≤ 1000001 := by
  have := cutL_len_le 46 s.data.toList
  have hl : s.data.toList.length = s.size := by simp
  rw [← hP] at this; omega
 have CS : Hid (Calls Tryz.prog 196 #[.string s, .string ⟨#[46]⟩] w fun e w' => e = .returned (.slice (some ⟨w.heap.size, 0, none⟩) (k + 1) (k + 1)) ∧ StrsAt w.heap.size P w' ∧ Below w.heap.size w w') := by
  refine (Tryz.strings_Split s (mk [46]) m w (by omega) hm (by rw [mk_size]; simp)).mono ?_
  rintro e w' ⟨rfl, rfl⟩
  refine ⟨by rw [hlen, hk], ?_, (Below.refl _ w).alloc (Nat.le_refl _) _⟩
  rw [hP]; exact strsAt_split s w
 have HK : Hid (k = 0 ∨ P[k]? ≠ some [] → partsL s.data.toList = P) := by
  intro h
  rw [hP]
  refine partsL_keep _ ?_
  rw [← hP, hk]
  rcases h with h | h
  ·left; omega
  ·right; simpa using h
 have HD : Hid (1 ≤ k → P[k]? = some [] → partsL s.data.toList = P.dropLast) := by
  intro h1 h2
  rw [hP]
  refine partsL_drop _ ?_ ?_
  ·rw [← hP, hk]; omega
  ·rw [← hP, hk]; simpa using h2
 have HL : Hid (P.length = k + 1) := hk
 clear hP hlen hk
 have hk1 : (k : Int) + 1 - 1 = (k : Int) := by omega
 by_cases h0 : k = 0
 ·have HP : Hid (partsL s.data.toList = P) := HK.out (.inl h0)
  subst h0
  go_enter Tryz.func177, Tryz.ntmps177
  go_wp2_with fail
  refine CS.out.mono ?_
  rintro e w1 ⟨rfl, hS, hB⟩
  go_wp2
  go_ret
  exact ⟨1, by rw [HP.out, HL.out]; rfl, by rw [HP.out]; exact hS, hB⟩
 ·have h0i : (0 : Int) < (k : Int) := by omega
  go_enter Tryz.func177, Tryz.ntmps177
  go_wp2_with fail
  refine CS.out.mono ?_
  rintro e w1 ⟨rfl, hS, hB⟩
  have hc := hS.cell k (by rw [HL.out]; omega)
  by_cases hz : P[k]? = some []
  ·have HP : Hid (partsL s.data.toList = P.dropLast) := HD.out (by omega) hz
   have hz2 : P[k]'(by rw [HL.out]; omega) = [] := by
    rw [List.getElem?_eq_getElem (by rw [HL.out]; omega)] at hz; exact Option.some.inj hz
   rw [hz2] at hc
   have hc2 : w1.cell? ⟨w.heap.size, k, none⟩ = some (.string ⟨#[]⟩) := hc
   clear hc
   go_wp2
   go_ret
   exact ⟨k + 1, by rw [HP.out, List.length_dropLast, HL.out]; rfl, by rw [HP.out]; exact hS.less, hB⟩
  ·have HP : Hid (partsL s.data.toList = P) := HK.out (.inr hz)
   obtain ⟨z, hzz, hzn⟩ : ∃ z : ByteArray, w1.cell? ⟨w.heap.size, k, none⟩ = some (.string z) ∧ z.toList ≠ [] := by
    refine ⟨_, hc, ?_⟩
    rw [ByteArray.toList_eq, mk_data]
    intro e
    apply hz
    rw [List.getElem?_eq_getElem (by rw [HL.out]; omega), e]
   have hne1 : (z.toList == []) = false := beq_eq_false_iff_ne.2 hzn
   have hne2 : z.toList.isEmpty = false := List.isEmpty_eq_false_iff.2 hzn
   clear hc hz
   go_wp2
   go_ret
   exact ⟨k + 1, by rw [HP.out, HL.out]; rfl, by rw [HP.out]; exact hS, hB⟩
end Go.Proofs.YtnfhajhdpdidlaaGreatDoor
end
section
namespace Go.Proofs.YtnfhajhdpdidlaaGreatDoor
open Go.RowKit
def smallB (c : UInt8) : Bool := decide (97 ≤ c.toNat ∧ c.toNat ≤ 122)
def figB (c : UInt8) : Bool := decide (48 ≤ c.toNat ∧ c.toNat ≤ 57)
def nmB (c : UInt8) : Bool := smallB c || figB c || c == 45 || c == 95
def nameL (l : List UInt8) : Bool := decide (1 ≤ l.length ∧ l.length ≤ 60 ∧ (∀ c ∈ l, nmB c = true ∨ c = 46) ∧ (∀ p ∈ partsL l, p ≠ []))
theorem nameL_len (l : List UInt8) (h : ¬ (1 ≤ l.length ∧ l.length ≤ 60)) : nameL l = false := by
 unfold nameL; exact decide_eq_false (fun hh => h ⟨hh.1, hh.2.1⟩)
theorem nameL_byte (l : List UInt8) (c : UInt8) (hc : c ∈ l) (h1 : nmB c = false) (h2 : c ≠ 46) : nameL l = false := by
 unfold nameL; refine decide_eq_false (fun hh => ?_)
 rcases hh.2.2.1 c hc with h | h
 ·rw [h1] at h; cases h
 ·exact h2 h
theorem nameL_empty (l : List UInt8) (h : [] ∈ partsL l) : nameL l = false := by
 unfold nameL; exact decide_eq_false (fun hh => hh.2.2.2 [] h rfl)
theorem nameL_yes (l : List UInt8) (h : 1 ≤ l.length ∧ l.length ≤ 60) (hb : ∀ c ∈ l, nmB c = true ∨ c = 46) (hp : ∀ p ∈ partsL l, p ≠ []) : nameL l = true := by
 unfold nameL; exact decide_eq_true ⟨h.1, h.2, hb, hp⟩
theorem nameL_le (l : List UInt8) (h : nameL l = true) : 1 ≤ l.length ∧ l.length ≤ 60 := by
 unfold nameL at h; have := of_decide_eq_true h; exact ⟨this.1, this.2.1⟩
theorem cutL_byte (l : List UInt8) : ∀ p ∈ cutL 46 l, ∀ c ∈ p, c ∈ l ∧ c ≠ 46 := by
 induction l with
 | nil => intro p hp c hc; simp [cutL] at hp; subst hp; cases hc
 | cons d r ih =>
  by_cases hd : d = 46
  ·subst hd
   rw [cutL_b]
   intro p hp c hc
   rcases List.mem_cons.1 hp with rfl | hp
   ·cases hc
   ·exact ⟨List.mem_cons_of_mem _ (ih p hp c hc).1, (ih p hp c hc).2⟩
  ·obtain ⟨q, qs, hq⟩ : ∃ q qs, cutL 46 r = q :: qs := by
    cases h : cutL 46 r with
    | nil => exact absurd h (cutL_ne _ _)
    | cons q qs => exact ⟨q, qs, rfl⟩
   rw [cutL_c 46 d r q qs hd hq]
   rw [hq] at ih
   intro p hp c hc
   rcases List.mem_cons.1 hp with rfl | hp
   ·rcases List.mem_cons.1 hc with rfl | hc
    ·exact ⟨List.mem_cons_self .., hd⟩
    ·have := ih q (List.mem_cons_self ..) c hc
     exact ⟨List.mem_cons_of_mem _ this.1, this.2⟩
   ·have := ih p (List.mem_cons_of_mem _ hp) c hc
    exact ⟨List.mem_cons_of_mem _ this.1, this.2⟩
theorem cutL_cover (l : List UInt8) : ∀ c ∈ l, c = 46 ∨ ∃ p ∈ cutL 46 l, c ∈ p := by
 induction l with
 | nil => intro c hc; cases hc
 | cons d r ih =>
  intro c hc
  by_cases hd : d = 46
  ·subst hd
   rw [cutL_b]
   rcases List.mem_cons.1 hc with rfl | hc
   ·exact .inl rfl
   ·rcases ih c hc with h | ⟨p, hp, h⟩
    ·exact .inl h
    ·exact .inr ⟨p, List.mem_cons_of_mem _ hp, h⟩
  ·obtain ⟨q, qs, hq⟩ : ∃ q qs, cutL 46 r = q :: qs := by
    cases h : cutL 46 r with
    | nil => exact absurd h (cutL_ne _ _)
    | cons q qs => exact ⟨q, qs, rfl⟩
   rw [cutL_c 46 d r q qs hd hq]
   rw [hq] at ih
   rcases List.mem_cons.1 hc with rfl | hc
   ·exact .inr ⟨_, List.mem_cons_self .., List.mem_cons_self ..⟩
   ·rcases ih c hc with h | ⟨p, hp, h⟩
    ·exact .inl h
    ·rcases List.mem_cons.1 hp with rfl | hp
     ·exact .inr ⟨_, List.mem_cons_self .., List.mem_cons_of_mem _ h⟩
     ·exact .inr ⟨p, List.mem_cons_of_mem _ hp, h⟩
theorem partsL_or (l : List UInt8) : (1 < (cutL 46 l).length ∧ (cutL 46 l)[(cutL 46 l).length - 1]? = some [] ∧ partsL l = (cutL 46 l).dropLast) ∨ (((cutL 46 l).length ≤ 1 ∨ (cutL 46 l)[(cutL 46 l).length - 1]? ≠ some []) ∧ partsL l = cutL 46 l) := by
 by_cases h : 1 < (cutL 46 l).length ∧ (cutL 46 l)[(cutL 46 l).length - 1]? = some []
 ·exact .inl ⟨h.1, h.2, partsL_drop l h.1 h.2⟩
 ·have : (cutL 46 l).length ≤ 1 ∨ (cutL 46 l)[(cutL 46 l).length - 1]? ≠ some [] := by
   by_cases h1 : 1 < (cutL 46 l).length
   ·exact .inr (fun h2 => h ⟨h1, h2⟩)
   ·exact .inl (by omega)
  exact .inr ⟨this, partsL_keep l this⟩
theorem parts_bad (l : List UInt8) (i : Nat) (hi : i < (cutL 46 l).length) (h : (cutL 46 l)[i] = []) (hb : i + 1 < (cutL 46 l).length ∨ i = 0) : [] ∈ partsL l := by
 rcases partsL_or l with ⟨h1, h2, e⟩ | ⟨h1, e⟩
 ·rw [e]
  have hlt : i < (cutL 46 l).dropLast.length := by rw [List.length_dropLast]; omega
  have : (cutL 46 l).dropLast[i] = [] := by rw [List.getElem_dropLast]; exact h
  rw [← this]; exact List.getElem_mem hlt
 ·rw [e, ← h]; exact List.getElem_mem hi
theorem parts_good (l : List UInt8) (h : ∀ i (hi : i < (cutL 46 l).length), (i + 1 < (cutL 46 l).length ∨ i = 0) → (cutL 46 l)[i] ≠ []) : ∀ p ∈ partsL l, p ≠ [] := by
 intro p hp
 rcases partsL_or l with ⟨h1, h2, e⟩ | ⟨h1, e⟩
 ·rw [e] at hp
  obtain ⟨i, hi, e2⟩ := List.getElem_of_mem hp
  rw [List.length_dropLast] at hi
  rw [← e2, List.getElem_dropLast]
  exact h i (by omega) (.inl (by omega))
 ·rw [e] at hp
  obtain ⟨i, hi, e2⟩ := List.getElem_of_mem hp
  rw [← e2]
  by_cases hb : i + 1 < (cutL 46 l).length ∨ i = 0
  ·exact h i hi hb
  ·rcases h1 with h1 | h1
   ·exact absurd (Or.inr (by omega)) hb
   ·intro h0
    apply h1
    have : (cutL 46 l).length - 1 = i := by omega
    rw [this, List.getElem?_eq_getElem hi, h0]
def figsL (q : List UInt8) : Bool := q.all figB
theorem hexA_figs (q : List UInt8) (h : hexA q = true) : figsL q = false := by
 match q, h with
 | a :: b :: r, h =>
  simp only [hexA, Bool.and_eq_true, Bool.or_eq_true, beq_iff_eq] at h
  obtain ⟨rfl, h | h⟩ := h
  ·subst h; simp [figsL, figB]
  ·subst h; simp [figsL, figB]
def lastP (l : List UInt8) : List UInt8 := (partsL l)[(partsL l).length - 1]'(by have := partsL_ne l; omega)
theorem lastP_le (l : List UInt8) : (lastP l).length ≤ l.length := partsL_mem_le l _ (List.getElem_mem _)
def endsL (l : List UInt8) : Bool := !(lastP l).isEmpty && (figsL (lastP l) || (hexA (lastP l) && partOk (lastP l)))
theorem ends_empty (l : List UInt8) (h : lastP l = []) : endsL l = false := by unfold endsL; rw [h]; rfl
theorem ends_hex (l : List UInt8) (h : hexA (lastP l) = true) : endsL l = partOk (lastP l) := by
 have hne : (lastP l).isEmpty = false := by
  cases hq : lastP l with
  | nil => rw [hq] at h; simp [hexA] at h
  | cons a b => rfl
 unfold endsL; rw [hexA_figs _ h, h, hne]; simp
theorem ends_figs (l : List UInt8) (hn : lastP l ≠ []) (h : hexA (lastP l) = false) : endsL l = figsL (lastP l) := by
 have hne : (lastP l).isEmpty = false := List.isEmpty_eq_false_iff.2 hn
 unfold endsL; rw [h, hne]; simp
theorem partV_ok (q : List UInt8) : decide (0 ≤ partV q) = partOk q := by
 unfold partV partOk
 cases h : partN q with
 | none => rfl
 | some m => have := partN_ge q m h; simp [this]
end Go.Proofs.YtnfhajhdpdidlaaGreatDoor
end
