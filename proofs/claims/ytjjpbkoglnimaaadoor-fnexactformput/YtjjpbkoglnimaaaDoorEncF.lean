/- Figures, and writing byte by byte: what impl's and spec's way share. -/
import Derived.Test.YtjjpbkoglnimaaaDoorOwn
import Derived.Test.YtjjpbkoglnimaaaDoorEncP
set_option linter.unusedVariables false
namespace Go.Proofs.YtjjpbkoglnimaaaDoor
open Go.RowKit Go.Shelf

theorem fig_at (n : Nat) (h : n < 16) (h' : n < (⟨#[48, 49, 50, 51, 52, 53, 54, 55, 56, 57, 65, 66, 67, 68, 69, 70]⟩ : ByteArray).size) : (⟨#[48, 49, 50, 51, 52, 53, 54, 55, 56, 57, 65, 66, 67, 68, 69, 70]⟩ : ByteArray)[n] = fig n := by
  match n, h with
  | 0, _ => rfl
  | 1, _ => rfl
  | 2, _ => rfl
  | 3, _ => rfl
  | 4, _ => rfl
  | 5, _ => rfl
  | 6, _ => rfl
  | 7, _ => rfl
  | 8, _ => rfl
  | 9, _ => rfl
  | 10, _ => rfl
  | 11, _ => rfl
  | 12, _ => rfl
  | 13, _ => rfl
  | 14, _ => rfl
  | 15, _ => rfl
  | n + 16, h => exact absurd h (by omega)

set_option maxHeartbeats 1000000 in
theorem l1Figure (x : Int) (w : World) (h0 : 0 ≤ x) (h1 : x < 16) : Calls Tryd.prog 46 #[.int .i64 x] w fun e w' => e = .returned (.int .u8 ((fig x.toNat).toNat : Int)) ∧ w' = w := by
  obtain ⟨n, rfl⟩ := Int.eq_ofNat_of_zero_le h0
  rw [Int.toNat_natCast]
  go_enter Tryd.func46, Tryd.ntmps46
  go_wp2
  go_ret
  exact ⟨ret_int (by rw [fig_at n (by omega)]), rfl⟩

theorem enc_take (P : UInt8 → Bool) (s : ByteArray) (k : Nat) (h : k < s.size) : enc P (s.data.toList.take (k + 1)) = enc P (s.data.toList.take k) ++ encB P s[k] := by
  rw [take_snoc s k h, enc_snoc]

theorem enc_take_len (P : UInt8 → Bool) (s : ByteArray) (k : Nat) : (enc P (s.data.toList.take k)).length ≤ 3 * k := by
  have := enc_length P (s.data.toList.take k)
  have := List.length_take_le k s.data.toList
  omega

theorem index_hasB (l : List UInt8) (c : UInt8) : decide (0 ≤ Lib.indexByte l c) = hasB l c := by
  unfold hasB
  induction l with
  | nil => simp [Lib.indexByte]
  | cons b l ih =>
    have hge := Lib.indexByte_ge l c
    rw [Lib.indexByte, List.contains_cons]
    by_cases h : b = c
    · subst h; simp
    · have e1 : (b == c) = false := beq_eq_false_iff_ne.2 h
      have e2 : (c == b) = false := beq_eq_false_iff_ne.2 (fun e => h e.symm)
      rw [e1, e2, Bool.false_or, ← ih]
      by_cases h2 : Lib.indexByte l c = -1
      · simp [h2]
      · have e3 : (Lib.indexByte l c == -1) = false := beq_eq_false_iff_ne.2 h2
        rw [e3]
        simp only [Bool.false_eq_true, if_false]
        rw [decide_eq_decide]
        omega

theorem u8_back (c : UInt8) : ((c.toNat : Int).toNat).toUInt8 = c := by simp

theorem cells_three (l : List UInt8) (a b : UInt8) : Lib.byteCells (l ++ [37, a, b]) = ((Lib.byteCells l ++ [.int .u8 37]) ++ [.int .u8 (a.toNat : Int)]) ++ [.int .u8 (b.toNat : Int)] := by
  rw [Lib.byteCells_append]; simp [Lib.byteCells]

theorem fig_shr (c : UInt8) : c.toNat / 16 < 16 ∧ c.toNat % 16 < 16 := by have := c.toNat_lt; omega
end Go.Proofs.YtjjpbkoglnimaaaDoor
