/- Plain facts on writing a piece of a query. -/
import Derived.Test.YtjjpbkoglnimaaaDoorEncF
import Derived.Test.YtjjpbkoglnimaaaDoorFormP
set_option linter.unusedVariables false
namespace Go.Proofs.YtjjpbkoglnimaaaDoor
open Go.RowKit

/-- Letters, figures and four signs. -/
def okB (c : UInt8) : Bool := decide (97 ≤ c.toNat ∧ c.toNat ≤ 122 ∨ 65 ≤ c.toNat ∧ c.toNat ≤ 90 ∨ 48 ≤ c.toNat ∧ c.toNat ≤ 57 ∨ c.toNat = 42 ∨ c.toNat = 45 ∨ c.toNat = 46 ∨ c.toNat = 95)
/-- What is written as figures in a query. -/
def formIn (c : UInt8) : Bool := !(okB c || decide (c.toNat = 32))
def formB (c : UInt8) : List UInt8 := if c.toNat = 32 then [43] else if okB c then [c] else [37, fig (c.toNat / 16), fig (c.toNat % 16)]
def textP (l : List UInt8) : List UInt8 := l.flatMap formB
theorem textP_snoc (s : ByteArray) (k : Nat) (h : k < s.size) : textP (s.data.toList.take (k + 1)) = textP (s.data.toList.take k) ++ formB s[k] := by
  rw [take_snoc s k h]; simp [textP]
theorem formB_len (c : UInt8) : (formB c).length ≤ 3 := by unfold formB; split; simp; split <;> simp
theorem textP_len (l : List UInt8) : (textP l).length ≤ 3 * l.length := by
  induction l with
  | nil => simp [textP]
  | cons c r ih =>
    have : textP (c :: r) = formB c ++ textP r := by simp [textP]
    have := formB_len c
    rw [‹textP (c :: r) = _›, List.length_append, List.length_cons]; omega
theorem fig_no (n : Nat) (h : n < 16) : fig n ≠ 32 ∧ fig n ≠ 43 := by
  have : n = 0 ∨ n = 1 ∨ n = 2 ∨ n = 3 ∨ n = 4 ∨ n = 5 ∨ n = 6 ∨ n = 7 ∨ n = 8 ∨ n = 9 ∨ n = 10 ∨ n = 11 ∨ n = 12 ∨ n = 13 ∨ n = 14 ∨ n = 15 := by omega
  rcases this with rfl | rfl | rfl | rfl | rfl | rfl | rfl | rfl | rfl | rfl | rfl | rfl | rfl | rfl | rfl | rfl <;> decide
theorem turn_encB (c : UInt8) : turnL 32 43 (encB formIn c) = formB c := by
  have hc := c.toNat_lt
  unfold formB
  by_cases h32 : c.toNat = 32
  · have hi : formIn c = false := by simp [formIn, h32]
    have he : c = 32 := UInt8.toNat_inj.1 (by show _ = 32; exact h32)
    rw [if_pos h32, encB_no _ _ hi, he]; rfl
  · rw [if_neg h32]
    have hne : c ≠ 32 := fun e => h32 (by rw [e]; rfl)
    cases ho : okB c with
    | true =>
      have hi : formIn c = false := by simp [formIn, ho]
      rw [encB_no _ _ hi]
      simp [turnL, hne]
    | false =>
      have hi : formIn c = true := by simp [formIn, ho, h32]
      rw [encB_yes _ _ hi]
      have f1 := (fig_no (c.toNat / 16) (by omega)).1
      have f2 := (fig_no (c.toNat % 16) (by omega)).1
      simp [turnL, f1, f2]
theorem turn_enc (l : List UInt8) : turnL 32 43 (enc formIn l) = textP l := by
  induction l with
  | nil => rfl
  | cons c r ih =>
    have e1 : enc formIn (c :: r) = encB formIn c ++ enc formIn r := by simp [enc]
    have e2 : textP (c :: r) = formB c ++ textP r := by simp [textP]
    have e3 : ∀ a b, turnL 32 43 (a ++ b) = turnL 32 43 a ++ turnL 32 43 b := by intro a b; simp [turnL]
    rw [e1, e2, e3, turn_encB, ih]

/-- The kinds of bytes that a query tells apart. -/
theorem byte_kinds (x : Int) (h0 : 0 ≤ x) (h1 : x < 256) : x = 32 ∨ x = 42 ∨ x = 45 ∨ x = 46 ∨ x = 95 ∨ (97 ≤ x ∧ x ≤ 122) ∨ (65 ≤ x ∧ x ≤ 90) ∨ (48 ≤ x ∧ x ≤ 57) ∨ (x ≠ 32 ∧ x ≠ 42 ∧ x ≠ 45 ∧ x ≠ 46 ∧ x ≠ 95 ∧ (x < 48 ∨ (57 < x ∧ x < 65) ∨ (90 < x ∧ x < 97) ∨ 122 < x)) := by omega
end Go.Proofs.YtjjpbkoglnimaaaDoor
