/- Plain facts on figures that are read back. -/
import Derived.Test.YtjjpbkoglnimaaaDoorEncP
set_option linter.unusedVariables false
namespace Go.Proofs.YtjjpbkoglnimaaaDoor
open Go.RowKit

theorem hexV_fig (n : Nat) (h : n < 16) : hexV (fig n) = (n : Int) := by
  match n, h with
  | 0, _ => decide
  | 1, _ => decide
  | 2, _ => decide
  | 3, _ => decide
  | 4, _ => decide
  | 5, _ => decide
  | 6, _ => decide
  | 7, _ => decide
  | 8, _ => decide
  | 9, _ => decide
  | 10, _ => decide
  | 11, _ => decide
  | 12, _ => decide
  | 13, _ => decide
  | 14, _ => decide
  | 15, _ => decide
  | n + 16, h => exact absurd h (by omega)

theorem hexB_fig (c : UInt8) : hexB (fig (c.toNat / 16)) (fig (c.toNat % 16)) = c := by
  have hc := c.toNat_lt
  have h1 : c.toNat / 16 < 16 := by omega
  have h2 : c.toNat % 16 < 16 := by omega
  have e1 := hexV_fig _ h1
  have e2 := hexV_fig _ h2
  have := hexB_val (fig (c.toNat / 16)) (fig (c.toNat % 16)) (by omega) (by omega)
  rw [e1, e2] at this
  exact UInt8.toNat_inj.1 (by omega)

theorem esc_fig (c : UInt8) : esc 37 (fig (c.toNat / 16)) (fig (c.toNat % 16)) = true := by
  have hc := c.toNat_lt
  exact esc_yes _ _ _ rfl (by rw [hexV_fig _ (by omega)]; omega) (by rw [hexV_fig _ (by omega)]; omega)

/-- The list begins with two figures. -/
def two : List UInt8 → Bool
  | a :: b :: _ => decide (0 ≤ hexV a) && decide (0 ≤ hexV b)
  | _ => false

theorem dec_two (m : List UInt8) (h : two m = false) : dec (37 :: m) = 37 :: dec m := by
  match m, h with
  | [], _ => simp [dec]
  | [a], _ => simp [dec]
  | a :: b :: r, h =>
    refine dec_three 37 a b r ?_
    simp only [two] at h
    unfold esc
    simpa using h
theorem dec_ne (c : UInt8) (m : List UInt8) (h : c ≠ 37) : dec (c :: m) = c :: dec m := by
  match m with
  | [] => simp [dec]
  | [a] => simp [dec]
  | a :: b :: r => exact dec_three c a b r (esc_no0 c a b h)

theorem enc_cons (P : UInt8 → Bool) (c : UInt8) (l : List UInt8) : enc P (c :: l) = encB P c ++ enc P l := by simp [enc]
end Go.Proofs.YtjjpbkoglnimaaaDoor
