/- Plain facts on writing bytes of a set as figures. Nothing of any program. -/
import Derived.Test.YtjjpbkoglnimaaaDoorDecP
namespace Go.Proofs.YtjjpbkoglnimaaaDoor
open Go.RowKit

def setB (set : Int) : List UInt8 :=
  if set = 1 then [32, 34, 35, 60, 62, 63, 96, 123, 125]
  else if set = 2 then [32, 34, 35, 60, 62, 39]
  else if set = 3 then [32, 34, 60, 62, 96]
  else if set = 4 then [32, 34, 35, 60, 62, 63, 96, 123, 125, 47, 58, 59, 61, 64, 91, 92, 93, 94, 124]
  else if set = 5 then [32]
  else []

/-- Whether a list has a byte. -/
def hasB (l : List UInt8) (c : UInt8) : Bool := l.contains c

def figs : List UInt8 := [48, 49, 50, 51, 52, 53, 54, 55, 56, 57, 65, 66, 67, 68, 69, 70]
def fig (n : Nat) : UInt8 := figs.getD n 0

/-- A byte that is written as figures. -/
def isIn (set : Int) (c : UInt8) : Bool := decide (c.toNat < 32) || decide (126 < c.toNat) || hasB (setB set) c
def encB (P : UInt8 → Bool) (c : UInt8) : List UInt8 := if P c then [37, fig (c.toNat / 16), fig (c.toNat % 16)] else [c]
def enc (P : UInt8 → Bool) (l : List UInt8) : List UInt8 := l.flatMap (encB P)

theorem enc_snoc (P : UInt8 → Bool) (l : List UInt8) (c : UInt8) : enc P (l ++ [c]) = enc P l ++ encB P c := by simp [enc]
theorem encB_yes (P : UInt8 → Bool) (c : UInt8) (h : P c = true) : encB P c = [37, fig (c.toNat / 16), fig (c.toNat % 16)] := by simp [encB, h]
theorem encB_no (P : UInt8 → Bool) (c : UInt8) (h : P c = false) : encB P c = [c] := by simp [encB, h]
theorem encB_length (P : UInt8 → Bool) (c : UInt8) : (encB P c).length ≤ 3 := by unfold encB; split <;> simp
theorem enc_length (P : UInt8 → Bool) (l : List UInt8) : (enc P l).length ≤ 3 * l.length := by
  induction l with
  | nil => simp [enc]
  | cons c r ih =>
    have : enc P (c :: r) = encB P c ++ enc P r := by simp [enc]
    rw [this, List.length_append, List.length_cons]
    have := encB_length P c
    omega
end Go.Proofs.YtjjpbkoglnimaaaDoor
