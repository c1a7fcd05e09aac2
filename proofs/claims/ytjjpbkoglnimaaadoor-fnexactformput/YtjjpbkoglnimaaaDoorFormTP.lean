/- Plain facts on writing a query. -/
import Derived.Test.YtjjpbkoglnimaaaDoorFormPP
import Derived.Test.YtjjpbkoglnimaaaDoorStrS
set_option linter.unusedVariables false
namespace Go.Proofs.YtjjpbkoglnimaaaDoor
open Go.RowKit

def oneP (p : List UInt8 × List UInt8) : List UInt8 := textP p.1 ++ 61 :: textP p.2
def ampP (ps : List (List UInt8 × List UInt8)) : List UInt8 := ps.flatMap fun p => 38 :: oneP p
def formT (ps : List (List UInt8 × List UInt8)) : List UInt8 := (ampP ps).drop 1
theorem ampP_snoc (ps : List (List UInt8 × List UInt8)) (k : Nat) (h : k < ps.length) : ampP (ps.take (k + 1)) = ampP (ps.take k) ++ 38 :: oneP ps[k] := by
  unfold ampP; rw [List.take_succ_eq_append_getElem h, List.flatMap_append]; simp
theorem ampP_pos (ps : List (List UInt8 × List UInt8)) (h : ps ≠ []) : 1 ≤ (ampP ps).length := by
  cases ps with
  | nil => exact absurd rfl h
  | cons p ps => simp [ampP]
theorem formT_zero (ps : List (List UInt8 × List UInt8)) (h : 0 < ps.length) : formT (ps.take 1) = oneP ps[0] := by
  have := ampP_snoc ps 0 h
  unfold formT
  rw [this]; rfl
theorem formT_succ (ps : List (List UInt8 × List UInt8)) (k : Nat) (h : k < ps.length) (h0 : 0 < k) : formT (ps.take (k + 1)) = formT (ps.take k) ++ 38 :: oneP ps[k] := by
  have hne : ps.take k ≠ [] := by
    intro e
    have := congrArg List.length e
    rw [List.length_take, List.length_nil] at this
    omega
  unfold formT
  rw [ampP_snoc ps k h, List.drop_append_of_le_length (ampP_pos _ hne)]
/-- How many bytes a list of pairs has. -/
def totP (ps : List (List UInt8 × List UInt8)) : Nat := (ps.map fun p => p.1.length + p.2.length).sum
theorem totP_snoc (ps : List (List UInt8 × List UInt8)) (k : Nat) (hk : k < ps.length) : totP (ps.take (k + 1)) = totP (ps.take k) + (ps[k].1.length + ps[k].2.length) := by
  unfold totP; rw [List.take_succ_eq_append_getElem hk, List.map_append, List.sum_append]; rfl
theorem totP_take (ps : List (List UInt8 × List UInt8)) (k : Nat) : totP (ps.take k) ≤ totP ps := by
  conv => rhs; rw [← List.take_append_drop k ps]
  unfold totP
  rw [List.map_append, List.sum_append]; omega
theorem totP_at (ps : List (List UInt8 × List UInt8)) (k : Nat) (hk : k < ps.length) : ps[k].1.length ≤ totP ps ∧ ps[k].2.length ≤ totP ps := by
  have h1 := totP_snoc ps k hk
  have h2 := totP_take ps (k + 1)
  omega
theorem oneP_len (p : List UInt8 × List UInt8) : (oneP p).length ≤ 3 * (p.1.length + p.2.length) + 1 := by
  have h1 := textP_len p.1; have h2 := textP_len p.2
  unfold oneP; rw [List.length_append, List.length_cons]; omega
theorem ampP_len (ps : List (List UInt8 × List UInt8)) : (ampP ps).length ≤ 3 * totP ps + 2 * ps.length := by
  induction ps with
  | nil => simp [ampP]
  | cons p ps ih =>
    have e1 : ampP (p :: ps) = (38 :: oneP p) ++ ampP ps := rfl
    have e2 : totP (p :: ps) = p.1.length + p.2.length + totP ps := by simp [totP]
    have := oneP_len p
    rw [e1, e2, List.length_append, List.length_cons, List.length_cons]; omega
theorem formT_take_len (ps : List (List UInt8 × List UInt8)) (k : Nat) : (formT (ps.take k)).length ≤ 3 * totP ps + 2 * ps.length := by
  have h1 := ampP_len (ps.take k); have h2 := totP_take ps k; have h3 := List.length_take_le' k ps
  unfold formT; rw [List.length_drop]; omega
end Go.Proofs.YtjjpbkoglnimaaaDoor
