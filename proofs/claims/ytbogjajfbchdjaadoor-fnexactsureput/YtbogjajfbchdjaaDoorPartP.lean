/- Plain facts on numbers in a part of a host's text. -/
import Derived.Test.YtbogjajfbchdjaaDoorDecP
import Derived.Test.YtbogjajfbchdjaaDoorCutP
set_option linter.unusedVariables false
namespace Go.Proofs.YtbogjajfbchdjaaDoor
open Go.RowKit

/-- Figures to a base, going on from n; none, if one is no figure, or it is too great. -/
def digs (base : Int) : Int → List UInt8 → Option Int
  | n, [] => some n
  | n, c :: r => if hexV c < 0 ∨ base ≤ hexV c ∨ 4294967295 < n then none else digs base (n * base + hexV c) r

theorem digs_no (base n : Int) (c : UInt8) (r : List UInt8) (h : hexV c < 0 ∨ base ≤ hexV c ∨ 4294967295 < n) : digs base n (c :: r) = none := by rw [digs, if_pos h]
theorem digs_yes (base n : Int) (c : UInt8) (r : List UInt8) (h : ¬ (hexV c < 0 ∨ base ≤ hexV c ∨ 4294967295 < n)) : digs base n (c :: r) = digs base (n * base + hexV c) r := by rw [digs, if_neg h]
theorem digs_ge (base : Int) (hb : 0 ≤ base) : ∀ (l : List UInt8) (n m : Int), 0 ≤ n → digs base n l = some m → 0 ≤ m := by
  intro l
  induction l with
  | nil => intro n m hn h; simp [digs] at h; omega
  | cons c r ih =>
    intro n m hn h
    by_cases hc : hexV c < 0 ∨ base ≤ hexV c ∨ 4294967295 < n
    · rw [digs_no _ _ _ _ hc] at h; cases h
    · rw [digs_yes _ _ _ _ hc] at h
      refine ih _ _ ?_ h
      have := Int.mul_nonneg hn hb
      omega

/-- 0x or 0X stands ahead. -/
def hexA (l : List UInt8) : Bool := match l with
  | a :: b :: _ => a == 48 && (b == 120 || b == 88)
  | _ => false
/-- 0 stands ahead of another byte. -/
def octA (l : List UInt8) : Bool := match l with
  | a :: _ :: _ => a == 48
  | _ => false

/-- The number of a part. -/
def partN (l : List UInt8) : Option Int :=
  if l = [] then none else if hexA l then digs 16 0 (l.drop 2) else if octA l then digs 8 0 l else digs 10 0 l

theorem oct_drop (l : List UInt8) (h : octA l = true) : digs 8 0 l = digs 8 0 (l.drop 1) := by
  match l, h with
  | a :: b :: r, h =>
    have ha : a = 48 := by simpa [octA] using h
    subst ha
    have hv : hexV 48 = 0 := by decide
    rw [digs_yes 8 0 48 (b :: r) (by rw [hv]; omega), hv]
    rfl
theorem partN_ge (l : List UInt8) (m : Int) (h : partN l = some m) : 0 ≤ m := by
  unfold partN at h
  (repeat' split at h)
  · cases h
  · exact digs_ge 16 (by omega) _ _ _ (Int.le_refl _) h
  · exact digs_ge 8 (by omega) _ _ _ (Int.le_refl _) h
  · exact digs_ge 10 (by omega) _ _ _ (Int.le_refl _) h

/-- What the last part may be below, where i stand ahead. -/
def capI : Nat → Int
  | 0 => 4294967296
  | 1 => 16777216
  | 2 => 65536
  | _ => 256
/-- What i parts are below. -/
def midI : Nat → Int
  | 0 => 1
  | 1 => 256
  | 2 => 65536
  | 3 => 16777216
  | _ => 4294967296

/-- What FourGet makes of parts: their numbers, one behind the other. i: how many stand ahead; n: how many there are. -/
def fourFrom (n : Nat) : Nat → Int → List (List UInt8) → Option Int
  | _, a, [] => some a
  | i, a, p :: ps =>
    match partN p with
    | none => none
    | some v =>
      if i + 1 = n then (if v < capI i then fourFrom n (i + 1) (a * capI i + v) ps else none)
      else (if v < 256 then fourFrom n (i + 1) (a * 256 + v) ps else none)

theorem four_none (n i : Nat) (a : Int) (p : List UInt8) (ps : List (List UInt8)) (h : partN p = none) : fourFrom n i a (p :: ps) = none := by rw [fourFrom, h]
theorem four_last (n i : Nat) (a v : Int) (p : List UInt8) (ps : List (List UInt8)) (h : partN p = some v) (hi : i + 1 = n) (hv : v < capI i) : fourFrom n i a (p :: ps) = fourFrom n (i + 1) (a * capI i + v) ps := by rw [fourFrom, h]; simp only; rw [if_pos hi, if_pos hv]
theorem four_last_no (n i : Nat) (a v : Int) (p : List UInt8) (ps : List (List UInt8)) (h : partN p = some v) (hi : i + 1 = n) (hv : ¬ v < capI i) : fourFrom n i a (p :: ps) = none := by rw [fourFrom, h]; simp only; rw [if_pos hi, if_neg hv]
theorem four_mid (n i : Nat) (a v : Int) (p : List UInt8) (ps : List (List UInt8)) (h : partN p = some v) (hi : i + 1 ≠ n) (hv : v < 256) : fourFrom n i a (p :: ps) = fourFrom n (i + 1) (a * 256 + v) ps := by rw [fourFrom, h]; simp only; rw [if_neg hi, if_pos hv]
theorem four_mid_no (n i : Nat) (a v : Int) (p : List UInt8) (ps : List (List UInt8)) (h : partN p = some v) (hi : i + 1 ≠ n) (hv : ¬ v < 256) : fourFrom n i a (p :: ps) = none := by rw [fourFrom, h]; simp only; rw [if_neg hi, if_neg hv]

def fourL (l : List UInt8) : Option Int :=
  if l.length ≤ 200 ∧ (partsL l).length ≤ 4 then fourFrom (partsL l).length 0 0 (partsL l) else none
def fourZ (l : List UInt8) : Int := (fourL l).getD 0
def fourOk (l : List UInt8) : Bool := (fourL l).isSome
theorem four_is_none (l : List UInt8) (h : fourL l = none) : fourOk l = false ∧ fourZ l = 0 := by unfold fourOk fourZ; rw [h]; exact ⟨rfl, rfl⟩
theorem four_is_some (l : List UInt8) (a : Int) (h : fourL l = some a) : fourOk l = true ∧ fourZ l = a := by unfold fourOk fourZ; rw [h]; exact ⟨rfl, rfl⟩
end Go.Proofs.YtbogjajfbchdjaaDoor
