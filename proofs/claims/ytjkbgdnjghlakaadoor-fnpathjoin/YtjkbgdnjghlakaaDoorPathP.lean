/- Plain facts on paths: their pieces, steps to themselves and back. Nothing of any program. -/
import Derived.Test.YtjkbgdnjghlakaaDoorRepP
import Derived.Test.YtjkbgdnjghlakaaDoorEncP
set_option linter.unusedVariables false
namespace Go.Proofs.YtjkbgdnjghlakaaDoor
open Go.RowKit

/-- 1: a step to itself; 2: one back; 0: any other piece. -/
def dots (p : List UInt8) : Nat :=
  if low p = [46] ∨ low p = [37, 50, 101] then 1
  else if low p = [46, 46] ∨ low p = [46, 37, 50, 101] ∨ low p = [37, 50, 101, 46] ∨ low p = [37, 50, 101, 37, 50, 101] then 2
  else 0
theorem dots_cases (p : List UInt8) : (dots p = 1 ∧ dotL (low p) = [46]) ∨ (dots p = 2 ∧ dotL (low p) = [46, 46]) ∨ (dots p = 0 ∧ dotL (low p) ≠ [46] ∧ dotL (low p) ≠ [46, 46]) := by
  unfold dots
  by_cases h1 : low p = [46] ∨ low p = [37, 50, 101]
  · left; rw [if_pos h1]; exact ⟨rfl, (dotL_one _).2 h1⟩
  · rw [if_neg h1]
    by_cases h2 : low p = [46, 46] ∨ low p = [46, 37, 50, 101] ∨ low p = [37, 50, 101, 46] ∨ low p = [37, 50, 101, 37, 50, 101]
    · right; left; rw [if_pos h2]; exact ⟨rfl, (dotL_two _).2 h2⟩
    · right; right; rw [if_neg h2]; exact ⟨rfl, fun e => h1 ((dotL_one _).1 e), fun e => h2 ((dotL_two _).1 e)⟩

/-- What is left of a path behind a piece: a step back takes the last piece away. -/
def backL (path : List (List UInt8)) (p : List UInt8) : List (List UInt8) := if dots p = 2 then path.dropLast else path
/-- A piece as a path has it. -/
def encT (p : List UInt8) : List UInt8 := enc (isIn 1) p
def stepL (path : List (List UInt8)) (p : List UInt8) (last : Bool) : List (List UInt8) :=
  if dots p = 0 then backL path p ++ [encT p] else if last then backL path p ++ [[]] else backL path p
def walkL : List (List UInt8) → List (List UInt8) → List (List UInt8)
  | path, [] => path
  | path, p :: ps => walkL (stepL path p ps.isEmpty) ps
def walkN (path : List (List UInt8)) (ps : List (List UInt8)) : List (List UInt8) := ps.foldl (fun a p => stepL a p false) path

theorem walkL_app (ps qs : List (List UInt8)) (hq : qs ≠ []) (path : List (List UInt8)) : walkL path (ps ++ qs) = walkL (walkN path ps) qs := by
  induction ps generalizing path with
  | nil => rfl
  | cons p ps ih =>
    have e : (ps ++ qs).isEmpty = false := by cases ps <;> simp_all
    show walkL (stepL path p (ps ++ qs).isEmpty) (ps ++ qs) = _
    rw [e, ih]; rfl
theorem walkN_snoc (ps : List (List UInt8)) (p : List UInt8) (path : List (List UInt8)) : walkN path (ps ++ [p]) = stepL (walkN path ps) p false := by simp [walkN]
theorem walkL_last (ps : List (List UInt8)) (p : List UInt8) (path : List (List UInt8)) : walkL path (ps ++ [p]) = stepL (walkN path ps) p true := by
  rw [walkL_app ps [p] (by simp)]; rfl

/-- The walk up to place k, as a loop has it. -/
def walkTo (path : List (List UInt8)) (ps : List (List UInt8)) (k : Nat) : List (List UInt8) := if k < ps.length then walkN path (ps.take k) else walkL path ps
theorem walkTo_zero (path ps : List (List UInt8)) (h : ps ≠ []) : walkTo path ps 0 = path := by
  unfold walkTo; rw [if_pos (List.length_pos_iff.2 h)]; rfl
theorem walkTo_all (path ps : List (List UInt8)) : walkTo path ps ps.length = walkL path ps := by unfold walkTo; rw [if_neg (by omega)]
theorem walkTo_succ (path ps : List (List UInt8)) (k : Nat) (hk : k < ps.length) : walkTo path ps (k + 1) = stepL (walkTo path ps k) ps[k] (decide (k = ps.length - 1)) := by
  unfold walkTo
  rw [if_pos hk]
  by_cases h : k + 1 < ps.length
  · rw [if_pos h, List.take_succ_eq_append_getElem hk, walkN_snoc, show decide (k = ps.length - 1) = false from by simp; omega]
  · have e : ps.take (k + 1) = ps := List.take_of_length_le (by omega)
    rw [if_neg h]
    conv => lhs; rw [← e]
    rw [List.take_succ_eq_append_getElem hk, walkL_last, show decide (k = ps.length - 1) = true from by simp; omega]

/-- The pieces of a path's text. -/
def trim1 (l : List UInt8) : List UInt8 := if l.head? = some 47 then l.tail else l
def slashL (l : List UInt8) : List UInt8 := turnL 92 47 l
def piecesL (l : List UInt8) : List (List UInt8) := cutL 47 (trim1 (slashL l))
/-- A path of a text. -/
def pathL (l : List UInt8) : List (List UInt8) := if l.length ≤ 200 then walkL [] (piecesL l) else []
theorem pathL_small (l : List UInt8) (h : l.length ≤ 200) : pathL l = walkL [] (piecesL l) := if_pos h
theorem pathL_great (l : List UInt8) (h : ¬ l.length ≤ 200) : pathL l = [] := if_neg h

theorem trimPrefix_one (l : List UInt8) : Lib.trimPrefix l [47] = trim1 l := by
  unfold Lib.trimPrefix trim1 Lib.hasPrefix
  cases l with
  | nil => rfl
  | cons c r =>
    by_cases h : c = 47
    · subst h; simp [List.isPrefixOf]
    · have h' : ¬ (47 : UInt8) = c := fun e => h e.symm
      simp [List.isPrefixOf, h, h']
theorem trim1_len (l : List UInt8) : (trim1 l).length ≤ l.length := by
  unfold trim1; split <;> simp
theorem slashL_len (l : List UInt8) : (slashL l).length = l.length := turnL_len _ _ _
theorem slashL_cons (c : UInt8) (r : List UInt8) : slashL (c :: r) = (if c = 92 then 47 else c) :: slashL r := rfl
theorem trim_slash (c : UInt8) (r : List UInt8) (h : c = 47 ∨ c = 92) : trim1 (slashL (c :: r)) = slashL r := by
  rw [slashL_cons]
  have : (if c = 92 then (47 : UInt8) else c) = 47 := by rcases h with rfl | rfl <;> rfl
  rw [this]; rfl
theorem trim_not (c : UInt8) (r : List UInt8) (h1 : c ≠ 47) (h2 : c ≠ 92) : trim1 (slashL (c :: r)) = slashL (c :: r) := by
  rw [slashL_cons, if_neg h2]
  unfold trim1
  rw [if_neg (by simpa using h1)]
theorem piecesL_len (l : List UInt8) : (piecesL l).length ≤ l.length + 1 := by
  unfold piecesL
  have h1 := cutL_len_le 47 (trim1 (slashL l)); have h2 := trim1_len (slashL l); have h3 := slashL_len l; omega
theorem piecesL_mem (l : List UInt8) : ∀ q ∈ piecesL l, q.length ≤ l.length := by
  intro q hq
  have h1 := cutL_mem_le 47 (trim1 (slashL l)) q hq; have h2 := trim1_len (slashL l); have h3 := slashL_len l; omega
theorem piecesL_ne (l : List UInt8) : piecesL l ≠ [] := cutL_ne _ _

theorem backL_len (path : List (List UInt8)) (p : List UInt8) : (backL path p).length ≤ path.length := by
  unfold backL; split <;> simp
theorem stepL_len (path : List (List UInt8)) (p : List UInt8) (b : Bool) : (stepL path p b).length ≤ path.length + 1 := by
  have := backL_len path p
  unfold stepL; split
  · simp; omega
  · split
    · simp; omega
    · omega
theorem walkN_len (ps : List (List UInt8)) (path : List (List UInt8)) : (walkN path ps).length ≤ path.length + ps.length := by
  induction ps generalizing path with
  | nil => simp [walkN]
  | cons p ps ih =>
    have h1 := ih (stepL path p false)
    have h2 := stepL_len path p false
    have e : walkN path (p :: ps) = walkN (stepL path p false) ps := rfl
    rw [e, List.length_cons]; omega
theorem walkL_len (ps : List (List UInt8)) (path : List (List UInt8)) : (walkL path ps).length ≤ path.length + ps.length := by
  induction ps generalizing path with
  | nil => simp [walkL]
  | cons p ps ih =>
    have h1 := ih (stepL path p ps.isEmpty)
    have h2 := stepL_len path p ps.isEmpty
    have e : walkL path (p :: ps) = walkL (stepL path p ps.isEmpty) ps := rfl
    rw [e, List.length_cons]; omega
theorem walkTo_len (path ps : List (List UInt8)) (k : Nat) : (walkTo path ps k).length ≤ path.length + ps.length := by
  unfold walkTo
  split
  · have h1 := walkN_len (ps.take k) path; have h2 := List.length_take_le' k ps; omega
  · exact walkL_len ps path
end Go.Proofs.YtjkbgdnjghlakaaDoor
