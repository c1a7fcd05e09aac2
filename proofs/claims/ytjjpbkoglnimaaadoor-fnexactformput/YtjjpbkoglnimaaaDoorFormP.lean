/- Plain facts on queries: their pieces and pairs. Nothing of any program. -/
import Derived.Test.YtjjpbkoglnimaaaDoorRepP
import Derived.Test.YtjjpbkoglnimaaaDoorDecP
set_option linter.unusedVariables false
namespace Go.Proofs.YtjjpbkoglnimaaaDoor
open Go.RowKit

/-- Up to the first byte that is among some. -/
def notIn (any : List UInt8) (c : UInt8) : Bool := !any.contains c
def aheadL (any l : List UInt8) : List UInt8 := l.takeWhile (notIn any)
def behindL (any l : List UInt8) : List UInt8 := (l.dropWhile (notIn any)).drop 1
def atL (any l : List UInt8) : Nat := (aheadL any l).length
theorem atL_le (any l : List UInt8) : atL any l ≤ l.length := (List.takeWhile_sublist _).length_le
theorem ahead_take (any l : List UInt8) : l.take (atL any l) = aheadL any l := by
  unfold atL aheadL
  induction l with
  | nil => rfl
  | cons c r ih =>
    rw [List.takeWhile_cons]
    split
    · simp [ih]
    · simp
theorem behind_drop (any l : List UInt8) : l.drop (atL any l + 1) = behindL any l := by
  unfold atL aheadL behindL
  induction l with
  | nil => rfl
  | cons c r ih =>
    rw [List.takeWhile_cons, List.dropWhile_cons]
    split
    · simpa using ih
    · simp
theorem ahead_hit (b : UInt8) (l r : List UInt8) (h : ∀ c ∈ l, c ≠ b) : aheadL [b] (l ++ b :: r) = l ∧ behindL [b] (l ++ b :: r) = r := by
  have hp : ∀ c ∈ l, notIn [b] c = true := by intro c hc; simp [notIn]; exact h c hc
  have hb : notIn [b] b = false := by simp [notIn]
  unfold aheadL behindL
  rw [List.takeWhile_append_of_pos hp, List.dropWhile_append_of_pos hp, List.takeWhile_cons, List.dropWhile_cons, hb]
  simp
theorem ahead_none (b : UInt8) (l : List UInt8) (h : ∀ c ∈ l, c ≠ b) : aheadL [b] l = l ∧ behindL [b] l = [] := by
  have hp : ∀ c ∈ l, notIn [b] c = true := by intro c hc; simp [notIn]; exact h c hc
  have e1 := List.takeWhile_append_of_pos (l₂ := []) hp
  have e2 := List.dropWhile_append_of_pos (l₂ := []) hp
  simp at e1 e2
  unfold aheadL behindL
  exact ⟨e1, by rw [e2]; rfl⟩
theorem cut_one (b : UInt8) (l : List UInt8) : (Lib.cut l [b]).1 = aheadL [b] l ∧ (Lib.cut l [b]).2.1 = behindL [b] l := by
  rcases Lib.index_spec l [b] with ⟨hi, hno⟩ | ⟨i, hi, hil, ho, hno⟩
  · have hf : ∀ c ∈ l, c ≠ b := by
      intro c hc
      obtain ⟨j, hj, e⟩ := List.getElem_of_mem hc
      have := hno j (by omega)
      rw [occ_one _ _ _ hj] at this
      rw [← e]
      exact fun h => by rw [h] at this; simp at this
    have e : Lib.cut l [b] = (l, [], false) := by unfold Lib.cut; rw [hi, if_neg (by decide)]
    rw [e, (ahead_none b l hf).1, (ahead_none b l hf).2]
    exact ⟨rfl, rfl⟩
  · have hlt : i < l.length := by
      rcases Nat.lt_or_ge i l.length with h | h
      · exact h
      · unfold Lib.occAt at ho
        rw [List.drop_of_length_le h] at ho
        cases ho
    have hsi : l[i] = b := by rw [occ_one _ _ _ hlt] at ho; exact (beq_iff_eq.1 ho).symm
    have e3 : l = l.take i ++ b :: l.drop (i + 1) := by
      conv => lhs; rw [← List.take_append_drop i l, List.drop_eq_getElem_cons hlt, hsi]
    have hf : ∀ c ∈ l.take i, c ≠ b := by
      intro c hc
      obtain ⟨j, hj, e⟩ := List.getElem_of_mem hc
      have hj' : j < i := by simp at hj; omega
      have := hno j hj'
      rw [occ_one _ _ _ (by omega)] at this
      rw [← e, List.getElem_take]
      exact fun h => by rw [h] at this; simp at this
    have e : Lib.cut l [b] = (l.take i, l.drop (i + 1), true) := by
      unfold Lib.cut
      rw [hi, if_pos (by omega)]
      simp
    obtain ⟨h1, h2⟩ := ahead_hit b (l.take i) (l.drop (i + 1)) hf
    rw [← e3] at h1 h2
    rw [e, h1, h2]
    exact ⟨rfl, rfl⟩

def plusL (l : List UInt8) : List UInt8 := turnL 43 32 l
theorem plusL_len (l : List UInt8) : (plusL l).length = l.length := turnL_len _ _ _
/-- A piece of a query, read. -/
def textG (l : List UInt8) : List UInt8 := dec (plusL l)
def pieceG (p : List UInt8) : List UInt8 × List UInt8 := (textG (aheadL [61] p), textG (behindL [61] p))
def formG (ps : List (List UInt8)) : List (List UInt8 × List UInt8) := (ps.filter fun p => !p.isEmpty).map pieceG
def formL (l : List UInt8) : List (List UInt8 × List UInt8) := if l.length ≤ 600 then formG (cutL 38 l) else []
theorem formL_small (l : List UInt8) (h : l.length ≤ 600) : formL l = formG (cutL 38 l) := if_pos h
theorem formL_great (l : List UInt8) (h : ¬ l.length ≤ 600) : formL l = [] := if_neg h
theorem formG_snoc (ps : List (List UInt8)) (k : Nat) (hk : k < ps.length) : formG (ps.take (k + 1)) = if ps[k] = [] then formG (ps.take k) else formG (ps.take k) ++ [pieceG ps[k]] := by
  unfold formG
  rw [List.take_succ_eq_append_getElem hk, List.filter_append, List.map_append]
  by_cases h : ps[k] = []
  · rw [if_pos h]; simp [h]
  · rw [if_neg h]
    have : (!(ps[k]).isEmpty) = true := by simpa using h
    simp [this]
theorem formG_len (ps : List (List UInt8)) : (formG ps).length ≤ ps.length := by
  unfold formG; rw [List.length_map]; exact List.length_filter_le _ _
theorem formL_len (l : List UInt8) : (formL l).length ≤ 601 := by
  unfold formL
  split
  · have h1 := formG_len (cutL 38 l); have h2 := cutL_len_le 38 l; omega
  · simp
theorem ahead_le (any l : List UInt8) : (aheadL any l).length ≤ l.length := (List.takeWhile_sublist _).length_le
theorem behind_le (any l : List UInt8) : (behindL any l).length ≤ l.length := by
  rw [← behind_drop]; simp
end Go.Proofs.YtjjpbkoglnimaaaDoor
