/- slices.Insert into a row of texts that the call owns. -/
import Derived.Test.YtbogjajfbchdjaaDoorSurL
import Derived.Test.YtbogjajfbchdjaaDoorBlk
set_option linter.unusedVariables false
set_option linter.unusedSimpArgs false
namespace Go.Proofs.YtbogjajfbchdjaaDoor
open Go.RowKit Go.Shelf

theorem Blk.sets {g : Nat} {t : TypeId} : ∀ (vs : List Value) (o : Nat) {A : Array Value} {w : World}, Blk g A t w → ∃ A', Blk g A' t (w.setCells g o vs) ∧ A'.size = A.size ∧ ∀ j, A'[j]? = if o ≤ j ∧ j < o + vs.length ∧ j < A.size then vs[j - o]? else A[j]?
  | [], o, A, w, h => ⟨A, h, rfl, fun j => by rw [if_neg (by simp; omega)]⟩
  | v :: r, o, A, w, h => by
    obtain ⟨A', h1, h2, h3⟩ := Blk.sets r (o + 1) (show Blk g (A.setIfInBounds o v) t (w.setCell ⟨g, o, none⟩ v) from heap_setCell_same w g o A t v h)
    refine ⟨A', h1, by rw [h2]; simp, fun j => ?_⟩
    rw [h3]
    simp only [Array.size_setIfInBounds, List.length_cons]
    by_cases c1 : o + 1 ≤ j ∧ j < o + 1 + r.length ∧ j < A.size
    · rw [if_pos c1, if_pos (by omega), show j - o = (j - (o + 1)) + 1 by omega, List.getElem?_cons_succ]
    · rw [if_neg c1]
      by_cases c2 : o = j ∧ j < A.size
      · obtain ⟨rfl, h4⟩ := c2
        rw [if_pos (by omega), Nat.sub_self]
        simp [h4]
      · rw [if_neg (by omega), Array.getElem?_setIfInBounds]
        by_cases c3 : o = j
        · rw [if_pos c3, if_neg (by omega), Array.getElem?_eq_none (by omega)]
        · rw [if_neg c3]
theorem put_mid (cs : List Value) (x : Value) (k : Nat) (A : Array Value) (hk : k ≤ cs.length) (hn : cs.length + 1 ≤ A.size)
    (hA : ∀ j, j ≤ cs.length → A[j]? = if j = k then some x else if j < k then cs[j]? else cs[j - 1]?) : A.toList.take (cs.length + 1) = cs.take k ++ [x] ++ cs.drop k := by
  apply List.ext_getElem?
  intro j
  by_cases hj : j < cs.length + 1
  · rw [List.getElem?_take_of_lt hj, Array.getElem?_toList, hA j (by omega)]
    rcases Nat.lt_trichotomy j k with c | c | c
    · rw [if_neg (by omega), if_pos c, List.append_assoc, List.getElem?_append_left (by rw [List.length_take]; omega), List.getElem?_take_of_lt c]
    · rw [if_pos c, List.append_assoc, List.getElem?_append_right (by rw [List.length_take]; omega), List.length_take, show j - min k cs.length = 0 by omega]
      rfl
    · rw [if_neg (by omega), if_neg (by omega), List.getElem?_append_right (by simp; omega), List.length_append, List.length_take, List.length_singleton, List.getElem?_drop]
      congr 1; omega
  · rw [List.getElem?_eq_none (by rw [List.length_take]; omega), List.getElem?_eq_none (by simp; omega)]
theorem map_mid (ss : List (List UInt8)) (h : List UInt8) (k : Nat) : (ss.map fun p => Value.string (mk p)).take k ++ [Value.string (mk h)] ++ (ss.map fun p => Value.string (mk p)).drop k = (ss.take k ++ [h] ++ ss.drop k).map fun p => Value.string (mk p) := by
  simp [List.map_take, List.map_drop]
theorem mid_len (ss : List (List UInt8)) (h : List UInt8) (k : Nat) (hk : k ≤ ss.length) : (ss.take k ++ [h] ++ ss.drop k).length = ss.length + 1 := by simp; omega
theorem owns_mid {B g c k : Nat} {ss : List (List UInt8)} {h : List UInt8} {A : Array Value} {w : World} (hB : B ≤ g) (hb : Blk g A 9 w) (hc : A.size = c) (hn : ss.length + 1 ≤ c) (hm : c ≤ maxLen) (hk : k ≤ ss.length)
    (hA : ∀ j, j ≤ ss.length → A[j]? = if j = k then some (Value.string (mk h)) else if j < k then (ss.map fun p => Value.string (mk p))[j]? else (ss.map fun p => Value.string (mk p))[j - 1]?) :
    OwnS B (.slice (some ⟨g, 0, none⟩) (ss.length + 1) c) (ss.take k ++ [h] ++ ss.drop k) w := by
  have hl := mid_len ss h k hk
  have e := put_mid (ss.map fun p => Value.string (mk p)) (.string (mk h)) k A (by simpa using hk) (by simp; omega) (by simpa using hA)
  rw [map_mid] at e
  refine ⟨by simp, .inr ⟨g, c, A, by rw [hl], hB, hb, by omega, hm, by omega, ?_⟩⟩
  rw [hl, Nat.mul_one]
  simpa using e
theorem below_sets {B g : Nat} {a : World} (hg : B ≤ g) : ∀ (vs : List Value) (o : Nat) {w : World}, Below B a w → Below B a (w.setCells g o vs)
  | [], _, _, h => h
  | v :: r, o, w, h => below_sets hg r (o + 1) (h.setCell (p := ⟨g, o, none⟩) hg v)
end Go.Proofs.YtbogjajfbchdjaaDoor
