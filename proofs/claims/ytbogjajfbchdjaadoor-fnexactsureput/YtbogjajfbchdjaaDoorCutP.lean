/- Plain facts: a text cut at a byte; strings.Split at one point gives the same pieces. -/
import Derived.Lib.CutLaws
import Derived.Lib.SplitLaws
import Derived.Lib.CountLaws
import Derived.Lib.IndexMore
import Derived.Lib.Split
import Derived.WalkKit
set_option linter.unusedVariables false
namespace Go.Proofs.YtbogjajfbchdjaaDoor
open Go.RowKit

/-- A list of bytes as a text. -/
def mk (l : List UInt8) : ByteArray := ⟨l.toArray⟩
theorem mk_list (s : ByteArray) : mk s.data.toList = s := by cases s; simp [mk]
theorem mk_data (l : List UInt8) : (mk l).data.toList = l := rfl
theorem mk_size (l : List UInt8) : (mk l).size = l.length := by show l.toArray.size = _; simp

/-- The pieces of a list between the bytes b. -/
def cutL (b : UInt8) : List UInt8 → List (List UInt8)
  | [] => [[]]
  | c :: r => if c = b then [] :: cutL b r else match cutL b r with
    | p :: ps => (c :: p) :: ps
    | [] => [[c]]

theorem cutL_ne (b : UInt8) (l : List UInt8) : cutL b l ≠ [] := by
  cases l with
  | nil => simp [cutL]
  | cons c r =>
    unfold cutL
    split
    · simp
    · split <;> simp

theorem cutL_b (b : UInt8) (r : List UInt8) : cutL b (b :: r) = [] :: cutL b r := by rw [cutL, if_pos rfl]
theorem cutL_c (b c : UInt8) (r p : List UInt8) (ps : List (List UInt8)) (h : c ≠ b) (hp : cutL b r = p :: ps) : cutL b (c :: r) = (c :: p) :: ps := by rw [cutL, if_neg h, hp]

theorem cutL_none (b : UInt8) (l : List UInt8) (h : ∀ c ∈ l, c ≠ b) : cutL b l = [l] := by
  induction l with
  | nil => rfl
  | cons c r ih => exact cutL_c b c r r [] (h c (by simp)) (ih (fun x hx => h x (by simp [hx])))

theorem cutL_hit (b : UInt8) (l r : List UInt8) (h : ∀ c ∈ l, c ≠ b) : cutL b (l ++ b :: r) = l :: cutL b r := by
  induction l with
  | nil => exact cutL_b b r
  | cons c l ih => exact cutL_c b c (l ++ b :: r) l (cutL b r) (h c (by simp)) (ih (fun x hx => h x (by simp [hx])))

theorem occ_one (s : List UInt8) (b : UInt8) (j : Nat) (hj : j < s.length) : Lib.occAt s [b] j = (b == s[j]) := by
  unfold Lib.occAt
  rw [List.drop_eq_getElem_cons hj]
  simp [List.isPrefixOf]

theorem split_cut_n (b : UInt8) : ∀ (n : Nat) (s : ByteArray), s.size ≤ n → Lib.splitB (mk [b]) 0 (Lib.countB s (mk [b])) s = (cutL b s.data.toList).map mk := by
  intro n
  induction n with
  | zero =>
    intro s hs
    have hl : s.data.toList.length = s.size := by simp
    have h0 : s.data.toList = [] := List.length_eq_zero_iff.1 (by omega)
    have hi : Lib.indexB s (mk [b]) = -1 := by
      show Lib.index s.data.toList [b] = -1
      rw [h0]; rfl
    rw [Lib.countB_miss s _ hi, Lib.splitB_zero, h0]
    show [s] = [mk []]
    rw [← h0, mk_list]
  | succ n ih =>
    intro s hs
    have hl : s.data.toList.length = s.size := by simp
    rcases Lib.index_spec s.data.toList [b] with ⟨hi, hno⟩ | ⟨i, hi, hil, ho, hno⟩
    · have hi' : Lib.indexB s (mk [b]) = -1 := hi
      rw [Lib.countB_miss s _ hi', Lib.splitB_zero, cutL_none b s.data.toList]
      · show [s] = [mk s.data.toList]
        rw [mk_list]
      · intro c hc
        obtain ⟨j, hj, e⟩ := List.getElem_of_mem hc
        have := hno j (by omega)
        rw [occ_one _ _ _ hj] at this
        rw [← e]
        exact fun h => by rw [h] at this; simp at this
    · have hi' : Lib.indexB s (mk [b]) = i := hi
      have hlt : i < s.data.toList.length := by
        rcases Nat.lt_or_ge i s.data.toList.length with h | h
        · exact h
        · have : i = s.data.toList.length := by omega
          unfold Lib.occAt at ho
          rw [List.drop_of_length_le h] at ho
          cases ho
      have hsi : s.data.toList[i] = b := by
        rw [occ_one _ _ _ hlt] at ho
        exact (beq_iff_eq.1 ho).symm
      rw [Lib.countB_hit s (mk [b]) i (by rw [mk_size]; simp) hi', Nat.add_comm 1, Lib.splitB_hit _ _ _ _ i hi']
      have hsz : (mk [b]).size = 1 := by rw [mk_size]; rfl
      rw [hsz, ih (s.extract (i + 1) s.size) (by rw [ByteArray.size_extract]; omega)]
      have e1 : s.extract 0 (i + 0) = mk (s.data.toList.take i) := by
        apply ByteArray.ext
        apply Array.ext'
        simp [mk, ByteArray.data_extract]
      have e2 : (s.extract (i + 1) s.size).data.toList = s.data.toList.drop (i + 1) := by
        simp only [ByteArray.data_extract, Array.toList_extract, List.extract_eq_take_drop]
        rw [List.take_of_length_le]
        simp
      have e3 : s.data.toList = s.data.toList.take i ++ b :: s.data.toList.drop (i + 1) := by
        conv => lhs; rw [← List.take_append_drop i s.data.toList, List.drop_eq_getElem_cons hlt, hsi]
      rw [e1, e2]
      conv => rhs; rw [e3]
      rw [cutL_hit b _ _ (by
        intro c hc
        obtain ⟨j, hj, e⟩ := List.getElem_of_mem hc
        have hj' : j < i := by simp at hj; omega
        have := hno j hj'
        rw [occ_one _ _ _ (by omega)] at this
        rw [← e, List.getElem_take]
        exact fun h => by rw [h] at this; simp at this)]
      rfl
theorem split_cut (b : UInt8) (s : ByteArray) : Lib.splitB (mk [b]) 0 (Lib.countB s (mk [b])) s = (cutL b s.data.toList).map mk := split_cut_n b s.size s (Nat.le_refl _)

theorem cut_len_n (b : UInt8) : ∀ (n : Nat) (s : ByteArray), s.size ≤ n → (cutL b s.data.toList).length = Lib.countB s (mk [b]) + 1 := by
  intro n
  induction n with
  | zero =>
    intro s hs
    have hl : s.data.toList.length = s.size := by simp
    have h0 : s.data.toList = [] := List.length_eq_zero_iff.1 (by omega)
    have hi : Lib.indexB s (mk [b]) = -1 := by
      show Lib.index s.data.toList [b] = -1
      rw [h0]; rfl
    rw [Lib.countB_miss s _ hi, h0]; rfl
  | succ n ih =>
    intro s hs
    have hl : s.data.toList.length = s.size := by simp
    rcases Lib.index_spec s.data.toList [b] with ⟨hi, hno⟩ | ⟨i, hi, hil, ho, hno⟩
    · have hi' : Lib.indexB s (mk [b]) = -1 := hi
      rw [Lib.countB_miss s _ hi', cutL_none b s.data.toList]
      · rfl
      · intro c hc
        obtain ⟨j, hj, e⟩ := List.getElem_of_mem hc
        have := hno j (by omega)
        rw [occ_one _ _ _ hj] at this
        rw [← e]
        exact fun h => by rw [h] at this; simp at this
    · have hi' : Lib.indexB s (mk [b]) = i := hi
      have hlt : i < s.data.toList.length := by
        rcases Nat.lt_or_ge i s.data.toList.length with h | h
        · exact h
        · unfold Lib.occAt at ho
          rw [List.drop_of_length_le h] at ho
          cases ho
      have hsi : s.data.toList[i] = b := by
        rw [occ_one _ _ _ hlt] at ho
        exact (beq_iff_eq.1 ho).symm
      rw [Lib.countB_hit s (mk [b]) i (by rw [mk_size]; simp) hi']
      have hsz : (mk [b]).size = 1 := by rw [mk_size]; rfl
      rw [hsz]
      have h1 := ih (s.extract (i + 1) s.size) (by rw [ByteArray.size_extract]; omega)
      have e2 : (s.extract (i + 1) s.size).data.toList = s.data.toList.drop (i + 1) := by
        simp only [ByteArray.data_extract, Array.toList_extract, List.extract_eq_take_drop]
        rw [List.take_of_length_le]
        simp
      have e3 : s.data.toList = s.data.toList.take i ++ b :: s.data.toList.drop (i + 1) := by
        conv => lhs; rw [← List.take_append_drop i s.data.toList, List.drop_eq_getElem_cons hlt, hsi]
      have e4 : cutL b s.data.toList = s.data.toList.take i :: cutL b (s.data.toList.drop (i + 1)) := by
        conv => lhs; rw [e3]
        exact cutL_hit b _ _ (by
          intro c hc
          obtain ⟨j, hj, e⟩ := List.getElem_of_mem hc
          have hj' : j < i := by simp at hj; omega
          have := hno j hj'
          rw [occ_one _ _ _ (by omega)] at this
          rw [← e, List.getElem_take]
          exact fun h => by rw [h] at this; simp at this)
      rw [e4, List.length_cons, ← e2, h1]
      omega
theorem cut_len (b : UInt8) (s : ByteArray) : (cutL b s.data.toList).length = Lib.countB s (mk [b]) + 1 := cut_len_n b s.size s (Nat.le_refl _)

theorem splitB_length (sep : ByteArray) : ∀ (k : Nat) (s : ByteArray), (Lib.splitB sep 0 k s).length ≤ k + 1 := by
  intro k
  induction k with
  | zero => intro s; rw [Lib.splitB_zero]; simp
  | succ k ih =>
    intro s
    rcases Lib.indexB_cases s sep with h | ⟨i, h, _⟩
    · rw [Lib.splitB_miss _ _ _ _ h]; simp
    · rw [Lib.splitB_hit _ _ _ _ i h, List.length_cons]
      have := ih (s.extract (i + sep.size) s.size)
      omega

/-- The parts of a text: those between its points, without an empty last one, if there are several. -/
def partsL (l : List UInt8) : List (List UInt8) := if 1 < (cutL 46 l).length ∧ (cutL 46 l).getLast (cutL_ne 46 l) = [] then (cutL 46 l).dropLast else cutL 46 l
theorem partsL_ne (l : List UInt8) : 1 ≤ (partsL l).length := by
  unfold partsL
  have := List.length_pos_iff.2 (cutL_ne 46 l)
  split
  · rw [List.length_dropLast]; omega
  · omega
theorem partsL_drop (l : List UInt8) (h1 : 1 < (cutL 46 l).length) (h2 : (cutL 46 l)[(cutL 46 l).length - 1]? = some []) : partsL l = (cutL 46 l).dropLast := by
  have h3 : (cutL 46 l).getLast (cutL_ne 46 l) = [] := by
    rw [List.getLast_eq_getElem]
    rw [List.getElem?_eq_getElem (by omega)] at h2
    exact Option.some.inj h2
  unfold partsL
  rw [if_pos ⟨h1, h3⟩]
theorem partsL_keep (l : List UInt8) (h : (cutL 46 l).length ≤ 1 ∨ (cutL 46 l)[(cutL 46 l).length - 1]? ≠ some []) : partsL l = cutL 46 l := by
  unfold partsL
  rw [if_neg]
  rintro ⟨h1, h2⟩
  rcases h with h | h
  · omega
  · rw [List.getLast_eq_getElem] at h2
    rw [List.getElem?_eq_getElem (by omega)] at h
    exact h (by rw [h2])

theorem cutL_len_le (b : UInt8) (l : List UInt8) : (cutL b l).length ≤ l.length + 1 := by
  induction l with
  | nil => simp [cutL]
  | cons c r ih =>
    by_cases h : c = b
    · subst h; rw [cutL_b, List.length_cons, List.length_cons]; omega
    · obtain ⟨p, ps, hp⟩ : ∃ p ps, cutL b r = p :: ps := by
        match hh : cutL b r with
        | [] => exact absurd hh (cutL_ne b r)
        | p :: ps => exact ⟨p, ps, rfl⟩
      rw [cutL_c b c r p ps h hp]
      rw [hp] at ih
      rw [List.length_cons] at ih ⊢
      rw [List.length_cons]; omega
theorem cutL_mem_le (b : UInt8) (l : List UInt8) : ∀ q ∈ cutL b l, q.length ≤ l.length := by
  induction l with
  | nil => intro q hq; simp [cutL] at hq; simp [hq]
  | cons c r ih =>
    intro q hq
    by_cases h : c = b
    · subst h
      rw [cutL_b] at hq
      rcases List.mem_cons.1 hq with rfl | hq
      · simp
      · have := ih q hq; simp; omega
    · obtain ⟨p, ps, hp⟩ : ∃ p ps, cutL b r = p :: ps := by
        match hh : cutL b r with
        | [] => exact absurd hh (cutL_ne b r)
        | p :: ps => exact ⟨p, ps, rfl⟩
      rw [cutL_c b c r p ps h hp] at hq
      rw [hp] at ih
      rcases List.mem_cons.1 hq with rfl | hq
      · have := ih p (by simp); simp; omega
      · have := ih q (by simp [hq]); simp; omega
theorem partsL_mem_le (l : List UInt8) : ∀ q ∈ partsL l, q.length ≤ l.length := by
  intro q hq
  unfold partsL at hq
  split at hq
  · exact cutL_mem_le 46 l q (List.dropLast_subset _ hq)
  · exact cutL_mem_le 46 l q hq
theorem partsL_len_le (l : List UInt8) : (partsL l).length ≤ l.length + 1 := by
  have := cutL_len_le 46 l
  unfold partsL
  split
  · rw [List.length_dropLast]; omega
  · exact this
end Go.Proofs.YtbogjajfbchdjaaDoor
