/- Plain facts on strings.ReplaceAll. Nothing of any program. -/
import Derived.Test.YtjjpbkoglnimaaaDoorCutP
import Derived.Lib.Replace
set_option linter.unusedVariables false
namespace Go.Proofs.YtjjpbkoglnimaaaDoor
open Go.RowKit

theorem rep_nil (old new : List UInt8) (h0 : old ≠ []) (h1 : old ≠ new) : Lib.replaceAll [] old new = [] := by
  have hi : Lib.index [] old = -1 := by
    unfold Lib.index
    rw [if_neg]
    cases old <;> simp_all
  unfold Lib.replaceAll Lib.replace
  rw [if_neg (by simpa using h1)]
  unfold Lib.replaceNum
  rw [if_pos (Or.inl (by decide)), Lib.count_miss hi]
  rfl

theorem rep_k (s old new : List UInt8) (h1 : old ≠ new) : Lib.replaceAll s old new = Lib.replaceK old new (Lib.count s old) s := by
  unfold Lib.replaceAll Lib.replace
  rw [if_neg (by simpa using h1)]
  unfold Lib.replaceNum
  rw [if_pos (Or.inl (by decide))]

theorem rep_hit (s old new : List UInt8) (h0 : old ≠ []) (h1 : old ≠ new) (i : Nat) (hi : Lib.index s old = i) : Lib.replaceAll s old new = s.take i ++ new ++ Lib.replaceAll (s.drop (i + old.length)) old new := by
  rw [rep_k s old new h1, rep_k _ old new h1, Lib.count_hit h0 hi, Nat.add_comm 1, Lib.replaceK_hit old new _ s i hi]
theorem rep_miss (s old new : List UInt8) (h1 : old ≠ new) (hi : Lib.index s old = -1) : Lib.replaceAll s old new = s := by
  rw [rep_k s old new h1, Lib.count_miss hi]; rfl

theorem rep_pre (b : UInt8) (l old new : List UInt8) (h0 : old ≠ []) (h1 : old ≠ new) (hp : old.isPrefixOf (b :: l) = true) : Lib.replaceAll (b :: l) old new = new ++ Lib.replaceAll ((b :: l).drop old.length) old new := by
  have hi : Lib.index (b :: l) old = ((0 : Nat) : Int) := by unfold Lib.index; rw [if_pos hp]; rfl
  rw [rep_hit _ old new h0 h1 0 hi]; simp
theorem rep_not (b : UInt8) (l old new : List UInt8) (h0 : old ≠ []) (h1 : old ≠ new) (hp : old.isPrefixOf (b :: l) = false) : Lib.replaceAll (b :: l) old new = b :: Lib.replaceAll l old new := by
  by_cases hm : Lib.index l old = -1
  · have hi : Lib.index (b :: l) old = -1 := by unfold Lib.index; rw [if_neg (by simp [hp]), if_pos (by simp [hm])]
    rw [rep_miss _ old new h1 hi, rep_miss _ old new h1 hm]
  · have hg := Lib.index_ge l old
    obtain ⟨i, hi⟩ : ∃ i : Nat, Lib.index l old = i := ⟨(Lib.index l old).toNat, by omega⟩
    have hi2 : Lib.index (b :: l) old = ((i + 1 : Nat) : Int) := by
      unfold Lib.index; rw [if_neg (by simp [hp]), if_neg (by simpa using hm), hi]; rfl
    rw [rep_hit _ old new h0 h1 (i + 1) hi2, rep_hit _ old new h0 h1 i hi, show i + 1 + old.length = (i + old.length) + 1 from by omega]
    simp

/-- One byte in the place of another. -/
def turnL (b c : UInt8) (l : List UInt8) : List UInt8 := l.map fun x => if x = b then c else x
theorem rep_one (b c : UInt8) (h : b ≠ c) (l : List UInt8) : Lib.replaceAll l [b] [c] = turnL b c l := by
  induction l with
  | nil => rw [rep_nil _ _ (by simp) (by simpa using h)]; rfl
  | cons x l ih =>
    by_cases hx : x = b
    · subst hx
      rw [rep_pre x l [x] [c] (by simp) (by simpa using h) (by simp [List.isPrefixOf])]
      simp [turnL] at ih ⊢
      exact ih
    · rw [rep_not x l [b] [c] (by simp) (by simpa using h) (by simp [List.isPrefixOf]; exact fun e => hx e.symm), ih]
      simp [turnL, hx]
theorem turnL_len (b c : UInt8) (l : List UInt8) : (turnL b c l).length = l.length := by simp [turnL]

/-- Two figures and a sign for a point. -/
def dotL (l : List UInt8) : List UInt8 := Lib.replaceAll l [37, 50, 101] [46]
theorem dotL_nil : dotL [] = [] := rep_nil _ _ (by simp) (by decide)
theorem dotL_pre (l : List UInt8) : dotL (37 :: 50 :: 101 :: l) = 46 :: dotL l := by
  unfold dotL
  rw [rep_pre 37 (50 :: 101 :: l) [37, 50, 101] [46] (by simp) (by decide) (by simp [List.isPrefixOf])]
  simp
theorem dotL_not (b : UInt8) (l : List UInt8) (h : ∀ r, b :: l ≠ 37 :: 50 :: 101 :: r) : dotL (b :: l) = b :: dotL l := by
  unfold dotL
  refine rep_not b l _ _ (by simp) (by decide) ?_
  rw [Bool.eq_false_iff]
  intro hp
  rw [List.isPrefixOf_iff_prefix] at hp
  obtain ⟨t, ht⟩ := hp
  exact h t ht.symm
theorem dotL_cases (l : List UInt8) : l = [] ∨ (∃ r, l = 37 :: 50 :: 101 :: r ∧ dotL l = 46 :: dotL r) ∨ (∃ b r, l = b :: r ∧ dotL l = b :: dotL r) := by
  match l with
  | [] => exact .inl rfl
  | b :: r =>
    by_cases h : ∃ t, b :: r = 37 :: 50 :: 101 :: t
    · obtain ⟨t, ht⟩ := h
      exact .inr (.inl ⟨t, ht, by rw [ht, dotL_pre]⟩)
    · exact .inr (.inr ⟨b, r, rfl, dotL_not b r (fun t ht => h ⟨t, ht⟩)⟩)
theorem dotL_empty (l : List UInt8) (h : dotL l = []) : l = [] := by
  rcases dotL_cases l with h0 | ⟨r, _, h1⟩ | ⟨b, r, _, h1⟩
  · exact h0
  · rw [h1] at h; cases h
  · rw [h1] at h; cases h
theorem dotL_one (l : List UInt8) : dotL l = [46] ↔ l = [46] ∨ l = [37, 50, 101] := by
  constructor
  · intro h
    rcases dotL_cases l with h0 | ⟨r, hr, h1⟩ | ⟨b, r, hr, h1⟩
    · rw [h0, dotL_nil] at h; cases h
    · rw [h1] at h
      have := dotL_empty r (by simpa using h)
      right; rw [hr, this]
    · rw [h1] at h
      obtain ⟨hb, h2⟩ := List.cons.inj h
      left; rw [hr, hb, dotL_empty r h2]
  · rintro (rfl | rfl)
    · rw [dotL_not _ _ (by intro r; simp), dotL_nil]
    · rw [dotL_pre, dotL_nil]
theorem dotL_two (l : List UInt8) : dotL l = [46, 46] ↔ l = [46, 46] ∨ l = [46, 37, 50, 101] ∨ l = [37, 50, 101, 46] ∨ l = [37, 50, 101, 37, 50, 101] := by
  constructor
  · intro h
    rcases dotL_cases l with h0 | ⟨r, hr, h1⟩ | ⟨b, r, hr, h1⟩
    · rw [h0, dotL_nil] at h; cases h
    · rw [h1] at h
      rcases (dotL_one r).1 (by simpa using h) with h2 | h2 <;> (rw [hr, h2]; simp)
    · rw [h1] at h
      obtain ⟨hb, h2⟩ := List.cons.inj h
      rcases (dotL_one r).1 h2 with h3 | h3 <;> (rw [hr, hb, h3]; simp)
  · rintro (rfl | rfl | rfl | rfl)
    · rw [dotL_not _ _ (by intro r; simp), (dotL_one [46]).2 (by simp)]
    · rw [dotL_not _ _ (by intro r; simp), (dotL_one _).2 (by simp)]
    · rw [dotL_pre, (dotL_one [46]).2 (by simp)]
    · rw [dotL_pre, (dotL_one _).2 (by simp)]
theorem dotL_len (l : List UInt8) : (dotL l).length ≤ l.length := by
  induction hn : l.length using Nat.strongRecOn generalizing l with
  | _ n ih =>
    rcases dotL_cases l with h0 | ⟨r, hr, h1⟩ | ⟨b, r, hr, h1⟩
    · rw [h0, dotL_nil]; simp
    · have := ih r.length (by rw [← hn, hr]; simp; omega) r rfl
      rw [h1, ← hn, hr]; simp; omega
    · have := ih r.length (by rw [← hn, hr]; simp) r rfl
      rw [h1, ← hn, hr]; simp; omega
end Go.Proofs.YtjjpbkoglnimaaaDoor
