/- Plain facts: a text in capital letters is read as the same host. -/
import Derived.Test.YtmajfpmlpppnmaaDoorDecP
set_option linter.unusedVariables false
namespace Go.Proofs.YtmajfpmlpppnmaaDoor
open Go.RowKit

def capB (c : UInt8) : UInt8 := if 97 ≤ c.toNat ∧ c.toNat ≤ 122 then c - 32 else c
def capL (l : List UInt8) : List UInt8 := l.map capB
theorem capL_len (l : List UInt8) : (capL l).length = l.length := by simp [capL]
theorem capB_val (c : UInt8) : (97 ≤ c.toNat ∧ c.toNat ≤ 122 ∧ (capB c).toNat = c.toNat - 32) ∨ (¬ (97 ≤ c.toNat ∧ c.toNat ≤ 122) ∧ capB c = c) := by
  by_cases h : 97 ≤ c.toNat ∧ c.toNat ≤ 122
  · left
    refine ⟨h.1, h.2, ?_⟩
    unfold capB
    rw [if_pos h, UInt8.toNat_sub]
    have : (32 : UInt8).toNat = 32 := rfl
    rw [this]; omega
  · right; exact ⟨h, by unfold capB; rw [if_neg h]⟩
theorem hexV_cap (c : UInt8) : hexV (capB c) = hexV c := by
  rcases capB_val c with ⟨h1, h2, h3⟩ | ⟨_, h⟩
  · unfold hexV
    rw [h3]
    repeat' split
    all_goals omega
  · rw [h]
theorem low_cap (c : UInt8) : lowB (capB c) = lowB c := by
  rcases capB_val c with ⟨h1, h2, h3⟩ | ⟨_, h⟩
  · have e1 := lowB_cap (capB c) (by omega) (by omega)
    have e2 := lowB_not c (by omega)
    rw [e2]
    apply UInt8.toNat_inj.1
    omega
  · rw [h]
theorem cap_sign (c : UInt8) : capB c = 37 ↔ c = 37 := by
  rcases capB_val c with ⟨h1, h2, h3⟩ | ⟨_, h⟩
  · constructor
    · intro e; rw [e] at h3; have : (37 : UInt8).toNat = 37 := rfl; omega
    · intro e; subst e; revert h1; decide
  · rw [h]
theorem esc_cap (c a b : UInt8) : esc (capB c) (capB a) (capB b) = esc c a b := by
  unfold esc
  rw [hexV_cap, hexV_cap]
  have : (capB c == 37) = (c == 37) := by rw [Bool.eq_iff_iff, beq_iff_eq, beq_iff_eq]; exact cap_sign c
  simp only [cap_sign]
theorem hexB_cap (a b : UInt8) (ha : 0 ≤ hexV a) (hb : 0 ≤ hexV b) : hexB (capB a) (capB b) = hexB a b := by
  have e1 := hexB_val a b ha hb
  have e2 := hexB_val (capB a) (capB b) (by rw [hexV_cap]; exact ha) (by rw [hexV_cap]; exact hb)
  rw [hexV_cap, hexV_cap] at e2
  exact UInt8.toNat_inj.1 (by omega)
theorem esc_hex (c a b : UInt8) (h : esc c a b = true) : 0 ≤ hexV a ∧ 0 ≤ hexV b := by
  refine ⟨?_, ?_⟩
  · rcases Int.lt_or_le (hexV a) 0 with h' | h'
    · rw [esc_no1 c a b h'] at h; cases h
    · exact h'
  · rcases Int.lt_or_le (hexV b) 0 with h' | h'
    · rw [esc_no2 c a b h'] at h; cases h
    · exact h'
theorem low_dec_cap : ∀ (n : Nat) (l : List UInt8), l.length ≤ n → low (dec (capL l)) = low (dec l) := by
  intro n
  induction n with
  | zero =>
    intro l hl
    have : l = [] := List.length_eq_zero_iff.1 (by omega)
    subst this; rfl
  | succ n ih =>
    intro l hl
    match l, hl with
    | [], _ => rfl
    | c :: r, hl =>
      have hr : r.length ≤ n := by simpa using hl
      have cons : ∀ x : UInt8, ∀ y z : List UInt8, low y = low z → low (capB x :: y) = low (x :: z) := by
        intro x y z h
        show lowB (capB x) :: low y = lowB x :: low z
        rw [low_cap, h]
      by_cases h2 : r.length < 2
      · have e : capL (c :: r) = capB c :: capL r := rfl
        rw [e, dec_short _ _ (by rw [capL_len]; exact h2), dec_short c r h2]
        exact cons c _ _ (ih r hr)
      · match r, h2, hr with
        | a :: b :: r', _, hr =>
          have e : capL (c :: a :: b :: r') = capB c :: capB a :: capB b :: capL r' := rfl
          cases he : esc c a b with
          | true =>
            obtain ⟨ha, hb⟩ := esc_hex c a b he
            rw [e, dec_esc _ _ _ _ (by rw [esc_cap]; exact he), dec_esc c a b r' he, hexB_cap a b ha hb]
            show lowB (hexB a b) :: low (dec (capL r')) = lowB (hexB a b) :: low (dec r')
            rw [ih r' (by simp at hr; omega)]
          | false =>
            rw [e, dec_three _ _ _ _ (by rw [esc_cap]; exact he), dec_three c a b r' he]
            exact cons c _ _ (ih (a :: b :: r') hr)
        | [], h2, _ => exact absurd (by simp) h2
        | [a], h2, _ => exact absurd (by simp) h2
end Go.Proofs.YtmajfpmlpppnmaaDoor
