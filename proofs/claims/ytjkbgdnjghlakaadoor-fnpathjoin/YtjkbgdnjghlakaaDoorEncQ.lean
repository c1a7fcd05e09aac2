/- Plain facts: what is written as figures is read as what it was; written again it is the same; all of it can be seen. -/
import Derived.Test.YtjkbgdnjghlakaaDoorEncS
set_option linter.unusedVariables false
namespace Go.Proofs.YtjkbgdnjghlakaaDoor
open Go.RowKit

theorem hexV_fig (n : Nat) (h : n < 16) : hexV (fig n) = (n : Int) := by
  match n, h with
  | 0, _ => decide
  | 1, _ => decide
  | 2, _ => decide
  | 3, _ => decide
  | 4, _ => decide
  | 5, _ => decide
  | 6, _ => decide
  | 7, _ => decide
  | 8, _ => decide
  | 9, _ => decide
  | 10, _ => decide
  | 11, _ => decide
  | 12, _ => decide
  | 13, _ => decide
  | 14, _ => decide
  | 15, _ => decide
  | n + 16, h => exact absurd h (by omega)

theorem hexB_fig (c : UInt8) : hexB (fig (c.toNat / 16)) (fig (c.toNat % 16)) = c := by
  have hc := c.toNat_lt
  have h1 : c.toNat / 16 < 16 := by omega
  have h2 : c.toNat % 16 < 16 := by omega
  have e1 := hexV_fig _ h1
  have e2 := hexV_fig _ h2
  have := hexB_val (fig (c.toNat / 16)) (fig (c.toNat % 16)) (by omega) (by omega)
  rw [e1, e2] at this
  exact UInt8.toNat_inj.1 (by omega)

theorem esc_fig (c : UInt8) : esc 37 (fig (c.toNat / 16)) (fig (c.toNat % 16)) = true := by
  have hc := c.toNat_lt
  exact esc_yes _ _ _ rfl (by rw [hexV_fig _ (by omega)]; omega) (by rw [hexV_fig _ (by omega)]; omega)

/-- The list begins with two figures. -/
def two : List UInt8 → Bool
  | a :: b :: _ => decide (0 ≤ hexV a) && decide (0 ≤ hexV b)
  | _ => false

theorem dec_two (m : List UInt8) (h : two m = false) : dec (37 :: m) = 37 :: dec m := by
  match m, h with
  | [], _ => simp [dec]
  | [a], _ => simp [dec]
  | a :: b :: r, h =>
    refine dec_three 37 a b r ?_
    simp only [two] at h
    unfold esc
    simpa using h
theorem dec_ne (c : UInt8) (m : List UInt8) (h : c ≠ 37) : dec (c :: m) = c :: dec m := by
  match m with
  | [] => simp [dec]
  | [a] => simp [dec]
  | a :: b :: r => exact dec_three c a b r (esc_no0 c a b h)

theorem enc_cons (P : UInt8 → Bool) (c : UInt8) (l : List UInt8) : enc P (c :: l) = encB P c ++ enc P l := by simp [enc]

theorem two_enc (P : UInt8 → Bool) (h37 : P 37 = false) (hhex : ∀ a, 0 ≤ hexV a → P a = false) (r : List UInt8) : two (enc P r) = two r := by
  have n37 : hexV 37 = -1 := by decide
  match r with
  | [] => rfl
  | a :: r1 =>
    rw [enc_cons P]
    cases ha : P a with
    | true =>
      have hneg : ¬ 0 ≤ hexV a := fun h => by rw [hhex a h] at ha; cases ha
      rw [encB_yes P a ha]
      match r1 with
      | [] => simp [two, n37]
      | b :: r2 => simp [two, n37, hneg]
    | false =>
      rw [encB_no P a ha]
      match r1 with
      | [] => simp [two, enc]
      | b :: r2 =>
        rw [enc_cons P]
        cases hb : P b with
        | true =>
          have hneg : ¬ 0 ≤ hexV b := fun h => by rw [hhex b h] at hb; cases hb
          rw [encB_yes P b hb]
          simp [two, n37, hneg]
        | false =>
          rw [encB_no P b hb]
          simp [two]

theorem dec_enc_n (P : UInt8 → Bool) (h37 : P 37 = false) (hhex : ∀ a, 0 ≤ hexV a → P a = false) : ∀ (n : Nat) (l : List UInt8), l.length ≤ n → dec (enc P l) = dec l
  | _, [], _ => rfl
  | 0, c :: r, h => by simp at h
  | n + 1, c :: r, h => by
    simp only [List.length_cons] at h
    have ih := dec_enc_n P h37 hhex n r (by omega)
    rw [enc_cons P]
    cases hc : P c with
    | true =>
      have hne : c ≠ 37 := fun e => by rw [e, h37] at hc; cases hc
      rw [encB_yes P c hc]
      show dec (37 :: fig (c.toNat / 16) :: fig (c.toNat % 16) :: enc P r) = _
      rw [dec_esc _ _ _ _ (esc_fig c), hexB_fig, ih, dec_ne c r hne]
    | false =>
      rw [encB_no P c hc]
      show dec (c :: enc P r) = _
      by_cases hne : c = 37
      · subst hne
        cases ht : two r with
        | false => rw [dec_two _ (by rw [two_enc P h37 hhex]; exact ht), dec_two r ht, ih]
        | true =>
          match r, ht with
          | a :: b :: r', ht =>
            simp only [two, Bool.and_eq_true, decide_eq_true_eq] at ht
            rw [enc_cons P, encB_no P a (hhex a ht.1), enc_cons P, encB_no P b (hhex b ht.2)]
            show dec (37 :: a :: b :: enc P r') = _
            rw [dec_esc _ _ _ _ (esc_yes 37 a b rfl ht.1 ht.2), dec_esc _ _ _ _ (esc_yes 37 a b rfl ht.1 ht.2)]
            rw [dec_enc_n P h37 hhex n r' (by simp only [List.length_cons] at h; omega)]
      · rw [dec_ne c _ hne, dec_ne c r hne, ih]
theorem dec_enc (P : UInt8 → Bool) (h37 : P 37 = false) (hhex : ∀ a, 0 ≤ hexV a → P a = false) (l : List UInt8) : dec (enc P l) = dec l := dec_enc_n P h37 hhex l.length l (Nat.le_refl _)

theorem encB_out (P : UInt8 → Bool) (h37 : P 37 = false) (hhex : ∀ a, 0 ≤ hexV a → P a = false) (c d : UInt8) (h : d ∈ encB P c) : P d = false := by
  cases hc : P c with
  | true =>
    rw [encB_yes P c hc] at h
    have hcl := c.toNat_lt
    simp only [List.mem_cons, List.not_mem_nil, or_false] at h
    rcases h with rfl | rfl | rfl
    · exact h37
    · exact hhex _ (by rw [hexV_fig _ (by omega)]; omega)
    · exact hhex _ (by rw [hexV_fig _ (by omega)]; omega)
  | false =>
    rw [encB_no P c hc] at h
    simp only [List.mem_cons, List.not_mem_nil, or_false] at h
    rw [h]; exact hc
theorem enc_out (P : UInt8 → Bool) (h37 : P 37 = false) (hhex : ∀ a, 0 ≤ hexV a → P a = false) (l : List UInt8) (d : UInt8) (h : d ∈ enc P l) : P d = false := by
  unfold enc at h
  rw [List.mem_flatMap] at h
  obtain ⟨c, _, hd⟩ := h
  exact encB_out P h37 hhex c d hd
theorem enc_same (P : UInt8 → Bool) (l : List UInt8) (h : ∀ d ∈ l, P d = false) : enc P l = l := by
  induction l with
  | nil => rfl
  | cons c r ih =>
    have e : enc P (c :: r) = encB P c ++ enc P r := by simp [enc]
    rw [e, encB_no P c (h c (by simp)), ih (fun d hd => h d (by simp [hd]))]; rfl
theorem enc_enc (P : UInt8 → Bool) (h37 : P 37 = false) (hhex : ∀ a, 0 ≤ hexV a → P a = false) (l : List UInt8) : enc P (enc P l) = enc P l := enc_same P _ (enc_out P h37 hhex l)
theorem enc_ge (P : UInt8 → Bool) (l : List UInt8) : l.length ≤ (enc P l).length := by
  induction l with
  | nil => simp
  | cons c r ih =>
    have e : enc P (c :: r) = encB P c ++ enc P r := by simp [enc]
    have : 1 ≤ (encB P c).length := by unfold encB; split <;> simp
    rw [e, List.length_append, List.length_cons]; omega

theorem set_hex (set : Int) (a : UInt8) (h : a ∈ setB set) : hexV a < 0 := by
  unfold setB at h
  (repeat' split at h) <;> simp only [List.mem_cons, List.not_mem_nil, or_false] at h
  · rcases h with rfl | rfl | rfl | rfl | rfl | rfl | rfl | rfl | rfl <;> decide
  · rcases h with rfl | rfl | rfl | rfl | rfl | rfl <;> decide
  · rcases h with rfl | rfl | rfl | rfl | rfl <;> decide
  · rcases h with rfl | rfl | rfl | rfl | rfl | rfl | rfl | rfl | rfl | rfl | rfl | rfl | rfl | rfl | rfl | rfl | rfl | rfl | rfl <;> decide
  · subst h; decide

theorem isIn_hex (set : Int) (a : UInt8) (h : 0 ≤ hexV a) : isIn set a = false := by
  have hr : 48 ≤ a.toNat ∧ a.toNat ≤ 102 := by
    unfold hexV at h
    (repeat' split at h) <;> omega
  rw [isIn_mid set a (by omega) (by omega)]
  unfold hasB
  rw [Bool.eq_false_iff]
  intro hc
  rw [List.contains_iff_mem] at hc
  have := set_hex set a hc
  omega
theorem isIn_sign (set : Int) : isIn set 37 = false := by
  rw [isIn_mid set 37 (by decide) (by decide)]
  unfold setB
  (repeat' split) <;> decide
theorem isIn_seen (set : Int) (c : UInt8) (h : isIn set c = false) : 32 ≤ c.toNat ∧ c.toNat ≤ 126 := by
  constructor
  · rcases Nat.lt_or_ge c.toNat 32 with h' | h'
    · rw [isIn_low set c (by omega)] at h; cases h
    · exact h'
  · rcases Nat.lt_or_ge 126 c.toNat with h' | h'
    · rw [isIn_high set c (by omega)] at h; cases h
    · exact h'
end Go.Proofs.YtjkbgdnjghlakaaDoor
