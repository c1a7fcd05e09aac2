/- Plain facts: a query that was written is read back. -/
import Derived.Test.YtjjpbkoglnimaaaDoorFormTP
import Derived.Test.YtjjpbkoglnimaaaDoorEncR
import Derived.Test.YtjjpbkoglnimaaaDoorFormW
set_option linter.unusedVariables false
namespace Go.Proofs.YtjjpbkoglnimaaaDoor
open Go.RowKit

theorem okB_no (c : UInt8) (h : okB c = true) : c ≠ 43 ∧ c ≠ 37 ∧ c ≠ 61 ∧ c ≠ 38 := by
  unfold okB at h
  rw [decide_eq_true_eq] at h
  refine ⟨fun e => ?_, fun e => ?_, fun e => ?_, fun e => ?_⟩ <;> (subst e; revert h; decide)
theorem fig_four (n : Nat) (h : n < 16) : fig n ≠ 43 ∧ fig n ≠ 37 ∧ fig n ≠ 61 ∧ fig n ≠ 38 := by
  have : n = 0 ∨ n = 1 ∨ n = 2 ∨ n = 3 ∨ n = 4 ∨ n = 5 ∨ n = 6 ∨ n = 7 ∨ n = 8 ∨ n = 9 ∨ n = 10 ∨ n = 11 ∨ n = 12 ∨ n = 13 ∨ n = 14 ∨ n = 15 := by omega
  rcases this with rfl | rfl | rfl | rfl | rfl | rfl | rfl | rfl | rfl | rfl | rfl | rfl | rfl | rfl | rfl | rfl <;> decide
theorem textP_cons (c : UInt8) (l : List UInt8) : textP (c :: l) = formB c ++ textP l := by simp [textP]
theorem plusL_app (a b : List UInt8) : plusL (a ++ b) = plusL a ++ plusL b := by simp [plusL, turnL]
theorem read_back (l : List UInt8) : textG (textP l) = l := by
  unfold textG
  induction l with
  | nil => simp [textP, plusL, turnL, dec]
  | cons c r ih =>
    rw [textP_cons, plusL_app]
    have hc := c.toNat_lt
    unfold formB
    by_cases h32 : c.toNat = 32
    · have he : c = 32 := UInt8.toNat_inj.1 (by show _ = 32; exact h32)
      rw [if_pos h32]
      show dec (32 :: plusL (textP r)) = _
      rw [dec_ne 32 _ (by decide), ih, he]
    · rw [if_neg h32]
      cases ho : okB c with
      | true =>
        have hn := okB_no c ho
        have e : plusL [c] = [c] := by simp [plusL, turnL, hn.1]
        rw [if_pos rfl, e]
        show dec (c :: plusL (textP r)) = _
        rw [dec_ne c _ hn.2.1, ih]
      | false =>
        have f1 := fig_four (c.toNat / 16) (by omega)
        have f2 := fig_four (c.toNat % 16) (by omega)
        have e : plusL [37, fig (c.toNat / 16), fig (c.toNat % 16)] = [37, fig (c.toNat / 16), fig (c.toNat % 16)] := by simp [plusL, turnL, f1.1, f2.1]
        rw [if_neg (by simp), e]
        show dec (37 :: fig (c.toNat / 16) :: fig (c.toNat % 16) :: plusL (textP r)) = _
        rw [dec_esc _ _ _ _ (esc_fig c), ih, hexB_fig]
theorem textP_free (l : List UInt8) : ∀ d ∈ textP l, d ≠ 61 ∧ d ≠ 38 := by
  intro d hd
  obtain ⟨c, _, hd⟩ := List.mem_flatMap.1 hd
  have hc := c.toNat_lt
  unfold formB at hd
  split at hd
  · simp at hd; subst hd; decide
  · split at hd
    · rename_i ho; simp at hd; subst hd; have := okB_no _ ho; exact ⟨this.2.2.1, this.2.2.2⟩
    · simp only [List.mem_cons, List.not_mem_nil, or_false] at hd
      rcases hd with rfl | rfl | rfl
      · decide
      · have := fig_four (c.toNat / 16) (by omega); exact ⟨this.2.2.1, this.2.2.2⟩
      · have := fig_four (c.toNat % 16) (by omega); exact ⟨this.2.2.1, this.2.2.2⟩
theorem piece_one (p : PairL) : pieceG (oneP p) = p := by
  obtain ⟨h1, h2⟩ := ahead_hit 61 (textP p.1) (textP p.2) (fun c hc => (textP_free _ c hc).1)
  unfold pieceG oneP
  rw [h1, h2, read_back, read_back]
theorem oneP_free (p : PairL) : ∀ d ∈ oneP p, d ≠ 38 := by
  intro d hd
  unfold oneP at hd
  rcases List.mem_append.1 hd with hd | hd
  · exact (textP_free _ d hd).2
  · rcases List.mem_cons.1 hd with rfl | hd
    · decide
    · exact (textP_free _ d hd).2
theorem cut_amp (ps : List PairL) (p : PairL) : cutL 38 (oneP p ++ ampP ps) = oneP p :: ps.map oneP := by
  induction ps generalizing p with
  | nil =>
    have e : ampP [] = [] := rfl
    rw [e, List.append_nil]; exact cutL_none 38 _ (oneP_free p)
  | cons q ps ih =>
    have e : ampP (q :: ps) = 38 :: (oneP q ++ ampP ps) := rfl
    rw [e, cutL_hit 38 _ _ (oneP_free p), ih q]; rfl
theorem form_back (ps : List PairL) (h : (formT ps).length ≤ 600) : formL (formT ps) = ps := by
  rw [formL_small _ h]
  cases ps with
  | nil => rfl
  | cons p ps =>
    have e : formT (p :: ps) = oneP p ++ ampP ps := rfl
    rw [e, cut_amp]
    unfold formG
    have hf : ∀ qs : List PairL, (qs.map oneP).filter (fun p => !p.isEmpty) = qs.map oneP := by
      intro qs
      rw [List.filter_eq_self]
      intro x hx
      obtain ⟨q, _, rfl⟩ := List.mem_map.1 hx
      simp [oneP]
    have := hf (p :: ps)
    rw [List.map_cons] at this
    rw [this, ← List.map_cons, List.map_map]
    conv => rhs; rw [← List.map_id (p :: ps)]
    exact List.map_congr_left (fun q _ => piece_one q)

theorem cutL_tot2 (b : UInt8) (l : List UInt8) : tot (cutL b l) + (cutL b l).length = l.length + 1 := by
  induction l with
  | nil => rfl
  | cons x r ih =>
    by_cases h : x = b
    · subst h
      rw [cutL_b]
      have e : tot ([] :: cutL x r) = tot (cutL x r) := by simp [tot]
      rw [e, List.length_cons, List.length_cons]; omega
    · obtain ⟨p, ps, hp⟩ : ∃ p ps, cutL b r = p :: ps := by
        match hh : cutL b r with
        | [] => exact absurd hh (cutL_ne b r)
        | p :: ps => exact ⟨p, ps, rfl⟩
      rw [cutL_c b x r p ps h hp]
      rw [hp] at ih
      simp [tot] at ih ⊢
      omega
theorem pieceG_len (p : List UInt8) : (pieceG p).1.length + (pieceG p).2.length ≤ p.length := by
  have h1 : (pieceG p).1.length ≤ (aheadL [61] p).length := by
    have := dec_le (plusL (aheadL [61] p)); rw [plusL_len] at this; exact this
  have h2 : (pieceG p).2.length ≤ (behindL [61] p).length := by
    have := dec_le (plusL (behindL [61] p)); rw [plusL_len] at this; exact this
  have h3 : (behindL [61] p).length = p.length - (atL [61] p + 1) := by rw [← behind_drop, List.length_drop]
  have h4 : (aheadL [61] p).length = atL [61] p := rfl
  have h5 := atL_le [61] p
  omega
theorem totP_form (ps : List (List UInt8)) : totP (formG ps) ≤ tot ps := by
  induction ps with
  | nil => simp [formG, totP]
  | cons p ps ih =>
    have e2 : tot (p :: ps) = p.length + tot ps := by simp [tot]
    have := pieceG_len p
    by_cases h : p = []
    · subst h
      have e : formG ([] :: ps) = formG ps := by simp [formG]
      rw [e, e2]; omega
    · have e : formG (p :: ps) = pieceG p :: formG ps := by
        have : (!p.isEmpty) = true := by simpa using h
        simp [formG, this]
      have e3 : totP (pieceG p :: formG ps) = (pieceG p).1.length + (pieceG p).2.length + totP (formG ps) := by simp [totP]
      rw [e, e2, e3]; omega
theorem formT_len (ps : List PairL) : (formT ps).length ≤ 3 * totP ps + 2 * ps.length := by
  have := ampP_len ps; unfold formT; rw [List.length_drop]; omega
theorem form_small (l : List UInt8) (h : l.length ≤ 11) : totP (formL l) ≤ 11 ∧ (formL l).length ≤ 12 := by
  rw [formL_small _ (by omega)]
  have h1 := totP_form (cutL 38 l)
  have h2 := cutL_tot2 38 l
  have h3 := formG_len (cutL 38 l)
  have h4 := List.length_pos_iff.2 (cutL_ne 38 l)
  omega
end Go.Proofs.YtjjpbkoglnimaaaDoor
