/- Plain facts on paths: what is read is read back; a step back; a piece behind. -/
import Derived.Test.YtjkbgdnjghlakaaDoorPutP
import Derived.Test.YtjkbgdnjghlakaaDoorPathP
import Derived.Test.YtjkbgdnjghlakaaDoorEncQ
set_option linter.unusedVariables false
namespace Go.Proofs.YtjkbgdnjghlakaaDoor
open Go.RowKit

/-- A piece that stays as it is. -/
def fixP (q : List UInt8) : Prop := dots q = 0 ∧ encT q = q ∧ (∀ c ∈ q, c ≠ 47) ∧ (∀ c ∈ q, c ≠ 92)
theorem fix_nil : fixP [] := ⟨by decide, rfl, by simp, by simp⟩

theorem cutL_free (b : UInt8) (l : List UInt8) : ∀ q ∈ cutL b l, ∀ c ∈ q, c ≠ b ∧ c ∈ l := by
  induction l with
  | nil => intro q hq c hc; simp [cutL] at hq; subst hq; simp at hc
  | cons x r ih =>
    intro q hq c hc
    by_cases h : x = b
    · subst h
      rw [cutL_b] at hq
      rcases List.mem_cons.1 hq with rfl | hq
      · simp at hc
      · have := ih q hq c hc; exact ⟨this.1, by simp [this.2]⟩
    · obtain ⟨p, ps, hp⟩ : ∃ p ps, cutL b r = p :: ps := by
        match hh : cutL b r with
        | [] => exact absurd hh (cutL_ne b r)
        | p :: ps => exact ⟨p, ps, rfl⟩
      rw [cutL_c b x r p ps h hp] at hq
      rcases List.mem_cons.1 hq with rfl | hq
      · rcases List.mem_cons.1 hc with rfl | hc
        · exact ⟨h, by simp⟩
        · have := ih p (by rw [hp]; simp) c hc; exact ⟨this.1, by simp [this.2]⟩
      · have := ih q (by rw [hp]; simp [hq]) c hc; exact ⟨this.1, by simp [this.2]⟩
theorem cutL_app (b : UInt8) (l t : List UInt8) : cutL b (l ++ b :: t) = cutL b l ++ cutL b t := by
  induction l with
  | nil => rw [List.nil_append, cutL_b]; rfl
  | cons x r ih =>
    by_cases h : x = b
    · subst h; rw [List.cons_append, cutL_b, cutL_b, ih]; rfl
    · obtain ⟨p, ps, hp⟩ : ∃ p ps, cutL b r = p :: ps := by
        match hh : cutL b r with
        | [] => exact absurd hh (cutL_ne b r)
        | p :: ps => exact ⟨p, ps, rfl⟩
      rw [List.cons_append, cutL_c b x r p ps h hp, cutL_c b x (r ++ b :: t) p (ps ++ cutL b t) h (by rw [ih, hp]; rfl)]; rfl
theorem cutL_tot (b : UInt8) (l : List UInt8) : tot (cutL b l) + (cutL b l).length = l.length + 1 := by
  induction l with
  | nil => rfl
  | cons x r ih =>
    by_cases h : x = b
    · subst h
      rw [cutL_b]
      have e : tot ([] :: cutL x r) = tot (cutL x r) := by simp [tot]
      rw [e, List.length_cons, List.length_cons]; omega
    · obtain ⟨p, ps, hp⟩ : ∃ p ps, cutL b r = p :: ps := by
        match hh : cutL b r with
        | [] => exact absurd hh (cutL_ne b r)
        | p :: ps => exact ⟨p, ps, rfl⟩
      rw [cutL_c b x r p ps h hp]
      rw [hp] at ih
      simp [tot] at ih ⊢
      omega

theorem slashL_free (l : List UInt8) : ∀ c ∈ slashL l, c ≠ 92 := by
  intro c hc
  obtain ⟨x, _, rfl⟩ := List.mem_map.1 hc
  split
  · decide
  · assumption
theorem slashL_same (l : List UInt8) (h : ∀ c ∈ l, c ≠ 92) : slashL l = l := by
  unfold slashL turnL
  conv => rhs; rw [← List.map_id l]
  exact List.map_congr_left (fun c hc => by rw [if_neg (h c hc)]; rfl)
theorem slashL_app (a b : List UInt8) : slashL (a ++ b) = slashL a ++ slashL b := by simp [slashL, turnL]
theorem trim1_mem (l : List UInt8) : ∀ c ∈ trim1 l, c ∈ l := by
  intro c hc; unfold trim1 at hc; split at hc
  · exact List.mem_of_mem_tail hc
  · exact hc
theorem trim1_app (a b : List UInt8) (h : a ≠ []) : trim1 (a ++ b) = trim1 a ++ b := by
  cases a with
  | nil => exact absurd rfl h
  | cons x r => unfold trim1; by_cases hx : x = 47 <;> simp [hx]
theorem pieces_free (l : List UInt8) : ∀ q ∈ piecesL l, (∀ c ∈ q, c ≠ 47) ∧ (∀ c ∈ q, c ≠ 92) := by
  intro q hq
  exact ⟨fun c hc => (cutL_free 47 _ q hq c hc).1, fun c hc => slashL_free l c (trim1_mem _ c (cutL_free 47 _ q hq c hc).2)⟩

theorem fig_cases (n : Nat) (h : n < 16) : fig n ≠ 47 ∧ fig n ≠ 92 ∧ (lowB (fig n) = 50 → n = 2) ∧ (lowB (fig n) = 101 → n = 14) := by
  have : n = 0 ∨ n = 1 ∨ n = 2 ∨ n = 3 ∨ n = 4 ∨ n = 5 ∨ n = 6 ∨ n = 7 ∨ n = 8 ∨ n = 9 ∨ n = 10 ∨ n = 11 ∨ n = 12 ∨ n = 13 ∨ n = 14 ∨ n = 15 := by omega
  rcases this with rfl | rfl | rfl | rfl | rfl | rfl | rfl | rfl | rfl | rfl | rfl | rfl | rfl | rfl | rfl | rfl <;> decide
theorem encT_free (p : List UInt8) (h1 : ∀ c ∈ p, c ≠ 47) (h2 : ∀ c ∈ p, c ≠ 92) : (∀ c ∈ encT p, c ≠ 47) ∧ (∀ c ∈ encT p, c ≠ 92) := by
  have key : ∀ c ∈ encT p, c ≠ 47 ∧ c ≠ 92 := by
    intro c hc
    obtain ⟨x, hx, hc⟩ := List.mem_flatMap.1 hc
    have hb := x.toNat_lt
    unfold encB at hc
    split at hc
    · simp only [List.mem_cons, List.not_mem_nil, or_false] at hc
      rcases hc with rfl | rfl | rfl
      · decide
      · have := fig_cases (x.toNat / 16) (by omega); exact ⟨this.1, this.2.1⟩
      · have := fig_cases (x.toNat % 16) (by omega); exact ⟨this.1, this.2.1⟩
    · simp only [List.mem_cons, List.not_mem_nil, or_false] at hc
      subst hc; exact ⟨h1 _ hx, h2 _ hx⟩
  exact ⟨fun c hc => (key c hc).1, fun c hc => (key c hc).2⟩

/-- Each sign is followed by the figures of a point. -/
def goodT : List UInt8 → Bool
  | [] => true
  | c :: r => (if c = 37 then r.head? == some 50 && r.tail.head? == some 101 else true) && goodT r
theorem good_enc (l : List UInt8) (h : goodT (low (encT l)) = true) : encT l = l := by
  induction l with
  | nil => rfl
  | cons c r ih =>
    have e : encT (c :: r) = encB (isIn 1) c ++ encT r := enc_cons _ c r
    by_cases hc : isIn 1 c = true
    · rw [e, encB_yes _ c hc] at h
      have hb := c.toNat_lt
      have h1 : lowB (fig (c.toNat / 16)) = 50 ∧ lowB (fig (c.toNat % 16)) = 101 := by
        simp [low, goodT, lowB_not 37 (by decide)] at h
        exact ⟨h.1.1, h.1.2⟩
      have f1 := (fig_cases (c.toNat / 16) (by omega)).2.2.1 h1.1
      have f2 := (fig_cases (c.toNat % 16) (by omega)).2.2.2 h1.2
      have : c = 46 := UInt8.toNat_inj.1 (by show _ = 46; omega)
      subst this
      exact absurd hc (by decide)
    · have hc' : isIn 1 c = false := by simpa using hc
      rw [encB_no _ c hc'] at e
      rw [e] at h ⊢
      have h2 : goodT (low (encT r)) = true := by
        simp only [List.cons_append, List.nil_append, low, List.map_cons, goodT, Bool.and_eq_true] at h
        exact h.2
      rw [ih h2]; rfl
theorem dots_enc (p : List UInt8) (h : dots p = 0) : dots (encT p) = 0 := by
  by_cases hd : dots (encT p) = 0
  · exact hd
  · have hg : goodT (low (encT p)) = true := by
      unfold dots at hd
      by_cases h1 : low (encT p) = [46] ∨ low (encT p) = [37, 50, 101]
      · rcases h1 with h1 | h1 <;> (rw [h1]; decide)
      · rw [if_neg h1] at hd
        by_cases h2 : low (encT p) = [46, 46] ∨ low (encT p) = [46, 37, 50, 101] ∨ low (encT p) = [37, 50, 101, 46] ∨ low (encT p) = [37, 50, 101, 37, 50, 101]
        · rcases h2 with h2 | h2 | h2 | h2 <;> (rw [h2]; decide)
        · rw [if_neg h2] at hd; exact absurd rfl hd
    rw [good_enc p hg]; exact h
theorem fix_enc (p : List UInt8) (h : dots p = 0) (h1 : ∀ c ∈ p, c ≠ 47) (h2 : ∀ c ∈ p, c ≠ 92) : fixP (encT p) :=
  ⟨dots_enc p h, enc_enc (isIn 1) (isIn_sign 1) (isIn_hex 1) p, (encT_free p h1 h2).1, (encT_free p h1 h2).2⟩

theorem step_fix (path : List (List UInt8)) (p : List UInt8) (b : Bool) (h : ∀ q ∈ path, fixP q) (h1 : ∀ c ∈ p, c ≠ 47) (h2 : ∀ c ∈ p, c ≠ 92) : ∀ q ∈ stepL path p b, fixP q := by
  have hb : ∀ q ∈ backL path p, fixP q := by
    intro q hq; unfold backL at hq; split at hq
    · exact h q (List.dropLast_subset _ hq)
    · exact h q hq
  intro q hq
  unfold stepL at hq
  split at hq
  · rename_i hd
    rcases List.mem_append.1 hq with hq | hq
    · exact hb q hq
    · simp at hq; subst hq; exact fix_enc p hd h1 h2
  · split at hq
    · rcases List.mem_append.1 hq with hq | hq
      · exact hb q hq
      · simp at hq; subst hq; exact fix_nil
    · exact hb q hq
theorem walk_fix (ps : List (List UInt8)) (path : List (List UInt8)) (h : ∀ q ∈ path, fixP q) (hp : ∀ p ∈ ps, (∀ c ∈ p, c ≠ 47) ∧ (∀ c ∈ p, c ≠ 92)) : ∀ q ∈ walkL path ps, fixP q := by
  induction ps generalizing path with
  | nil => exact h
  | cons p ps ih =>
    have e : walkL path (p :: ps) = walkL (stepL path p ps.isEmpty) ps := rfl
    rw [e]
    exact ih _ (step_fix path p _ h (hp p (by simp)).1 (hp p (by simp)).2) (fun q hq => hp q (by simp [hq]))
theorem path_fix (l : List UInt8) : ∀ q ∈ pathL l, fixP q := by
  intro q hq
  unfold pathL at hq
  split at hq
  · exact walk_fix _ [] (by simp) (pieces_free l) q hq
  · simp at hq

theorem walkL_ne (ps : List (List UInt8)) (path : List (List UInt8)) (h : ps ≠ []) : walkL path ps ≠ [] := by
  induction ps generalizing path with
  | nil => exact absurd rfl h
  | cons p ps ih =>
    have e : walkL path (p :: ps) = walkL (stepL path p ps.isEmpty) ps := rfl
    rw [e]
    by_cases h0 : ps = []
    · subst h0
      show stepL path p true ≠ []
      unfold stepL
      split
      · simp
      · simp
    · exact ih _ h0
theorem path_ne (l : List UInt8) (h : l.length ≤ 200) : pathL l ≠ [] := by
  rw [pathL_small l h]; exact walkL_ne _ _ (piecesL_ne l)

theorem walk_same (ps : List (List UInt8)) (path : List (List UInt8)) (h : ∀ q ∈ ps, fixP q) : walkL path ps = path ++ ps := by
  induction ps generalizing path with
  | nil => simp [walkL]
  | cons p ps ih =>
    have e : walkL path (p :: ps) = walkL (stepL path p ps.isEmpty) ps := rfl
    have hp := h p (by simp)
    have es : stepL path p ps.isEmpty = path ++ [p] := by
      unfold stepL backL
      rw [if_pos hp.1, hp.2.1, if_neg (by rw [hp.1]; decide)]
    rw [e, es, ih _ (fun q hq => h q (by simp [hq]))]; simp
theorem cut_put (ps : List (List UInt8)) (p : List UInt8) (hp : ∀ c ∈ p, c ≠ 47) (h : ∀ q ∈ ps, ∀ c ∈ q, c ≠ 47) : cutL 47 (p ++ putL ps) = p :: ps := by
  induction ps generalizing p with
  | nil =>
    have e : putL [] = [] := rfl
    rw [e, List.append_nil]; exact cutL_none 47 p hp
  | cons q ps ih =>
    have e : putL (q :: ps) = 47 :: (q ++ putL ps) := rfl
    rw [e, cutL_hit 47 p _ hp, ih q (h q (by simp)) (fun x hx => h x (by simp [hx]))]
theorem put_free (ps : List (List UInt8)) (h : ∀ q ∈ ps, ∀ c ∈ q, c ≠ 92) : ∀ c ∈ putL ps, c ≠ 92 := by
  intro c hc
  obtain ⟨q, hq, hc⟩ := List.mem_flatMap.1 hc
  rcases List.mem_cons.1 hc with rfl | hc
  · decide
  · exact h q hq c hc
theorem pieces_put (ps : List (List UInt8)) (hne : ps ≠ []) (h : ∀ q ∈ ps, fixP q) : piecesL (putL ps) = ps := by
  cases ps with
  | nil => exact absurd rfl hne
  | cons p ps =>
    unfold piecesL
    rw [slashL_same _ (put_free _ (fun q hq => (h q hq).2.2.2))]
    have e : putL (p :: ps) = 47 :: (p ++ putL ps) := rfl
    rw [e]
    show cutL 47 (p ++ putL ps) = _
    exact cut_put ps p (h p (by simp)).2.2.1 (fun q hq => (h q (by simp [hq])).2.2.1)
theorem path_put (ps : List (List UInt8)) (hne : ps ≠ []) (h : ∀ q ∈ ps, fixP q) (hl : (putL ps).length ≤ 200) : pathL (putL ps) = ps := by
  rw [pathL_small _ hl, pieces_put ps hne h, walk_same ps [] h]; rfl
/-- With a slash behind. -/
theorem path_put_slash (ps : List (List UInt8)) (hne : ps ≠ []) (h : ∀ q ∈ ps, fixP q) (hl : (putL ps).length + 1 ≤ 200) : pathL (putL ps ++ [47]) = ps ++ [[]] := by
  have hfix : ∀ q ∈ ps ++ [[]], fixP q := by
    intro q hq
    rcases List.mem_append.1 hq with hq | hq
    · exact h q hq
    · simp at hq; subst hq; exact fix_nil
  have e : putL ps ++ [47] = putL (ps ++ [[]]) := by simp [putL]
  rw [e]
  exact path_put _ (by simp) hfix (by rw [← e]; simpa using hl)

theorem putL_back (path : List (List UInt8)) (p : List UInt8) : (putL (backL path p)).length ≤ (putL path).length := by
  unfold backL
  split
  · rw [List.dropLast_eq_take, putL_len path]; exact putL_take path _
  · exact Nat.le_refl _
theorem putL_app (a b : List (List UInt8)) : putL (a ++ b) = putL a ++ putL b := by simp [putL]
theorem putL_step (path : List (List UInt8)) (p : List UInt8) (b : Bool) : (putL (stepL path p b)).length ≤ (putL path).length + 1 + 3 * p.length := by
  have h1 := putL_back path p
  have h2 := enc_length (isIn 1) p
  unfold stepL
  split
  · have : (putL [encT p]).length = 1 + (encT p).length := by simp [putL]; omega
    rw [putL_app, List.length_append, this]; unfold encT; omega
  · split
    · have : (putL [[]]).length = 1 := rfl
      rw [putL_app, List.length_append, this]; omega
    · omega
theorem putL_walk (ps : List (List UInt8)) (path : List (List UInt8)) : (putL (walkL path ps)).length ≤ (putL path).length + ps.length + 3 * tot ps := by
  induction ps generalizing path with
  | nil => simp [walkL]
  | cons p ps ih =>
    have e : walkL path (p :: ps) = walkL (stepL path p ps.isEmpty) ps := rfl
    have e2 : tot (p :: ps) = p.length + tot ps := by simp [tot]
    have h1 := ih (stepL path p ps.isEmpty)
    have h2 := putL_step path p ps.isEmpty
    rw [e, e2, List.length_cons]; omega
theorem putL_path (l : List UInt8) : (putL (pathL l)).length ≤ 3 * l.length + 3 := by
  unfold pathL
  split
  · have h1 := putL_walk (piecesL l) []
    have h2 := cutL_tot 47 (trim1 (slashL l))
    have h3 := trim1_len (slashL l)
    have h4 := slashL_len l
    have h5 : (putL []).length = 0 := rfl
    unfold piecesL at h1 ⊢
    omega
  · show 0 ≤ _; omega

def preP (s : List UInt8) : List (List UInt8) := if s = [] then [] else piecesL s
theorem pieces_slash (s t : List UInt8) : piecesL (s ++ 47 :: t) = preP s ++ cutL 47 (slashL t) := by
  unfold preP
  by_cases h : s = []
  · subst h; rw [if_pos rfl]
    show cutL 47 (trim1 (slashL (47 :: t))) = _
    rw [trim_slash 47 t (.inl rfl)]; rfl
  · rw [if_neg h]
    unfold piecesL
    have hs : slashL s ≠ [] := by intro e; apply h; have := slashL_len s; rw [e] at this; exact List.length_eq_zero_iff.1 this.symm
    rw [slashL_app, trim1_app _ _ hs]
    have e : slashL (47 :: t) = 47 :: slashL t := rfl
    rw [e, cutL_app]
/-- What is there ahead of a slash and a text. -/
def baseP (s : List UInt8) : List (List UInt8) := walkN [] (preP s)
theorem path_slash (s t : List UInt8) (hl : s.length + t.length + 1 ≤ 200) : pathL (s ++ 47 :: t) = walkL (baseP s) (cutL 47 (slashL t)) := by
  rw [pathL_small _ (by simp; omega), pieces_slash, walkL_app _ _ (cutL_ne _ _)]; rfl

theorem step_c (P : List (List UInt8)) (c : UInt8) (b : Bool) (h : c = 120 ∨ c = 121 ∨ c = 122) : stepL P [c] b = P ++ [[c]] := by
  rcases h with rfl | rfl | rfl <;> (unfold stepL backL; rw [if_pos (by decide), if_neg (by decide)]; rfl)
theorem step_e (P : List (List UInt8)) (b : Bool) : stepL P [] b = P ++ [[]] := by
  unfold stepL backL; rw [if_pos (by decide), if_neg (by decide)]; rfl
theorem step_b (P : List (List UInt8)) (b : Bool) : stepL P [46, 46] b = if b then P.dropLast ++ [[]] else P.dropLast := by
  have h2 : dots [46, 46] = 2 := by decide
  unfold stepL backL; simp [h2]
theorem step_p (P : List (List UInt8)) : stepL P [46] true = P ++ [[]] := by
  unfold stepL backL; rw [if_neg (by decide), if_pos rfl, if_neg (by decide)]

theorem path_xb (s : List UInt8) (h : s.length ≤ 100) : pathL (s ++ [47, 120, 47, 46, 46]) = baseP s ++ [[]] := by
  rw [path_slash s [120, 47, 46, 46] (by simp; omega), show cutL 47 (slashL [120, 47, 46, 46]) = [[120], [46, 46]] from by decide]
  show stepL (stepL (baseP s) [120] false) [46, 46] true = _
  rw [step_c _ _ _ (by simp), step_b]; simp
theorem path_sl (s : List UInt8) (h : s.length ≤ 100) : pathL (s ++ [47]) = baseP s ++ [[]] := by
  rw [path_slash s [] (by simp; omega)]
  show stepL (baseP s) [] true = _
  rw [step_e]
theorem path_pt (s : List UInt8) (h : s.length ≤ 100) : pathL (s ++ [47, 46]) = baseP s ++ [[]] := by
  rw [path_slash s [46] (by simp; omega), show cutL 47 (slashL [46]) = [[46]] from by decide]
  show stepL (baseP s) [46] true = _
  rw [step_p]
theorem path_c (s : List UInt8) (c : UInt8) (hc : c = 120 ∨ c = 121 ∨ c = 122) (h : s.length ≤ 100) : pathL (s ++ [47, c]) = baseP s ++ [[c]] := by
  rw [path_slash s [c] (by simp; omega), show cutL 47 (slashL [c]) = [[c]] from by rcases hc with rfl | rfl | rfl <;> decide]
  show stepL (baseP s) [c] true = _
  rw [step_c _ _ _ hc]
theorem path_cbd (s : List UInt8) (c d : UInt8) (hc : c = 120 ∨ c = 121 ∨ c = 122) (hd : d = 120 ∨ d = 121 ∨ d = 122) (h : s.length ≤ 100) : pathL (s ++ [47, c, 47, 46, 46, 47, d]) = baseP s ++ [[d]] := by
  rw [path_slash s [c, 47, 46, 46, 47, d] (by simp; omega), show cutL 47 (slashL [c, 47, 46, 46, 47, d]) = [[c], [46, 46], [d]] from by rcases hc with rfl | rfl | rfl <;> rcases hd with rfl | rfl | rfl <;> decide]
  show stepL (stepL (stepL (baseP s) [c] false) [46, 46] false) [d] true = _
  rw [step_c _ _ _ hc, step_b, step_c _ _ _ hd]; simp
end Go.Proofs.YtjkbgdnjghlakaaDoor
