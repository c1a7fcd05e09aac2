/- Plain facts: a site is a name of one point at most, and its own site; with www. ahead its site is the same, if it has a point. -/
import Derived.Test.YtnmbflljldhjmaaDoorSiteS
import Derived.Test.YtnmbflljldhjmaaDoorHostGS
set_option linter.unusedVariables false
namespace Go.Proofs.YtnmbflljldhjmaaDoor
open Go.RowKit

def noDot (l : List UInt8) : Prop := ∀ c ∈ l, c ≠ 46
theorem parts_one (b : List UInt8) (hb : noDot b) : partsL b = [b] := by
  rw [partsL_keep, cutL_none 46 b hb]
  left; rw [cutL_none 46 b hb]; simp
theorem parts_two (a b : List UInt8) (ha : noDot a) (hb : noDot b) (h : b ≠ []) : partsL (a ++ 46 :: b) = [a, b] := by
  have e : cutL 46 (a ++ 46 :: b) = [a, b] := by rw [cutL_hit 46 a b ha, cutL_none 46 b hb]
  rw [partsL_keep, e]
  right; rw [e]; simpa using h
theorem parts_three (x a b : List UInt8) (hx : noDot x) (ha : noDot a) (hb : noDot b) (h : b ≠ []) : partsL (x ++ 46 :: (a ++ 46 :: b)) = [x, a, b] := by
  have e : cutL 46 (x ++ 46 :: (a ++ 46 :: b)) = [x, a, b] := by rw [cutL_hit 46 x _ hx, cutL_hit 46 a b ha, cutL_none 46 b hb]
  rw [partsL_keep, e]
  right; rw [e]; simpa using h
theorem lastP_get (l : List UInt8) : (partsL l)[(partsL l).length - 1]? = some (lastP l) := List.getElem?_eq_getElem _
theorem lastP_of (l : List UInt8) (xs : List (List UInt8)) (b : List UInt8) (h : partsL l = xs) (hb : xs[xs.length - 1]? = some b) : lastP l = b := by
  have := lastP_get l
  rw [h, hb] at this
  exact (Option.some.inj this).symm
theorem lastP_mem (l : List UInt8) : lastP l ∈ partsL l := List.getElem_mem _
theorem foreP_mem (l : List UInt8) (h : 2 ≤ (partsL l).length) : foreP l ∈ partsL l := by
  unfold foreP
  rw [List.getElem?_eq_getElem (by omega)]
  exact List.getElem_mem _
theorem parts_sub (l : List UInt8) : ∀ p ∈ partsL l, p ∈ cutL 46 l := by
  intro p hp
  rcases partsL_or l with ⟨_, _, h⟩ | ⟨_, h⟩
  · rw [h] at hp; exact (List.dropLast_sublist _).mem hp
  · rw [h] at hp; exact hp

/-- The pieces and the points between them are the whole. -/
theorem cut_sum (b : UInt8) : ∀ l : List UInt8, ((cutL b l).map List.length).sum + (cutL b l).length = l.length + 1
  | [] => by simp [cutL]
  | c :: r => by
    have ih := cut_sum b r
    by_cases h : c = b
    · subst h
      rw [cutL_b]; simp; omega
    · obtain ⟨p, ps, hp⟩ : ∃ p ps, cutL b r = p :: ps := by
        cases hc : cutL b r with
        | nil => exact absurd hc (cutL_ne b r)
        | cons p ps => exact ⟨p, ps, rfl⟩
      rw [cutL_c b c r p ps h hp]
      rw [hp] at ih
      simp at ih ⊢; omega
theorem one_le_sum : ∀ (xs : List (List UInt8)) (j : Nat) (hj : j < xs.length), xs[j].length ≤ (xs.map List.length).sum
  | [], _, hj => by simp at hj
  | x :: xs, 0, _ => by simp
  | x :: xs, j + 1, hj => by
    have := one_le_sum xs j (by simpa using hj)
    simp; omega
theorem two_le_sum : ∀ (xs : List (List UInt8)) (i j : Nat) (hij : i < j) (hj : j < xs.length), (xs[i]'(by omega)).length + xs[j].length ≤ (xs.map List.length).sum
  | [], _, _, _, hj => by simp at hj
  | x :: xs, 0, 0, h, _ => by omega
  | x :: xs, i + 1, 0, h, _ => by omega
  | x :: xs, 0, j + 1, _, hj => by
    have := one_le_sum xs j (by simpa using hj)
    simp; omega
  | x :: xs, i + 1, j + 1, h, hj => by
    have := two_le_sum xs i j (by omega) (by simpa using hj)
    simp; omega
theorem sum_dropLast : ∀ (xs : List (List UInt8)), (xs.dropLast.map List.length).sum ≤ (xs.map List.length).sum
  | [] => by simp
  | [x] => by simp
  | x :: y :: xs => by
    have := sum_dropLast (y :: xs)
    simp at this ⊢; omega
theorem site_len (l : List UInt8) (h : 2 ≤ (partsL l).length) : (foreP l).length + 1 + (lastP l).length ≤ l.length := by
  have hs := cut_sum 46 l
  have h2 := two_le_sum (partsL l) ((partsL l).length - 2) ((partsL l).length - 1) (by omega) (by omega)
  have e1 : foreP l = (partsL l)[(partsL l).length - 2]'(by omega) := by unfold foreP; rw [List.getElem?_eq_getElem (by omega)]; rfl
  have e2 : lastP l = (partsL l)[(partsL l).length - 1]'(by omega) := rfl
  rw [← e1, ← e2] at h2
  rcases partsL_or l with ⟨_, _, hp⟩ | ⟨_, hp⟩
  · have hd := sum_dropLast (cutL 46 l)
    have hl : (partsL l).length = (cutL 46 l).length - 1 := by rw [hp]; simp
    rw [hp] at h2
    omega
  · rw [hp] at h2 h; omega

theorem nm_not (c : UInt8) (h : nmB c = true ∨ c = 46) : c ≠ 37 ∧ lowB c = c := by
  have hn : ¬ ((65 : Int) ≤ (c.toNat : Int) ∧ (c.toNat : Int) ≤ 90) ∧ c ≠ 37 := by
    rcases h with h | h
    · unfold nmB smallB figB at h
      simp only [Bool.or_eq_true, decide_eq_true_eq, beq_iff_eq] at h
      rcases h with ((h | h) | h) | h
      · refine ⟨by omega, fun e => ?_⟩; subst e; revert h; decide
      · refine ⟨by omega, fun e => ?_⟩; subst e; revert h; decide
      · subst h; decide
      · subst h; decide
    · subst h; decide
  exact ⟨hn.2, lowB_not c hn.1⟩
theorem readL_plain (t : List UInt8) (h : ∀ c ∈ t, nmB c = true ∨ c = 46) : readL t = t := by
  unfold readL
  rw [dec_plain t (fun c hc => (nm_not c (h c hc)).1)]
  unfold low
  have : ∀ r : List UInt8, (∀ c ∈ r, lowB c = c) → r.map lowB = r := by
    intro r
    induction r with
    | nil => intro _; rfl
    | cons c r ih => intro h; rw [List.map_cons, h c (by simp), ih (fun d hd => h d (by simp [hd]))]
  exact this t (fun c hc => (nm_not c (h c hc)).2)
theorem nameL_is (l : List UInt8) (h : nameL l = true) : (1 ≤ l.length ∧ l.length ≤ 60) ∧ (∀ c ∈ l, nmB c = true ∨ c = 46) ∧ (∀ p ∈ partsL l, p ≠ []) := by
  unfold nameL at h
  have := of_decide_eq_true h
  exact ⟨⟨this.1, this.2.1⟩, this.2.2.1, this.2.2.2⟩

theorem part_fact (l : List UInt8) (h : nameL l = true) : ∀ p ∈ partsL l, p ≠ [] ∧ noDot p ∧ ∀ c ∈ p, nmB c = true := by
  obtain ⟨_, hb, hp⟩ := nameL_is l h
  intro p hpm
  have hc := cutL_byte l p (parts_sub l p hpm)
  refine ⟨hp p hpm, fun c hc' => (hc c hc').2, fun c hc' => ?_⟩
  rcases hb c (hc c hc').1 with h | h
  · exact h
  · exact absurd h (hc c hc').2
/-- What is asked of a site. -/
theorem site_facts (l : List UInt8) (h : nameL l = true) (he : endsL l = false) :
    (nameL (siteL l) = true ∧ endsL (siteL l) = false ∧ siteL (siteL l) = siteL l) ∧ (siteL l).length ≤ 60 ∧ 1 ≤ (siteL l).length ∧
    (((siteL l).count 46 = 0) ∨ ((siteL l).count 46 = 1 ∧ endsL ([119, 119, 119, 46] ++ siteL l) = false ∧ siteL ([119, 119, 119, 46] ++ siteL l) = siteL l)) := by
  obtain ⟨⟨hl1, hl2⟩, hb, hp⟩ := nameL_is l h
  obtain ⟨b0, bd, bn⟩ := part_fact l h (lastP l) (lastP_mem l)
  have hll := lastP_le l
  have blen : 1 ≤ (lastP l).length := by
    rcases Nat.eq_zero_or_pos (lastP l).length with e | e
    · exact absurd (List.length_eq_zero_iff.1 e) b0
    · exact e
  have hends : ∀ t, lastP t = lastP l → endsL t = false := by
    intro t ht
    unfold endsL at he ⊢
    rw [ht]; exact he
  by_cases h2 : (partsL l).length < 2
  · have hs : siteL l = lastP l := by unfold siteL; rw [if_pos h2]
    rw [hs]
    have hp1 := parts_one (lastP l) bd
    have hlast : lastP (lastP l) = lastP l := lastP_of _ _ _ hp1 rfl
    refine ⟨⟨nameL_yes _ ⟨blen, by omega⟩ (fun c hc => Or.inl (bn c hc)) ?_, hends _ hlast, ?_⟩, by omega, blen, Or.inl ?_⟩
    · rw [hp1]; intro p hp; simp at hp; subst hp; exact b0
    · unfold siteL; rw [if_pos (by rw [hp1]; simp), hlast]
    · rw [List.count_eq_zero]; intro hm; exact bd 46 hm rfl
  · have h2' : 2 ≤ (partsL l).length := by omega
    obtain ⟨a0, ad, an⟩ := part_fact l h (foreP l) (foreP_mem l h2')
    have hsl := site_len l h2'
    have hs : siteL l = foreP l ++ 46 :: lastP l := by unfold siteL; rw [if_neg h2]; rfl
    rw [hs]
    have hp2 := parts_two (foreP l) (lastP l) ad bd b0
    have hlast : lastP (foreP l ++ 46 :: lastP l) = lastP l := lastP_of _ _ _ hp2 rfl
    have hfore : foreP (foreP l ++ 46 :: lastP l) = foreP l := by
      have : foreP (foreP l ++ 46 :: lastP l) = (([foreP l, lastP l] : List (List UInt8))[([foreP l, lastP l] : List (List UInt8)).length - 2]?).getD [] := by rw [← hp2]; rfl
      rw [this]; rfl
    have hx : noDot [119, 119, 119] := by unfold noDot; decide
    have hp3 := parts_three [119, 119, 119] (foreP l) (lastP l) hx ad bd b0
    have hlast3 : lastP ([119, 119, 119] ++ 46 :: (foreP l ++ 46 :: lastP l)) = lastP l := lastP_of _ _ _ hp3 rfl
    have hfore3 : foreP ([119, 119, 119] ++ 46 :: (foreP l ++ 46 :: lastP l)) = foreP l := by
      have : foreP ([119, 119, 119] ++ 46 :: (foreP l ++ 46 :: lastP l)) = (([[119, 119, 119], foreP l, lastP l] : List (List UInt8))[([[119, 119, 119], foreP l, lastP l] : List (List UInt8)).length - 2]?).getD [] := by rw [← hp3]; rfl
      rw [this]; rfl
    refine ⟨⟨nameL_yes _ ⟨by simp; omega, by simp; omega⟩ ?_ ?_, hends _ hlast, ?_⟩, by simp; omega, by simp; omega, Or.inr ⟨?_, ?_, ?_⟩⟩
    · intro c hc
      simp at hc
      rcases hc with hc | hc | hc
      · exact Or.inl (an c hc)
      · exact Or.inr hc
      · exact Or.inl (bn c hc)
    · rw [hp2]; intro p hp; simp at hp; rcases hp with rfl | rfl
      · exact a0
      · exact b0
    · have hn : ¬ (partsL (foreP l ++ 46 :: lastP l)).length < 2 := by rw [hp2]; simp
      unfold siteL; rw [if_neg hn, hlast, hfore]; rfl
    · rw [List.count_append, List.count_cons, List.count_eq_zero.2 (fun hm => ad 46 hm rfl), List.count_eq_zero.2 (fun hm => bd 46 hm rfl)]; rfl
    · exact hends _ hlast3
    · have hn : ¬ (partsL ([119, 119, 119] ++ 46 :: (foreP l ++ 46 :: lastP l))).length < 2 := by rw [hp3]; simp
      show siteL ([119, 119, 119] ++ 46 :: (foreP l ++ 46 :: lastP l)) = _
      unfold siteL; rw [if_neg hn, hlast3, hfore3]; rfl

/-- What is read of a name that is one. -/
theorem get_name (t : List UInt8) (h : nameL t = true) (he : endsL t = false) : getAgg t = .agg #[.int .i64 1, .string (mk t), .int .i64 0] ∧ getOk t = true := by
  obtain ⟨⟨h1, h2⟩, hb, _⟩ := nameL_is t h
  have hr := readL_plain t hb
  have h3 : t.length ≤ 200 := by omega
  unfold getAgg getOk hostOkL hostAgg hostKind hostName hostAddr
  rw [hr]
  simp [h, he, h3]
theorem get_www (l : List UInt8) (h : nameL l = true) (he : endsL l = false) (h46 : (siteL l).count 46 ≠ 0) (hf : getOk ([119, 119, 119, 46] ++ siteL l) = true) :
    getAgg ([119, 119, 119, 46] ++ siteL l) = .agg #[.int .i64 1, .string (mk ([119, 119, 119, 46] ++ siteL l)), .int .i64 0] ∧ siteT 1 (mk ([119, 119, 119, 46] ++ siteL l)) 0 = siteL l := by
  obtain ⟨⟨n1, _, _⟩, h60, _, hc⟩ := site_facts l h he
  rcases hc with hc | ⟨_, e3, s3⟩
  · exact absurd hc h46
  have hb : ∀ c ∈ ([119, 119, 119, 46] ++ siteL l), nmB c = true ∨ c = 46 := by
    intro c hc
    rcases List.mem_append.1 hc with hc | hc
    · simp at hc; rcases hc with rfl | rfl <;> decide
    · exact (nameL_is _ n1).2.1 c hc
  have hr := readL_plain _ hb
  have hlen : ([119, 119, 119, 46] ++ siteL l).length ≤ 200 := by simp; omega
  have hn : nameL ([119, 119, 119, 46] ++ siteL l) = true := by
    cases hn : nameL ([119, 119, 119, 46] ++ siteL l) with
    | true => rfl
    | false =>
      exfalso
      unfold getOk hostOkL hostKind at hf
      rw [if_pos hlen, hr, e3, hn] at hf
      simp at hf
  refine ⟨(get_name _ hn e3).1, ?_⟩
  rw [site_named (by rw [named_is, mk_data, hn, e3]; rfl), mk_data, s3]
theorem site_site (l : List UInt8) (h : nameL l = true) (he : endsL l = false) : siteT 1 (mk (siteL l)) 0 = siteL l := by
  obtain ⟨⟨n1, n2, n3⟩, _⟩ := site_facts l h he
  rw [site_named (by rw [named_is, mk_data, n1, n2]; rfl), mk_data, n3]
theorem getAgg_small (l : List UInt8) : ∃ (k : Int) (n : ByteArray) (a : Int), getAgg l = .agg #[.int .i64 k, .string n, .int .i64 a] ∧ n.size ≤ 200 := by
  unfold getAgg
  split
  · rename_i h
    refine ⟨_, _, _, rfl, ?_⟩
    have h1 := dec_le l
    have h2 : (readL l).length ≤ 200 := by unfold readL; rw [low_length]; omega
    unfold hostName
    split
    · exact Nat.zero_le _
    · split
      · rw [mk_size]; exact h2
      · exact Nat.zero_le _
  · exact ⟨_, _, _, rfl, Nat.zero_le _⟩
end Go.Proofs.YtnmbflljldhjmaaDoor
