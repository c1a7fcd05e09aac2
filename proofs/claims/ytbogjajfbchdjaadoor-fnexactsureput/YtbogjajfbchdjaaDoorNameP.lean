/- Plain facts on a host's name: its bytes, its pieces, whether it ends with a number. -/
import Derived.Test.YtbogjajfbchdjaaDoorPartNum
set_option linter.unusedVariables false
namespace Go.Proofs.YtbogjajfbchdjaaDoor
open Go.RowKit

def smallB (c : UInt8) : Bool := decide (97 ≤ c.toNat ∧ c.toNat ≤ 122)
def figB (c : UInt8) : Bool := decide (48 ≤ c.toNat ∧ c.toNat ≤ 57)
/-- A byte of a label. -/
def nmB (c : UInt8) : Bool := smallB c || figB c || c == 45 || c == 95

def nameL (l : List UInt8) : Bool := decide (1 ≤ l.length ∧ l.length ≤ 60 ∧ (∀ c ∈ l, nmB c = true ∨ c = 46) ∧ (∀ p ∈ partsL l, p ≠ []))

theorem nameL_len (l : List UInt8) (h : ¬ (1 ≤ l.length ∧ l.length ≤ 60)) : nameL l = false := by
  unfold nameL; exact decide_eq_false (fun hh => h ⟨hh.1, hh.2.1⟩)
theorem nameL_byte (l : List UInt8) (c : UInt8) (hc : c ∈ l) (h1 : nmB c = false) (h2 : c ≠ 46) : nameL l = false := by
  unfold nameL; refine decide_eq_false (fun hh => ?_)
  rcases hh.2.2.1 c hc with h | h
  · rw [h1] at h; cases h
  · exact h2 h
theorem nameL_empty (l : List UInt8) (h : [] ∈ partsL l) : nameL l = false := by
  unfold nameL; exact decide_eq_false (fun hh => hh.2.2.2 [] h rfl)
theorem nameL_yes (l : List UInt8) (h : 1 ≤ l.length ∧ l.length ≤ 60) (hb : ∀ c ∈ l, nmB c = true ∨ c = 46) (hp : ∀ p ∈ partsL l, p ≠ []) : nameL l = true := by
  unfold nameL; exact decide_eq_true ⟨h.1, h.2, hb, hp⟩
theorem nameL_le (l : List UInt8) (h : nameL l = true) : 1 ≤ l.length ∧ l.length ≤ 60 := by
  unfold nameL at h; have := of_decide_eq_true h; exact ⟨this.1, this.2.1⟩

theorem cutL_byte (l : List UInt8) : ∀ p ∈ cutL 46 l, ∀ c ∈ p, c ∈ l ∧ c ≠ 46 := by
  induction l with
  | nil => intro p hp c hc; simp [cutL] at hp; subst hp; cases hc
  | cons d r ih =>
    by_cases hd : d = 46
    · subst hd
      rw [cutL_b]
      intro p hp c hc
      rcases List.mem_cons.1 hp with rfl | hp
      · cases hc
      · exact ⟨List.mem_cons_of_mem _ (ih p hp c hc).1, (ih p hp c hc).2⟩
    · obtain ⟨q, qs, hq⟩ : ∃ q qs, cutL 46 r = q :: qs := by
        cases h : cutL 46 r with
        | nil => exact absurd h (cutL_ne _ _)
        | cons q qs => exact ⟨q, qs, rfl⟩
      rw [cutL_c 46 d r q qs hd hq]
      rw [hq] at ih
      intro p hp c hc
      rcases List.mem_cons.1 hp with rfl | hp
      · rcases List.mem_cons.1 hc with rfl | hc
        · exact ⟨List.mem_cons_self .., hd⟩
        · have := ih q (List.mem_cons_self ..) c hc
          exact ⟨List.mem_cons_of_mem _ this.1, this.2⟩
      · have := ih p (List.mem_cons_of_mem _ hp) c hc
        exact ⟨List.mem_cons_of_mem _ this.1, this.2⟩
theorem cutL_cover (l : List UInt8) : ∀ c ∈ l, c = 46 ∨ ∃ p ∈ cutL 46 l, c ∈ p := by
  induction l with
  | nil => intro c hc; cases hc
  | cons d r ih =>
    intro c hc
    by_cases hd : d = 46
    · subst hd
      rw [cutL_b]
      rcases List.mem_cons.1 hc with rfl | hc
      · exact .inl rfl
      · rcases ih c hc with h | ⟨p, hp, h⟩
        · exact .inl h
        · exact .inr ⟨p, List.mem_cons_of_mem _ hp, h⟩
    · obtain ⟨q, qs, hq⟩ : ∃ q qs, cutL 46 r = q :: qs := by
        cases h : cutL 46 r with
        | nil => exact absurd h (cutL_ne _ _)
        | cons q qs => exact ⟨q, qs, rfl⟩
      rw [cutL_c 46 d r q qs hd hq]
      rw [hq] at ih
      rcases List.mem_cons.1 hc with rfl | hc
      · exact .inr ⟨_, List.mem_cons_self .., List.mem_cons_self ..⟩
      · rcases ih c hc with h | ⟨p, hp, h⟩
        · exact .inl h
        · rcases List.mem_cons.1 hp with rfl | hp
          · exact .inr ⟨_, List.mem_cons_self .., List.mem_cons_of_mem _ h⟩
          · exact .inr ⟨p, List.mem_cons_of_mem _ hp, h⟩

theorem partsL_or (l : List UInt8) : (1 < (cutL 46 l).length ∧ (cutL 46 l)[(cutL 46 l).length - 1]? = some [] ∧ partsL l = (cutL 46 l).dropLast) ∨ (((cutL 46 l).length ≤ 1 ∨ (cutL 46 l)[(cutL 46 l).length - 1]? ≠ some []) ∧ partsL l = cutL 46 l) := by
  by_cases h : 1 < (cutL 46 l).length ∧ (cutL 46 l)[(cutL 46 l).length - 1]? = some []
  · exact .inl ⟨h.1, h.2, partsL_drop l h.1 h.2⟩
  · have : (cutL 46 l).length ≤ 1 ∨ (cutL 46 l)[(cutL 46 l).length - 1]? ≠ some [] := by
      by_cases h1 : 1 < (cutL 46 l).length
      · exact .inr (fun h2 => h ⟨h1, h2⟩)
      · exact .inl (by omega)
    exact .inr ⟨this, partsL_keep l this⟩

theorem parts_bad (l : List UInt8) (i : Nat) (hi : i < (cutL 46 l).length) (h : (cutL 46 l)[i] = []) (hb : i + 1 < (cutL 46 l).length ∨ i = 0) : [] ∈ partsL l := by
  rcases partsL_or l with ⟨h1, h2, e⟩ | ⟨h1, e⟩
  · rw [e]
    have hlt : i < (cutL 46 l).dropLast.length := by rw [List.length_dropLast]; omega
    have : (cutL 46 l).dropLast[i] = [] := by rw [List.getElem_dropLast]; exact h
    rw [← this]; exact List.getElem_mem hlt
  · rw [e, ← h]; exact List.getElem_mem hi
theorem parts_good (l : List UInt8) (h : ∀ i (hi : i < (cutL 46 l).length), (i + 1 < (cutL 46 l).length ∨ i = 0) → (cutL 46 l)[i] ≠ []) : ∀ p ∈ partsL l, p ≠ [] := by
  intro p hp
  rcases partsL_or l with ⟨h1, h2, e⟩ | ⟨h1, e⟩
  · rw [e] at hp
    obtain ⟨i, hi, e2⟩ := List.getElem_of_mem hp
    rw [List.length_dropLast] at hi
    rw [← e2, List.getElem_dropLast]
    exact h i (by omega) (.inl (by omega))
  · rw [e] at hp
    obtain ⟨i, hi, e2⟩ := List.getElem_of_mem hp
    rw [← e2]
    by_cases hb : i + 1 < (cutL 46 l).length ∨ i = 0
    · exact h i hi hb
    · rcases h1 with h1 | h1
      · exact absurd (Or.inr (by omega)) hb
      · intro h0
        apply h1
        have : (cutL 46 l).length - 1 = i := by omega
        rw [this, List.getElem?_eq_getElem hi, h0]

/-- Whether a text of figures alone. -/
def figsL (q : List UInt8) : Bool := q.all figB
theorem hexA_figs (q : List UInt8) (h : hexA q = true) : figsL q = false := by
  match q, h with
  | a :: b :: r, h =>
    simp only [hexA, Bool.and_eq_true, Bool.or_eq_true, beq_iff_eq] at h
    obtain ⟨rfl, h | h⟩ := h
    · subst h; simp [figsL, figB]
    · subst h; simp [figsL, figB]

/-- The last part of a host's text. -/
def lastP (l : List UInt8) : List UInt8 := (partsL l)[(partsL l).length - 1]'(by have := partsL_ne l; omega)
theorem lastP_le (l : List UInt8) : (lastP l).length ≤ l.length := partsL_mem_le l _ (List.getElem_mem _)
/-- Whether it ends with a number. -/
def endsL (l : List UInt8) : Bool := !(lastP l).isEmpty && (figsL (lastP l) || (hexA (lastP l) && partOk (lastP l)))
theorem ends_empty (l : List UInt8) (h : lastP l = []) : endsL l = false := by unfold endsL; rw [h]; rfl
theorem ends_hex (l : List UInt8) (h : hexA (lastP l) = true) : endsL l = partOk (lastP l) := by
  have hne : (lastP l).isEmpty = false := by
    cases hq : lastP l with
    | nil => rw [hq] at h; simp [hexA] at h
    | cons a b => rfl
  unfold endsL; rw [hexA_figs _ h, h, hne]; simp
theorem ends_figs (l : List UInt8) (hn : lastP l ≠ []) (h : hexA (lastP l) = false) : endsL l = figsL (lastP l) := by
  have hne : (lastP l).isEmpty = false := List.isEmpty_eq_false_iff.2 hn
  unfold endsL; rw [h, hne]; simp
theorem partV_ok (q : List UInt8) : decide (0 ≤ partV q) = partOk q := by
  unfold partV partOk
  cases h : partN q with
  | none => rfl
  | some m => have := partN_ge q m h; simp [this]
end Go.Proofs.YtbogjajfbchdjaaDoor
