/- Plain facts on figures to sixteen and on reading a text of figures. Nothing of any program. -/
import Derived.Test.YtbogjajfbchdjaaDoorPlain
namespace Go.Proofs.YtbogjajfbchdjaaDoor
open Go.RowKit

/-- What a figure is worth to sixteen; -1 if it is none. -/
def hexV (c : UInt8) : Int :=
  if 48 ≤ c.toNat ∧ c.toNat ≤ 57 then (c.toNat : Int) - 48
  else if 97 ≤ c.toNat ∧ c.toNat ≤ 102 then (c.toNat : Int) - 87
  else if 65 ≤ c.toNat ∧ c.toNat ≤ 70 then (c.toNat : Int) - 55
  else -1

theorem hexV_range (c : UInt8) : -1 ≤ hexV c ∧ hexV c ≤ 15 := by
  unfold hexV; split
  · omega
  · split
    · omega
    · split <;> omega

/-- A sign with two figures behind it. -/
def esc (c a b : UInt8) : Bool := decide (c = 37) && decide (0 ≤ hexV a) && decide (0 ≤ hexV b)
def hexB (a b : UInt8) : UInt8 := UInt8.ofNat (16 * hexV a + hexV b).toNat

theorem hexB_val (a b : UInt8) (ha : 0 ≤ hexV a) (hb : 0 ≤ hexV b) : ((hexB a b).toNat : Int) = 16 * hexV a + hexV b := by
  have h1 := hexV_range a
  have h2 := hexV_range b
  unfold hexB
  rw [UInt8.toNat_ofNat']
  have : (16 * hexV a + hexV b).toNat < 256 := by omega
  rw [Nat.mod_eq_of_lt this]
  omega

def dec : List UInt8 → List UInt8
  | c :: a :: b :: r => if esc c a b then hexB a b :: dec r else c :: dec (a :: b :: r)
  | [c, a] => [c, a]
  | [c] => [c]
  | [] => []

theorem dec_esc (c a b : UInt8) (r : List UInt8) (h : esc c a b = true) : dec (c :: a :: b :: r) = hexB a b :: dec r := by
  rw [dec, if_pos h]
theorem dec_three (c a b : UInt8) (r : List UInt8) (h : esc c a b = false) : dec (c :: a :: b :: r) = c :: dec (a :: b :: r) := by
  rw [dec, if_neg (by rw [h]; exact Bool.false_ne_true)]
theorem dec_short (c : UInt8) (r : List UInt8) (h : r.length < 2) : dec (c :: r) = c :: dec r := by
  match r, h with
  | [], _ => simp [dec]
  | [a], _ => simp [dec]

/-- At place k: a sign with two figures behind it. -/
def escAt (s : ByteArray) (k : Nat) : Bool := if h : k + 2 < s.size then esc s[k] s[k + 1] s[k + 2] else false

theorem esc_no0 (c a b : UInt8) (h : c ≠ 37) : esc c a b = false := by simp [esc, h]
theorem esc_no1 (c a b : UInt8) (h : hexV a < 0) : esc c a b = false := by
  have : ¬ (0 ≤ hexV a) := by omega
  simp [esc, this]
theorem esc_no2 (c a b : UInt8) (h : hexV b < 0) : esc c a b = false := by
  have : ¬ (0 ≤ hexV b) := by omega
  simp [esc, this]
theorem esc_yes (c a b : UInt8) (h : c = 37) (ha : 0 ≤ hexV a) (hb : 0 ≤ hexV b) : esc c a b = true := by simp [esc, h, ha, hb]
theorem escAt_of (s : ByteArray) (k : Nat) (h : k + 2 < s.size) : escAt s k = esc s[k] s[k + 1] s[k + 2] := by unfold escAt; rw [dif_pos h]
theorem escAt_end (s : ByteArray) (k : Nat) (h : ¬ k + 2 < s.size) : escAt s k = false := by unfold escAt; rw [dif_neg h]
theorem escAt_no0 (s : ByteArray) (k : Nat) (hk : k < s.size) (h : s[k] ≠ 37) : escAt s k = false := by
  unfold escAt; split
  · exact esc_no0 _ _ _ h
  · rfl

theorem drop_at (s : ByteArray) (k : Nat) (h : k < s.size) : s.data.toList.drop k = s[k] :: s.data.toList.drop (k + 1) := by
  rw [List.drop_eq_getElem_cons (by simpa using h)]; rfl

theorem dec_at_esc (s : ByteArray) (k : Nat) (h : k + 2 < s.size) (he : esc s[k] s[k + 1] s[k + 2] = true) : dec (s.data.toList.drop k) = hexB s[k + 1] s[k + 2] :: dec (s.data.toList.drop (k + 3)) := by
  rw [drop_at s k (by omega), drop_at s (k + 1) (by omega), drop_at s (k + 2) h, dec_esc _ _ _ _ he]

theorem dec_at_not (s : ByteArray) (k : Nat) (h : k < s.size) (he : escAt s k = false) : dec (s.data.toList.drop k) = s[k] :: dec (s.data.toList.drop (k + 1)) := by
  by_cases h2 : k + 2 < s.size
  · rw [drop_at s k h, drop_at s (k + 1) (by omega), drop_at s (k + 2) h2]
    simp only [escAt, h2, dif_pos] at he
    rw [dec_three _ _ _ _ he]
  · rw [drop_at s k h, dec_short]
    simp only [List.length_drop, Array.length_toList]
    have : s.data.size = s.size := rfl
    omega

theorem dec_length : ∀ (n : Nat) (l : List UInt8), l.length ≤ n → (dec l).length ≤ l.length
  | _, [], _ => by simp [dec]
  | _, [c], _ => by simp [dec]
  | _, [c, a], _ => by simp [dec]
  | 0, c :: a :: b :: r, h => by simp at h
  | n + 1, c :: a :: b :: r, h => by
    simp only [List.length_cons] at h
    cases he : esc c a b with
    | true =>
      rw [dec_esc _ _ _ _ he]
      have := dec_length n r (by omega)
      simp only [List.length_cons]; omega
    | false =>
      rw [dec_three _ _ _ _ he]
      have := dec_length n (a :: b :: r) (by simp only [List.length_cons]; omega)
      simp only [List.length_cons] at this ⊢; omega
theorem dec_le (l : List UInt8) : (dec l).length ≤ l.length := dec_length l.length l (Nat.le_refl _)

theorem dec_even_n : ∀ (n : Nat) (l : List UInt8), l.length ≤ n → (l.length - (dec l).length) % 2 = 0
  | _, [], _ => by simp [dec]
  | _, [c], _ => by simp [dec]
  | _, [c, a], _ => by simp [dec]
  | 0, c :: a :: b :: r, h => by simp at h
  | n + 1, c :: a :: b :: r, h => by
    simp only [List.length_cons] at h
    cases he : esc c a b with
    | true =>
      rw [dec_esc _ _ _ _ he]
      have h1 := dec_even_n n r (by omega)
      have h2 := dec_le r
      simp only [List.length_cons]; omega
    | false =>
      rw [dec_three _ _ _ _ he]
      have h1 := dec_even_n n (a :: b :: r) (by simp only [List.length_cons]; omega)
      have h2 := dec_le (a :: b :: r)
      simp only [List.length_cons] at h1 h2 ⊢; omega
theorem dec_even (l : List UInt8) : (l.length - (dec l).length) % 2 = 0 := dec_even_n l.length l (Nat.le_refl _)

theorem dec_plain : ∀ (l : List UInt8), (∀ c ∈ l, c ≠ 37) → dec l = l
  | [], _ => by simp [dec]
  | [c], _ => by simp [dec]
  | [c, a], _ => by simp [dec]
  | c :: a :: b :: r, h => by
    rw [dec_three _ _ _ _ (esc_no0 c a b (h c (by simp)))]
    rw [dec_plain (a :: b :: r) (fun x hx => h x (List.mem_cons_of_mem c hx))]

end Go.Proofs.YtbogjajfbchdjaaDoor
