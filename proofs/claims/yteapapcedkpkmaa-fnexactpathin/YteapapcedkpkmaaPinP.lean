/- Plain facts on paths below paths. -/
import Derived.Test.YteapapcedkpkmaaCutP
import Derived.Lib.Strings
set_option linter.unusedVariables false
namespace Go.Proofs.Yteapapcedkpkmaa
open Go.RowKit

/-- Whether a path is below another one. -/
def pinL (p b : List UInt8) : Bool := !b.isEmpty && Lib.hasPrefix p b && (decide (p.length = b.length) || b.getLast? == some 47 || p[b.length]? == some 47)
theorem pinL_nil (p : List UInt8) : pinL p [] = false := rfl
theorem pinL_no (p b : List UInt8) (h : Lib.hasPrefix p b = false) : pinL p b = false := by unfold pinL; rw [h]; simp
theorem pinL_yes (p b : List UInt8) (h : Lib.hasPrefix p b = true) (hb : b ≠ []) : pinL p b = (decide (p.length = b.length) || b.getLast? == some 47 || p[b.length]? == some 47) := by
  unfold pinL; rw [h, List.isEmpty_eq_false_iff.2 hb]; simp
theorem pre_len {p b : List UInt8} (h : Lib.hasPrefix p b = true) : b.length ≤ p.length := by
  unfold Lib.hasPrefix at h; exact (List.isPrefixOf_iff_prefix.1 h).length_le
theorem pre_eq {p b : List UInt8} (h : Lib.hasPrefix p b = true) (hl : p.length = b.length) : p = b := by
  unfold Lib.hasPrefix at h; exact ((List.isPrefixOf_iff_prefix.1 h).eq_of_length hl.symm).symm
theorem pre_self (p : List UInt8) : Lib.hasPrefix p p = true := by
  unfold Lib.hasPrefix; exact List.isPrefixOf_iff_prefix.2 (List.prefix_refl p)
theorem pre_app {p b : List UInt8} (x : List UInt8) (h : Lib.hasPrefix p b = true) : Lib.hasPrefix (p ++ x) b = true := by
  unfold Lib.hasPrefix at h ⊢; exact List.isPrefixOf_iff_prefix.2 ((List.isPrefixOf_iff_prefix.1 h).trans (List.prefix_append p x))
theorem pin_self (p : List UInt8) : pinL p p = !p.isEmpty := by
  unfold pinL; rw [pre_self]; simp
theorem pin_root (p : List UInt8) (h : p[0]? = some 47) : pinL p [47] = true := by
  cases p with
  | nil => cases h
  | cons c r =>
    have : c = 47 := by simpa using h
    subst this
    have h1 : Lib.hasPrefix (47 :: r) [47] = true := by unfold Lib.hasPrefix; exact List.isPrefixOf_iff_prefix.2 ⟨r, rfl⟩
    rw [pinL_yes _ _ h1 (by simp)]; simp
theorem pin_ne {p b : List UInt8} (h : pinL p b = true) : b ≠ [] ∧ Lib.hasPrefix p b = true := by
  unfold pinL at h
  simp only [Bool.and_eq_true, Bool.not_eq_true', List.isEmpty_eq_false_iff] at h
  exact ⟨h.1.1, h.1.2⟩
theorem pin_more {p b : List UInt8} (h : pinL p b = true) : pinL (p ++ [47, 120]) b = true := by
  obtain ⟨hb, hp⟩ := pin_ne h
  rw [pinL_yes _ _ hp hb] at h
  rw [pinL_yes _ _ (pre_app _ hp) hb]
  have hl := pre_len hp
  simp only [Bool.or_eq_true, decide_eq_true_eq, beq_iff_eq] at h ⊢
  rcases h with (h | h) | h
  · right; rw [← h, List.getElem?_append_right (Nat.le_refl _)]; simp
  · left; right; exact h
  · right
    rw [List.getElem?_append_left]
    · exact h
    · rcases Nat.lt_or_ge b.length p.length with h1 | h1
      · exact h1
      · rw [List.getElem?_eq_none h1] at h; cases h
theorem mk_of (s : ByteArray) : mk s.data.toList = s := mk_list s
theorem at_get (s : ByteArray) (k : Nat) (hk : k < s.size) : s.data.toList[k]? = some s[k] := by
  rw [List.getElem?_eq_getElem (by simpa using hk)]
  simp [ByteArray.getElem_eq_getElem_data]
theorem last_get (s : ByteArray) (k : Nat) (h : s.size = k + 1) : s.data.toList.getLast? = some (s[k]'(by omega)) := by
  rw [List.getLast?_eq_getElem?]
  have hl : s.data.toList.length = s.size := by simp
  rw [hl, show s.size - 1 = k from by omega]
  exact at_get s k (by omega)
theorem byte47 (c : UInt8) (h : c ≠ 47) : ((c.toNat : Int) == 47) = false := by
  rw [beq_eq_false_iff_ne]; intro e; apply h; apply UInt8.toNat_inj.1; show c.toNat = 47; omega
/-- What two walks of PathIn come upon. -/
theorem pinCase (p b : ByteArray) :
    b = ⟨#[]⟩ ∨ (b.size ≠ 0 ∧ Lib.hasPrefix p.data.toList b.data.toList = false) ∨ (b.size ≠ 0 ∧ p = b) ∨
    (∃ k, ∃ hk : b.size = k + 1, b.size < p.size ∧ Lib.hasPrefix p.data.toList b.data.toList = true ∧ (b[k]'(by omega)) = 47) ∨
    (∃ k, ∃ hk : b.size = k + 1, ∃ hl : b.size < p.size, Lib.hasPrefix p.data.toList b.data.toList = true ∧ (b[k]'(by omega)) ≠ 47 ∧ p[b.size] = 47) ∨
    (∃ k, ∃ hk : b.size = k + 1, ∃ hl : b.size < p.size, Lib.hasPrefix p.data.toList b.data.toList = true ∧ (b[k]'(by omega)) ≠ 47 ∧ p[b.size] ≠ 47) := by
  have lp : p.data.toList.length = p.size := by simp
  have lb : b.data.toList.length = b.size := by simp
  by_cases h0 : b.size = 0
  · have := mk_list b
    rw [List.length_eq_zero_iff.1 (show b.data.toList.length = 0 by omega)] at this
    exact .inl this.symm
  cases hp : Lib.hasPrefix p.data.toList b.data.toList with
  | false => exact .inr (.inl ⟨h0, rfl⟩)
  | true =>
    have hle := pre_len hp
    by_cases he : p.size = b.size
    · refine .inr (.inr (.inl ⟨h0, ?_⟩))
      have := pre_eq hp (by omega)
      rw [← mk_list p, ← mk_list b, this]
    · obtain ⟨k, hk⟩ : ∃ k, b.size = k + 1 := ⟨b.size - 1, by omega⟩
      have hlt : b.size < p.size := by omega
      by_cases h1 : (b[k]'(by omega)) = 47
      · exact .inr (.inr (.inr (.inl ⟨k, hk, hlt, rfl, h1⟩)))
      · by_cases h2 : p[b.size] = 47
        · exact .inr (.inr (.inr (.inr (.inl ⟨k, hk, hlt, rfl, h1, h2⟩))))
        · exact .inr (.inr (.inr (.inr (.inr ⟨k, hk, hlt, rfl, h1, h2⟩))))
theorem pin_last (p b : ByteArray) (k : Nat) (hk : b.size = k + 1) (hp : Lib.hasPrefix p.data.toList b.data.toList = true) (h : (b[k]'(by omega)) = 47) : pinL p.data.toList b.data.toList = true := by
  rw [pinL_yes _ _ hp (by intro e; have hl : b.data.toList.length = b.size := by simp
                          rw [e] at hl; simp at hl; omega), last_get b k hk, h]; simp
theorem pin_here (p b : ByteArray) (k : Nat) (hk : b.size = k + 1) (hl : b.size < p.size) (hp : Lib.hasPrefix p.data.toList b.data.toList = true) (h2 : p[b.size] = 47) : pinL p.data.toList b.data.toList = true := by
  have hl' : b.data.toList.length = b.size := by simp
  rw [pinL_yes _ _ hp (by intro e; rw [e] at hl'; simp at hl'; omega), hl', at_get p b.size hl, h2]; simp
theorem pin_none (p b : ByteArray) (k : Nat) (hk : b.size = k + 1) (hl : b.size < p.size) (hp : Lib.hasPrefix p.data.toList b.data.toList = true) (h : (b[k]'(by omega)) ≠ 47) (h2 : p[b.size] ≠ 47) : pinL p.data.toList b.data.toList = false := by
  have hl' : b.data.toList.length = b.size := by simp
  have hp' : p.data.toList.length = p.size := by simp
  rw [pinL_yes _ _ hp (by intro e; rw [e] at hl'; simp at hl'; omega), last_get b k hk, hl', at_get p b.size hl, hp']
  simp [h, h2]; omega
end Go.Proofs.Yteapapcedkpkmaa
