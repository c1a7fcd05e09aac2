/- spec.l1Cut and l2Parts: the pieces of a text, the parts of a host's text. -/
import Derived.Test.YtbogjajfbchdjaaDoorHostI
import Derived.Test.YtbogjajfbchdjaaDoorCutS
set_option linter.unusedVariables false
namespace Go.Proofs.YtbogjajfbchdjaaDoor
open Go.RowKit Go.Shelf

set_option maxHeartbeats 2000000 in
set_option maxRecDepth 100000 in
theorem l2Parts (s : ByteArray) (w : World) (hs : s.size ≤ 1048576) :
    Calls Tryd.prog 40 #[.string s] w fun e w' => ∃ g c, e = .returned (.slice (some ⟨g, 0, none⟩) (partsL s.data.toList).length c) ∧ w.heap.size ≤ g ∧ StrsAt g (partsL s.data.toList) w' ∧ Below w.heap.size w w' := by
  obtain ⟨P, hP⟩ : ∃ P, P = cutL 46 s.data.toList := ⟨_, rfl⟩
  have hPne : P ≠ [] := by rw [hP]; exact cutL_ne _ _
  obtain ⟨k, hk⟩ : ∃ k, P.length = k + 1 := ⟨P.length - 1, by have := List.length_pos_iff.2 hPne; omega⟩
  have hk600 : k ≤ 1048577 := by
    have := cutL_len_le 46 s.data.toList
    have hl : s.data.toList.length = s.size := by simp
    rw [← hP] at this; omega
  have CS : Hid (Calls Tryd.prog 39 #[.string s, .int .u8 46] w fun e w' => ∃ g c, e = .returned (.slice (some ⟨g, 0, none⟩) (k + 1) c) ∧ w.heap.size ≤ g ∧ k + 1 ≤ c ∧ StrsAt g P w' ∧ Below w.heap.size w w') := by
    refine (l1Cut s 46 w hs).mono ?_
    rintro e w' ⟨v, rfl, hO, hB⟩
    rw [← hP] at hO
    obtain ⟨g, c, rfl, hg, hc, hS⟩ := ownS_strs hO hPne
    exact ⟨g, c, by rw [hk], hg, by omega, hS, hB⟩
  have HK : Hid (k = 0 ∨ P[k]? ≠ some [] → partsL s.data.toList = P) := by
    intro h
    rw [hP]
    refine partsL_keep _ ?_
    rw [← hP, hk]
    rcases h with h | h
    · left; omega
    · right; simpa using h
  have HD : Hid (1 ≤ k → P[k]? = some [] → partsL s.data.toList = P.dropLast) := by
    intro h1 h2
    rw [hP]
    refine partsL_drop _ ?_ ?_
    · rw [← hP, hk]; omega
    · rw [← hP, hk]; simpa using h2
  have HL : Hid (P.length = k + 1) := hk
  clear hP hk hPne
  have hk1 : (k : Int) + 1 - 1 = (k : Int) := by omega
  by_cases h0 : k = 0
  · have HP : Hid (partsL s.data.toList = P) := HK.out (.inl h0)
    subst h0
    go_enter Tryd.func40, Tryd.ntmps40
    go_wp2_with fail
    refine CS.out.mono ?_
    rintro e w1 ⟨g, c, rfl, hg, hc, hS, hB⟩
    go_wp2
    go_ret
    exact ⟨g, c, by rw [HP.out, HL.out]; rfl, hg, by rw [HP.out]; exact hS, hB⟩
  · have h0i : (1 : Int) < (k : Int) + 1 := by omega
    go_enter Tryd.func40, Tryd.ntmps40
    go_wp2_with fail
    refine CS.out.mono ?_
    rintro e w1 ⟨g, c, rfl, hg, hgc, hS, hB⟩
    have hgci : (k : Int) + 1 ≤ (c : Int) := by omega
    have hgci2 : (k : Int) ≤ (c : Int) := by omega
    have hc := hS.cell k (by rw [HL.out]; omega)
    by_cases hz : P[k]? = some []
    · have HP : Hid (partsL s.data.toList = P.dropLast) := HD.out (by omega) hz
      have hz2 : P[k]'(by rw [HL.out]; omega) = [] := by
        rw [List.getElem?_eq_getElem (by rw [HL.out]; omega)] at hz; exact Option.some.inj hz
      rw [hz2] at hc
      have hc2 : w1.cell? ⟨g, k, none⟩ = some (.string ⟨#[]⟩) := hc
      clear hc
      go_wp2
      go_ret
      exact ⟨g, c, by rw [HP.out, List.length_dropLast, HL.out]; rfl, hg, by rw [HP.out]; exact hS.less, hB⟩
    · have HP : Hid (partsL s.data.toList = P) := HK.out (.inr hz)
      obtain ⟨z, hzz, hzn⟩ : ∃ z : ByteArray, w1.cell? ⟨g, k, none⟩ = some (.string z) ∧ z.toList ≠ [] := by
        refine ⟨_, hc, ?_⟩
        rw [ByteArray.toList_eq, mk_data]
        intro e
        apply hz
        rw [List.getElem?_eq_getElem (by rw [HL.out]; omega), e]
      have hne1 : (z.toList == []) = false := beq_eq_false_iff_ne.2 hzn
      have hne2 : z.toList.isEmpty = false := List.isEmpty_eq_false_iff.2 hzn
      clear hc hz
      go_wp2
      go_ret
      exact ⟨g, c, by rw [HP.out, HL.out]; rfl, hg, by rw [HP.out]; exact hS, hB⟩
end Go.Proofs.YtbogjajfbchdjaaDoor
