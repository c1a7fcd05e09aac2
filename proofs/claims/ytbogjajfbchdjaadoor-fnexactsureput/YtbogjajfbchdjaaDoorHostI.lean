/- impl.hostParts: the parts of a host's text. -/
import Derived.Test.YtbogjajfbchdjaaDoorPartNum
import Derived.Test.YtbogjajfbchdjaaDoorOwnS
set_option linter.unusedVariables false
namespace Go.Proofs.YtbogjajfbchdjaaDoor
open Go.RowKit Go.Shelf

set_option maxHeartbeats 2000000 in
set_option maxRecDepth 100000 in
theorem hostParts (s : ByteArray) (w : World) (hs : s.size ≤ 1000000) (hm : ∃ m, w.cell? ⟨0, 0, none⟩ = some (.int .i64 m)) :
    Calls Tryd.prog 49 #[.string s] w fun e w' => ∃ c, e = .returned (.slice (some ⟨w.heap.size, 0, none⟩) (partsL s.data.toList).length c) ∧ StrsAt w.heap.size (partsL s.data.toList) w' ∧ Below w.heap.size w w' := by
  obtain ⟨m, hm⟩ := hm
  obtain ⟨P, hP⟩ : ∃ P, P = cutL 46 s.data.toList := ⟨_, rfl⟩
  have hlen : Lib.countB s (mk [46]) + 1 = P.length := by rw [hP, cut_len]
  obtain ⟨k, hk⟩ : ∃ k, P.length = k + 1 := ⟨_, hlen.symm⟩
  have hk600 : k ≤ 1000001 := by
    have := cutL_len_le 46 s.data.toList
    have hl : s.data.toList.length = s.size := by simp
    rw [← hP] at this; omega
  have CS : Hid (Calls Tryd.prog 55 #[.string s, .string ⟨#[46]⟩] w fun e w' => e = .returned (.slice (some ⟨w.heap.size, 0, none⟩) (k + 1) (k + 1)) ∧ StrsAt w.heap.size P w' ∧ Below w.heap.size w w') := by
    refine (Tryd.strings_Split s (mk [46]) m w (by omega) hm (by rw [mk_size]; simp)).mono ?_
    rintro e w' ⟨rfl, rfl⟩
    refine ⟨by rw [hlen, hk], ?_, (Below.refl _ w).alloc (Nat.le_refl _) _⟩
    rw [hP]; exact strsAt_split s w
  have HK : Hid (k = 0 ∨ P[k]? ≠ some [] → partsL s.data.toList = P) := by
    intro h
    rw [hP]
    refine partsL_keep _ ?_
    rw [← hP, hk]
    rcases h with h | h
    · left; omega
    · right; simpa using h
  have HD : Hid (1 ≤ k → P[k]? = some [] → partsL s.data.toList = P.dropLast) := by
    intro h1 h2
    rw [hP]
    refine partsL_drop _ ?_ ?_
    · rw [← hP, hk]; omega
    · rw [← hP, hk]; simpa using h2
  have HL : Hid (P.length = k + 1) := hk
  clear hP hlen hk
  have hk1 : (k : Int) + 1 - 1 = (k : Int) := by omega
  by_cases h0 : k = 0
  · have HP : Hid (partsL s.data.toList = P) := HK.out (.inl h0)
    subst h0
    go_enter Tryd.func49, Tryd.ntmps49
    go_wp2_with fail
    refine CS.out.mono ?_
    rintro e w1 ⟨rfl, hS, hB⟩
    go_wp2
    go_ret
    exact ⟨1, by rw [HP.out, HL.out]; rfl, by rw [HP.out]; exact hS, hB⟩
  · have h0i : (0 : Int) < (k : Int) := by omega
    go_enter Tryd.func49, Tryd.ntmps49
    go_wp2_with fail
    refine CS.out.mono ?_
    rintro e w1 ⟨rfl, hS, hB⟩
    have hc := hS.cell k (by rw [HL.out]; omega)
    by_cases hz : P[k]? = some []
    · have HP : Hid (partsL s.data.toList = P.dropLast) := HD.out (by omega) hz
      have hz2 : P[k]'(by rw [HL.out]; omega) = [] := by
        rw [List.getElem?_eq_getElem (by rw [HL.out]; omega)] at hz; exact Option.some.inj hz
      rw [hz2] at hc
      have hc2 : w1.cell? ⟨w.heap.size, k, none⟩ = some (.string ⟨#[]⟩) := hc
      clear hc
      go_wp2
      go_ret
      exact ⟨k + 1, by rw [HP.out, List.length_dropLast, HL.out]; rfl, by rw [HP.out]; exact hS.less, hB⟩
    · have HP : Hid (partsL s.data.toList = P) := HK.out (.inr hz)
      obtain ⟨z, hzz, hzn⟩ : ∃ z : ByteArray, w1.cell? ⟨w.heap.size, k, none⟩ = some (.string z) ∧ z.toList ≠ [] := by
        refine ⟨_, hc, ?_⟩
        rw [ByteArray.toList_eq, mk_data]
        intro e
        apply hz
        rw [List.getElem?_eq_getElem (by rw [HL.out]; omega), e]
      have hne1 : (z.toList == []) = false := beq_eq_false_iff_ne.2 hzn
      have hne2 : z.toList.isEmpty = false := List.isEmpty_eq_false_iff.2 hzn
      clear hc hz
      go_wp2
      go_ret
      exact ⟨k + 1, by rw [HP.out, HL.out]; rfl, by rw [HP.out]; exact hS, hB⟩
end Go.Proofs.YtbogjajfbchdjaaDoor
