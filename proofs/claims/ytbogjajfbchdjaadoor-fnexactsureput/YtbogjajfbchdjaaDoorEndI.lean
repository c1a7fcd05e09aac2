/- impl.allFigures, impl.endsWithNumber. -/
import Derived.Test.YtbogjajfbchdjaaDoorNameI
set_option linter.unusedVariables false
namespace Go.Proofs.YtbogjajfbchdjaaDoor
open Go.RowKit Go.Shelf

theorem figsL_no (s : ByteArray) (k : Nat) (hk : k < s.size) (h : figB s[k] = false) : figsL s.data.toList = false := by
  unfold figsL
  rw [List.all_eq_false]
  exact ⟨s[k], by simp [ByteArray.getElem_eq_getElem_data], by rw [h]; simp⟩
theorem figsL_yes (s : ByteArray) (h : ∀ j (hj : j < s.size), figB s[j] = true) : figsL s.data.toList = true := by
  unfold figsL
  rw [List.all_eq_true]
  intro c hc
  obtain ⟨j, hj, e⟩ := List.getElem_of_mem hc
  have hj' : j < s.size := by simpa using hj
  have e2 : s[j] = c := by rw [← e]; simp [ByteArray.getElem_eq_getElem_data]
  rw [← e2]; exact h j hj'

set_option maxHeartbeats 2000000 in
set_option maxRecDepth 100000 in
theorem allFigures (s : ByteArray) (w : World) (hs : s.size ≤ 1000000) :
    Calls Tryd.prog 52 #[.string s] w fun e w' => e = .returned (.bool (figsL s.data.toList)) ∧ w' = w := by
  go_enter Tryd.func52, Tryd.ntmps52
  go_wp2
  go_loop [3] (fun i => ∃ k : Nat, k ≤ s.size ∧ i = .int .i64 k ∧ Hid (∀ j (hj : j < s.size), j < k → figB s[j] = true)) (fun i => s.size - (intOf i).toNat)
  case atStart => exact ⟨0, Nat.zero_le _, rfl, fun j hj h => absurd h (by omega)⟩
  case round =>
    obtain ⟨k, hk, rfl, HA⟩ := hrel
    by_cases hp : k < s.size
    · have hki : (k : Int) < (s.size : Int) := by omega
      cases h4 : figB s[k] with
      | true =>
        have HA2 : Hid (∀ j (hj : j < s.size), j < k + 1 → figB s[j] = true) := by
          intro j hj h
          by_cases hjk : j = k
          · subst hjk; exact h4
          · exact HA.out j hj (by omega)
        go_wp2_with (first
          | (go_at_call 47; refine (isFigure s[k] _).mono ?_; rintro e W1 ⟨rfl, hW⟩; have hW2 := hW.symm; subst hW2; rw [h4])
          | fail)
        go_round
        case rel => exact ⟨k + 1, by omega, by go_num, HA2⟩
        case measure => simp [intOf]; omega
      | false =>
        have HZ : Hid (figsL s.data.toList = false) := figsL_no s k hp h4
        go_wp2_with (first
          | (go_at_call 47; refine (isFigure s[k] _).mono ?_; rintro e W1 ⟨rfl, hW⟩; have hW2 := hW.symm; subst hW2; rw [h4])
          | fail)
        go_ret
        exact ⟨by rw [HZ.out]; rfl, rfl⟩
    · have hkk : k = s.size := by omega
      subst hkk
      have HZ : Hid (figsL s.data.toList = true) := figsL_yes s (fun j hj => HA.out j hj hj)
      go_wp2
      go_ret
      exact ⟨by rw [HZ.out]; rfl, rfl⟩


set_option maxHeartbeats 2000000 in
set_option maxRecDepth 100000 in
theorem endsWithNumber (s : ByteArray) (w : World) (hm : ∃ m, w.cell? ⟨0, 0, none⟩ = some (.int .i64 m)) (hs : s.size ≤ 1000000) :
    Calls Tryd.prog 43 #[.string s] w fun e w' => e = .returned (.bool (endsL s.data.toList)) ∧ Below w.heap.size w w' := by
  have hl : s.data.toList.length = s.size := by simp
  have CP : Hid (Calls Tryd.prog 49 #[.string s] w fun e w' => ∃ c, e = .returned (.slice (some ⟨w.heap.size, 0, none⟩) (partsL s.data.toList).length c) ∧ StrsAt w.heap.size (partsL s.data.toList) w' ∧ Below w.heap.size w w') := hostParts s w hs hm
  have h1 := partsL_ne s.data.toList
  have hll := partsL_len_le s.data.toList
  have hq9 := lastP_le s.data.toList
  have HQ : Hid (∀ g W, StrsAt g (partsL s.data.toList) W → W.cell? ⟨g, (partsL s.data.toList).length - 1, none⟩ = some (.string (mk (lastP s.data.toList)))) := fun g W h => h.cell _ (by omega)
  have H0 : Hid (lastP s.data.toList = [] → endsL s.data.toList = false) := ends_empty _
  have HH : Hid (hexA (lastP s.data.toList) = true → endsL s.data.toList = partOk (lastP s.data.toList)) := ends_hex _
  have HF : Hid (lastP s.data.toList ≠ [] → hexA (lastP s.data.toList) = false → endsL s.data.toList = figsL (lastP s.data.toList)) := ends_figs _
  clear hm
  obtain ⟨n, hn⟩ : ∃ n, (partsL s.data.toList).length = n + 1 := ⟨(partsL s.data.toList).length - 1, by omega⟩
  obtain ⟨q, hq⟩ : ∃ q, q = lastP s.data.toList := ⟨_, rfl⟩
  rw [← hq] at HQ H0 HH HF hq9
  rw [hn] at CP HQ hll
  have hn9 : n ≤ 1000001 := by omega
  have hn1 : (n : Int) + 1 - 1 = (n : Int) := by omega
  obtain ⟨z, hz⟩ : ∃ z, z = mk q := ⟨_, rfl⟩
  have hzq : z.data.toList = q := by rw [hz, mk_data]
  rw [← hz] at HQ
  rw [← hzq] at H0 HH HF hq9
  have hz9 : z.size ≤ 1000000 := by
    have : z.data.toList.length = z.size := by simp
    omega
  clear hn hq hz hzq hll hq9 hl h1 q
  go_enter Tryd.func43, Tryd.ntmps43
  go_wp2_with fail
  refine CP.out.mono ?_
  rintro e w1 ⟨c, rfl, hS, hB⟩
  have hc : w1.cell? ⟨w.heap.size, n, none⟩ = some (.string z) := HQ.out _ _ hS
  have HB : Hid (Below w.heap.size w w1) := hB
  clear hS hB HQ
  cases hx : hexA z.data.toList with
  | true =>
    have HZ : Hid (endsL s.data.toList = partOk z.data.toList) := HH.out hx
    go_wp2_with fail
    refine (isHex z _).mono ?_
    rintro e W1 ⟨rfl, hW⟩
    have hW2 := hW.symm
    subst hW2
    rw [hx]
    go_wp2_with fail
    refine (partNumber z _ hz9).mono ?_
    rintro e W1 ⟨rfl, m, hW⟩
    subst hW
    go_wp2
    go_ret
    exact ⟨by rw [HZ.out]; rfl, below_drewN HB.out _⟩
  | false =>
    by_cases hz0 : z.data.toList = []
    · have HZ : Hid (endsL s.data.toList = false) := H0.out hz0
      have he : z = ⟨#[]⟩ := by
        have := mk_list z
        rw [hz0] at this
        exact this.symm
      subst he
      go_wp2_with fail
      refine (isHex _ _).mono ?_
      rintro e W1 ⟨rfl, hW⟩
      have hW2 := hW.symm
      subst hW2
      rw [hx]
      go_wp2
      go_ret
      exact ⟨by rw [HZ.out]; rfl, HB.out⟩
    · have HZ : Hid (endsL s.data.toList = figsL z.data.toList) := HF.out hz0 hx
      have hzn : z.toList ≠ [] := by rw [ByteArray.toList_eq]; exact hz0
      have hne1 : (z.toList == []) = false := beq_eq_false_iff_ne.2 hzn
      have hne2 : z.toList.isEmpty = false := List.isEmpty_eq_false_iff.2 hzn
      have hne4 : (z.toList != []) = true := by simp [bne, hne1]
      clear hz0
      go_wp2_with fail
      refine (isHex _ _).mono ?_
      rintro e W1 ⟨rfl, hW⟩
      have hW2 := hW.symm
      subst hW2
      rw [hx]
      go_wp2_with fail
      refine (allFigures z _ hz9).mono ?_
      rintro e W1 ⟨rfl, hW⟩
      have hW2 := hW.symm
      subst hW2
      go_wp2
      go_ret
      exact ⟨by rw [HZ.out]; rfl, HB.out⟩
end Go.Proofs.YtbogjajfbchdjaaDoor
