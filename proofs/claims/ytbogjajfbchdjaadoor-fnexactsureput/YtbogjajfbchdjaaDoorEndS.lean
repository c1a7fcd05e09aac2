/- spec.l2Ends: whether a host's text ends with a number. -/
import Derived.Test.YtbogjajfbchdjaaDoorNameS
import Derived.Test.YtbogjajfbchdjaaDoorEndI
set_option linter.unusedVariables false
namespace Go.Proofs.YtbogjajfbchdjaaDoor
open Go.RowKit Go.Shelf

theorem figs_next (s : ByteArray) (k : Nat) (h : k < s.size) : figsL (s.data.toList.take (k + 1)) = (figsL (s.data.toList.take k) && figB s[k]) := by
  unfold figsL; rw [take_snoc s k h]; simp
theorem fig_dec (c : UInt8) : figB c = (decide ((48 : Int) ≤ (c.toNat : Int)) && decide ((c.toNat : Int) ≤ 57)) := by
  unfold figB; rw [← Bool.decide_and]; exact decide_eq_decide.2 (by omega)

set_option maxHeartbeats 4000000 in
set_option maxRecDepth 100000 in
theorem l2Ends (s : ByteArray) (w : World) (hs : s.size ≤ 1000000) :
    Calls Tryd.prog 34 #[.string s] w fun e w' => e = .returned (.bool (endsL s.data.toList)) ∧ Below w.heap.size w w' := by
  have hl : s.data.toList.length = s.size := by simp
  have CP : Hid (Calls Tryd.prog 40 #[.string s] w fun e w' => ∃ g c, e = .returned (.slice (some ⟨g, 0, none⟩) (partsL s.data.toList).length c) ∧ w.heap.size ≤ g ∧ StrsAt g (partsL s.data.toList) w' ∧ Below w.heap.size w w') := l2Parts s w (by omega)
  have h1 := partsL_ne s.data.toList
  have hll := partsL_len_le s.data.toList
  have hq9 := lastP_le s.data.toList
  have HQ : Hid (∀ g W, StrsAt g (partsL s.data.toList) W → W.cell? ⟨g, (partsL s.data.toList).length - 1, none⟩ = some (.string (mk (lastP s.data.toList)))) := fun g W h => h.cell _ (by omega)
  have H0 : Hid (lastP s.data.toList = [] → endsL s.data.toList = false) := ends_empty _
  have HH : Hid (hexA (lastP s.data.toList) = true → endsL s.data.toList = partOk (lastP s.data.toList)) := ends_hex _
  have HX : Hid (hexA (lastP s.data.toList) = true → figsL (lastP s.data.toList) = false) := hexA_figs _
  have HV : Hid (decide (0 ≤ partV (lastP s.data.toList)) = partOk (lastP s.data.toList)) := partV_ok _
  have HF : Hid (lastP s.data.toList ≠ [] → hexA (lastP s.data.toList) = false → endsL s.data.toList = figsL (lastP s.data.toList)) := ends_figs _
  obtain ⟨n, hn⟩ : ∃ n, (partsL s.data.toList).length = n + 1 := ⟨(partsL s.data.toList).length - 1, by omega⟩
  obtain ⟨q, hq⟩ : ∃ q, q = lastP s.data.toList := ⟨_, rfl⟩
  rw [← hq] at HQ H0 HH HF hq9 HX HV
  rw [hn] at CP HQ hll
  have hn9 : n ≤ 1000001 := by omega
  have hn1 : (n : Int) + 1 - 1 = (n : Int) := by omega
  obtain ⟨z, hz⟩ : ∃ z, z = mk q := ⟨_, rfl⟩
  have hzq : z.data.toList = q := by rw [hz, mk_data]
  rw [← hz] at HQ
  rw [← hzq] at H0 HH HF hq9 HX HV
  have hz9 : z.size ≤ 1000000 := by
    have : z.data.toList.length = z.size := by simp
    omega
  clear hn hq hz hzq hll hq9 hl h1 q
  go_enter Tryd.func34, Tryd.ntmps34
  go_wp2_with fail
  refine CP.out.mono ?_
  rintro e w1 ⟨g, c, rfl, hg, hS, hB⟩
  have hc : w1.cell? ⟨g, n, none⟩ = some (.string z) := HQ.out _ _ hS
  have HB : Hid (Below w.heap.size w w1) := hB
  clear hS hB HQ hg
  by_cases hz0 : z.data.toList = []
  · have HZ : Hid (endsL s.data.toList = false) := H0.out hz0
    have he : z = ⟨#[]⟩ := by
      have := mk_list z
      rw [hz0] at this
      exact this.symm
    subst he
    clear hz0
    go_wp2
    go_ret
    exact ⟨by rw [HZ.out]; rfl, HB.out⟩
  · have HF2 : Hid (hexA z.data.toList = false → endsL s.data.toList = figsL z.data.toList) := HF.out hz0
    have hzn : z.toList ≠ [] := by rw [ByteArray.toList_eq]; exact hz0
    have hne1 : (z.toList == []) = false := beq_eq_false_iff_ne.2 hzn
    have hne2 : z.toList.isEmpty = false := List.isEmpty_eq_false_iff.2 hzn
    clear hz0
    go_wp2
    go_loop [5, 6] (fun a i => ∃ k : Nat, k ≤ z.size ∧ i = .int .i64 k ∧ a = .bool (figsL (z.data.toList.take k))) (fun a i => z.size - (intOf i).toNat)
    case atStart => exact ⟨0, Nat.zero_le _, rfl, rfl⟩
    case round =>
      obtain ⟨k, hk, rfl, rfl⟩ := hrel
      by_cases hp : k < z.size
      · have hki : (k : Int) < (z.size : Int) := by omega
        have HT : Hid (figsL (z.data.toList.take (k + 1)) = (figsL (z.data.toList.take k) && figB z[k])) := figs_next z k hp
        have HD : Hid (figB z[k] = (decide ((48 : Int) ≤ (z[k].toNat : Int)) && decide ((z[k].toNat : Int) ≤ 57))) := fig_dec _
        have hb := u8_lt z[k]
        cases ha : figsL (z.data.toList.take k) with
        | false =>
          have HT2 : Hid (figsL (z.data.toList.take (k + 1)) = false) := by show _ = _; rw [HT.out, ha]; rfl
          go_wp2
          go_round
          case rel => exact ⟨k + 1, by omega, by go_num, by rw [HT2.out]⟩
          case measure => simp [intOf]; omega
        | true =>
          rcases (show (z[k].toNat : Int) < 48 ∨ ((48 : Int) ≤ (z[k].toNat : Int) ∧ (z[k].toNat : Int) ≤ 57) ∨ ((48 : Int) ≤ (z[k].toNat : Int) ∧ (57 : Int) < (z[k].toNat : Int)) from by omega) with a1 | ⟨a1, a2⟩ | ⟨a1, a2⟩
          · have HT2 : Hid (figsL (z.data.toList.take (k + 1)) = false) := by show _ = _; rw [HT.out, ha, HD.out, decide_eq_false (by omega)]; rfl
            go_wp2
            go_round
            case rel => exact ⟨k + 1, by omega, by go_num, by rw [HT2.out]⟩
            case measure => simp [intOf]; omega
          · have HT2 : Hid (figsL (z.data.toList.take (k + 1)) = true) := by show _ = _; rw [HT.out, ha, HD.out, decide_eq_true a1, decide_eq_true a2]; rfl
            go_wp2
            go_round
            case rel => exact ⟨k + 1, by omega, by go_num, by rw [HT2.out]⟩
            case measure => simp [intOf]; omega
          · have HT2 : Hid (figsL (z.data.toList.take (k + 1)) = false) := by show _ = _; rw [HT.out, ha, HD.out, decide_eq_true a1, decide_eq_false (by omega)]; rfl
            go_wp2
            go_round
            case rel => exact ⟨k + 1, by omega, by go_num, by rw [HT2.out, decide_eq_false (by omega)]⟩
            case measure => simp [intOf]; omega
      · have hkk : k = z.size := by omega
        subst hkk
        have hfull : z.data.toList.take z.size = z.data.toList := List.take_of_length_le (by simp)
        rw [hfull]
        cases ha : figsL z.data.toList with
        | true =>
          have HZ : Hid (endsL s.data.toList = true) := by
            cases hx : hexA z.data.toList with
            | true => rw [HX.out hx] at ha; cases ha
            | false => show _ = _; rw [HF2.out hx]; exact ha
          go_wp2
          go_ret
          exact ⟨by rw [HZ.out]; rfl, HB.out⟩
        | false =>
          by_cases h2 : z.size < 2
          · have HZ : Hid (endsL s.data.toList = false) := by show _ = _; rw [HF2.out (hexA_short z h2)]; exact ha
            have h2i : (z.size : Int) < 2 := by omega
            go_wp2
            go_ret
            exact ⟨by rw [HZ.out]; rfl, HB.out⟩
          · have h2' : 2 ≤ z.size := by omega
            have h2i : (2 : Int) ≤ (z.size : Int) := by omega
            by_cases h0 : z[0] = 48
            · have e0 : ((z[0].toNat : Int) == 48) = true := u8_beq z[0] 48 (by omega) h0
              by_cases h3 : z[1] = 120
              · have e1 : ((z[1].toNat : Int) == 120) = true := u8_beq z[1] 120 (by omega) h3
                have HZ : Hid (endsL s.data.toList = decide (0 ≤ partV z.data.toList)) := by show _ = _; rw [HV.out]; exact HH.out (hexA_yes z h2' h0 (.inl h3))
                clear h0 h3
                go_wp2_with (go_at_call 41; refine (l2Part z _ hz9).mono ?_; rintro e W1 ⟨rfl, hW⟩; have hW2 := hW.symm; subst hW2)
                go_ret
                exact ⟨by rw [HZ.out]; rfl, HB.out⟩
              · have e1 : ((z[1].toNat : Int) == 120) = false := u8_bne z[1] 120 (by omega) h3
                by_cases h4 : z[1] = 88
                · have e2 : ((z[1].toNat : Int) == 88) = true := u8_beq z[1] 88 (by omega) h4
                  have HZ : Hid (endsL s.data.toList = decide (0 ≤ partV z.data.toList)) := by show _ = _; rw [HV.out]; exact HH.out (hexA_yes z h2' h0 (.inr h4))
                  clear h0 h3 h4
                  go_wp2_with (go_at_call 41; refine (l2Part z _ hz9).mono ?_; rintro e W1 ⟨rfl, hW⟩; have hW2 := hW.symm; subst hW2)
                  go_ret
                  exact ⟨by rw [HZ.out]; rfl, HB.out⟩
                · have e2 : ((z[1].toNat : Int) == 88) = false := u8_bne z[1] 88 (by omega) h4
                  have HZ : Hid (endsL s.data.toList = false) := by show _ = _; rw [HF2.out (hexA_no1 z h2' h3 h4)]; exact ha
                  clear h0 h3 h4
                  go_wp2
                  go_ret
                  exact ⟨by rw [HZ.out]; rfl, HB.out⟩
            · have e0 : ((z[0].toNat : Int) == 48) = false := u8_bne z[0] 48 (by omega) h0
              have HZ : Hid (endsL s.data.toList = false) := by show _ = _; rw [HF2.out (hexA_no0 z h2' h0)]; exact ha
              clear h0
              go_wp2
              go_ret
              exact ⟨by rw [HZ.out]; rfl, HB.out⟩
end Go.Proofs.YtbogjajfbchdjaaDoor
