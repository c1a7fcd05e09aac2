/- spec.l2Ends: whether a host's text ends with a number. spec.FourGet: an address of four bytes. spec.Decode reads a text of figures, of whatever size. spec.HostGet: a host, read of a text. -/
import Derived.Test.YticbekooadnnlaaGreatDoorB21
import Derived.Test.YticbekooadnnlaaGreatDoorB08
import Derived.Test.YticbekooadnnlaaGreatDoorB09
import Derived.Deep.RegionHeld3
import Derived.Test.YticbekooadnnlaaGreatDoorB10
import Derived.Test.YticbekooadnnlaaGreatDoorB05
section
set_option linter.unusedVariables false
namespace Go.Proofs.YticbekooadnnlaaGreatDoor
open Go.RowKit Go.Shelf

theorem figs_next (s : ByteArray) (k : Nat) (h : k < s.size) : figsL (s.data.toList.take (k + 1)) = (figsL (s.data.toList.take k) && figB s[k]) := by
  unfold figsL; rw [take_snoc s k h]; simp
theorem fig_dec (c : UInt8) : figB c = (decide ((48 : Int) ≤ (c.toNat : Int)) && decide ((c.toNat : Int) ≤ 57)) := by
  unfold figB; rw [← Bool.decide_and]; exact decide_eq_decide.2 (by omega)

set_option maxHeartbeats 4000000 in
set_option maxRecDepth 100000 in
theorem l2Ends (s : ByteArray) (w : World) (hs : s.size ≤ 1000000) :
    Calls Tryz.prog 105 #[.string s] w fun e w' => e = .returned (.bool (endsL s.data.toList)) ∧ Below w.heap.size w w' := by
  have hl : s.data.toList.length = s.size := by simp
  have CP : Hid (Calls Tryz.prog 131 #[.string s] w fun e w' => ∃ g c, e = .returned (.slice (some ⟨g, 0, none⟩) (partsL s.data.toList).length c) ∧ w.heap.size ≤ g ∧ StrsAt g (partsL s.data.toList) w' ∧ Below w.heap.size w w') := l2Parts s w (by omega)
  have h1 := partsL_ne s.data.toList
  have hll := partsL_len_le s.data.toList
  have hq9 := lastP_le s.data.toList
  have HQ : Hid (∀ g W, StrsAt g (partsL s.data.toList) W → W.cell? ⟨g, (partsL s.data.toList).length - 1, none⟩ = some (.string (mk (lastP s.data.toList)))) := fun g W h => h.cell _ (by omega)
  have H0 : Hid (lastP s.data.toList = [] → endsL s.data.toList = false) := ends_empty _
  have HH : Hid (hexA (lastP s.data.toList) = true → endsL s.data.toList = partOk (lastP s.data.toList)) := ends_hex _
  have HX : Hid (hexA (lastP s.data.toList) = true → figsL (lastP s.data.toList) = false) := hexA_figs _
  have HV : Hid (decide (0 ≤ partV (lastP s.data.toList)) = partOk (lastP s.data.toList)) := partV_ok _
  have HF : Hid (lastP s.data.toList ≠ [] → hexA (lastP s.data.toList) = false → endsL s.data.toList = figsL (lastP s.data.toList)) := ends_figs _
  obtain ⟨n, hn⟩ : ∃ n, (partsL s.data.toList).length = n + 1 := ⟨(partsL s.data.toList).length - 1, by omega⟩
  obtain ⟨q, hq⟩ : ∃ q, q = lastP s.data.toList := ⟨_, rfl⟩
  rw [← hq] at HQ H0 HH HF hq9 HX HV
  rw [hn] at CP HQ hll
  have hn9 : n ≤ 1000001 := by omega
  have hn1 : (n : Int) + 1 - 1 = (n : Int) := by omega
  obtain ⟨z, hz⟩ : ∃ z, z = mk q := ⟨_, rfl⟩
  have hzq : z.data.toList = q := by rw [hz, mk_data]
  rw [← hz] at HQ
  rw [← hzq] at H0 HH HF hq9 HX HV
  have hz9 : z.size ≤ 1000000 := by
    have : z.data.toList.length = z.size := by simp
    omega
  clear hn hq hz hzq hll hq9 hl h1 q
  go_enter Tryz.func105, Tryz.ntmps105
  go_wp2_with fail
  refine CP.out.mono ?_
  rintro e w1 ⟨g, c, rfl, hg, hS, hB⟩
  have hc : w1.cell? ⟨g, n, none⟩ = some (.string z) := HQ.out _ _ hS
  have HB : Hid (Below w.heap.size w w1) := hB
  clear hS hB HQ hg
  by_cases hz0 : z.data.toList = []
  · have HZ : Hid (endsL s.data.toList = false) := H0.out hz0
    have he : z = ⟨#[]⟩ := by
      have := mk_list z
      rw [hz0] at this
      exact this.symm
    subst he
    clear hz0
    go_wp2
    go_ret
    exact ⟨by rw [HZ.out]; rfl, HB.out⟩
  · have HF2 : Hid (hexA z.data.toList = false → endsL s.data.toList = figsL z.data.toList) := HF.out hz0
    have hzn : z.toList ≠ [] := by rw [ByteArray.toList_eq]; exact hz0
    have hne1 : (z.toList == []) = false := beq_eq_false_iff_ne.2 hzn
    have hne2 : z.toList.isEmpty = false := List.isEmpty_eq_false_iff.2 hzn
    clear hz0
    go_wp2
    go_loop [5, 6] (fun a i => ∃ k : Nat, k ≤ z.size ∧ i = .int .i64 k ∧ a = .bool (figsL (z.data.toList.take k))) (fun a i => z.size - (intOf i).toNat)
    case atStart => exact ⟨0, Nat.zero_le _, rfl, rfl⟩
    case round =>
      obtain ⟨k, hk, rfl, rfl⟩ := hrel
      by_cases hp : k < z.size
      · have hki : (k : Int) < (z.size : Int) := by omega
        have HT : Hid (figsL (z.data.toList.take (k + 1)) = (figsL (z.data.toList.take k) && figB z[k])) := figs_next z k hp
        have HD : Hid (figB z[k] = (decide ((48 : Int) ≤ (z[k].toNat : Int)) && decide ((z[k].toNat : Int) ≤ 57))) := fig_dec _
        have hb := u8_lt z[k]
        cases ha : figsL (z.data.toList.take k) with
        | false =>
          have HT2 : Hid (figsL (z.data.toList.take (k + 1)) = false) := by show _ = _; rw [HT.out, ha]; rfl
          go_wp2
          go_round
          case rel => exact ⟨k + 1, by omega, by go_num, by rw [HT2.out]⟩
          case measure => simp [intOf]; omega
        | true =>
          rcases (show (z[k].toNat : Int) < 48 ∨ ((48 : Int) ≤ (z[k].toNat : Int) ∧ (z[k].toNat : Int) ≤ 57) ∨ ((48 : Int) ≤ (z[k].toNat : Int) ∧ (57 : Int) < (z[k].toNat : Int)) from by omega) with a1 | ⟨a1, a2⟩ | ⟨a1, a2⟩
          · have HT2 : Hid (figsL (z.data.toList.take (k + 1)) = false) := by show _ = _; rw [HT.out, ha, HD.out, decide_eq_false (by omega)]; rfl
            go_wp2
            go_round
            case rel => exact ⟨k + 1, by omega, by go_num, by rw [HT2.out]⟩
            case measure => simp [intOf]; omega
          · have HT2 : Hid (figsL (z.data.toList.take (k + 1)) = true) := by show _ = _; rw [HT.out, ha, HD.out, decide_eq_true a1, decide_eq_true a2]; rfl
            go_wp2
            go_round
            case rel => exact ⟨k + 1, by omega, by go_num, by rw [HT2.out]⟩
            case measure => simp [intOf]; omega
          · have HT2 : Hid (figsL (z.data.toList.take (k + 1)) = false) := by show _ = _; rw [HT.out, ha, HD.out, decide_eq_true a1, decide_eq_false (by omega)]; rfl
            go_wp2
            go_round
            case rel => exact ⟨k + 1, by omega, by go_num, by rw [HT2.out, decide_eq_false (by omega)]⟩
            case measure => simp [intOf]; omega
      · have hkk : k = z.size := by omega
        subst hkk
        have hfull : z.data.toList.take z.size = z.data.toList := List.take_of_length_le (by simp)
        rw [hfull]
        cases ha : figsL z.data.toList with
        | true =>
          have HZ : Hid (endsL s.data.toList = true) := by
            cases hx : hexA z.data.toList with
            | true => rw [HX.out hx] at ha; cases ha
            | false => show _ = _; rw [HF2.out hx]; exact ha
          go_wp2
          go_ret
          exact ⟨by rw [HZ.out]; rfl, HB.out⟩
        | false =>
          by_cases h2 : z.size < 2
          · have HZ : Hid (endsL s.data.toList = false) := by show _ = _; rw [HF2.out (hexA_short z h2)]; exact ha
            have h2i : (z.size : Int) < 2 := by omega
            go_wp2
            go_ret
            exact ⟨by rw [HZ.out]; rfl, HB.out⟩
          · have h2' : 2 ≤ z.size := by omega
            have h2i : (2 : Int) ≤ (z.size : Int) := by omega
            by_cases h0 : z[0] = 48
            · have e0 : ((z[0].toNat : Int) == 48) = true := u8_beq z[0] 48 (by omega) h0
              by_cases h3 : z[1] = 120
              · have e1 : ((z[1].toNat : Int) == 120) = true := u8_beq z[1] 120 (by omega) h3
                have HZ : Hid (endsL s.data.toList = decide (0 ≤ partV z.data.toList)) := by show _ = _; rw [HV.out]; exact HH.out (hexA_yes z h2' h0 (.inl h3))
                clear h0 h3
                go_wp2_with (go_at_call 132; refine (l2Part z _ hz9).mono ?_; rintro e W1 ⟨rfl, hW⟩; have hW2 := hW.symm; subst hW2)
                go_ret
                exact ⟨by rw [HZ.out]; rfl, HB.out⟩
              · have e1 : ((z[1].toNat : Int) == 120) = false := u8_bne z[1] 120 (by omega) h3
                by_cases h4 : z[1] = 88
                · have e2 : ((z[1].toNat : Int) == 88) = true := u8_beq z[1] 88 (by omega) h4
                  have HZ : Hid (endsL s.data.toList = decide (0 ≤ partV z.data.toList)) := by show _ = _; rw [HV.out]; exact HH.out (hexA_yes z h2' h0 (.inr h4))
                  clear h0 h3 h4
                  go_wp2_with (go_at_call 132; refine (l2Part z _ hz9).mono ?_; rintro e W1 ⟨rfl, hW⟩; have hW2 := hW.symm; subst hW2)
                  go_ret
                  exact ⟨by rw [HZ.out]; rfl, HB.out⟩
                · have e2 : ((z[1].toNat : Int) == 88) = false := u8_bne z[1] 88 (by omega) h4
                  have HZ : Hid (endsL s.data.toList = false) := by show _ = _; rw [HF2.out (hexA_no1 z h2' h3 h4)]; exact ha
                  clear h0 h3 h4
                  go_wp2
                  go_ret
                  exact ⟨by rw [HZ.out]; rfl, HB.out⟩
            · have e0 : ((z[0].toNat : Int) == 48) = false := u8_bne z[0] 48 (by omega) h0
              have HZ : Hid (endsL s.data.toList = false) := by show _ = _; rw [HF2.out (hexA_no0 z h2' h0)]; exact ha
              clear h0
              go_wp2
              go_ret
              exact ⟨by rw [HZ.out]; rfl, HB.out⟩
end Go.Proofs.YticbekooadnnlaaGreatDoor
end

section
set_option linter.unusedVariables false
namespace Go.Proofs.YticbekooadnnlaaGreatDoor
open Go.RowKit Go.Shelf

set_option maxHeartbeats 8000000 in
set_option maxRecDepth 100000 in
theorem specFour (s : ByteArray) (w : World) (hs : s.size ≤ 1048576) :
    Calls Tryz.prog 106 #[.string s] w fun e w' => e = .returned (.tuple #[.int .i64 (fourZ s.data.toList), .bool (fourOk s.data.toList)]) ∧ Below w.heap.size w w' := by
  have hl : s.data.toList.length = s.size := by simp
  have HM : Hid (∀ q ∈ partsL s.data.toList, q.length ≤ s.size) := fun q hq => by have := partsL_mem_le s.data.toList q hq; omega
  have CP : Hid (Calls Tryz.prog 131 #[.string s] w fun e w' => ∃ g c, e = .returned (.slice (some ⟨g, 0, none⟩) (partsL s.data.toList).length c) ∧ w.heap.size ≤ g ∧ StrsAt g (partsL s.data.toList) w' ∧ Below w.heap.size w w') := l2Parts s w hs
  have HO : Hid (s.size ≤ 200 → (partsL s.data.toList).length ≤ 4 → fourL s.data.toList = fourFrom (partsL s.data.toList).length 0 0 (partsL s.data.toList)) := fun h0 h => by unfold fourL; rw [if_pos ⟨by omega, h⟩]
  have HG : Hid (¬ (s.size ≤ 200 ∧ (partsL s.data.toList).length ≤ 4) → fourL s.data.toList = none) := fun h => by unfold fourL; rw [if_neg (fun hh => h ⟨by omega, hh.2⟩)]
  have h1 := partsL_ne s.data.toList
  have hll := partsL_len_le s.data.toList
  obtain ⟨P, hP⟩ : ∃ P, P = partsL s.data.toList := ⟨_, rfl⟩
  rw [← hP] at HM CP HO HG h1 hll
  clear hP
  obtain ⟨n, hn⟩ : ∃ n, n = P.length := ⟨_, rfl⟩
  rw [← hn] at CP HO HG h1 hll
  have HN : Hid (n = P.length) := hn
  have hn9 : n ≤ 1048577 := by omega
  clear hn hll hl
  by_cases h4 : n ≤ 4
  rotate_left
  · have h4i : (4 : Int) < (n : Int) := by omega
    have HZ : Hid (fourOk s.data.toList = false ∧ fourZ s.data.toList = 0) := four_is_none _ (HG.out (fun hh => h4 hh.2))
    go_enter Tryz.func106, Tryz.ntmps106
    go_wp2_with fail
    refine CP.out.mono ?_
    rintro e w1 ⟨g, c, rfl, hg, hS, hB⟩
    go_wp2
    go_ret2
    exact ⟨by rw [HZ.out.1, HZ.out.2]; rfl, hB⟩
  have h4i : (n : Int) ≤ 4 := by omega
  by_cases hL : s.size ≤ 200
  rotate_left
  · have hLi : (200 : Int) < (s.size : Int) := by omega
    have HZ : Hid (fourOk s.data.toList = false ∧ fourZ s.data.toList = 0) := four_is_none _ (HG.out (fun hh => hL hh.1))
    go_enter Tryz.func106, Tryz.ntmps106
    go_wp2_with fail
    refine CP.out.mono ?_
    rintro e w1 ⟨g, c, rfl, hg, hS, hB⟩
    go_wp2
    go_ret2
    exact ⟨by rw [HZ.out.1, HZ.out.2]; rfl, hB⟩
  have hLi : (s.size : Int) ≤ 200 := by omega
  have HO3 : Hid (fourL s.data.toList = fourFrom n 0 0 P) := HO.out hL h4
  clear HO HG
  go_enter Tryz.func106, Tryz.ntmps106
  go_wp2_with fail
  refine CP.out.mono ?_
  rintro e w1 ⟨g, c, rfl, hg, hS, hB⟩
  go_wp2_with fail
  go_loopw [5, 6] (fun ad ix wr => ∃ (i : Nat) (acc : Int), i ≤ n ∧ ix = .int .i64 i ∧ ad = .int .i64 acc ∧ 0 ≤ acc ∧ acc ≤ 4294967295 ∧ Hid (i < n → acc < midI i) ∧ StrsAt g P wr ∧ Below w.heap.size w wr ∧ Hid (fourFrom n i acc (P.drop i) = fourFrom n 0 0 P)) (fun _ ix wr => n - (intOf ix).toNat)
  case atStart => exact ⟨0, 0, Nat.zero_le _, rfl, rfl, by omega, by omega, fun _ => by decide, hS, hB, rfl⟩
  case round =>
    obtain ⟨i, acc, hi, rfl, rfl, ha0, ha1, HI, hSr, hBr, HF⟩ := hrel
    by_cases hp : i < n
    rotate_left
    · have hin : i = n := by omega
      subst hin
      have hpi : ¬ ((i : Int) < (i : Int)) := by omega
      have HZ : Hid (fourOk s.data.toList = true ∧ fourZ s.data.toList = acc) := four_is_some _ _ (by rw [HO3.out, ← HF.out, List.drop_of_length_le (by rw [← HN.out]; exact Nat.le_refl _)]; rfl)
      go_wp2
      go_ret2
      exact ⟨by rw [HZ.out.1, HZ.out.2]; rfl, hBr⟩
    · have hpi : (i : Int) < (n : Int) := by omega
      have hiP : i < P.length := by rw [← HN.out]; exact hp
      have hc := hSr.cell i hiP
      have hmid := HI.out hp
      obtain ⟨nv, HV, HW, hv0, hv1, CQ⟩ : ∃ nv : Int, Hid (0 ≤ nv → partN P[i] = some nv) ∧ Hid (nv < 0 → partN P[i] = none) ∧ -1 ≤ nv ∧ nv ≤ 68719476735 ∧ Hid (∀ W, Calls Tryz.prog 132 #[.string (mk P[i])] W fun e w' => e = .returned (.int .i64 nv) ∧ w' = W) := by
        have hq := HM.out _ (List.getElem_mem hiP)
        have CC := fun W => l2Part (mk P[i]) W (by rw [mk_size]; omega)
        cases hpn : partN P[i] with
        | none =>
          refine ⟨-1, fun h => absurd h (by omega), fun _ => rfl, by omega, by omega, fun W => ?_⟩
          have := CC W
          rw [mk_data, show partV P[i] = -1 from by unfold partV; rw [hpn]; rfl] at this
          exact this
        | some v =>
          have g0 := partN_ge _ _ hpn
          refine ⟨v, fun _ => rfl, fun h => absurd h (by omega), by omega, partN_le _ _ hpn, fun W => ?_⟩
          have := CC W
          rw [mk_data, show partV P[i] = v from by unfold partV; rw [hpn]; rfl] at this
          exact this
      rcases (show i = 0 ∨ i = 1 ∨ i = 2 ∨ i = 3 from by omega) with rfl | rfl | rfl | rfl
      · have hm2 : acc < 1 := hmid
        by_cases hlast : n = 1
        · have HL1 : Hid (n = 1) := hlast
          have hli : ((0 : Int) == (n : Int) - 1) = true := beq_iff_eq.2 (by omega)
          have hn1 : n ≤ 1 := by omega
          have hn2 : 1 ≤ n := by omega
          clear hlast
          by_cases hv : 0 ≤ nv ∧ nv < (4294967296 : Int)
          · have HF2 : Hid (fourFrom n 1 (acc * 4294967296 + nv) (P.drop 1) = fourFrom n 0 0 P) := by rw [← HF.out, drop_four P 0 hiP]; exact (four_last n 0 acc nv _ (P.drop 1) (HV.out hv.1) HL1.out.symm hv.2).symm
            obtain ⟨hv1, hv2⟩ := hv
            go_wp2_with (first | (go_at_call 132; refine (CQ.out _).mono ?_; rintro e W1 ⟨rfl, hW⟩; have hW2 := hW.symm; subst hW2) | fail)
            go_loop [8, 9] (fun m k => (m = .int .i64 255 ∧ k = .int .i64 0) ∨ (m = .int .i64 65535 ∧ k = .int .i64 1) ∨ (m = .int .i64 16777215 ∧ k = .int .i64 2) ∨ (m = .int .i64 4294967295 ∧ k = .int .i64 3)) (fun _ k => 3 - (intOf k).toNat)
            case atStart => exact .inl ⟨rfl, rfl⟩
            case round =>
              rcases hrel with ⟨rfl, rfl⟩ | ⟨rfl, rfl⟩ | ⟨rfl, rfl⟩ | ⟨rfl, rfl⟩
              · go_wp2
                go_round
                case rel => exact .inr (.inl ⟨rfl, rfl⟩)
                case measure => decide
              · go_wp2
                go_round
                case rel => exact .inr (.inr (.inl ⟨rfl, rfl⟩))
                case measure => decide
              · go_wp2
                go_round
                case rel => exact .inr (.inr (.inr (⟨rfl, rfl⟩)))
                case measure => decide
              · go_wp2_with (first | (go_at_call 125; refine (l1In_yes nv 0 4294967295 _ (by omega)).mono ?_; rintro e W1 ⟨rfl, hW⟩; have hW2 := hW.symm; subst hW2) | fail)
                go_roundw
                case rel => exact ⟨1, acc * 4294967296 + nv, by omega, by go_num, by go_num, by omega, by omega, fun h => absurd h (by omega), hSr, hBr, HF2⟩
                case measure => simp [intOf]; omega
          · have HZ : Hid (fourOk s.data.toList = false ∧ fourZ s.data.toList = 0) := four_is_none _ (by
              rw [HO3.out, ← HF.out, drop_four P 0 hiP]
              by_cases h : 0 ≤ nv
              · exact four_last_no n 0 acc nv _ (P.drop 1) (HV.out h) HL1.out.symm (fun hh => hv ⟨h, hh⟩)
              · exact four_none _ _ _ _ _ (HW.out (by omega)))
            have hv2 : ¬ (0 ≤ nv ∧ nv ≤ 4294967295) := by have := hv; omega
            clear hv
            go_wp2_with (first | (go_at_call 132; refine (CQ.out _).mono ?_; rintro e W1 ⟨rfl, hW⟩; have hW2 := hW.symm; subst hW2) | fail)
            go_loop [8, 9] (fun m k => (m = .int .i64 255 ∧ k = .int .i64 0) ∨ (m = .int .i64 65535 ∧ k = .int .i64 1) ∨ (m = .int .i64 16777215 ∧ k = .int .i64 2) ∨ (m = .int .i64 4294967295 ∧ k = .int .i64 3)) (fun _ k => 3 - (intOf k).toNat)
            case atStart => exact .inl ⟨rfl, rfl⟩
            case round =>
              rcases hrel with ⟨rfl, rfl⟩ | ⟨rfl, rfl⟩ | ⟨rfl, rfl⟩ | ⟨rfl, rfl⟩
              · go_wp2
                go_round
                case rel => exact .inr (.inl ⟨rfl, rfl⟩)
                case measure => decide
              · go_wp2
                go_round
                case rel => exact .inr (.inr (.inl ⟨rfl, rfl⟩))
                case measure => decide
              · go_wp2
                go_round
                case rel => exact .inr (.inr (.inr (⟨rfl, rfl⟩)))
                case measure => decide
              · go_wp2_with (first | (go_at_call 125; refine (l1In_no nv 0 4294967295 _ (by omega)).mono ?_; rintro e W1 ⟨rfl, hW⟩; have hW2 := hW.symm; subst hW2) | fail)
                go_ret2
                exact ⟨by rw [HZ.out.1, HZ.out.2]; rfl, hBr⟩
        · have hli : ((0 : Int) == (n : Int) - 1) = false := beq_eq_false_iff_ne.2 (by omega)
          by_cases hv : 0 ≤ nv ∧ nv < (256 : Int)
          · have HF2 : Hid (fourFrom n 1 (acc * 256 + nv) (P.drop 1) = fourFrom n 0 0 P) := by rw [← HF.out, drop_four P 0 hiP]; exact (four_mid n 0 acc nv _ (P.drop 1) (HV.out hv.1) (by omega) hv.2).symm
            obtain ⟨hv1, hv2⟩ := hv
            go_wp2_with (first | (go_at_call 132; refine (CQ.out _).mono ?_; rintro e W1 ⟨rfl, hW⟩; have hW2 := hW.symm; subst hW2) | (go_at_call 125; refine (l1In_yes nv 0 255 _ (by omega)).mono ?_; rintro e W1 ⟨rfl, hW⟩; have hW2 := hW.symm; subst hW2))
            go_roundw
            case rel => exact ⟨1, acc * 256 + nv, by omega, by go_num, by go_num, by omega, by omega, fun _ => by show acc * 256 + nv < 256; omega, hSr, hBr, HF2⟩
            case measure => simp [intOf]; omega
          · have HZ : Hid (fourOk s.data.toList = false ∧ fourZ s.data.toList = 0) := four_is_none _ (by
              rw [HO3.out, ← HF.out, drop_four P 0 hiP]
              by_cases h : 0 ≤ nv
              · exact four_mid_no n 0 acc nv _ (P.drop 1) (HV.out h) (by omega) (fun hh => hv ⟨h, hh⟩)
              · exact four_none _ _ _ _ _ (HW.out (by omega)))
            have hv2 : ¬ (0 ≤ nv ∧ nv ≤ 255) := by have := hv; omega
            clear hv
            go_wp2_with (first | (go_at_call 132; refine (CQ.out _).mono ?_; rintro e W1 ⟨rfl, hW⟩; have hW2 := hW.symm; subst hW2) | (go_at_call 125; refine (l1In_no nv 0 255 _ (by omega)).mono ?_; rintro e W1 ⟨rfl, hW⟩; have hW2 := hW.symm; subst hW2))
            go_ret2
            exact ⟨by rw [HZ.out.1, HZ.out.2]; rfl, hBr⟩
      · have hm2 : acc < 256 := hmid
        by_cases hlast : n = 2
        · have HL1 : Hid (n = 2) := hlast
          have hli : ((1 : Int) == (n : Int) - 1) = true := beq_iff_eq.2 (by omega)
          have hn1 : n ≤ 2 := by omega
          have hn2 : 2 ≤ n := by omega
          clear hlast
          by_cases hv : 0 ≤ nv ∧ nv < (16777216 : Int)
          · have HF2 : Hid (fourFrom n 2 (acc * 16777216 + nv) (P.drop 2) = fourFrom n 0 0 P) := by rw [← HF.out, drop_four P 1 hiP]; exact (four_last n 1 acc nv _ (P.drop 2) (HV.out hv.1) HL1.out.symm hv.2).symm
            obtain ⟨hv1, hv2⟩ := hv
            go_wp2_with (first | (go_at_call 132; refine (CQ.out _).mono ?_; rintro e W1 ⟨rfl, hW⟩; have hW2 := hW.symm; subst hW2) | fail)
            go_loop [8, 9] (fun m k => (m = .int .i64 255 ∧ k = .int .i64 1) ∨ (m = .int .i64 65535 ∧ k = .int .i64 2) ∨ (m = .int .i64 16777215 ∧ k = .int .i64 3)) (fun _ k => 3 - (intOf k).toNat)
            case atStart => exact .inl ⟨rfl, rfl⟩
            case round =>
              rcases hrel with ⟨rfl, rfl⟩ | ⟨rfl, rfl⟩ | ⟨rfl, rfl⟩
              · go_wp2
                go_round
                case rel => exact .inr (.inl ⟨rfl, rfl⟩)
                case measure => decide
              · go_wp2
                go_round
                case rel => exact .inr (.inr (⟨rfl, rfl⟩))
                case measure => decide
              · go_wp2_with (first | (go_at_call 125; refine (l1In_yes nv 0 16777215 _ (by omega)).mono ?_; rintro e W1 ⟨rfl, hW⟩; have hW2 := hW.symm; subst hW2) | fail)
                go_roundw
                case rel => exact ⟨2, acc * 16777216 + nv, by omega, by go_num, by go_num, by omega, by omega, fun h => absurd h (by omega), hSr, hBr, HF2⟩
                case measure => simp [intOf]; omega
          · have HZ : Hid (fourOk s.data.toList = false ∧ fourZ s.data.toList = 0) := four_is_none _ (by
              rw [HO3.out, ← HF.out, drop_four P 1 hiP]
              by_cases h : 0 ≤ nv
              · exact four_last_no n 1 acc nv _ (P.drop 2) (HV.out h) HL1.out.symm (fun hh => hv ⟨h, hh⟩)
              · exact four_none _ _ _ _ _ (HW.out (by omega)))
            have hv2 : ¬ (0 ≤ nv ∧ nv ≤ 16777215) := by have := hv; omega
            clear hv
            go_wp2_with (first | (go_at_call 132; refine (CQ.out _).mono ?_; rintro e W1 ⟨rfl, hW⟩; have hW2 := hW.symm; subst hW2) | fail)
            go_loop [8, 9] (fun m k => (m = .int .i64 255 ∧ k = .int .i64 1) ∨ (m = .int .i64 65535 ∧ k = .int .i64 2) ∨ (m = .int .i64 16777215 ∧ k = .int .i64 3)) (fun _ k => 3 - (intOf k).toNat)
            case atStart => exact .inl ⟨rfl, rfl⟩
            case round =>
              rcases hrel with ⟨rfl, rfl⟩ | ⟨rfl, rfl⟩ | ⟨rfl, rfl⟩
              · go_wp2
                go_round
                case rel => exact .inr (.inl ⟨rfl, rfl⟩)
                case measure => decide
              · go_wp2
                go_round
                case rel => exact .inr (.inr (⟨rfl, rfl⟩))
                case measure => decide
              · go_wp2_with (first | (go_at_call 125; refine (l1In_no nv 0 16777215 _ (by omega)).mono ?_; rintro e W1 ⟨rfl, hW⟩; have hW2 := hW.symm; subst hW2) | fail)
                go_ret2
                exact ⟨by rw [HZ.out.1, HZ.out.2]; rfl, hBr⟩
        · have hli : ((1 : Int) == (n : Int) - 1) = false := beq_eq_false_iff_ne.2 (by omega)
          by_cases hv : 0 ≤ nv ∧ nv < (256 : Int)
          · have HF2 : Hid (fourFrom n 2 (acc * 256 + nv) (P.drop 2) = fourFrom n 0 0 P) := by rw [← HF.out, drop_four P 1 hiP]; exact (four_mid n 1 acc nv _ (P.drop 2) (HV.out hv.1) (by omega) hv.2).symm
            obtain ⟨hv1, hv2⟩ := hv
            go_wp2_with (first | (go_at_call 132; refine (CQ.out _).mono ?_; rintro e W1 ⟨rfl, hW⟩; have hW2 := hW.symm; subst hW2) | (go_at_call 125; refine (l1In_yes nv 0 255 _ (by omega)).mono ?_; rintro e W1 ⟨rfl, hW⟩; have hW2 := hW.symm; subst hW2))
            go_roundw
            case rel => exact ⟨2, acc * 256 + nv, by omega, by go_num, by go_num, by omega, by omega, fun _ => by show acc * 256 + nv < 65536; omega, hSr, hBr, HF2⟩
            case measure => simp [intOf]; omega
          · have HZ : Hid (fourOk s.data.toList = false ∧ fourZ s.data.toList = 0) := four_is_none _ (by
              rw [HO3.out, ← HF.out, drop_four P 1 hiP]
              by_cases h : 0 ≤ nv
              · exact four_mid_no n 1 acc nv _ (P.drop 2) (HV.out h) (by omega) (fun hh => hv ⟨h, hh⟩)
              · exact four_none _ _ _ _ _ (HW.out (by omega)))
            have hv2 : ¬ (0 ≤ nv ∧ nv ≤ 255) := by have := hv; omega
            clear hv
            go_wp2_with (first | (go_at_call 132; refine (CQ.out _).mono ?_; rintro e W1 ⟨rfl, hW⟩; have hW2 := hW.symm; subst hW2) | (go_at_call 125; refine (l1In_no nv 0 255 _ (by omega)).mono ?_; rintro e W1 ⟨rfl, hW⟩; have hW2 := hW.symm; subst hW2))
            go_ret2
            exact ⟨by rw [HZ.out.1, HZ.out.2]; rfl, hBr⟩
      · have hm2 : acc < 65536 := hmid
        by_cases hlast : n = 3
        · have HL1 : Hid (n = 3) := hlast
          have hli : ((2 : Int) == (n : Int) - 1) = true := beq_iff_eq.2 (by omega)
          have hn1 : n ≤ 3 := by omega
          have hn2 : 3 ≤ n := by omega
          clear hlast
          by_cases hv : 0 ≤ nv ∧ nv < (65536 : Int)
          · have HF2 : Hid (fourFrom n 3 (acc * 65536 + nv) (P.drop 3) = fourFrom n 0 0 P) := by rw [← HF.out, drop_four P 2 hiP]; exact (four_last n 2 acc nv _ (P.drop 3) (HV.out hv.1) HL1.out.symm hv.2).symm
            obtain ⟨hv1, hv2⟩ := hv
            go_wp2_with (first | (go_at_call 132; refine (CQ.out _).mono ?_; rintro e W1 ⟨rfl, hW⟩; have hW2 := hW.symm; subst hW2) | fail)
            go_loop [8, 9] (fun m k => (m = .int .i64 255 ∧ k = .int .i64 2) ∨ (m = .int .i64 65535 ∧ k = .int .i64 3)) (fun _ k => 3 - (intOf k).toNat)
            case atStart => exact .inl ⟨rfl, rfl⟩
            case round =>
              rcases hrel with ⟨rfl, rfl⟩ | ⟨rfl, rfl⟩
              · go_wp2
                go_round
                case rel => exact .inr (⟨rfl, rfl⟩)
                case measure => decide
              · go_wp2_with (first | (go_at_call 125; refine (l1In_yes nv 0 65535 _ (by omega)).mono ?_; rintro e W1 ⟨rfl, hW⟩; have hW2 := hW.symm; subst hW2) | fail)
                go_roundw
                case rel => exact ⟨3, acc * 65536 + nv, by omega, by go_num, by go_num, by omega, by omega, fun h => absurd h (by omega), hSr, hBr, HF2⟩
                case measure => simp [intOf]; omega
          · have HZ : Hid (fourOk s.data.toList = false ∧ fourZ s.data.toList = 0) := four_is_none _ (by
              rw [HO3.out, ← HF.out, drop_four P 2 hiP]
              by_cases h : 0 ≤ nv
              · exact four_last_no n 2 acc nv _ (P.drop 3) (HV.out h) HL1.out.symm (fun hh => hv ⟨h, hh⟩)
              · exact four_none _ _ _ _ _ (HW.out (by omega)))
            have hv2 : ¬ (0 ≤ nv ∧ nv ≤ 65535) := by have := hv; omega
            clear hv
            go_wp2_with (first | (go_at_call 132; refine (CQ.out _).mono ?_; rintro e W1 ⟨rfl, hW⟩; have hW2 := hW.symm; subst hW2) | fail)
            go_loop [8, 9] (fun m k => (m = .int .i64 255 ∧ k = .int .i64 2) ∨ (m = .int .i64 65535 ∧ k = .int .i64 3)) (fun _ k => 3 - (intOf k).toNat)
            case atStart => exact .inl ⟨rfl, rfl⟩
            case round =>
              rcases hrel with ⟨rfl, rfl⟩ | ⟨rfl, rfl⟩
              · go_wp2
                go_round
                case rel => exact .inr (⟨rfl, rfl⟩)
                case measure => decide
              · go_wp2_with (first | (go_at_call 125; refine (l1In_no nv 0 65535 _ (by omega)).mono ?_; rintro e W1 ⟨rfl, hW⟩; have hW2 := hW.symm; subst hW2) | fail)
                go_ret2
                exact ⟨by rw [HZ.out.1, HZ.out.2]; rfl, hBr⟩
        · have hli : ((2 : Int) == (n : Int) - 1) = false := beq_eq_false_iff_ne.2 (by omega)
          by_cases hv : 0 ≤ nv ∧ nv < (256 : Int)
          · have HF2 : Hid (fourFrom n 3 (acc * 256 + nv) (P.drop 3) = fourFrom n 0 0 P) := by rw [← HF.out, drop_four P 2 hiP]; exact (four_mid n 2 acc nv _ (P.drop 3) (HV.out hv.1) (by omega) hv.2).symm
            obtain ⟨hv1, hv2⟩ := hv
            go_wp2_with (first | (go_at_call 132; refine (CQ.out _).mono ?_; rintro e W1 ⟨rfl, hW⟩; have hW2 := hW.symm; subst hW2) | (go_at_call 125; refine (l1In_yes nv 0 255 _ (by omega)).mono ?_; rintro e W1 ⟨rfl, hW⟩; have hW2 := hW.symm; subst hW2))
            go_roundw
            case rel => exact ⟨3, acc * 256 + nv, by omega, by go_num, by go_num, by omega, by omega, fun _ => by show acc * 256 + nv < 16777216; omega, hSr, hBr, HF2⟩
            case measure => simp [intOf]; omega
          · have HZ : Hid (fourOk s.data.toList = false ∧ fourZ s.data.toList = 0) := four_is_none _ (by
              rw [HO3.out, ← HF.out, drop_four P 2 hiP]
              by_cases h : 0 ≤ nv
              · exact four_mid_no n 2 acc nv _ (P.drop 3) (HV.out h) (by omega) (fun hh => hv ⟨h, hh⟩)
              · exact four_none _ _ _ _ _ (HW.out (by omega)))
            have hv2 : ¬ (0 ≤ nv ∧ nv ≤ 255) := by have := hv; omega
            clear hv
            go_wp2_with (first | (go_at_call 132; refine (CQ.out _).mono ?_; rintro e W1 ⟨rfl, hW⟩; have hW2 := hW.symm; subst hW2) | (go_at_call 125; refine (l1In_no nv 0 255 _ (by omega)).mono ?_; rintro e W1 ⟨rfl, hW⟩; have hW2 := hW.symm; subst hW2))
            go_ret2
            exact ⟨by rw [HZ.out.1, HZ.out.2]; rfl, hBr⟩
      · have hm2 : acc < 16777216 := hmid
        have hlast : n = 4 := by omega
        have HL1 : Hid (n = 4) := hlast
        have hli : ((3 : Int) == (n : Int) - 1) = true := beq_iff_eq.2 (by omega)
        have hn1 : n ≤ 4 := by omega
        have hn2 : 4 ≤ n := by omega
        clear hlast
        by_cases hv : 0 ≤ nv ∧ nv < (256 : Int)
        · have HF2 : Hid (fourFrom n 4 (acc * 256 + nv) (P.drop 4) = fourFrom n 0 0 P) := by rw [← HF.out, drop_four P 3 hiP]; exact (four_last n 3 acc nv _ (P.drop 4) (HV.out hv.1) HL1.out.symm hv.2).symm
          obtain ⟨hv1, hv2⟩ := hv
          go_wp2_with (first | (go_at_call 132; refine (CQ.out _).mono ?_; rintro e W1 ⟨rfl, hW⟩; have hW2 := hW.symm; subst hW2) | fail)
          go_loop [8, 9] (fun m k => (m = .int .i64 255 ∧ k = .int .i64 3)) (fun _ k => 3 - (intOf k).toNat)
          case atStart => exact ⟨rfl, rfl⟩
          case round =>
            obtain ⟨rfl, rfl⟩ := hrel
            go_wp2_with (first | (go_at_call 125; refine (l1In_yes nv 0 255 _ (by omega)).mono ?_; rintro e W1 ⟨rfl, hW⟩; have hW2 := hW.symm; subst hW2) | fail)
            go_roundw
            case rel => exact ⟨4, acc * 256 + nv, by omega, by go_num, by go_num, by omega, by omega, fun h => absurd h (by omega), hSr, hBr, HF2⟩
            case measure => simp [intOf]; omega
        · have HZ : Hid (fourOk s.data.toList = false ∧ fourZ s.data.toList = 0) := four_is_none _ (by
            rw [HO3.out, ← HF.out, drop_four P 3 hiP]
            by_cases h : 0 ≤ nv
            · exact four_last_no n 3 acc nv _ (P.drop 4) (HV.out h) HL1.out.symm (fun hh => hv ⟨h, hh⟩)
            · exact four_none _ _ _ _ _ (HW.out (by omega)))
          have hv2 : ¬ (0 ≤ nv ∧ nv ≤ 255) := by have := hv; omega
          clear hv
          go_wp2_with (first | (go_at_call 132; refine (CQ.out _).mono ?_; rintro e W1 ⟨rfl, hW⟩; have hW2 := hW.symm; subst hW2) | fail)
          go_loop [8, 9] (fun m k => (m = .int .i64 255 ∧ k = .int .i64 3)) (fun _ k => 3 - (intOf k).toNat)
          case atStart => exact ⟨rfl, rfl⟩
          case round =>
            obtain ⟨rfl, rfl⟩ := hrel
            go_wp2_with (first | (go_at_call 125; refine (l1In_no nv 0 255 _ (by omega)).mono ?_; rintro e W1 ⟨rfl, hW⟩; have hW2 := hW.symm; subst hW2) | fail)
            go_ret2
            exact ⟨by rw [HZ.out.1, HZ.out.2]; rfl, hBr⟩
end Go.Proofs.YticbekooadnnlaaGreatDoor
end

section
set_option linter.unusedVariables false
namespace Go.Proofs.YticbekooadnnlaaGreatDoor
open Go.RowKit Go.Shelf

set_option maxHeartbeats 2000000 in
set_option maxRecDepth 100000 in
theorem specDecode (s : ByteArray) (w : World) (hs : s.size ≤ maxLen) :
    Calls Tryz.prog 104 #[.string s] w fun e w' => e = .returned (.string ⟨(decode s).toArray⟩) ∧ Below w.heap.size w w' := by
  unfold maxLen at hs
  by_cases hL : s.size ≤ 600
  · rw [decode_small s hL]
    have hLi : (s.size : Int) ≤ 600 := by omega
    go_enter Tryz.func104, Tryz.ntmps104
    go_wp2
    go_loopw [3, 4] (fun v i wr => ∃ (k : Nat) (acc : List UInt8), k ≤ s.size ∧ i = .int .i64 k ∧ OwnB w.heap.size v acc wr ∧ Below w.heap.size w wr ∧ acc.length ≤ k ∧ Hid (acc ++ dec (s.data.toList.drop k) = dec s.data.toList)) (fun _ i wr => s.size - (intOf i).toNat)
    case atStart =>
      exact ⟨0, [], Nat.zero_le _, rfl, ownB_new w _ (Nat.le_refl _), (Below.refl _ w).alloc (Nat.le_refl _) _, Nat.le_refl _, rfl⟩
    case round =>
      obtain ⟨k, acc, hk, rfl, hI, hbw, hal, HA⟩ := hrel
      have hsz : w.heap.size ≤ wr.heap.size := hbw.size
      by_cases hp : k < s.size
      · have hki : (k : Int) < (s.size : Int) := by omega
        by_cases hc : s[k] = 37
        · have h37 : ((s[k].toNat : Int) == 37) = true := by rw [hc]; rfl
          have HC : Hid (s[k] = 37) := hc
          clear hc
          by_cases h2 : k + 2 < s.size
          · have h2i : (k : Int) + 2 < (s.size : Int) := by omega
            have h1i : (k : Int) + 1 < (s.size : Int) := by omega
            have hw1 : IntKind.i64.wrap ((k : Int) + 1) = (k : Int) + 1 := by rw [IntKind.wrap_i64]; omega
            have hw2 : IntKind.i64.wrap ((k : Int) + 2) = (k : Int) + 2 := by rw [IntKind.wrap_i64]; omega
            have h01 : (0 : Int) ≤ (k : Int) + 1 := by omega
            have h02 : (0 : Int) ≤ (k : Int) + 2 := by omega
            have ht1 : ((k : Int) + 1).toNat = k + 1 := by omega
            have ht2 : ((k : Int) + 2).toNat = k + 2 := by omega
            have ra := hexV_range s[k + 1]
            have rb := hexV_range s[k + 2]
            rcases (show hexV s[k + 1] < 0 ∨ (0 ≤ hexV s[k + 1] ∧ hexV s[k + 2] < 0) ∨ (0 ≤ hexV s[k + 1] ∧ 0 ≤ hexV s[k + 2]) from by omega) with ha | ⟨ha, hb⟩ | ⟨ha, hb⟩
            · have HA2 : Hid ((acc ++ [s[k]]) ++ dec (s.data.toList.drop (k + 1)) = dec s.data.toList) := acc_not hp HA.out ((escAt_of s k h2).trans (esc_no1 _ _ _ ha))
              go_wp2_with (first | (go_at_call 130; refine (l1Hex _ _).mono ?_; rintro e W1 ⟨rfl, hW⟩; have hW2 := hW.symm; subst hW2) | (at_builtin; refine wpAppendByte wr rfl _ _ rfl w.heap.size _ _ s[k] _ rfl hI rfl rfl (by omega) hsz ?_; intro v1 w1 R b1))
              go_roundw
              case rel => exact ⟨k + 1, acc ++ [s[k]], by omega, by go_num, R, hbw.trans b1, by simp; omega, HA2⟩
              case measure => simp [intOf]; omega
            · have HA2 : Hid ((acc ++ [s[k]]) ++ dec (s.data.toList.drop (k + 1)) = dec s.data.toList) := acc_not hp HA.out ((escAt_of s k h2).trans (esc_no2 _ _ _ hb))
              go_wp2_with (first | (go_at_call 130; refine (l1Hex _ _).mono ?_; rintro e W1 ⟨rfl, hW⟩; have hW2 := hW.symm; subst hW2) | (at_builtin; refine wpAppendByte wr rfl _ _ rfl w.heap.size _ _ s[k] _ rfl hI rfl rfl (by omega) hsz ?_; intro v1 w1 R b1))
              go_roundw
              case rel => exact ⟨k + 1, acc ++ [s[k]], by omega, by go_num, R, hbw.trans b1, by simp; omega, HA2⟩
              case measure => simp [intOf]; omega
            · have HA2 : Hid ((acc ++ [hexB s[k + 1] s[k + 2]]) ++ dec (s.data.toList.drop (k + 3)) = dec s.data.toList) := by
                have := (acc_esc hp HA.out ((escAt_of s k h2).trans (esc_yes _ _ _ HC.out ha hb))).1
                rw [decB_val s k h2 (esc_yes _ _ _ HC.out ha hb)] at this; exact this
              go_wp2_with (first | (go_at_call 130; refine (l1Hex _ _).mono ?_; rintro e W1 ⟨rfl, hW⟩; have hW2 := hW.symm; subst hW2))
              have hm1 : IntKind.i64.wrap (16 * hexV s[k + 1]) = 16 * hexV s[k + 1] := by rw [IntKind.wrap_i64]; omega
              have hm2 : IntKind.i64.wrap (16 * hexV s[k + 1] + hexV s[k + 2]) = 16 * hexV s[k + 1] + hexV s[k + 2] := by rw [IntKind.wrap_i64]; omega
              have hm3 : IntKind.u8.wrap (16 * hexV s[k + 1] + hexV s[k + 2]) = 16 * hexV s[k + 1] + hexV s[k + 2] := by rw [IntKind.wrap_u8]; omega
              have HB : Hid (((hexB s[k + 1] s[k + 2]).toNat : Int) = 16 * hexV s[k + 1] + hexV s[k + 2]) := hexB_val _ _ ha hb
              go_region_held3 (fun _ => True) (trivial) (first | (go_at_call 130; refine (l1Hex _ _).mono ?_; rintro e W1 ⟨rfl, hW⟩; have hW2 := hW.symm; subst hW2) | (refine stepAppendBytes _ (by rfl) (.tmp 44) (.tmp 58) (by rfl) w.heap.size u3 acc [hexB s[k + 1] s[k + 2]] (by exact (hI.alloc _).drew) wr.heap.size #[.int .u8 (16 * hexV s[k + 1] + hexV s[k + 2])] (0, 0) (by exact heap_alloc_new wr _) (by simp [Lib.byteCells, HB.out]) (by rfl) 1 (by rfl) (by simp; omega) (by simp; omega) ?_; intro v1 w1 R b1) | fail)
              all_goals
                go_wp2
                go_roundw
                case rel => exact ⟨k + 3, acc ++ [hexB s[k + 1] s[k + 2]], by omega, by go_num, R, (hbw.alloc hsz _).drew.trans b1, by simp; omega, HA2⟩
                case measure => simp [intOf]; omega
          · have HA2 : Hid ((acc ++ [s[k]]) ++ dec (s.data.toList.drop (k + 1)) = dec s.data.toList) := acc_not hp HA.out (escAt_end s k h2)
            have h2i : ¬ ((k : Int) + 2 < (s.size : Int)) := by omega
            go_wp2_with (first | (go_at_call 130; refine (l1Hex _ _).mono ?_; rintro e W1 ⟨rfl, hW⟩; have hW2 := hW.symm; subst hW2) | (at_builtin; refine wpAppendByte wr rfl _ _ rfl w.heap.size _ _ s[k] _ rfl hI rfl rfl (by omega) hsz ?_; intro v1 w1 R b1))
            go_roundw
            case rel => exact ⟨k + 1, acc ++ [s[k]], by omega, by go_num, R, hbw.trans b1, by simp; omega, HA2⟩
            case measure => simp [intOf]; omega
        · have HA2 : Hid ((acc ++ [s[k]]) ++ dec (s.data.toList.drop (k + 1)) = dec s.data.toList) := acc_not hp HA.out (escAt_no0 s k hp hc)
          have h37 : ((s[k].toNat : Int) == 37) = false := by
            rw [beq_eq_false_iff_ne]; intro h; exact hc (UInt8.toNat_inj.1 (by have : (37 : UInt8).toNat = 37 := rfl; omega))
          go_wp2_with (first | (go_at_call 130; refine (l1Hex _ _).mono ?_; rintro e W1 ⟨rfl, hW⟩; have hW2 := hW.symm; subst hW2) | (at_builtin; refine wpAppendByte wr rfl _ _ rfl w.heap.size _ _ s[k] _ rfl hI rfl rfl (by omega) hsz ?_; intro v1 w1 R b1))
          go_roundw
          case rel => exact ⟨k + 1, acc ++ [s[k]], by omega, by go_num, R, hbw.trans b1, by simp; omega, HA2⟩
          case measure => simp [intOf]; omega
      · have hkk : k = s.size := by omega
        subst hkk
        have hacc : acc = dec s.data.toList := by have := HA.out; rw [drop_end] at this; simpa [dec] using this
        subst hacc
        have ht := ownB_text hI
        go_wp2
        go_ret
        exact ⟨rfl, hbw⟩
  · rw [decode_great s hL]
    have hLi : (600 : Int) < (s.size : Int) := by omega
    go_enter Tryz.func104, Tryz.ntmps104
    go_wp2
    go_loopw [3, 4] (fun v i wr => i = .int .i64 0 ∧ OwnB w.heap.size v [] wr ∧ Below w.heap.size w wr) (fun _ i wr => 0)
    case atStart => exact ⟨rfl, ownB_new w _ (Nat.le_refl _), (Below.refl _ w).alloc (Nat.le_refl _) _⟩
    case round =>
      obtain ⟨rfl, hI, hbw⟩ := hrel
      have ht := ownB_text hI
      go_wp2
      go_ret
      exact ⟨rfl, hbw⟩
end Go.Proofs.YticbekooadnnlaaGreatDoor
end

section
set_option linter.unusedVariables false
namespace Go.Proofs.YticbekooadnnlaaGreatDoor
open Go.RowKit Go.Shelf

/-- An empty host in a block of its own. -/
def HostZ (h : Nat) (w : World) : Prop := w.heap[h]? = some (.cells #[.int .i64 0, .string ⟨#[]⟩, .int .i64 0] 24 (0, 0))
theorem HostZ.below {h : Nat} {w w' : World} (k : HostZ h w) (b : Below w.heap.size w w') : HostZ h w' := (b.block h (Array.getElem?_eq_some_iff.1 k).1).trans k
theorem HostZ.cells {h : Nat} {w : World} (k : HostZ h w) : (w.cell? ⟨h, 0, none⟩ = some (.int .i64 0) ∧ w.cell? ⟨h, 1, none⟩ = some (.string ⟨#[]⟩) ∧ w.cell? ⟨h, 2, none⟩ = some (.int .i64 0)) ∧ (w.frozen? ⟨h, 0, none⟩ = false ∧ w.frozen? ⟨h, 1, none⟩ = false ∧ w.frozen? ⟨h, 2, none⟩ = false) :=
  ⟨⟨by rw [Lib.cell_of_heap k]; rfl, by rw [Lib.cell_of_heap k]; rfl, by rw [Lib.cell_of_heap k]; rfl⟩, Lib.frozen_of_heap k 0, Lib.frozen_of_heap k 1, Lib.frozen_of_heap k 2⟩
theorem below_host {w W : World} (b : Below w.heap.size w W) (x y z : Value) : Below w.heap.size w (((W.setCell ⟨w.heap.size, 0, none⟩ x).setCell ⟨w.heap.size, 1, none⟩ y).setCell ⟨w.heap.size, 2, none⟩ z) :=
  ((b.setCell (p := ⟨w.heap.size, 0, none⟩) (Nat.le_refl _) _).setCell (p := ⟨w.heap.size, 1, none⟩) (Nat.le_refl _) _).setCell (p := ⟨w.heap.size, 2, none⟩) (Nat.le_refl _) _
theorem ends_nil : endsL [] = false := ends_empty [] (by decide)
theorem name_nil : nameL [] = false := nameL_len [] (by decide)

set_option maxHeartbeats 4000000 in
set_option maxRecDepth 100000 in
theorem specHostGet (s : ByteArray) (w : World) (hs : s.size ≤ 1048576) :
    Calls Tryz.prog 84 #[.string s] w fun e w' => e = .returned (.tuple #[getAgg s.data.toList, .bool (getOk s.data.toList)]) ∧ Below w.heap.size w w' := by
  have hl : s.data.toList.length = s.size := by simp
  have hz0 : HostZ w.heap.size (w.alloc (.cells #[.int .i64 0, .string ⟨#[]⟩, .int .i64 0] 24)) := heap_alloc_new w _
  by_cases hL : s.size ≤ 200
  · have hLi : (s.size : Int) ≤ 200 := by omega
    have hdl := dec_le s.data.toList
    obtain ⟨t, ht⟩ : ∃ t, t = readL s.data.toList := ⟨_, rfl⟩
    have htl : t.length ≤ 200 := by rw [ht]; unfold readL; rw [low_length]; omega
    have C1 : Hid (∀ W, Calls Tryz.prog 104 #[.string s] W fun e w' => e = .returned (.string (mk (dec s.data.toList))) ∧ Below W.heap.size W w') := by
      intro W
      refine (specDecode s W (by unfold maxLen; omega)).mono ?_
      rintro e w' ⟨rfl, b⟩
      exact ⟨by rw [decode_small _ (by omega)]; rfl, b⟩
    have C2 : Hid (∀ W, Calls Tryz.prog 77 #[.string (mk (dec s.data.toList))] W fun e w' => e = .returned (.string (mk t)) ∧ Below W.heap.size W w') := by
      intro W; rw [ht]; exact specLower (mk (dec s.data.toList)) W (by rw [mk_size]; omega)
    have C3 : Hid (∀ W, Calls Tryz.prog 105 #[.string (mk t)] W fun e w' => e = .returned (.bool (endsL t)) ∧ Below W.heap.size W w') := fun W => l2Ends (mk t) W (by rw [mk_size]; omega)
    have C4 : Hid (∀ W, Calls Tryz.prog 106 #[.string (mk t)] W fun e w' => e = .returned (.tuple #[.int .i64 (fourZ t), .bool (fourOk t)]) ∧ Below W.heap.size W w') := fun W => specFour (mk t) W (by rw [mk_size]; omega)
    have C5 : Hid (∀ W, Calls Tryz.prog 107 #[.string (mk t)] W fun e w' => e = .returned (.bool (nameL t)) ∧ Below W.heap.size W w') := fun W => l2Name (mk t) W (by rw [mk_size]; omega)
    have HG : Hid (getAgg s.data.toList = .agg #[.int .i64 (hostKind t), .string (hostName t), .int .i64 (hostAddr t)]) := by show _ = _; unfold getAgg; rw [if_pos (by omega), ← ht]; rfl
    have HO : Hid (getOk s.data.toList = decide (hostKind t ≠ 0)) := by show _ = _; unfold getOk hostOkL; rw [if_pos (by omega), ← ht]
    clear hdl ht htl
    generalize mk (dec s.data.toList) = ds at *
    by_cases h0 : t = []
    · subst h0
      have HG2 : Hid (getAgg s.data.toList = .agg #[.int .i64 0, .string ⟨#[]⟩, .int .i64 0]) := by show _ = _; rw [HG.out]; unfold hostKind hostName hostAddr; simp [ends_nil, name_nil]
      have HO2 : Hid (getOk s.data.toList = false) := by show _ = _; rw [HO.out]; unfold hostKind; simp [ends_nil, name_nil]
      have C2b : Hid (∀ W, Calls Tryz.prog 77 #[.string ds] W fun e w' => e = .returned (.string ⟨#[]⟩) ∧ Below W.heap.size W w') := C2
      clear C2 C3 C4 C5
      go_enter Tryz.func84, Tryz.ntmps84
      go_wp2_with fail
      refine (C1.out _).mono ?_
      rintro e W1 ⟨rfl, d1⟩
      have b1 : Below w.heap.size w W1 := ((Below.refl _ w).alloc (Nat.le_refl _) _).trans (d1.mono (by simp))
      have hz1 := hz0.below d1
      go_wp2_with fail
      refine (C2b.out _).mono ?_
      rintro e W2 ⟨rfl, d2⟩
      have b2 := b1.trans (d2.mono b1.size)
      have hz2 := hz1.below d2
      obtain ⟨⟨c0, c1, c2⟩, f0, f1, f2⟩ := hz2.cells
      go_wp2
      exact bodyPost_ret (v := .tuple #[.agg #[.int .i64 0, .string ⟨#[]⟩, .int .i64 0], .bool false]) (by simp [results, Tryz.results84, go_sem, c0, c1, c2]) rfl ⟨by rw [HG2.out, HO2.out], below_host b2 _ _ _⟩
    · obtain ⟨x, hx⟩ : ∃ x, x = mk t := ⟨_, rfl⟩
      have hne1 : (x.toList == []) = false := by rw [hx, beq_eq_false_iff_ne, ByteArray.toList_eq, mk_data]; exact h0
      have hne2 : x.toList.isEmpty = false := by rw [hx, ByteArray.toList_eq, mk_data]; exact List.isEmpty_eq_false_iff.2 h0
      have HXT : Hid (x = mk t) := hx
      rw [← hx] at C2 C3 C4 C5
      clear hx h0
      cases he : endsL t with
      | true =>
        rw [he] at C3
        cases hf : fourOk t with
        | true =>
          rw [hf] at C4
          have HG2 : Hid (getAgg s.data.toList = .agg #[.int .i64 2, .string ⟨#[]⟩, .int .i64 (fourZ t)]) := by show _ = _; rw [HG.out]; unfold hostKind hostName hostAddr; simp [he, hf]
          have HO2 : Hid (getOk s.data.toList = true) := by show _ = _; rw [HO.out]; unfold hostKind; simp [he, hf]
          generalize fourZ t = fz at *
          clear he hf C5 HG HO
          go_enter Tryz.func84, Tryz.ntmps84
          go_wp2_with fail
          refine (C1.out _).mono ?_
          rintro e W1 ⟨rfl, d1⟩
          have b1 : Below w.heap.size w W1 := ((Below.refl _ w).alloc (Nat.le_refl _) _).trans (d1.mono (by simp))
          have hz1 := hz0.below d1
          go_wp2_with fail
          refine (C2.out _).mono ?_
          rintro e W2 ⟨rfl, d2⟩
          have b2 := b1.trans (d2.mono b1.size)
          have hz2 := hz1.below d2
          go_wp2_with fail
          refine (C3.out _).mono ?_
          rintro e W3 ⟨rfl, d3⟩
          have b3 := b2.trans (d3.mono b2.size)
          have hz3 := hz2.below d3
          go_wp2_with fail
          refine (C4.out _).mono ?_
          rintro e W4 ⟨rfl, d4⟩
          have b4 := b3.trans (d4.mono b3.size)
          have hz4 := hz3.below d4
          obtain ⟨⟨c0, c1, c2⟩, f0, f1, f2⟩ := hz4.cells
          go_wp2
          exact bodyPost_ret (v := .tuple #[.agg #[.int .i64 2, .string ⟨#[]⟩, .int .i64 fz], .bool true]) (by simp [results, Tryz.results84, go_sem, c0, c1, c2]) rfl ⟨by rw [HG2.out, HO2.out], below_host b4 _ _ _⟩
        | false =>
          rw [hf] at C4
          have HG2 : Hid (getAgg s.data.toList = .agg #[.int .i64 0, .string ⟨#[]⟩, .int .i64 0]) := by show _ = _; rw [HG.out]; unfold hostKind hostName hostAddr; simp [he, hf]
          have HO2 : Hid (getOk s.data.toList = false) := by show _ = _; rw [HO.out]; unfold hostKind; simp [he, hf]
          generalize fourZ t = fz at *
          clear he hf C5 HG HO
          go_enter Tryz.func84, Tryz.ntmps84
          go_wp2_with fail
          refine (C1.out _).mono ?_
          rintro e W1 ⟨rfl, d1⟩
          have b1 : Below w.heap.size w W1 := ((Below.refl _ w).alloc (Nat.le_refl _) _).trans (d1.mono (by simp))
          have hz1 := hz0.below d1
          go_wp2_with fail
          refine (C2.out _).mono ?_
          rintro e W2 ⟨rfl, d2⟩
          have b2 := b1.trans (d2.mono b1.size)
          have hz2 := hz1.below d2
          go_wp2_with fail
          refine (C3.out _).mono ?_
          rintro e W3 ⟨rfl, d3⟩
          have b3 := b2.trans (d3.mono b2.size)
          have hz3 := hz2.below d3
          go_wp2_with fail
          refine (C4.out _).mono ?_
          rintro e W4 ⟨rfl, d4⟩
          have b4 := b3.trans (d4.mono b3.size)
          have hz4 := hz3.below d4
          obtain ⟨⟨c0, c1, c2⟩, f0, f1, f2⟩ := hz4.cells
          go_wp2
          exact bodyPost_ret (v := .tuple #[.agg #[.int .i64 0, .string ⟨#[]⟩, .int .i64 0], .bool false]) (by simp [results, Tryz.results84, go_sem, c0, c1, c2]) rfl ⟨by rw [HG2.out, HO2.out], below_host b4 _ _ _⟩
      | false =>
        rw [he] at C3
        cases hf : nameL t with
        | true =>
          rw [hf] at C5
          have HG2 : Hid (getAgg s.data.toList = .agg #[.int .i64 1, .string (mk t), .int .i64 0]) := by show _ = _; rw [HG.out]; unfold hostKind hostName hostAddr; simp [he, hf]
          have HO2 : Hid (getOk s.data.toList = true) := by show _ = _; rw [HO.out]; unfold hostKind; simp [he, hf]
          rw [← HXT.out] at HG2
          clear he hf C4 HG HO
          go_enter Tryz.func84, Tryz.ntmps84
          go_wp2_with fail
          refine (C1.out _).mono ?_
          rintro e W1 ⟨rfl, d1⟩
          have b1 : Below w.heap.size w W1 := ((Below.refl _ w).alloc (Nat.le_refl _) _).trans (d1.mono (by simp))
          have hz1 := hz0.below d1
          go_wp2_with fail
          refine (C2.out _).mono ?_
          rintro e W2 ⟨rfl, d2⟩
          have b2 := b1.trans (d2.mono b1.size)
          have hz2 := hz1.below d2
          go_wp2_with fail
          refine (C3.out _).mono ?_
          rintro e W3 ⟨rfl, d3⟩
          have b3 := b2.trans (d3.mono b2.size)
          have hz3 := hz2.below d3
          go_wp2_with fail
          refine (C5.out _).mono ?_
          rintro e W4 ⟨rfl, d4⟩
          have b4 := b3.trans (d4.mono b3.size)
          have hz4 := hz3.below d4
          obtain ⟨⟨c0, c1, c2⟩, f0, f1, f2⟩ := hz4.cells
          go_wp2
          exact bodyPost_ret (v := .tuple #[.agg #[.int .i64 1, .string x, .int .i64 0], .bool true]) (by simp [results, Tryz.results84, go_sem, c0, c1, c2]) rfl ⟨by rw [HG2.out, HO2.out], below_host b4 _ _ _⟩
        | false =>
          rw [hf] at C5
          have HG2 : Hid (getAgg s.data.toList = .agg #[.int .i64 0, .string ⟨#[]⟩, .int .i64 0]) := by show _ = _; rw [HG.out]; unfold hostKind hostName hostAddr; simp [he, hf]
          have HO2 : Hid (getOk s.data.toList = false) := by show _ = _; rw [HO.out]; unfold hostKind; simp [he, hf]
          clear he hf C4 HG HO
          go_enter Tryz.func84, Tryz.ntmps84
          go_wp2_with fail
          refine (C1.out _).mono ?_
          rintro e W1 ⟨rfl, d1⟩
          have b1 : Below w.heap.size w W1 := ((Below.refl _ w).alloc (Nat.le_refl _) _).trans (d1.mono (by simp))
          have hz1 := hz0.below d1
          go_wp2_with fail
          refine (C2.out _).mono ?_
          rintro e W2 ⟨rfl, d2⟩
          have b2 := b1.trans (d2.mono b1.size)
          have hz2 := hz1.below d2
          go_wp2_with fail
          refine (C3.out _).mono ?_
          rintro e W3 ⟨rfl, d3⟩
          have b3 := b2.trans (d3.mono b2.size)
          have hz3 := hz2.below d3
          go_wp2_with fail
          refine (C5.out _).mono ?_
          rintro e W4 ⟨rfl, d4⟩
          have b4 := b3.trans (d4.mono b3.size)
          have hz4 := hz3.below d4
          obtain ⟨⟨c0, c1, c2⟩, f0, f1, f2⟩ := hz4.cells
          go_wp2
          exact bodyPost_ret (v := .tuple #[.agg #[.int .i64 0, .string ⟨#[]⟩, .int .i64 0], .bool false]) (by simp [results, Tryz.results84, go_sem, c0, c1, c2]) rfl ⟨by rw [HG2.out, HO2.out], below_host b4 _ _ _⟩
  · have hLi : (200 : Int) < (s.size : Int) := by omega
    have HG2 : Hid (getAgg s.data.toList = .agg #[.int .i64 0, .string ⟨#[]⟩, .int .i64 0]) := by show _ = _; unfold getAgg; rw [if_neg (by omega)]
    have HO2 : Hid (getOk s.data.toList = false) := by show _ = _; unfold getOk; rw [if_neg (by omega)]
    obtain ⟨ds, hds⟩ : ∃ ds : ByteArray, ds = ⟨(decode s).toArray⟩ := ⟨_, rfl⟩
    have C1 : Hid (∀ W, Calls Tryz.prog 104 #[.string s] W fun e w' => e = .returned (.string ds) ∧ Below W.heap.size W w') := by
      intro W; rw [hds]; exact specDecode s W (by unfold maxLen; omega)
    have hdz : ds.size ≤ 1048576 := by
      rw [hds]; show (decode s).toArray.size ≤ _
      unfold decode
      split
      · have := dec_le s.data.toList; simp; omega
      · simp
    obtain ⟨ls, hls⟩ : ∃ ls : ByteArray, ls = ⟨(low ds.data.toList).toArray⟩ := ⟨_, rfl⟩
    have C2 : Hid (∀ W, Calls Tryz.prog 77 #[.string ds] W fun e w' => e = .returned (.string ls) ∧ Below W.heap.size W w') := by
      intro W; rw [hls]; exact specLower ds W (by omega)
    clear hds hls
    go_enter Tryz.func84, Tryz.ntmps84
    go_wp2_with fail
    refine (C1.out _).mono ?_
    rintro e W1 ⟨rfl, d1⟩
    have b1 : Below w.heap.size w W1 := ((Below.refl _ w).alloc (Nat.le_refl _) _).trans (d1.mono (by simp))
    have hz1 := hz0.below d1
    go_wp2_with fail
    refine (C2.out _).mono ?_
    rintro e W2 ⟨rfl, d2⟩
    have b2 := b1.trans (d2.mono b1.size)
    have hz2 := hz1.below d2
    obtain ⟨⟨c0, c1, c2⟩, f0, f1, f2⟩ := hz2.cells
    go_wp2
    exact bodyPost_ret (v := .tuple #[.agg #[.int .i64 0, .string ⟨#[]⟩, .int .i64 0], .bool false]) (by simp [results, Tryz.results84, go_sem, c0, c1, c2]) rfl ⟨by rw [HG2.out, HO2.out], below_host b2 _ _ _⟩
end Go.Proofs.YticbekooadnnlaaGreatDoor
end
