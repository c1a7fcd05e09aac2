/- spec.l2Ends: whether a host's text ends with a number. spec.FourGet: an address of four bytes. -/
import Derived.Test.YtaloampjclgkbaaGreatDoorB21
import Derived.Test.YtaloampjclgkbaaGreatDoorB08
import Derived.Test.YtaloampjclgkbaaGreatDoorB09
section
set_option linter.unusedVariables false
namespace Go.Proofs.YtaloampjclgkbaaGreatDoor
open Go.RowKit Go.Shelf

theorem figs_next (s : ByteArray) (k : Nat) (h : k < s.size) : figsL (s.data.toList.take (k + 1)) = (figsL (s.data.toList.take k) && figB s[k]) := by
  unfold figsL; rw [take_snoc s k h]; simp
theorem fig_dec (c : UInt8) : figB c = (decide ((48 : Int) ≤ (c.toNat : Int)) && decide ((c.toNat : Int) ≤ 57)) := by
  unfold figB; rw [← Bool.decide_and]; exact decide_eq_decide.2 (by omega)

set_option maxHeartbeats 4000000 in
set_option maxRecDepth 100000 in
theorem l2Ends (s : ByteArray) (w : World) (hs : s.size ≤ 1000000) :
    Calls Tryz.prog 118 #[.string s] w fun e w' => e = .returned (.bool (endsL s.data.toList)) ∧ Below w.heap.size w w' := by
  have hl : s.data.toList.length = s.size := by simp
  have CP : Hid (Calls Tryz.prog 143 #[.string s] w fun e w' => ∃ g c, e = .returned (.slice (some ⟨g, 0, none⟩) (partsL s.data.toList).length c) ∧ w.heap.size ≤ g ∧ StrsAt g (partsL s.data.toList) w' ∧ Below w.heap.size w w') := l2Parts s w (by omega)
  have h1 := partsL_ne s.data.toList
  have hll := partsL_len_le s.data.toList
  have hq9 := lastP_le s.data.toList
  have HQ : Hid (∀ g W, StrsAt g (partsL s.data.toList) W → W.cell? ⟨g, (partsL s.data.toList).length - 1, none⟩ = some (.string (mk (lastP s.data.toList)))) := fun g W h => h.cell _ (by omega)
  have H0 : Hid (lastP s.data.toList = [] → endsL s.data.toList = false) := ends_empty _
  have HH : Hid (hexA (lastP s.data.toList) = true → endsL s.data.toList = partOk (lastP s.data.toList)) := ends_hex _
  have HX : Hid (hexA (lastP s.data.toList) = true → figsL (lastP s.data.toList) = false) := hexA_figs _
  have HV : Hid (decide (0 ≤ partV (lastP s.data.toList)) = partOk (lastP s.data.toList)) := partV_ok _
  have HF : Hid (lastP s.data.toList ≠ [] → hexA (lastP s.data.toList) = false → endsL s.data.toList = figsL (lastP s.data.toList)) := ends_figs _
  obtain ⟨n, hn⟩ : ∃ n, (partsL s.data.toList).length = n + 1 := ⟨(partsL s.data.toList).length - 1, by omega⟩
  obtain ⟨q, hq⟩ : ∃ q, q = lastP s.data.toList := ⟨_, rfl⟩
  rw [← hq] at HQ H0 HH HF hq9 HX HV
  rw [hn] at CP HQ hll
  have hn9 : n ≤ 1000001 := by omega
  have hn1 : (n : Int) + 1 - 1 = (n : Int) := by omega
  obtain ⟨z, hz⟩ : ∃ z, z = mk q := ⟨_, rfl⟩
  have hzq : z.data.toList = q := by rw [hz, mk_data]
  rw [← hz] at HQ
  rw [← hzq] at H0 HH HF hq9 HX HV
  have hz9 : z.size ≤ 1000000 := by
    have : z.data.toList.length = z.size := by simp
    omega
  clear hn hq hz hzq hll hq9 hl h1 q
  go_enter Tryz.func118, Tryz.ntmps118
  go_wp2_with fail
  refine CP.out.mono ?_
  rintro e w1 ⟨g, c, rfl, hg, hS, hB⟩
  have hc : w1.cell? ⟨g, n, none⟩ = some (.string z) := HQ.out _ _ hS
  have HB : Hid (Below w.heap.size w w1) := hB
  clear hS hB HQ hg
  by_cases hz0 : z.data.toList = []
  · have HZ : Hid (endsL s.data.toList = false) := H0.out hz0
    have he : z = ⟨#[]⟩ := by
      have := mk_list z
      rw [hz0] at this
      exact this.symm
    subst he
    clear hz0
    go_wp2
    go_ret
    exact ⟨by rw [HZ.out]; rfl, HB.out⟩
  · have HF2 : Hid (hexA z.data.toList = false → endsL s.data.toList = figsL z.data.toList) := HF.out hz0
    have hzn : z.toList ≠ [] := by rw [ByteArray.toList_eq]; exact hz0
    have hne1 : (z.toList == []) = false := beq_eq_false_iff_ne.2 hzn
    have hne2 : z.toList.isEmpty = false := List.isEmpty_eq_false_iff.2 hzn
    clear hz0
    go_wp2
    go_loop [5, 6] (fun a i => ∃ k : Nat, k ≤ z.size ∧ i = .int .i64 k ∧ a = .bool (figsL (z.data.toList.take k))) (fun a i => z.size - (intOf i).toNat)
    case atStart => exact ⟨0, Nat.zero_le _, rfl, rfl⟩
    case round =>
      obtain ⟨k, hk, rfl, rfl⟩ := hrel
      by_cases hp : k < z.size
      · have hki : (k : Int) < (z.size : Int) := by omega
        have HT : Hid (figsL (z.data.toList.take (k + 1)) = (figsL (z.data.toList.take k) && figB z[k])) := figs_next z k hp
        have HD : Hid (figB z[k] = (decide ((48 : Int) ≤ (z[k].toNat : Int)) && decide ((z[k].toNat : Int) ≤ 57))) := fig_dec _
        have hb := u8_lt z[k]
        cases ha : figsL (z.data.toList.take k) with
        | false =>
          have HT2 : Hid (figsL (z.data.toList.take (k + 1)) = false) := by show _ = _; rw [HT.out, ha]; rfl
          go_wp2
          go_round
          case rel => exact ⟨k + 1, by omega, by go_num, by rw [HT2.out]⟩
          case measure => simp [intOf]; omega
        | true =>
          rcases (show (z[k].toNat : Int) < 48 ∨ ((48 : Int) ≤ (z[k].toNat : Int) ∧ (z[k].toNat : Int) ≤ 57) ∨ ((48 : Int) ≤ (z[k].toNat : Int) ∧ (57 : Int) < (z[k].toNat : Int)) from by omega) with a1 | ⟨a1, a2⟩ | ⟨a1, a2⟩
          · have HT2 : Hid (figsL (z.data.toList.take (k + 1)) = false) := by show _ = _; rw [HT.out, ha, HD.out, decide_eq_false (by omega)]; rfl
            go_wp2
            go_round
            case rel => exact ⟨k + 1, by omega, by go_num, by rw [HT2.out]⟩
            case measure => simp [intOf]; omega
          · have HT2 : Hid (figsL (z.data.toList.take (k + 1)) = true) := by show _ = _; rw [HT.out, ha, HD.out, decide_eq_true a1, decide_eq_true a2]; rfl
            go_wp2
            go_round
            case rel => exact ⟨k + 1, by omega, by go_num, by rw [HT2.out]⟩
            case measure => simp [intOf]; omega
          · have HT2 : Hid (figsL (z.data.toList.take (k + 1)) = false) := by show _ = _; rw [HT.out, ha, HD.out, decide_eq_true a1, decide_eq_false (by omega)]; rfl
            go_wp2
            go_round
            case rel => exact ⟨k + 1, by omega, by go_num, by rw [HT2.out, decide_eq_false (by omega)]⟩
            case measure => simp [intOf]; omega
      · have hkk : k = z.size := by omega
        subst hkk
        have hfull : z.data.toList.take z.size = z.data.toList := List.take_of_length_le (by simp)
        rw [hfull]
        cases ha : figsL z.data.toList with
        | true =>
          have HZ : Hid (endsL s.data.toList = true) := by
            cases hx : hexA z.data.toList with
            | true => rw [HX.out hx] at ha; cases ha
            | false => show _ = _; rw [HF2.out hx]; exact ha
          go_wp2
          go_ret
          exact ⟨by rw [HZ.out]; rfl, HB.out⟩
        | false =>
          by_cases h2 : z.size < 2
          · have HZ : Hid (endsL s.data.toList = false) := by show _ = _; rw [HF2.out (hexA_short z h2)]; exact ha
            have h2i : (z.size : Int) < 2 := by omega
            go_wp2
            go_ret
            exact ⟨by rw [HZ.out]; rfl, HB.out⟩
          · have h2' : 2 ≤ z.size := by omega
            have h2i : (2 : Int) ≤ (z.size : Int) := by omega
            by_cases h0 : z[0] = 48
            · have e0 : ((z[0].toNat : Int) == 48) = true := u8_beq z[0] 48 (by omega) h0
              by_cases h3 : z[1] = 120
              · have e1 : ((z[1].toNat : Int) == 120) = true := u8_beq z[1] 120 (by omega) h3
                have HZ : Hid (endsL s.data.toList = decide (0 ≤ partV z.data.toList)) := by show _ = _; rw [HV.out]; exact HH.out (hexA_yes z h2' h0 (.inl h3))
                clear h0 h3
                go_wp2_with (go_at_call 144; refine (l2Part z _ hz9).mono ?_; rintro e W1 ⟨rfl, hW⟩; have hW2 := hW.symm; subst hW2)
                go_ret
                exact ⟨by rw [HZ.out]; rfl, HB.out⟩
              · have e1 : ((z[1].toNat : Int) == 120) = false := u8_bne z[1] 120 (by omega) h3
                by_cases h4 : z[1] = 88
                · have e2 : ((z[1].toNat : Int) == 88) = true := u8_beq z[1] 88 (by omega) h4
                  have HZ : Hid (endsL s.data.toList = decide (0 ≤ partV z.data.toList)) := by show _ = _; rw [HV.out]; exact HH.out (hexA_yes z h2' h0 (.inr h4))
                  clear h0 h3 h4
                  go_wp2_with (go_at_call 144; refine (l2Part z _ hz9).mono ?_; rintro e W1 ⟨rfl, hW⟩; have hW2 := hW.symm; subst hW2)
                  go_ret
                  exact ⟨by rw [HZ.out]; rfl, HB.out⟩
                · have e2 : ((z[1].toNat : Int) == 88) = false := u8_bne z[1] 88 (by omega) h4
                  have HZ : Hid (endsL s.data.toList = false) := by show _ = _; rw [HF2.out (hexA_no1 z h2' h3 h4)]; exact ha
                  clear h0 h3 h4
                  go_wp2
                  go_ret
                  exact ⟨by rw [HZ.out]; rfl, HB.out⟩
            · have e0 : ((z[0].toNat : Int) == 48) = false := u8_bne z[0] 48 (by omega) h0
              have HZ : Hid (endsL s.data.toList = false) := by show _ = _; rw [HF2.out (hexA_no0 z h2' h0)]; exact ha
              clear h0
              go_wp2
              go_ret
              exact ⟨by rw [HZ.out]; rfl, HB.out⟩
end Go.Proofs.YtaloampjclgkbaaGreatDoor
end

section
set_option linter.unusedVariables false
namespace Go.Proofs.YtaloampjclgkbaaGreatDoor
open Go.RowKit Go.Shelf

set_option maxHeartbeats 8000000 in
set_option maxRecDepth 100000 in
theorem specFour (s : ByteArray) (w : World) (hs : s.size ≤ 1048576) :
    Calls Tryz.prog 121 #[.string s] w fun e w' => e = .returned (.tuple #[.int .i64 (fourZ s.data.toList), .bool (fourOk s.data.toList)]) ∧ Below w.heap.size w w' := by
  have hl : s.data.toList.length = s.size := by simp
  have HM : Hid (∀ q ∈ partsL s.data.toList, q.length ≤ s.size) := fun q hq => by have := partsL_mem_le s.data.toList q hq; omega
  have CP : Hid (Calls Tryz.prog 143 #[.string s] w fun e w' => ∃ g c, e = .returned (.slice (some ⟨g, 0, none⟩) (partsL s.data.toList).length c) ∧ w.heap.size ≤ g ∧ StrsAt g (partsL s.data.toList) w' ∧ Below w.heap.size w w') := l2Parts s w hs
  have HO : Hid (s.size ≤ 200 → (partsL s.data.toList).length ≤ 4 → fourL s.data.toList = fourFrom (partsL s.data.toList).length 0 0 (partsL s.data.toList)) := fun h0 h => by unfold fourL; rw [if_pos ⟨by omega, h⟩]
  have HG : Hid (¬ (s.size ≤ 200 ∧ (partsL s.data.toList).length ≤ 4) → fourL s.data.toList = none) := fun h => by unfold fourL; rw [if_neg (fun hh => h ⟨by omega, hh.2⟩)]
  have h1 := partsL_ne s.data.toList
  have hll := partsL_len_le s.data.toList
  obtain ⟨P, hP⟩ : ∃ P, P = partsL s.data.toList := ⟨_, rfl⟩
  rw [← hP] at HM CP HO HG h1 hll
  clear hP
  obtain ⟨n, hn⟩ : ∃ n, n = P.length := ⟨_, rfl⟩
  rw [← hn] at CP HO HG h1 hll
  have HN : Hid (n = P.length) := hn
  have hn9 : n ≤ 1048577 := by omega
  clear hn hll hl
  by_cases h4 : n ≤ 4
  rotate_left
  · have h4i : (4 : Int) < (n : Int) := by omega
    have HZ : Hid (fourOk s.data.toList = false ∧ fourZ s.data.toList = 0) := four_is_none _ (HG.out (fun hh => h4 hh.2))
    go_enter Tryz.func121, Tryz.ntmps121
    go_wp2_with fail
    refine CP.out.mono ?_
    rintro e w1 ⟨g, c, rfl, hg, hS, hB⟩
    go_wp2
    go_ret2
    exact ⟨by rw [HZ.out.1, HZ.out.2]; rfl, hB⟩
  have h4i : (n : Int) ≤ 4 := by omega
  by_cases hL : s.size ≤ 200
  rotate_left
  · have hLi : (200 : Int) < (s.size : Int) := by omega
    have HZ : Hid (fourOk s.data.toList = false ∧ fourZ s.data.toList = 0) := four_is_none _ (HG.out (fun hh => hL hh.1))
    go_enter Tryz.func121, Tryz.ntmps121
    go_wp2_with fail
    refine CP.out.mono ?_
    rintro e w1 ⟨g, c, rfl, hg, hS, hB⟩
    go_wp2
    go_ret2
    exact ⟨by rw [HZ.out.1, HZ.out.2]; rfl, hB⟩
  have hLi : (s.size : Int) ≤ 200 := by omega
  have HO3 : Hid (fourL s.data.toList = fourFrom n 0 0 P) := HO.out hL h4
  clear HO HG
  go_enter Tryz.func121, Tryz.ntmps121
  go_wp2_with fail
  refine CP.out.mono ?_
  rintro e w1 ⟨g, c, rfl, hg, hS, hB⟩
  go_wp2_with fail
  go_loopw [5, 6] (fun ad ix wr => ∃ (i : Nat) (acc : Int), i ≤ n ∧ ix = .int .i64 i ∧ ad = .int .i64 acc ∧ 0 ≤ acc ∧ acc ≤ 4294967295 ∧ Hid (i < n → acc < midI i) ∧ StrsAt g P wr ∧ Below w.heap.size w wr ∧ Hid (fourFrom n i acc (P.drop i) = fourFrom n 0 0 P)) (fun _ ix wr => n - (intOf ix).toNat)
  case atStart => exact ⟨0, 0, Nat.zero_le _, rfl, rfl, by omega, by omega, fun _ => by decide, hS, hB, rfl⟩
  case round =>
    obtain ⟨i, acc, hi, rfl, rfl, ha0, ha1, HI, hSr, hBr, HF⟩ := hrel
    by_cases hp : i < n
    rotate_left
    · have hin : i = n := by omega
      subst hin
      have hpi : ¬ ((i : Int) < (i : Int)) := by omega
      have HZ : Hid (fourOk s.data.toList = true ∧ fourZ s.data.toList = acc) := four_is_some _ _ (by rw [HO3.out, ← HF.out, List.drop_of_length_le (by rw [← HN.out]; exact Nat.le_refl _)]; rfl)
      go_wp2
      go_ret2
      exact ⟨by rw [HZ.out.1, HZ.out.2]; rfl, hBr⟩
    · have hpi : (i : Int) < (n : Int) := by omega
      have hiP : i < P.length := by rw [← HN.out]; exact hp
      have hc := hSr.cell i hiP
      have hmid := HI.out hp
      obtain ⟨nv, HV, HW, hv0, hv1, CQ⟩ : ∃ nv : Int, Hid (0 ≤ nv → partN P[i] = some nv) ∧ Hid (nv < 0 → partN P[i] = none) ∧ -1 ≤ nv ∧ nv ≤ 68719476735 ∧ Hid (∀ W, Calls Tryz.prog 144 #[.string (mk P[i])] W fun e w' => e = .returned (.int .i64 nv) ∧ w' = W) := by
        have hq := HM.out _ (List.getElem_mem hiP)
        have CC := fun W => l2Part (mk P[i]) W (by rw [mk_size]; omega)
        cases hpn : partN P[i] with
        | none =>
          refine ⟨-1, fun h => absurd h (by omega), fun _ => rfl, by omega, by omega, fun W => ?_⟩
          have := CC W
          rw [mk_data, show partV P[i] = -1 from by unfold partV; rw [hpn]; rfl] at this
          exact this
        | some v =>
          have g0 := partN_ge _ _ hpn
          refine ⟨v, fun _ => rfl, fun h => absurd h (by omega), by omega, partN_le _ _ hpn, fun W => ?_⟩
          have := CC W
          rw [mk_data, show partV P[i] = v from by unfold partV; rw [hpn]; rfl] at this
          exact this
      rcases (show i = 0 ∨ i = 1 ∨ i = 2 ∨ i = 3 from by omega) with rfl | rfl | rfl | rfl
      · have hm2 : acc < 1 := hmid
        by_cases hlast : n = 1
        · have HL1 : Hid (n = 1) := hlast
          have hli : ((0 : Int) == (n : Int) - 1) = true := beq_iff_eq.2 (by omega)
          have hn1 : n ≤ 1 := by omega
          have hn2 : 1 ≤ n := by omega
          clear hlast
          by_cases hv : 0 ≤ nv ∧ nv < (4294967296 : Int)
          · have HF2 : Hid (fourFrom n 1 (acc * 4294967296 + nv) (P.drop 1) = fourFrom n 0 0 P) := by rw [← HF.out, drop_four P 0 hiP]; exact (four_last n 0 acc nv _ (P.drop 1) (HV.out hv.1) HL1.out.symm hv.2).symm
            obtain ⟨hv1, hv2⟩ := hv
            go_wp2_with (first | (go_at_call 144; refine (CQ.out _).mono ?_; rintro e W1 ⟨rfl, hW⟩; have hW2 := hW.symm; subst hW2) | fail)
            go_loop [8, 9] (fun m k => (m = .int .i64 255 ∧ k = .int .i64 0) ∨ (m = .int .i64 65535 ∧ k = .int .i64 1) ∨ (m = .int .i64 16777215 ∧ k = .int .i64 2) ∨ (m = .int .i64 4294967295 ∧ k = .int .i64 3)) (fun _ k => 3 - (intOf k).toNat)
            case atStart => exact .inl ⟨rfl, rfl⟩
            case round =>
              rcases hrel with ⟨rfl, rfl⟩ | ⟨rfl, rfl⟩ | ⟨rfl, rfl⟩ | ⟨rfl, rfl⟩
              · go_wp2
                go_round
                case rel => exact .inr (.inl ⟨rfl, rfl⟩)
                case measure => decide
              · go_wp2
                go_round
                case rel => exact .inr (.inr (.inl ⟨rfl, rfl⟩))
                case measure => decide
              · go_wp2
                go_round
                case rel => exact .inr (.inr (.inr (⟨rfl, rfl⟩)))
                case measure => decide
              · go_wp2_with (first | (go_at_call 119; refine (l1In_yes nv 0 4294967295 _ (by omega)).mono ?_; rintro e W1 ⟨rfl, hW⟩; have hW2 := hW.symm; subst hW2) | fail)
                go_roundw
                case rel => exact ⟨1, acc * 4294967296 + nv, by omega, by go_num, by go_num, by omega, by omega, fun h => absurd h (by omega), hSr, hBr, HF2⟩
                case measure => simp [intOf]; omega
          · have HZ : Hid (fourOk s.data.toList = false ∧ fourZ s.data.toList = 0) := four_is_none _ (by
              rw [HO3.out, ← HF.out, drop_four P 0 hiP]
              by_cases h : 0 ≤ nv
              · exact four_last_no n 0 acc nv _ (P.drop 1) (HV.out h) HL1.out.symm (fun hh => hv ⟨h, hh⟩)
              · exact four_none _ _ _ _ _ (HW.out (by omega)))
            have hv2 : ¬ (0 ≤ nv ∧ nv ≤ 4294967295) := by have := hv; omega
            clear hv
            go_wp2_with (first | (go_at_call 144; refine (CQ.out _).mono ?_; rintro e W1 ⟨rfl, hW⟩; have hW2 := hW.symm; subst hW2) | fail)
            go_loop [8, 9] (fun m k => (m = .int .i64 255 ∧ k = .int .i64 0) ∨ (m = .int .i64 65535 ∧ k = .int .i64 1) ∨ (m = .int .i64 16777215 ∧ k = .int .i64 2) ∨ (m = .int .i64 4294967295 ∧ k = .int .i64 3)) (fun _ k => 3 - (intOf k).toNat)
            case atStart => exact .inl ⟨rfl, rfl⟩
            case round =>
              rcases hrel with ⟨rfl, rfl⟩ | ⟨rfl, rfl⟩ | ⟨rfl, rfl⟩ | ⟨rfl, rfl⟩
              · go_wp2
                go_round
                case rel => exact .inr (.inl ⟨rfl, rfl⟩)
                case measure => decide
              · go_wp2
                go_round
                case rel => exact .inr (.inr (.inl ⟨rfl, rfl⟩))
                case measure => decide
              · go_wp2
                go_round
                case rel => exact .inr (.inr (.inr (⟨rfl, rfl⟩)))
                case measure => decide
              · go_wp2_with (first | (go_at_call 119; refine (l1In_no nv 0 4294967295 _ (by omega)).mono ?_; rintro e W1 ⟨rfl, hW⟩; have hW2 := hW.symm; subst hW2) | fail)
                go_ret2
                exact ⟨by rw [HZ.out.1, HZ.out.2]; rfl, hBr⟩
        · have hli : ((0 : Int) == (n : Int) - 1) = false := beq_eq_false_iff_ne.2 (by omega)
          by_cases hv : 0 ≤ nv ∧ nv < (256 : Int)
          · have HF2 : Hid (fourFrom n 1 (acc * 256 + nv) (P.drop 1) = fourFrom n 0 0 P) := by rw [← HF.out, drop_four P 0 hiP]; exact (four_mid n 0 acc nv _ (P.drop 1) (HV.out hv.1) (by omega) hv.2).symm
            obtain ⟨hv1, hv2⟩ := hv
            go_wp2_with (first | (go_at_call 144; refine (CQ.out _).mono ?_; rintro e W1 ⟨rfl, hW⟩; have hW2 := hW.symm; subst hW2) | (go_at_call 119; refine (l1In_yes nv 0 255 _ (by omega)).mono ?_; rintro e W1 ⟨rfl, hW⟩; have hW2 := hW.symm; subst hW2))
            go_roundw
            case rel => exact ⟨1, acc * 256 + nv, by omega, by go_num, by go_num, by omega, by omega, fun _ => by show acc * 256 + nv < 256; omega, hSr, hBr, HF2⟩
            case measure => simp [intOf]; omega
          · have HZ : Hid (fourOk s.data.toList = false ∧ fourZ s.data.toList = 0) := four_is_none _ (by
              rw [HO3.out, ← HF.out, drop_four P 0 hiP]
              by_cases h : 0 ≤ nv
              · exact four_mid_no n 0 acc nv _ (P.drop 1) (HV.out h) (by omega) (fun hh => hv ⟨h, hh⟩)
              · exact four_none _ _ _ _ _ (HW.out (by omega)))
            have hv2 : ¬ (0 ≤ nv ∧ nv ≤ 255) := by have := hv; omega
            clear hv
            go_wp2_with (first | (go_at_call 144; refine (CQ.out _).mono ?_; rintro e W1 ⟨rfl, hW⟩; have hW2 := hW.symm; subst hW2) | (go_at_call 119; refine (l1In_no nv 0 255 _ (by omega)).mono ?_; rintro e W1 ⟨rfl, hW⟩; have hW2 := hW.symm; subst hW2))
            go_ret2
            exact ⟨by rw [HZ.out.1, HZ.out.2]; rfl, hBr⟩
      · have hm2 : acc < 256 := hmid
        by_cases hlast : n = 2
        · have HL1 : Hid (n = 2) := hlast
          have hli : ((1 : Int) == (n : Int) - 1) = true := beq_iff_eq.2 (by omega)
          have hn1 : n ≤ 2 := by omega
          have hn2 : 2 ≤ n := by omega
          clear hlast
          by_cases hv : 0 ≤ nv ∧ nv < (16777216 : Int)
          · have HF2 : Hid (fourFrom n 2 (acc * 16777216 + nv) (P.drop 2) = fourFrom n 0 0 P) := by rw [← HF.out, drop_four P 1 hiP]; exact (four_last n 1 acc nv _ (P.drop 2) (HV.out hv.1) HL1.out.symm hv.2).symm
            obtain ⟨hv1, hv2⟩ := hv
            go_wp2_with (first | (go_at_call 144; refine (CQ.out _).mono ?_; rintro e W1 ⟨rfl, hW⟩; have hW2 := hW.symm; subst hW2) | fail)
            go_loop [8, 9] (fun m k => (m = .int .i64 255 ∧ k = .int .i64 1) ∨ (m = .int .i64 65535 ∧ k = .int .i64 2) ∨ (m = .int .i64 16777215 ∧ k = .int .i64 3)) (fun _ k => 3 - (intOf k).toNat)
            case atStart => exact .inl ⟨rfl, rfl⟩
            case round =>
              rcases hrel with ⟨rfl, rfl⟩ | ⟨rfl, rfl⟩ | ⟨rfl, rfl⟩
              · go_wp2
                go_round
                case rel => exact .inr (.inl ⟨rfl, rfl⟩)
                case measure => decide
              · go_wp2
                go_round
                case rel => exact .inr (.inr (⟨rfl, rfl⟩))
                case measure => decide
              · go_wp2_with (first | (go_at_call 119; refine (l1In_yes nv 0 16777215 _ (by omega)).mono ?_; rintro e W1 ⟨rfl, hW⟩; have hW2 := hW.symm; subst hW2) | fail)
                go_roundw
                case rel => exact ⟨2, acc * 16777216 + nv, by omega, by go_num, by go_num, by omega, by omega, fun h => absurd h (by omega), hSr, hBr, HF2⟩
                case measure => simp [intOf]; omega
          · have HZ : Hid (fourOk s.data.toList = false ∧ fourZ s.data.toList = 0) := four_is_none _ (by
              rw [HO3.out, ← HF.out, drop_four P 1 hiP]
              by_cases h : 0 ≤ nv
              · exact four_last_no n 1 acc nv _ (P.drop 2) (HV.out h) HL1.out.symm (fun hh => hv ⟨h, hh⟩)
              · exact four_none _ _ _ _ _ (HW.out (by omega)))
            have hv2 : ¬ (0 ≤ nv ∧ nv ≤ 16777215) := by have := hv; omega
            clear hv
            go_wp2_with (first | (go_at_call 144; refine (CQ.out _).mono ?_; rintro e W1 ⟨rfl, hW⟩; have hW2 := hW.symm; subst hW2) | fail)
            go_loop [8, 9] (fun m k => (m = .int .i64 255 ∧ k = .int .i64 1) ∨ (m = .int .i64 65535 ∧ k = .int .i64 2) ∨ (m = .int .i64 16777215 ∧ k = .int .i64 3)) (fun _ k => 3 - (intOf k).toNat)
            case atStart => exact .inl ⟨rfl, rfl⟩
            case round =>
              rcases hrel with ⟨rfl, rfl⟩ | ⟨rfl, rfl⟩ | ⟨rfl, rfl⟩
              · go_wp2
                go_round
                case rel => exact .inr (.inl ⟨rfl, rfl⟩)
                case measure => decide
              · go_wp2
                go_round
                case rel => exact .inr (.inr (⟨rfl, rfl⟩))
                case measure => decide
              · go_wp2_with (first | (go_at_call 119; refine (l1In_no nv 0 16777215 _ (by omega)).mono ?_; rintro e W1 ⟨rfl, hW⟩; have hW2 := hW.symm; subst hW2) | fail)
                go_ret2
                exact ⟨by rw [HZ.out.1, HZ.out.2]; rfl, hBr⟩
        · have hli : ((1 : Int) == (n : Int) - 1) = false := beq_eq_false_iff_ne.2 (by omega)
          by_cases hv : 0 ≤ nv ∧ nv < (256 : Int)
          · have HF2 : Hid (fourFrom n 2 (acc * 256 + nv) (P.drop 2) = fourFrom n 0 0 P) := by rw [← HF.out, drop_four P 1 hiP]; exact (four_mid n 1 acc nv _ (P.drop 2) (HV.out hv.1) (by omega) hv.2).symm
            obtain ⟨hv1, hv2⟩ := hv
            go_wp2_with (first | (go_at_call 144; refine (CQ.out _).mono ?_; rintro e W1 ⟨rfl, hW⟩; have hW2 := hW.symm; subst hW2) | (go_at_call 119; refine (l1In_yes nv 0 255 _ (by omega)).mono ?_; rintro e W1 ⟨rfl, hW⟩; have hW2 := hW.symm; subst hW2))
            go_roundw
            case rel => exact ⟨2, acc * 256 + nv, by omega, by go_num, by go_num, by omega, by omega, fun _ => by show acc * 256 + nv < 65536; omega, hSr, hBr, HF2⟩
            case measure => simp [intOf]; omega
          · have HZ : Hid (fourOk s.data.toList = false ∧ fourZ s.data.toList = 0) := four_is_none _ (by
              rw [HO3.out, ← HF.out, drop_four P 1 hiP]
              by_cases h : 0 ≤ nv
              · exact four_mid_no n 1 acc nv _ (P.drop 2) (HV.out h) (by omega) (fun hh => hv ⟨h, hh⟩)
              · exact four_none _ _ _ _ _ (HW.out (by omega)))
            have hv2 : ¬ (0 ≤ nv ∧ nv ≤ 255) := by have := hv; omega
            clear hv
            go_wp2_with (first | (go_at_call 144; refine (CQ.out _).mono ?_; rintro e W1 ⟨rfl, hW⟩; have hW2 := hW.symm; subst hW2) | (go_at_call 119; refine (l1In_no nv 0 255 _ (by omega)).mono ?_; rintro e W1 ⟨rfl, hW⟩; have hW2 := hW.symm; subst hW2))
            go_ret2
            exact ⟨by rw [HZ.out.1, HZ.out.2]; rfl, hBr⟩
      · have hm2 : acc < 65536 := hmid
        by_cases hlast : n = 3
        · have HL1 : Hid (n = 3) := hlast
          have hli : ((2 : Int) == (n : Int) - 1) = true := beq_iff_eq.2 (by omega)
          have hn1 : n ≤ 3 := by omega
          have hn2 : 3 ≤ n := by omega
          clear hlast
          by_cases hv : 0 ≤ nv ∧ nv < (65536 : Int)
          · have HF2 : Hid (fourFrom n 3 (acc * 65536 + nv) (P.drop 3) = fourFrom n 0 0 P) := by rw [← HF.out, drop_four P 2 hiP]; exact (four_last n 2 acc nv _ (P.drop 3) (HV.out hv.1) HL1.out.symm hv.2).symm
            obtain ⟨hv1, hv2⟩ := hv
            go_wp2_with (first | (go_at_call 144; refine (CQ.out _).mono ?_; rintro e W1 ⟨rfl, hW⟩; have hW2 := hW.symm; subst hW2) | fail)
            go_loop [8, 9] (fun m k => (m = .int .i64 255 ∧ k = .int .i64 2) ∨ (m = .int .i64 65535 ∧ k = .int .i64 3)) (fun _ k => 3 - (intOf k).toNat)
            case atStart => exact .inl ⟨rfl, rfl⟩
            case round =>
              rcases hrel with ⟨rfl, rfl⟩ | ⟨rfl, rfl⟩
              · go_wp2
                go_round
                case rel => exact .inr (⟨rfl, rfl⟩)
                case measure => decide
              · go_wp2_with (first | (go_at_call 119; refine (l1In_yes nv 0 65535 _ (by omega)).mono ?_; rintro e W1 ⟨rfl, hW⟩; have hW2 := hW.symm; subst hW2) | fail)
                go_roundw
                case rel => exact ⟨3, acc * 65536 + nv, by omega, by go_num, by go_num, by omega, by omega, fun h => absurd h (by omega), hSr, hBr, HF2⟩
                case measure => simp [intOf]; omega
          · have HZ : Hid (fourOk s.data.toList = false ∧ fourZ s.data.toList = 0) := four_is_none _ (by
              rw [HO3.out, ← HF.out, drop_four P 2 hiP]
              by_cases h : 0 ≤ nv
              · exact four_last_no n 2 acc nv _ (P.drop 3) (HV.out h) HL1.out.symm (fun hh => hv ⟨h, hh⟩)
              · exact four_none _ _ _ _ _ (HW.out (by omega)))
            have hv2 : ¬ (0 ≤ nv ∧ nv ≤ 65535) := by have := hv; omega
            clear hv
            go_wp2_with (first | (go_at_call 144; refine (CQ.out _).mono ?_; rintro e W1 ⟨rfl, hW⟩; have hW2 := hW.symm; subst hW2) | fail)
            go_loop [8, 9] (fun m k => (m = .int .i64 255 ∧ k = .int .i64 2) ∨ (m = .int .i64 65535 ∧ k = .int .i64 3)) (fun _ k => 3 - (intOf k).toNat)
            case atStart => exact .inl ⟨rfl, rfl⟩
            case round =>
              rcases hrel with ⟨rfl, rfl⟩ | ⟨rfl, rfl⟩
              · go_wp2
                go_round
                case rel => exact .inr (⟨rfl, rfl⟩)
                case measure => decide
              · go_wp2_with (first | (go_at_call 119; refine (l1In_no nv 0 65535 _ (by omega)).mono ?_; rintro e W1 ⟨rfl, hW⟩; have hW2 := hW.symm; subst hW2) | fail)
                go_ret2
                exact ⟨by rw [HZ.out.1, HZ.out.2]; rfl, hBr⟩
        · have hli : ((2 : Int) == (n : Int) - 1) = false := beq_eq_false_iff_ne.2 (by omega)
          by_cases hv : 0 ≤ nv ∧ nv < (256 : Int)
          · have HF2 : Hid (fourFrom n 3 (acc * 256 + nv) (P.drop 3) = fourFrom n 0 0 P) := by rw [← HF.out, drop_four P 2 hiP]; exact (four_mid n 2 acc nv _ (P.drop 3) (HV.out hv.1) (by omega) hv.2).symm
            obtain ⟨hv1, hv2⟩ := hv
            go_wp2_with (first | (go_at_call 144; refine (CQ.out _).mono ?_; rintro e W1 ⟨rfl, hW⟩; have hW2 := hW.symm; subst hW2) | (go_at_call 119; refine (l1In_yes nv 0 255 _ (by omega)).mono ?_; rintro e W1 ⟨rfl, hW⟩; have hW2 := hW.symm; subst hW2))
            go_roundw
            case rel => exact ⟨3, acc * 256 + nv, by omega, by go_num, by go_num, by omega, by omega, fun _ => by show acc * 256 + nv < 16777216; omega, hSr, hBr, HF2⟩
            case measure => simp [intOf]; omega
          · have HZ : Hid (fourOk s.data.toList = false ∧ fourZ s.data.toList = 0) := four_is_none _ (by
              rw [HO3.out, ← HF.out, drop_four P 2 hiP]
              by_cases h : 0 ≤ nv
              · exact four_mid_no n 2 acc nv _ (P.drop 3) (HV.out h) (by omega) (fun hh => hv ⟨h, hh⟩)
              · exact four_none _ _ _ _ _ (HW.out (by omega)))
            have hv2 : ¬ (0 ≤ nv ∧ nv ≤ 255) := by have := hv; omega
            clear hv
            go_wp2_with (first | (go_at_call 144; refine (CQ.out _).mono ?_; rintro e W1 ⟨rfl, hW⟩; have hW2 := hW.symm; subst hW2) | (go_at_call 119; refine (l1In_no nv 0 255 _ (by omega)).mono ?_; rintro e W1 ⟨rfl, hW⟩; have hW2 := hW.symm; subst hW2))
            go_ret2
            exact ⟨by rw [HZ.out.1, HZ.out.2]; rfl, hBr⟩
      · have hm2 : acc < 16777216 := hmid
        have hlast : n = 4 := by omega
        have HL1 : Hid (n = 4) := hlast
        have hli : ((3 : Int) == (n : Int) - 1) = true := beq_iff_eq.2 (by omega)
        have hn1 : n ≤ 4 := by omega
        have hn2 : 4 ≤ n := by omega
        clear hlast
        by_cases hv : 0 ≤ nv ∧ nv < (256 : Int)
        · have HF2 : Hid (fourFrom n 4 (acc * 256 + nv) (P.drop 4) = fourFrom n 0 0 P) := by rw [← HF.out, drop_four P 3 hiP]; exact (four_last n 3 acc nv _ (P.drop 4) (HV.out hv.1) HL1.out.symm hv.2).symm
          obtain ⟨hv1, hv2⟩ := hv
          go_wp2_with (first | (go_at_call 144; refine (CQ.out _).mono ?_; rintro e W1 ⟨rfl, hW⟩; have hW2 := hW.symm; subst hW2) | fail)
          go_loop [8, 9] (fun m k => (m = .int .i64 255 ∧ k = .int .i64 3)) (fun _ k => 3 - (intOf k).toNat)
          case atStart => exact ⟨rfl, rfl⟩
          case round =>
            obtain ⟨rfl, rfl⟩ := hrel
            go_wp2_with (first | (go_at_call 119; refine (l1In_yes nv 0 255 _ (by omega)).mono ?_; rintro e W1 ⟨rfl, hW⟩; have hW2 := hW.symm; subst hW2) | fail)
            go_roundw
            case rel => exact ⟨4, acc * 256 + nv, by omega, by go_num, by go_num, by omega, by omega, fun h => absurd h (by omega), hSr, hBr, HF2⟩
            case measure => simp [intOf]; omega
        · have HZ : Hid (fourOk s.data.toList = false ∧ fourZ s.data.toList = 0) := four_is_none _ (by
            rw [HO3.out, ← HF.out, drop_four P 3 hiP]
            by_cases h : 0 ≤ nv
            · exact four_last_no n 3 acc nv _ (P.drop 4) (HV.out h) HL1.out.symm (fun hh => hv ⟨h, hh⟩)
            · exact four_none _ _ _ _ _ (HW.out (by omega)))
          have hv2 : ¬ (0 ≤ nv ∧ nv ≤ 255) := by have := hv; omega
          clear hv
          go_wp2_with (first | (go_at_call 144; refine (CQ.out _).mono ?_; rintro e W1 ⟨rfl, hW⟩; have hW2 := hW.symm; subst hW2) | fail)
          go_loop [8, 9] (fun m k => (m = .int .i64 255 ∧ k = .int .i64 3)) (fun _ k => 3 - (intOf k).toNat)
          case atStart => exact ⟨rfl, rfl⟩
          case round =>
            obtain ⟨rfl, rfl⟩ := hrel
            go_wp2_with (first | (go_at_call 119; refine (l1In_no nv 0 255 _ (by omega)).mono ?_; rintro e W1 ⟨rfl, hW⟩; have hW2 := hW.symm; subst hW2) | fail)
            go_ret2
            exact ⟨by rw [HZ.out.1, HZ.out.2]; rfl, hBr⟩
end Go.Proofs.YtaloampjclgkbaaGreatDoor
end
