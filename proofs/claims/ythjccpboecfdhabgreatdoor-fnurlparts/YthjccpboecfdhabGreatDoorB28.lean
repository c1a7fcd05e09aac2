/- spec.FourGet: an address of four bytes. -/
import Derived.Test.YthjccpboecfdhabGreatDoorB27
import Derived.Test.YthjccpboecfdhabGreatDoorB09
section
set_option linter.unusedVariables false
namespace Go.Proofs.YthjccpboecfdhabGreatDoor
open Go.RowKit Go.Shelf

set_option maxHeartbeats 8000000 in
set_option maxRecDepth 100000 in
theorem specFour (s : ByteArray) (w : World) (hs : s.size ≤ 1048576) :
    Calls Tryz.prog 80 #[.string s] w fun e w' => e = .returned (.tuple #[.int .i64 (fourZ s.data.toList), .bool (fourOk s.data.toList)]) ∧ Below w.heap.size w w' := by
  have hl : s.data.toList.length = s.size := by simp
  have HM : Hid (∀ q ∈ partsL s.data.toList, q.length ≤ s.size) := fun q hq => by have := partsL_mem_le s.data.toList q hq; omega
  have CP : Hid (Calls Tryz.prog 105 #[.string s] w fun e w' => ∃ g c, e = .returned (.slice (some ⟨g, 0, none⟩) (partsL s.data.toList).length c) ∧ w.heap.size ≤ g ∧ StrsAt g (partsL s.data.toList) w' ∧ Below w.heap.size w w') := l2Parts s w hs
  have HO : Hid (s.size ≤ 200 → (partsL s.data.toList).length ≤ 4 → fourL s.data.toList = fourFrom (partsL s.data.toList).length 0 0 (partsL s.data.toList)) := fun h0 h => by unfold fourL; rw [if_pos ⟨by omega, h⟩]
  have HG : Hid (¬ (s.size ≤ 200 ∧ (partsL s.data.toList).length ≤ 4) → fourL s.data.toList = none) := fun h => by unfold fourL; rw [if_neg (fun hh => h ⟨by omega, hh.2⟩)]
  have h1 := partsL_ne s.data.toList
  have hll := partsL_len_le s.data.toList
  obtain ⟨P, hP⟩ : ∃ P, P = partsL s.data.toList := ⟨_, rfl⟩
  rw [← hP] at HM CP HO HG h1 hll
  clear hP
  obtain ⟨n, hn⟩ : ∃ n, n = P.length := ⟨_, rfl⟩
  rw [← hn] at CP HO HG h1 hll
  have HN : Hid (n = P.length) := hn
  have hn9 : n ≤ 1048577 := by omega
  clear hn hll hl
  by_cases h4 : n ≤ 4
  rotate_left
  · have h4i : (4 : Int) < (n : Int) := by omega
    have HZ : Hid (fourOk s.data.toList = false ∧ fourZ s.data.toList = 0) := four_is_none _ (HG.out (fun hh => h4 hh.2))
    go_enter Tryz.func80, Tryz.ntmps80
    go_wp2_with fail
    refine CP.out.mono ?_
    rintro e w1 ⟨g, c, rfl, hg, hS, hB⟩
    go_wp2
    go_ret2
    exact ⟨by rw [HZ.out.1, HZ.out.2]; rfl, hB⟩
  have h4i : (n : Int) ≤ 4 := by omega
  by_cases hL : s.size ≤ 200
  rotate_left
  · have hLi : (200 : Int) < (s.size : Int) := by omega
    have HZ : Hid (fourOk s.data.toList = false ∧ fourZ s.data.toList = 0) := four_is_none _ (HG.out (fun hh => hL hh.1))
    go_enter Tryz.func80, Tryz.ntmps80
    go_wp2_with fail
    refine CP.out.mono ?_
    rintro e w1 ⟨g, c, rfl, hg, hS, hB⟩
    go_wp2
    go_ret2
    exact ⟨by rw [HZ.out.1, HZ.out.2]; rfl, hB⟩
  have hLi : (s.size : Int) ≤ 200 := by omega
  have HO3 : Hid (fourL s.data.toList = fourFrom n 0 0 P) := HO.out hL h4
  clear HO HG
  go_enter Tryz.func80, Tryz.ntmps80
  go_wp2_with fail
  refine CP.out.mono ?_
  rintro e w1 ⟨g, c, rfl, hg, hS, hB⟩
  go_wp2_with fail
  go_loopw [5, 6] (fun ad ix wr => ∃ (i : Nat) (acc : Int), i ≤ n ∧ ix = .int .i64 i ∧ ad = .int .i64 acc ∧ 0 ≤ acc ∧ acc ≤ 4294967295 ∧ Hid (i < n → acc < midI i) ∧ StrsAt g P wr ∧ Below w.heap.size w wr ∧ Hid (fourFrom n i acc (P.drop i) = fourFrom n 0 0 P)) (fun _ ix wr => n - (intOf ix).toNat)
  case atStart => exact ⟨0, 0, Nat.zero_le _, rfl, rfl, by omega, by omega, fun _ => by decide, hS, hB, rfl⟩
  case round =>
    obtain ⟨i, acc, hi, rfl, rfl, ha0, ha1, HI, hSr, hBr, HF⟩ := hrel
    by_cases hp : i < n
    rotate_left
    · have hin : i = n := by omega
      subst hin
      have hpi : ¬ ((i : Int) < (i : Int)) := by omega
      have HZ : Hid (fourOk s.data.toList = true ∧ fourZ s.data.toList = acc) := four_is_some _ _ (by rw [HO3.out, ← HF.out, List.drop_of_length_le (by rw [← HN.out]; exact Nat.le_refl _)]; rfl)
      go_wp2
      go_ret2
      exact ⟨by rw [HZ.out.1, HZ.out.2]; rfl, hBr⟩
    · have hpi : (i : Int) < (n : Int) := by omega
      have hiP : i < P.length := by rw [← HN.out]; exact hp
      have hc := hSr.cell i hiP
      have hmid := HI.out hp
      obtain ⟨nv, HV, HW, hv0, hv1, CQ⟩ : ∃ nv : Int, Hid (0 ≤ nv → partN P[i] = some nv) ∧ Hid (nv < 0 → partN P[i] = none) ∧ -1 ≤ nv ∧ nv ≤ 68719476735 ∧ Hid (∀ W, Calls Tryz.prog 106 #[.string (mk P[i])] W fun e w' => e = .returned (.int .i64 nv) ∧ w' = W) := by
        have hq := HM.out _ (List.getElem_mem hiP)
        have CC := fun W => l2Part (mk P[i]) W (by rw [mk_size]; omega)
        cases hpn : partN P[i] with
        | none =>
          refine ⟨-1, fun h => absurd h (by omega), fun _ => rfl, by omega, by omega, fun W => ?_⟩
          have := CC W
          rw [mk_data, show partV P[i] = -1 from by unfold partV; rw [hpn]; rfl] at this
          exact this
        | some v =>
          have g0 := partN_ge _ _ hpn
          refine ⟨v, fun _ => rfl, fun h => absurd h (by omega), by omega, partN_le _ _ hpn, fun W => ?_⟩
          have := CC W
          rw [mk_data, show partV P[i] = v from by unfold partV; rw [hpn]; rfl] at this
          exact this
      rcases (show i = 0 ∨ i = 1 ∨ i = 2 ∨ i = 3 from by omega) with rfl | rfl | rfl | rfl
      · have hm2 : acc < 1 := hmid
        by_cases hlast : n = 1
        · have HL1 : Hid (n = 1) := hlast
          have hli : ((0 : Int) == (n : Int) - 1) = true := beq_iff_eq.2 (by omega)
          have hn1 : n ≤ 1 := by omega
          have hn2 : 1 ≤ n := by omega
          clear hlast
          by_cases hv : 0 ≤ nv ∧ nv < (4294967296 : Int)
          · have HF2 : Hid (fourFrom n 1 (acc * 4294967296 + nv) (P.drop 1) = fourFrom n 0 0 P) := by rw [← HF.out, drop_four P 0 hiP]; exact (four_last n 0 acc nv _ (P.drop 1) (HV.out hv.1) HL1.out.symm hv.2).symm
            obtain ⟨hv1, hv2⟩ := hv
            go_wp2_with (first | (go_at_call 106; refine (CQ.out _).mono ?_; rintro e W1 ⟨rfl, hW⟩; have hW2 := hW.symm; subst hW2) | fail)
            go_loop [8, 9] (fun m k => (m = .int .i64 255 ∧ k = .int .i64 0) ∨ (m = .int .i64 65535 ∧ k = .int .i64 1) ∨ (m = .int .i64 16777215 ∧ k = .int .i64 2) ∨ (m = .int .i64 4294967295 ∧ k = .int .i64 3)) (fun _ k => 3 - (intOf k).toNat)
            case atStart => exact .inl ⟨rfl, rfl⟩
            case round =>
              rcases hrel with ⟨rfl, rfl⟩ | ⟨rfl, rfl⟩ | ⟨rfl, rfl⟩ | ⟨rfl, rfl⟩
              · go_wp2
                go_round
                case rel => exact .inr (.inl ⟨rfl, rfl⟩)
                case measure => decide
              · go_wp2
                go_round
                case rel => exact .inr (.inr (.inl ⟨rfl, rfl⟩))
                case measure => decide
              · go_wp2
                go_round
                case rel => exact .inr (.inr (.inr (⟨rfl, rfl⟩)))
                case measure => decide
              · go_wp2_with (first | (go_at_call 89; refine (l1In_yes nv 0 4294967295 _ (by omega)).mono ?_; rintro e W1 ⟨rfl, hW⟩; have hW2 := hW.symm; subst hW2) | fail)
                go_roundw
                case rel => exact ⟨1, acc * 4294967296 + nv, by omega, by go_num, by go_num, by omega, by omega, fun h => absurd h (by omega), hSr, hBr, HF2⟩
                case measure => simp [intOf]; omega
          · have HZ : Hid (fourOk s.data.toList = false ∧ fourZ s.data.toList = 0) := four_is_none _ (by
              rw [HO3.out, ← HF.out, drop_four P 0 hiP]
              by_cases h : 0 ≤ nv
              · exact four_last_no n 0 acc nv _ (P.drop 1) (HV.out h) HL1.out.symm (fun hh => hv ⟨h, hh⟩)
              · exact four_none _ _ _ _ _ (HW.out (by omega)))
            have hv2 : ¬ (0 ≤ nv ∧ nv ≤ 4294967295) := by have := hv; omega
            clear hv
            go_wp2_with (first | (go_at_call 106; refine (CQ.out _).mono ?_; rintro e W1 ⟨rfl, hW⟩; have hW2 := hW.symm; subst hW2) | fail)
            go_loop [8, 9] (fun m k => (m = .int .i64 255 ∧ k = .int .i64 0) ∨ (m = .int .i64 65535 ∧ k = .int .i64 1) ∨ (m = .int .i64 16777215 ∧ k = .int .i64 2) ∨ (m = .int .i64 4294967295 ∧ k = .int .i64 3)) (fun _ k => 3 - (intOf k).toNat)
            case atStart => exact .inl ⟨rfl, rfl⟩
            case round =>
              rcases hrel with ⟨rfl, rfl⟩ | ⟨rfl, rfl⟩ | ⟨rfl, rfl⟩ | ⟨rfl, rfl⟩
              · go_wp2
                go_round
                case rel => exact .inr (.inl ⟨rfl, rfl⟩)
                case measure => decide
              · go_wp2
                go_round
                case rel => exact .inr (.inr (.inl ⟨rfl, rfl⟩))
                case measure => decide
              · go_wp2
                go_round
                case rel => exact .inr (.inr (.inr (⟨rfl, rfl⟩)))
                case measure => decide
              · go_wp2_with (first | (go_at_call 89; refine (l1In_no nv 0 4294967295 _ (by omega)).mono ?_; rintro e W1 ⟨rfl, hW⟩; have hW2 := hW.symm; subst hW2) | fail)
                go_ret2
                exact ⟨by rw [HZ.out.1, HZ.out.2]; rfl, hBr⟩
        · have hli : ((0 : Int) == (n : Int) - 1) = false := beq_eq_false_iff_ne.2 (by omega)
          by_cases hv : 0 ≤ nv ∧ nv < (256 : Int)
          · have HF2 : Hid (fourFrom n 1 (acc * 256 + nv) (P.drop 1) = fourFrom n 0 0 P) := by rw [← HF.out, drop_four P 0 hiP]; exact (four_mid n 0 acc nv _ (P.drop 1) (HV.out hv.1) (by omega) hv.2).symm
            obtain ⟨hv1, hv2⟩ := hv
            go_wp2_with (first | (go_at_call 106; refine (CQ.out _).mono ?_; rintro e W1 ⟨rfl, hW⟩; have hW2 := hW.symm; subst hW2) | (go_at_call 89; refine (l1In_yes nv 0 255 _ (by omega)).mono ?_; rintro e W1 ⟨rfl, hW⟩; have hW2 := hW.symm; subst hW2))
            go_roundw
            case rel => exact ⟨1, acc * 256 + nv, by omega, by go_num, by go_num, by omega, by omega, fun _ => by show acc * 256 + nv < 256; omega, hSr, hBr, HF2⟩
            case measure => simp [intOf]; omega
          · have HZ : Hid (fourOk s.data.toList = false ∧ fourZ s.data.toList = 0) := four_is_none _ (by
              rw [HO3.out, ← HF.out, drop_four P 0 hiP]
              by_cases h : 0 ≤ nv
              · exact four_mid_no n 0 acc nv _ (P.drop 1) (HV.out h) (by omega) (fun hh => hv ⟨h, hh⟩)
              · exact four_none _ _ _ _ _ (HW.out (by omega)))
            have hv2 : ¬ (0 ≤ nv ∧ nv ≤ 255) := by have := hv; omega
            clear hv
            go_wp2_with (first | (go_at_call 106; refine (CQ.out _).mono ?_; rintro e W1 ⟨rfl, hW⟩; have hW2 := hW.symm; subst hW2) | (go_at_call 89; refine (l1In_no nv 0 255 _ (by omega)).mono ?_; rintro e W1 ⟨rfl, hW⟩; have hW2 := hW.symm; subst hW2))
            go_ret2
            exact ⟨by rw [HZ.out.1, HZ.out.2]; rfl, hBr⟩
      · have hm2 : acc < 256 := hmid
        by_cases hlast : n = 2
        · have HL1 : Hid (n = 2) := hlast
          have hli : ((1 : Int) == (n : Int) - 1) = true := beq_iff_eq.2 (by omega)
          have hn1 : n ≤ 2 := by omega
          have hn2 : 2 ≤ n := by omega
          clear hlast
          by_cases hv : 0 ≤ nv ∧ nv < (16777216 : Int)
          · have HF2 : Hid (fourFrom n 2 (acc * 16777216 + nv) (P.drop 2) = fourFrom n 0 0 P) := by rw [← HF.out, drop_four P 1 hiP]; exact (four_last n 1 acc nv _ (P.drop 2) (HV.out hv.1) HL1.out.symm hv.2).symm
            obtain ⟨hv1, hv2⟩ := hv
            go_wp2_with (first | (go_at_call 106; refine (CQ.out _).mono ?_; rintro e W1 ⟨rfl, hW⟩; have hW2 := hW.symm; subst hW2) | fail)
            go_loop [8, 9] (fun m k => (m = .int .i64 255 ∧ k = .int .i64 1) ∨ (m = .int .i64 65535 ∧ k = .int .i64 2) ∨ (m = .int .i64 16777215 ∧ k = .int .i64 3)) (fun _ k => 3 - (intOf k).toNat)
            case atStart => exact .inl ⟨rfl, rfl⟩
            case round =>
              rcases hrel with ⟨rfl, rfl⟩ | ⟨rfl, rfl⟩ | ⟨rfl, rfl⟩
              · go_wp2
                go_round
                case rel => exact .inr (.inl ⟨rfl, rfl⟩)
                case measure => decide
              · go_wp2
                go_round
                case rel => exact .inr (.inr (⟨rfl, rfl⟩))
                case measure => decide
              · go_wp2_with (first | (go_at_call 89; refine (l1In_yes nv 0 16777215 _ (by omega)).mono ?_; rintro e W1 ⟨rfl, hW⟩; have hW2 := hW.symm; subst hW2) | fail)
                go_roundw
                case rel => exact ⟨2, acc * 16777216 + nv, by omega, by go_num, by go_num, by omega, by omega, fun h => absurd h (by omega), hSr, hBr, HF2⟩
                case measure => simp [intOf]; omega
          · have HZ : Hid (fourOk s.data.toList = false ∧ fourZ s.data.toList = 0) := four_is_none _ (by
              rw [HO3.out, ← HF.out, drop_four P 1 hiP]
              by_cases h : 0 ≤ nv
              · exact four_last_no n 1 acc nv _ (P.drop 2) (HV.out h) HL1.out.symm (fun hh => hv ⟨h, hh⟩)
              · exact four_none _ _ _ _ _ (HW.out (by omega)))
            have hv2 : ¬ (0 ≤ nv ∧ nv ≤ 16777215) := by have := hv; omega
            clear hv
            go_wp2_with (first | (go_at_call 106; refine (CQ.out _).mono ?_; rintro e W1 ⟨rfl, hW⟩; have hW2 := hW.symm; subst hW2) | fail)
            go_loop [8, 9] (fun m k => (m = .int .i64 255 ∧ k = .int .i64 1) ∨ (m = .int .i64 65535 ∧ k = .int .i64 2) ∨ (m = .int .i64 16777215 ∧ k = .int .i64 3)) (fun _ k => 3 - (intOf k).toNat)
            case atStart => exact .inl ⟨rfl, rfl⟩
            case round =>
              rcases hrel with ⟨rfl, rfl⟩ | ⟨rfl, rfl⟩ | ⟨rfl, rfl⟩
              · go_wp2
                go_round
                case rel => exact .inr (.inl ⟨rfl, rfl⟩)
                case measure => decide
              · go_wp2
                go_round
                case rel => exact .inr (.inr (⟨rfl, rfl⟩))
                case measure => decide
              · go_wp2_with (first | (go_at_call 89; refine (l1In_no nv 0 16777215 _ (by omega)).mono ?_; rintro e W1 ⟨rfl, hW⟩; have hW2 := hW.symm; subst hW2) | fail)
                go_ret2
                exact ⟨by rw [HZ.out.1, HZ.out.2]; rfl, hBr⟩
        · have hli : ((1 : Int) == (n : Int) - 1) = false := beq_eq_false_iff_ne.2 (by omega)
          by_cases hv : 0 ≤ nv ∧ nv < (256 : Int)
          · have HF2 : Hid (fourFrom n 2 (acc * 256 + nv) (P.drop 2) = fourFrom n 0 0 P) := by rw [← HF.out, drop_four P 1 hiP]; exact (four_mid n 1 acc nv _ (P.drop 2) (HV.out hv.1) (by omega) hv.2).symm
            obtain ⟨hv1, hv2⟩ := hv
            go_wp2_with (first | (go_at_call 106; refine (CQ.out _).mono ?_; rintro e W1 ⟨rfl, hW⟩; have hW2 := hW.symm; subst hW2) | (go_at_call 89; refine (l1In_yes nv 0 255 _ (by omega)).mono ?_; rintro e W1 ⟨rfl, hW⟩; have hW2 := hW.symm; subst hW2))
            go_roundw
            case rel => exact ⟨2, acc * 256 + nv, by omega, by go_num, by go_num, by omega, by omega, fun _ => by show acc * 256 + nv < 65536; omega, hSr, hBr, HF2⟩
            case measure => simp [intOf]; omega
          · have HZ : Hid (fourOk s.data.toList = false ∧ fourZ s.data.toList = 0) := four_is_none _ (by
              rw [HO3.out, ← HF.out, drop_four P 1 hiP]
              by_cases h : 0 ≤ nv
              · exact four_mid_no n 1 acc nv _ (P.drop 2) (HV.out h) (by omega) (fun hh => hv ⟨h, hh⟩)
              · exact four_none _ _ _ _ _ (HW.out (by omega)))
            have hv2 : ¬ (0 ≤ nv ∧ nv ≤ 255) := by have := hv; omega
            clear hv
            go_wp2_with (first | (go_at_call 106; refine (CQ.out _).mono ?_; rintro e W1 ⟨rfl, hW⟩; have hW2 := hW.symm; subst hW2) | (go_at_call 89; refine (l1In_no nv 0 255 _ (by omega)).mono ?_; rintro e W1 ⟨rfl, hW⟩; have hW2 := hW.symm; subst hW2))
            go_ret2
            exact ⟨by rw [HZ.out.1, HZ.out.2]; rfl, hBr⟩
      · have hm2 : acc < 65536 := hmid
        by_cases hlast : n = 3
        · have HL1 : Hid (n = 3) := hlast
          have hli : ((2 : Int) == (n : Int) - 1) = true := beq_iff_eq.2 (by omega)
          have hn1 : n ≤ 3 := by omega
          have hn2 : 3 ≤ n := by omega
          clear hlast
          by_cases hv : 0 ≤ nv ∧ nv < (65536 : Int)
          · have HF2 : Hid (fourFrom n 3 (acc * 65536 + nv) (P.drop 3) = fourFrom n 0 0 P) := by rw [← HF.out, drop_four P 2 hiP]; exact (four_last n 2 acc nv _ (P.drop 3) (HV.out hv.1) HL1.out.symm hv.2).symm
            obtain ⟨hv1, hv2⟩ := hv
            go_wp2_with (first | (go_at_call 106; refine (CQ.out _).mono ?_; rintro e W1 ⟨rfl, hW⟩; have hW2 := hW.symm; subst hW2) | fail)
            go_loop [8, 9] (fun m k => (m = .int .i64 255 ∧ k = .int .i64 2) ∨ (m = .int .i64 65535 ∧ k = .int .i64 3)) (fun _ k => 3 - (intOf k).toNat)
            case atStart => exact .inl ⟨rfl, rfl⟩
            case round =>
              rcases hrel with ⟨rfl, rfl⟩ | ⟨rfl, rfl⟩
              · go_wp2
                go_round
                case rel => exact .inr (⟨rfl, rfl⟩)
                case measure => decide
              · go_wp2_with (first | (go_at_call 89; refine (l1In_yes nv 0 65535 _ (by omega)).mono ?_; rintro e W1 ⟨rfl, hW⟩; have hW2 := hW.symm; subst hW2) | fail)
                go_roundw
                case rel => exact ⟨3, acc * 65536 + nv, by omega, by go_num, by go_num, by omega, by omega, fun h => absurd h (by omega), hSr, hBr, HF2⟩
                case measure => simp [intOf]; omega
          · have HZ : Hid (fourOk s.data.toList = false ∧ fourZ s.data.toList = 0) := four_is_none _ (by
              rw [HO3.out, ← HF.out, drop_four P 2 hiP]
              by_cases h : 0 ≤ nv
              · exact four_last_no n 2 acc nv _ (P.drop 3) (HV.out h) HL1.out.symm (fun hh => hv ⟨h, hh⟩)
              · exact four_none _ _ _ _ _ (HW.out (by omega)))
            have hv2 : ¬ (0 ≤ nv ∧ nv ≤ 65535) := by have := hv; omega
            clear hv
            go_wp2_with (first | (go_at_call 106; refine (CQ.out _).mono ?_; rintro e W1 ⟨rfl, hW⟩; have hW2 := hW.symm; subst hW2) | fail)
            go_loop [8, 9] (fun m k => (m = .int .i64 255 ∧ k = .int .i64 2) ∨ (m = .int .i64 65535 ∧ k = .int .i64 3)) (fun _ k => 3 - (intOf k).toNat)
            case atStart => exact .inl ⟨rfl, rfl⟩
            case round =>
              rcases hrel with ⟨rfl, rfl⟩ | ⟨rfl, rfl⟩
              · go_wp2
                go_round
                case rel => exact .inr (⟨rfl, rfl⟩)
                case measure => decide
              · go_wp2_with (first | (go_at_call 89; refine (l1In_no nv 0 65535 _ (by omega)).mono ?_; rintro e W1 ⟨rfl, hW⟩; have hW2 := hW.symm; subst hW2) | fail)
                go_ret2
                exact ⟨by rw [HZ.out.1, HZ.out.2]; rfl, hBr⟩
        · have hli : ((2 : Int) == (n : Int) - 1) = false := beq_eq_false_iff_ne.2 (by omega)
          by_cases hv : 0 ≤ nv ∧ nv < (256 : Int)
          · have HF2 : Hid (fourFrom n 3 (acc * 256 + nv) (P.drop 3) = fourFrom n 0 0 P) := by rw [← HF.out, drop_four P 2 hiP]; exact (four_mid n 2 acc nv _ (P.drop 3) (HV.out hv.1) (by omega) hv.2).symm
            obtain ⟨hv1, hv2⟩ := hv
            go_wp2_with (first | (go_at_call 106; refine (CQ.out _).mono ?_; rintro e W1 ⟨rfl, hW⟩; have hW2 := hW.symm; subst hW2) | (go_at_call 89; refine (l1In_yes nv 0 255 _ (by omega)).mono ?_; rintro e W1 ⟨rfl, hW⟩; have hW2 := hW.symm; subst hW2))
            go_roundw
            case rel => exact ⟨3, acc * 256 + nv, by omega, by go_num, by go_num, by omega, by omega, fun _ => by show acc * 256 + nv < 16777216; omega, hSr, hBr, HF2⟩
            case measure => simp [intOf]; omega
          · have HZ : Hid (fourOk s.data.toList = false ∧ fourZ s.data.toList = 0) := four_is_none _ (by
              rw [HO3.out, ← HF.out, drop_four P 2 hiP]
              by_cases h : 0 ≤ nv
              · exact four_mid_no n 2 acc nv _ (P.drop 3) (HV.out h) (by omega) (fun hh => hv ⟨h, hh⟩)
              · exact four_none _ _ _ _ _ (HW.out (by omega)))
            have hv2 : ¬ (0 ≤ nv ∧ nv ≤ 255) := by have := hv; omega
            clear hv
            go_wp2_with (first | (go_at_call 106; refine (CQ.out _).mono ?_; rintro e W1 ⟨rfl, hW⟩; have hW2 := hW.symm; subst hW2) | (go_at_call 89; refine (l1In_no nv 0 255 _ (by omega)).mono ?_; rintro e W1 ⟨rfl, hW⟩; have hW2 := hW.symm; subst hW2))
            go_ret2
            exact ⟨by rw [HZ.out.1, HZ.out.2]; rfl, hBr⟩
      · have hm2 : acc < 16777216 := hmid
        have hlast : n = 4 := by omega
        have HL1 : Hid (n = 4) := hlast
        have hli : ((3 : Int) == (n : Int) - 1) = true := beq_iff_eq.2 (by omega)
        have hn1 : n ≤ 4 := by omega
        have hn2 : 4 ≤ n := by omega
        clear hlast
        by_cases hv : 0 ≤ nv ∧ nv < (256 : Int)
        · have HF2 : Hid (fourFrom n 4 (acc * 256 + nv) (P.drop 4) = fourFrom n 0 0 P) := by rw [← HF.out, drop_four P 3 hiP]; exact (four_last n 3 acc nv _ (P.drop 4) (HV.out hv.1) HL1.out.symm hv.2).symm
          obtain ⟨hv1, hv2⟩ := hv
          go_wp2_with (first | (go_at_call 106; refine (CQ.out _).mono ?_; rintro e W1 ⟨rfl, hW⟩; have hW2 := hW.symm; subst hW2) | fail)
          go_loop [8, 9] (fun m k => (m = .int .i64 255 ∧ k = .int .i64 3)) (fun _ k => 3 - (intOf k).toNat)
          case atStart => exact ⟨rfl, rfl⟩
          case round =>
            obtain ⟨rfl, rfl⟩ := hrel
            go_wp2_with (first | (go_at_call 89; refine (l1In_yes nv 0 255 _ (by omega)).mono ?_; rintro e W1 ⟨rfl, hW⟩; have hW2 := hW.symm; subst hW2) | fail)
            go_roundw
            case rel => exact ⟨4, acc * 256 + nv, by omega, by go_num, by go_num, by omega, by omega, fun h => absurd h (by omega), hSr, hBr, HF2⟩
            case measure => simp [intOf]; omega
        · have HZ : Hid (fourOk s.data.toList = false ∧ fourZ s.data.toList = 0) := four_is_none _ (by
            rw [HO3.out, ← HF.out, drop_four P 3 hiP]
            by_cases h : 0 ≤ nv
            · exact four_last_no n 3 acc nv _ (P.drop 4) (HV.out h) HL1.out.symm (fun hh => hv ⟨h, hh⟩)
            · exact four_none _ _ _ _ _ (HW.out (by omega)))
          have hv2 : ¬ (0 ≤ nv ∧ nv ≤ 255) := by have := hv; omega
          clear hv
          go_wp2_with (first | (go_at_call 106; refine (CQ.out _).mono ?_; rintro e W1 ⟨rfl, hW⟩; have hW2 := hW.symm; subst hW2) | fail)
          go_loop [8, 9] (fun m k => (m = .int .i64 255 ∧ k = .int .i64 3)) (fun _ k => 3 - (intOf k).toNat)
          case atStart => exact ⟨rfl, rfl⟩
          case round =>
            obtain ⟨rfl, rfl⟩ := hrel
            go_wp2_with (first | (go_at_call 89; refine (l1In_no nv 0 255 _ (by omega)).mono ?_; rintro e W1 ⟨rfl, hW⟩; have hW2 := hW.symm; subst hW2) | fail)
            go_ret2
            exact ⟨by rw [HZ.out.1, HZ.out.2]; rfl, hBr⟩
end Go.Proofs.YthjccpboecfdhabGreatDoor
end
