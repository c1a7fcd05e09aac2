/- spec.FourGet: an address of four bytes. spec.Decode reads a text of figures, of whatever size. -/
import Derived.Test.YtnfhajhdpdidlaaGreatDoorB27
import Derived.Test.YtnfhajhdpdidlaaGreatDoorB09
import Derived.Deep.RegionHeld3
set_option linter.unusedVariables false
set_option maxHeartbeats 8000000
set_option maxRecDepth 100000
section
namespace Go.Proofs.YtnfhajhdpdidlaaGreatDoor
open Go.RowKit Go.Shelf
theorem specFour (s : ByteArray) (w : World) (hs : s.size ≤ 1048576) :
  Calls Tryz.prog 130 #[.string s] w fun e w' => e = .returned (.tuple #[.int .i64 (fourZ s.data.toList), .bool (fourOk s.data.toList)]) ∧ Below w.heap.size w w' := by
 have hl : s.data.toList.length = s.size := by simp
 have HM : Hid (∀ q ∈ partsL s.data.toList, q.length ≤ s.size) := fun q hq => by have := partsL_mem_le s.data.toList q hq; omega
 have CP : Hid (Calls Tryz.prog 134 #[.string s] w fun e w' => ∃ g c, e = .returned (.slice (some ⟨g, 0, none⟩) (partsL s.data.toList).length c) ∧ w.heap.size ≤ g ∧ StrsAt g (partsL s.data.toList) w' ∧ Below w.heap.size w w') := l2Parts s w hs
 have HO : Hid (s.size ≤ 200 → (partsL s.data.toList).length ≤ 4 → fourL s.data.toList = fourFrom (partsL s.data.toList).length 0 0 (partsL s.data.toList)) := fun h0 h => by unfold fourL; rw [if_pos ⟨by omega, h⟩]
 have HG : Hid (¬ (s.size ≤ 200 ∧ (partsL s.data.toList).length ≤ 4) → fourL s.data.toList = none) := fun h => by unfold fourL; rw [if_neg (fun hh => h ⟨by omega, hh.2⟩)]
 have h1 := partsL_ne s.data.toList
 have hll := partsL_len_le s.data.toList
 obtain ⟨P, hP⟩ : ∃ P, P = partsL s.data.toList := ⟨_, rfl⟩
 rw [← hP] at HM CP HO HG h1 hll
 clear hP
 obtain ⟨n, hn⟩ : ∃ n, n = P.length := ⟨_, rfl⟩
 rw [← hn] at CP HO HG h1 hll
 have HN : Hid (n = P.length) := hn
 have hn9 : n ≤ 1048577 := by omega
 clear hn hll hl
 by_cases h4 : n ≤ 4
 rotate_left
 ·have h4i : (4 : Int) < (n : Int) := by omega
  have HZ : Hid (fourOk s.data.toList = false ∧ fourZ s.data.toList = 0) := four_is_none _ (HG.out (fun hh => h4 hh.2))
  go_enter Tryz.func130, Tryz.ntmps130
  go_wp2_with fail
  refine CP.out.mono ?_
  rintro e w1 ⟨g, c, rfl, hg, hS, hB⟩
  go_wp2
  go_ret2
  exact ⟨by rw [HZ.out.1, HZ.out.2]; rfl, hB⟩
 have h4i : (n : Int) ≤ 4 := by omega
 by_cases hL : s.size ≤ 200
 rotate_left
 ·have hLi : (200 : Int) < (s.size : Int) := by omega
  have HZ : Hid (fourOk s.data.toList = false ∧ fourZ s.data.toList = 0) := four_is_none _ (HG.out (fun hh => hL hh.1))
  go_enter Tryz.func130, Tryz.ntmps130
  go_wp2_with fail
  refine CP.out.mono ?_
  rintro e w1 ⟨g, c, rfl, hg, hS, hB⟩
  go_wp2
  go_ret2
  exact ⟨by rw [HZ.out.1, HZ.out.2]; rfl, hB⟩
 have hLi : (s.size : Int) ≤ 200 := by omega
 have HO3 : Hid (fourL s.data.toList = fourFrom n 0 0 P) := HO.out hL h4
 clear HO HG
 go_enter Tryz.func130, Tryz.ntmps130
 go_wp2_with fail
 refine CP.out.mono ?_
 rintro e w1 ⟨g, c, rfl, hg, hS, hB⟩
 go_wp2_with fail
 go_loopw [5, 6] (fun ad ix wr => ∃ (i : Nat) (acc : Int), i ≤ n ∧ ix = .int .i64 i ∧ ad = .int .i64 acc ∧ 0 ≤ acc ∧ acc ≤ 4294967295 ∧ Hid (i < n → acc < midI i) ∧ StrsAt g P wr ∧ Below w.heap.size w wr ∧ Hid (fourFrom n i acc (P.drop i) = fourFrom n 0 0 P)) (fun _ ix wr => n - (intOf ix).toNat)
 case atStart => exact ⟨0, 0, Nat.zero_le _, rfl, rfl, by omega, by omega, fun _ => by decide, hS, hB, rfl⟩
 case round =>
  obtain ⟨i, acc, hi, rfl, rfl, ha0, ha1, HI, hSr, hBr, HF⟩ := hrel
  by_cases hp : i < n
  rotate_left
  ·have hin : i = n := by omega
   subst hin
   have hpi : ¬ ((i : Int) < (i : Int)) := by omega
   have HZ : Hid (fourOk s.data.toList = true ∧ fourZ s.data.toList = acc) := four_is_some _ _ (by rw [HO3.out, ← HF.out, List.drop_of_length_le (by rw [← HN.out]; exact Nat.le_refl _)]; rfl)
   go_wp2
   go_ret2
   exact ⟨by rw [HZ.out.1, HZ.out.2]; rfl, hBr⟩
  ·have hpi : (i : Int) < (n : Int) := by omega
   have hiP : i < P.length := by rw [← HN.out]; exact hp
   have hc := hSr.cell i hiP
   have hmid := HI.out hp
   obtain ⟨nv, HV, HW, hv0, hv1, CQ⟩ : ∃ nv : Int, Hid (0 ≤ nv → partN P[i] = some nv) ∧ Hid (nv < 0 → partN P[i] = none) ∧ -1 ≤ nv ∧ nv ≤ 68719476735 ∧ Hid (∀ W, Calls Tryz.prog 135 #[.string (mk P[i])] W fun e w' => e = .returned (.int .i64 nv) ∧ w' = W) := by
    have hq := HM.out _ (List.getElem_mem hiP)
    have CC := fun W => l2Part (mk P[i]) W (by rw [mk_size]; omega)
    cases hpn : partN P[i] with
    | none =>
     refine ⟨-1, fun h => absurd h (by omega), fun _ => rfl, by omega, by omega, fun W => ?_⟩
     have := CC W
     rw [mk_data, show partV P[i] = -1 from by unfold partV; rw [hpn]; rfl] at this
     exact this
    | some v =>
     have g0 := partN_ge _ _ hpn
     refine ⟨v, fun _ => rfl, fun h => absurd h (by omega), by omega, partN_le _ _ hpn, fun W => ?_⟩
     have := CC W
     rw [mk_data, show partV P[i] = v from by unfold partV; rw [hpn]; rfl] at this
     exact this
   rcases (show i = 0 ∨ i = 1 ∨ i = 2 ∨ i = 3 from by omega) with rfl | rfl | rfl | rfl
   ·have hm2 : acc < 1 := hmid
    by_cases hlast : n = 1
    ·have HL1 : Hid (n = 1) := hlast
     have hli : ((0 : Int) == (n : Int) - 1) = true := beq_iff_eq.2 (by omega)
     have hn1 : n ≤ 1 := by omega
     have hn2 : 1 ≤ n := by omega
     clear hlast
     by_cases hv : 0 ≤ nv ∧ nv < (4294967296 : Int)
     ·have HF2 : Hid (fourFrom n 1 (acc * 4294967296 + nv) (P.drop 1) = fourFrom n 0 0 P) := by rw [← HF.out, drop_four P 0 hiP]; exact (four_last n 0 acc nv _ (P.drop 1) (HV.out hv.1) HL1.out.symm hv.2).symm
      obtain ⟨hv1, hv2⟩ := hv
      go_wp2_with (first | (go_at_call 135; refine (CQ.out _).mono ?_; rintro e W1 ⟨rfl, hW⟩; have hW2 := hW.symm; subst hW2) | fail)
      go_loop [8, 9] (fun m k => (m = .int .i64 255 ∧ k = .int .i64 0) ∨ (m = .int .i64 65535 ∧ k = .int .i64 1) ∨ (m = .int .i64 16777215 ∧ k = .int .i64 2) ∨ (m = .int .i64 4294967295 ∧ k = .int .i64 3)) (fun _ k => 3 - (intOf k).toNat)
      case atStart => exact .inl ⟨rfl, rfl⟩
      case round =>
       rcases hrel with ⟨rfl, rfl⟩ | ⟨rfl, rfl⟩ | ⟨rfl, rfl⟩ | ⟨rfl, rfl⟩
       ·go_wp2
        go_round
        case rel => exact .inr (.inl ⟨rfl, rfl⟩)
        case measure => decide
       ·go_wp2
        go_round
        case rel => exact .inr (.inr (.inl ⟨rfl, rfl⟩))
        case measure => decide
       ·go_wp2
        go_round
        case rel => exact .inr (.inr (.inr (⟨rfl, rfl⟩)))
        case measure => decide
       ·go_wp2_with (first | (go_at_call 77; refine (l1In_yes nv 0 4294967295 _ (by omega)).mono ?_; rintro e W1 ⟨rfl, hW⟩; have hW2 := hW.symm; subst hW2) | fail)
        go_roundw
        case rel => exact ⟨1, acc * 4294967296 + nv, by omega, by go_num, by go_num, by omega, by omega, fun h => absurd h (by omega), hSr, hBr, HF2⟩
        case measure => simp [intOf]; omega
     ·have HZ : Hid (fourOk s.data.toList = false ∧ fourZ s.data.toList = 0) := four_is_none _ (by
       rw [HO3.out, ← HF.out, drop_four P 0 hiP]
       by_cases h : 0 ≤ nv
       ·exact four_last_no n 0 acc nv _ (P.drop 1) (HV.out h) HL1.out.symm (fun hh => hv ⟨h, hh⟩)
       ·exact four_none _ _ _ _ _ (HW.out (by omega)))
      have hv2 : ¬ (0 ≤ nv ∧ nv ≤ 4294967295) := by have := hv; omega
      clear hv
      go_wp2_with (first | (go_at_call 135; refine (CQ.out _).mono ?_; rintro e W1 ⟨rfl, hW⟩; have hW2 := hW.symm; subst hW2) | fail)
      go_loop [8, 9] (fun m k => (m = .int .i64 255 ∧ k = .int .i64 0) ∨ (m = .int .i64 65535 ∧ k = .int .i64 1) ∨ (m = .int .i64 16777215 ∧ k = .int .i64 2) ∨ (m = .int .i64 4294967295 ∧ k = .int .i64 3)) (fun _ k => 3 - (intOf k).toNat)
      case atStart => exact .inl ⟨rfl, rfl⟩
      case round =>
       rcases hrel with ⟨rfl, rfl⟩ | ⟨rfl, rfl⟩ | ⟨rfl, rfl⟩ | ⟨rfl, rfl⟩
       ·go_wp2
        go_round
        case rel => exact .inr (.inl ⟨rfl, rfl⟩)
        case measure => decide
       ·go_wp2
        go_round
        case rel => exact .inr (.inr (.inl ⟨rfl, rfl⟩))
        case measure => decide
       ·go_wp2
        go_round
        case rel => exact .inr (.inr (.inr (⟨rfl, rfl⟩)))
        case measure => decide
       ·go_wp2_with (first | (go_at_call 77; refine (l1In_no nv 0 4294967295 _ (by omega)).mono ?_; rintro e W1 ⟨rfl, hW⟩; have hW2 := hW.symm; subst hW2) | fail)
        go_ret2
        exact ⟨by rw [HZ.out.1, HZ.out.2]; rfl, hBr⟩
    ·have hli : ((0 : Int) == (n : Int) - 1) = false := beq_eq_false_iff_ne.2 (by omega)
     by_cases hv : 0 ≤ nv ∧ nv < (256 : Int)
     ·have HF2 : Hid (fourFrom n 1 (acc * 256 + nv) (P.drop 1) = fourFrom n 0 0 P) := by rw [← HF.out, drop_four P 0 hiP]; exact (four_mid n 0 acc nv _ (P.drop 1) (HV.out hv.1) (by omega) hv.2).symm
      obtain ⟨hv1, hv2⟩ := hv
      go_wp2_with (first | (go_at_call 135; refine (CQ.out _).mono ?_; rintro e W1 ⟨rfl, hW⟩; have hW2 := hW.symm; subst hW2) | (go_at_call 77; refine (l1In_yes nv 0 255 _ (by omega)).mono ?_; rintro e W1 ⟨rfl, hW⟩; have hW2 := hW.symm; subst hW2))
      go_roundw
      case rel => exact ⟨1, acc * 256 + nv, by omega, by go_num, by go_num, by omega, by omega, fun _ => by show acc * 256 + nv < 256; omega, hSr, hBr, HF2⟩
      case measure => simp [intOf]; omega
     ·have HZ : Hid (fourOk s.data.toList = false ∧ fourZ s.data.toList = 0) := four_is_none _ (by
       rw [HO3.out, ← HF.out, drop_four P 0 hiP]
       by_cases h : 0 ≤ nv
       ·exact four_mid_no n 0 acc nv _ (P.drop 1) (HV.out h) (by omega) (fun hh => hv ⟨h, hh⟩)
       ·exact four_none _ _ _ _ _ (HW.out (by omega)))
      have hv2 : ¬ (0 ≤ nv ∧ nv ≤ 255) := by have := hv; omega
      clear hv
      go_wp2_with (first | (go_at_call 135; refine (CQ.out _).mono ?_; rintro e W1 ⟨rfl, hW⟩; have hW2 := hW.symm; subst hW2) | (go_at_call 77; refine (l1In_no nv 0 255 _ (by omega)).mono ?_; rintro e W1 ⟨rfl, hW⟩; have hW2 := hW.symm; subst hW2))
      go_ret2
      exact ⟨by rw [HZ.out.1, HZ.out.2]; rfl, hBr⟩
   ·have hm2 : acc < 256 := hmid
    by_cases hlast : n = 2
    ·have HL1 : Hid (n = 2) := hlast
     have hli : ((1 : Int) == (n : Int) - 1) = true := beq_iff_eq.2 (by omega)
     have hn1 : n ≤ 2 := by omega
     have hn2 : 2 ≤ n := by omega
     clear hlast
     by_cases hv : 0 ≤ nv ∧ nv < (16777216 : Int)
     ·have HF2 : Hid (fourFrom n 2 (acc * 16777216 + nv) (P.drop 2) = fourFrom n 0 0 P) := by rw [← HF.out, drop_four P 1 hiP]; exact (four_last n 1 acc nv _ (P.drop 2) (HV.out hv.1) HL1.out.symm hv.2).symm
      obtain ⟨hv1, hv2⟩ := hv
      go_wp2_with (first | (go_at_call 135; refine (CQ.out _).mono ?_; rintro e W1 ⟨rfl, hW⟩; have hW2 := hW.symm; subst hW2) | fail)
      go_loop [8, 9] (fun m k => (m = .int .i64 255 ∧ k = .int .i64 1) ∨ (m = .int .i64 65535 ∧ k = .int .i64 2) ∨ (m = .int .i64 16777215 ∧ k = .int .i64 3)) (fun _ k => 3 - (intOf k).toNat)
      case atStart => exact .inl ⟨rfl, rfl⟩
      case round =>
       rcases hrel with ⟨rfl, rfl⟩ | ⟨rfl, rfl⟩ | ⟨rfl, rfl⟩
       ·go_wp2
        go_round
        case rel => exact .inr (.inl ⟨rfl, rfl⟩)
        case measure => decide
       ·go_wp2
        go_round
        case rel => exact .inr (.inr (⟨rfl, rfl⟩))
        case measure => decide
       ·go_wp2_with (first | (go_at_call 77; refine (l1In_yes nv 0 16777215 _ (by omega)).mono ?_; rintro e W1 ⟨rfl, hW⟩; have hW2 := hW.symm; subst hW2) | fail)
        go_roundw
        case rel => exact ⟨2, acc * 16777216 + nv, by omega, by go_num, by go_num, by omega, by omega, fun h => absurd h (by omega), hSr, hBr, HF2⟩
        case measure => simp [intOf]; omega
     ·have HZ : Hid (fourOk s.data.toList = false ∧ fourZ s.data.toList = 0) := four_is_none _ (by
       rw [HO3.out, ← HF.out, drop_four P 1 hiP]
       by_cases h : 0 ≤ nv
       ·exact four_last_no n 1 acc nv _ (P.drop 2) (HV.out h) HL1.out.symm (fun hh => hv ⟨h, hh⟩)
       ·exact four_none _ _ _ _ _ (HW.out (by omega)))
      have hv2 : ¬ (0 ≤ nv ∧ nv ≤ 16777215) := by have := hv; omega
      clear hv
      go_wp2_with (first | (go_at_call 135; refine (CQ.out _).mono ?_; rintro e W1 ⟨rfl, hW⟩; have hW2 := hW.symm; subst hW2) | fail)
      go_loop [8, 9] (fun m k => (m = .int .i64 255 ∧ k = .int .i64 1) ∨ (m = .int .i64 65535 ∧ k = .int .i64 2) ∨ (m = .int .i64 16777215 ∧ k = .int .i64 3)) (fun _ k => 3 - (intOf k).toNat)
      case atStart => exact .inl ⟨rfl, rfl⟩
      case round =>
       rcases hrel with ⟨rfl, rfl⟩ | ⟨rfl, rfl⟩ | ⟨rfl, rfl⟩
       ·go_wp2
        go_round
        case rel => exact .inr (.inl ⟨rfl, rfl⟩)
        case measure => decide
       ·go_wp2
        go_round
        case rel => exact .inr (.inr (⟨rfl, rfl⟩))
        case measure => decide
       ·go_wp2_with (first | (go_at_call 77; refine (l1In_no nv 0 16777215 _ (by omega)).mono ?_; rintro e W1 ⟨rfl, hW⟩; have hW2 := hW.symm; subst hW2) | fail)
        go_ret2
        exact ⟨by rw [HZ.out.1, HZ.out.2]; rfl, hBr⟩
    ·have hli : ((1 : Int) == (n : Int) - 1) = false := beq_eq_false_iff_ne.2 (by omega)
     by_cases hv : 0 ≤ nv ∧ nv < (256 : Int)
     ·have HF2 : Hid (fourFrom n 2 (acc * 256 + nv) (P.drop 2) = fourFrom n 0 0 P) := by rw [← HF.out, drop_four P 1 hiP]; exact (four_mid n 1 acc nv _ (P.drop 2) (HV.out hv.1) (by omega) hv.2).symm
      obtain ⟨hv1, hv2⟩ := hv
      go_wp2_with (first | (go_at_call 135; refine (CQ.out _).mono ?_; rintro e W1 ⟨rfl, hW⟩; have hW2 := hW.symm; subst hW2) | (go_at_call 77; refine (l1In_yes nv 0 255 _ (by omega)).mono ?_; rintro e W1 ⟨rfl, hW⟩; have hW2 := hW.symm; subst hW2))
      go_roundw
      case rel => exact ⟨2, acc * 256 + nv, by omega, by go_num, by go_num, by omega, by omega, fun _ => by show acc * 256 + nv < 65536; omega, hSr, hBr, HF2⟩
      case measure => simp [intOf]; omega
     ·have HZ : Hid (fourOk s.data.toList = false ∧ fourZ s.data.toList = 0) := four_is_none _ (by
       rw [HO3.out, ← HF.out, drop_four P 1 hiP]
       by_cases h : 0 ≤ nv
       ·exact four_mid_no n 1 acc nv _ (P.drop 2) (HV.out h) (by omega) (fun hh => hv ⟨h, hh⟩)
       ·exact four_none _ _ _ _ _ (HW.out (by omega)))
      have hv2 : ¬ (0 ≤ nv ∧ nv ≤ 255) := by have := hv; omega
      clear hv
      go_wp2_with (first | (go_at_call 135; refine (CQ.out _).mono ?_; rintro e W1 ⟨rfl, hW⟩; have hW2 := hW.symm; subst hW2) | (go_at_call 77; refine (l1In_no nv 0 255 _ (by omega)).mono ?_; rintro e W1 ⟨rfl, hW⟩; have hW2 := hW.symm; subst hW2))
      go_ret2
      exact ⟨by rw [HZ.out.1, HZ.out.2]; rfl, hBr⟩
   ·have hm2 : acc < 65536 := hmid
    by_cases hlast : n = 3
    ·have HL1 : Hid (n = 3) := hlast
     have hli : ((2 : Int) == (n : Int) - 1) = true := beq_iff_eq.2 (by omega)
     have hn1 : n ≤ 3 := by omega
     have hn2 : 3 ≤ n := by omega
     clear hlast
     by_cases hv : 0 ≤ nv ∧ nv < (65536 : Int)
     ·have HF2 : Hid (fourFrom n 3 (acc * 65536 + nv) (P.drop 3) = fourFrom n 0 0 P) := by rw [← HF.out, drop_four P 2 hiP]; exact (four_last n 2 acc nv _ (P.drop 3) (HV.out hv.1) HL1.out.symm hv.2).symm
      obtain ⟨hv1, hv2⟩ := hv
      go_wp2_with (first | (go_at_call 135; refine (CQ.out _).mono ?_; rintro e W1 ⟨rfl, hW⟩; have hW2 := hW.symm; subst hW2) | fail)
      go_loop [8, 9] (fun m k => (m = .int .i64 255 ∧ k = .int .i64 2) ∨ (m = .int .i64 65535 ∧ k = .int .i64 3)) (fun _ k => 3 - (intOf k).toNat)
      case atStart => exact .inl ⟨rfl, rfl⟩
      case round =>
       rcases hrel with ⟨rfl, rfl⟩ | ⟨rfl, rfl⟩
       ·go_wp2
        go_round
        case rel => exact .inr (⟨rfl, rfl⟩)
        case measure => decide
       ·go_wp2_with (first | (go_at_call 77; refine (l1In_yes nv 0 65535 _ (by omega)).mono ?_; rintro e W1 ⟨rfl, hW⟩; have hW2 := hW.symm; subst hW2) | fail)
        go_roundw
        case rel => exact ⟨3, acc * 65536 + nv, by omega, by go_num, by go_num, by omega, by omega, fun h => absurd h (by omega), hSr, hBr, HF2⟩
        case measure => simp [intOf]; omega
     ·have HZ : Hid (fourOk s.data.toList = false ∧ fourZ s.data.toList = 0) := four_is_none _ (by
       rw [HO3.out, ← HF.out, drop_four P 2 hiP]
       by_cases h : 0 ≤ nv
       ·exact four_last_no n 2 acc nv _ (P.drop 3) (HV.out h) HL1.out.symm (fun hh => hv ⟨h, hh⟩)
       ·exact four_none _ _ _ _ _ (HW.out (by omega)))
      have hv2 : ¬ (0 ≤ nv ∧ nv ≤ 65535) := by have := hv; omega
      clear hv
      go_wp2_with (first | (go_at_call 135; refine (CQ.out _).mono ?_; rintro e W1 ⟨rfl, hW⟩; have hW2 := hW.symm; subst hW2) | fail)
      go_loop [8, 9] (fun m k => (m = .int .i64 255 ∧ k = .int .i64 2) ∨ (m = .int .i64 65535 ∧ k = .int .i64 3)) (fun _ k => 3 - (intOf k).toNat)
      case atStart => exact .inl ⟨rfl, rfl⟩
      case round =>
       rcases hrel with ⟨rfl, rfl⟩ | ⟨rfl, rfl⟩
       ·go_wp2
        go_round
        case rel => exact .inr (⟨rfl, rfl⟩)
        case measure => decide
       ·go_wp2_with (first | (go_at_call 77; refine (l1In_no nv 0 65535 _ (by omega)).mono ?_; rintro e W1 ⟨rfl, hW⟩; have hW2 := hW.symm; subst hW2) | fail)
        go_ret2
        exact ⟨by rw [HZ.out.1, HZ.out.2]; rfl, hBr⟩
    ·have hli : ((2 : Int) == (n : Int) - 1) = false := beq_eq_false_iff_ne.2 (by omega)
     by_cases hv : 0 ≤ nv ∧ nv < (256 : Int)
     ·have HF2 : Hid (fourFrom n 3 (acc * 256 + nv) (P.drop 3) = fourFrom n 0 0 P) := by rw [← HF.out, drop_four P 2 hiP]; exact (four_mid n 2 acc nv _ (P.drop 3) (HV.out hv.1) (by omega) hv.2).symm
      obtain ⟨hv1, hv2⟩ := hv
      go_wp2_with (first | (go_at_call 135; refine (CQ.out _).mono ?_; rintro e W1 ⟨rfl, hW⟩; have hW2 := hW.symm; subst hW2) | (go_at_call 77; refine (l1In_yes nv 0 255 _ (by omega)).mono ?_; rintro e W1 ⟨rfl, hW⟩; have hW2 := hW.symm; subst hW2))
      go_roundw
      case rel => exact ⟨3, acc * 256 + nv, by omega, by go_num, by go_num, by omega, by omega, fun _ => by show acc * 256 + nv < 16777216; omega, hSr, hBr, HF2⟩
      case measure => simp [intOf]; omega
     ·have HZ : Hid (fourOk s.data.toList = false ∧ fourZ s.data.toList = 0) := four_is_none _ (by
       rw [HO3.out, ← HF.out, drop_four P 2 hiP]
       by_cases h : 0 ≤ nv
       ·exact four_mid_no n 2 acc nv _ (P.drop 3) (HV.out h) (by omega) (fun hh => hv ⟨h, hh⟩)
       ·exact four_none _ _ _ _ _ (HW.out (by omega)))
      have hv2 : ¬ (0 ≤ nv ∧ nv ≤ 255) := by have := hv; omega
      clear hv
      go_wp2_with (first | (go_at_call 135; refine (CQ.out _).mono ?_; rintro e W1 ⟨rfl, hW⟩; have hW2 := hW.symm; subst hW2) | (go_at_call 77; refine (l1In_no nv 0 255 _ (by omega)).mono ?_; rintro e W1 ⟨rfl, hW⟩; have hW2 := hW.symm; subst hW2))
      go_ret2
      exact ⟨by rw [HZ.out.1, HZ.out.2]; rfl, hBr⟩
   ·have hm2 : acc < 16777216 := hmid
    have hlast : n = 4 := by omega
    have HL1 : Hid (n = 4) := hlast
    have hli : ((3 : Int) == (n : Int) - 1) = true := beq_iff_eq.2 (by omega)
    have hn1 : n ≤ 4 := by omega
    have hn2 : 4 ≤ n := by omega
    clear hlast
    by_cases hv : 0 ≤ nv ∧ nv < (256 : Int)
    ·have HF2 : Hid (fourFrom n 4 (acc * 256 + nv) (P.drop 4) = fourFrom n 0 0 P) := by rw [← HF.out, drop_four P 3 hiP]; exact (four_last n 3 acc nv _ (P.drop 4) (HV.out hv.1) HL1.out.symm hv.2).symm
     obtain ⟨hv1, hv2⟩ := hv
     go_wp2_with (first | (go_at_call 135; refine (CQ.out _).mono ?_; rintro e W1 ⟨rfl, hW⟩; have hW2 := hW.symm; subst hW2) | fail)
     go_loop [8, 9] (fun m k => (m = .int .i64 255 ∧ k = .int .i64 3)) (fun _ k => 3 - (intOf k).toNat)
     case atStart => exact ⟨rfl, rfl⟩
     case round =>
      obtain ⟨rfl, rfl⟩ := hrel
      go_wp2_with (first | (go_at_call 77; refine (l1In_yes nv 0 255 _ (by omega)).mono ?_; rintro e W1 ⟨rfl, hW⟩; have hW2 := hW.symm; subst hW2) | fail)
      go_roundw
      case rel => exact ⟨4, acc * 256 + nv, by omega, by go_num, by go_num, by omega, by omega, fun h => absurd h (by omega), hSr, hBr, HF2⟩
      case measure => simp [intOf]; omega
    ·have HZ : Hid (fourOk s.data.toList = false ∧ fourZ s.data.toList = 0) := four_is_none _ (by
      rw [HO3.out, ← HF.out, drop_four P 3 hiP]
      by_cases h : 0 ≤ nv
      ·exact four_last_no n 3 acc nv _ (P.drop 4) (HV.out h) HL1.out.symm (fun hh => hv ⟨h, hh⟩)
      ·exact four_none _ _ _ _ _ (HW.out (by omega)))
     have hv2 : ¬ (0 ≤ nv ∧ nv ≤ 255) := by have := hv; omega
     clear hv
     go_wp2_with (first | (go_at_call 135; refine (CQ.out _).mono ?_; rintro e W1 ⟨rfl, hW⟩; have hW2 := hW.symm; subst hW2) | fail)
     go_loop [8, 9] (fun m k => (m = .int .i64 255 ∧ k = .int .i64 3)) (fun _ k => 3 - (intOf k).toNat)
     case atStart => exact ⟨rfl, rfl⟩
     case round =>
      obtain ⟨rfl, rfl⟩ := hrel
      go_wp2_with (first | (go_at_call 77; refine (l1In_no nv 0 255 _ (by omega)).mono ?_; rintro e W1 ⟨rfl, hW⟩; have hW2 := hW.symm; subst hW2) | fail)
      go_ret2
      exact ⟨by rw [HZ.out.1, HZ.out.2]; rfl, hBr⟩
end Go.Proofs.YtnfhajhdpdidlaaGreatDoor
end
section
namespace Go.Proofs.YtnfhajhdpdidlaaGreatDoor
open Go.RowKit Go.Shelf
theorem specDecode (s : ByteArray) (w : World) (hs : s.size ≤ maxLen) :
  Calls Tryz.prog 129 #[.string s] w fun e w' => e = .returned (.string ⟨(decode s).toArray⟩) ∧ Below w.heap.size w w' := by
 unfold maxLen at hs
 by_cases hL : s.size ≤ 600
 ·rw [decode_small s hL]
  have hLi : (s.size : Int) ≤ 600 := by omega
  go_enter Tryz.func129, Tryz.ntmps129
  go_wp2
  go_loopw [3, 4] (fun v i wr => ∃ (k : Nat) (acc : List UInt8), k ≤ s.size ∧ i = .int .i64 k ∧ OwnB w.heap.size v acc wr ∧ Below w.heap.size w wr ∧ acc.length ≤ k ∧ Hid (acc ++ dec (s.data.toList.drop k) = dec s.data.toList)) (fun _ i wr => s.size - (intOf i).toNat)
  case atStart =>
   exact ⟨0, [], Nat.zero_le _, rfl, ownB_new w _ (Nat.le_refl _), (Below.refl _ w).alloc (Nat.le_refl _) _, Nat.le_refl _, rfl⟩
  case round =>
   obtain ⟨k, acc, hk, rfl, hI, hbw, hal, HA⟩ := hrel
   have hsz : w.heap.size ≤ wr.heap.size := hbw.size
   by_cases hp : k < s.size
   ·have hki : (k : Int) < (s.size : Int) := by omega
    by_cases hc : s[k] = 37
    ·have h37 : ((s[k].toNat : Int) == 37) = true := by rw [hc]; rfl
     have HC : Hid (s[k] = 37) := hc
     clear hc
     by_cases h2 : k + 2 < s.size
     ·have h2i : (k : Int) + 2 < (s.size : Int) := by omega
      have h1i : (k : Int) + 1 < (s.size : Int) := by omega
      have hw1 : IntKind.i64.wrap ((k : Int) + 1) = (k : Int) + 1 := by rw [IntKind.wrap_i64]; omega
      have hw2 : IntKind.i64.wrap ((k : Int) + 2) = (k : Int) + 2 := by rw [IntKind.wrap_i64]; omega
      have h01 : (0 : Int) ≤ (k : Int) + 1 := by omega
      have h02 : (0 : Int) ≤ (k : Int) + 2 := by omega
      have ht1 : ((k : Int) + 1).toNat = k + 1 := by omega
      have ht2 : ((k : Int) + 2).toNat = k + 2 := by omega
      have ra := hexV_range s[k + 1]
      have rb := hexV_range s[k + 2]
      rcases (show hexV s[k + 1] < 0 ∨ (0 ≤ hexV s[k + 1] ∧ hexV s[k + 2] < 0) ∨ (0 ≤ hexV s[k + 1] ∧ 0 ≤ hexV s[k + 2]) from by omega) with ha | ⟨ha, hb⟩ | ⟨ha, hb⟩
      ·have HA2 : Hid ((acc ++ [s[k]]) ++ dec (s.data.toList.drop (k + 1)) = dec s.data.toList) := acc_not hp HA.out ((escAt_of s k h2).trans (esc_no1 _ _ _ ha))
       go_wp2_with (first | (go_at_call 153; refine (l1Hex _ _).mono ?_; rintro e W1 ⟨rfl, hW⟩; have hW2 := hW.symm; subst hW2) | (at_builtin; refine wpAppendByte wr rfl _ _ rfl w.heap.size _ _ s[k] _ rfl hI rfl rfl (by omega) hsz ?_; intro v1 w1 R b1))
       go_roundw
       case rel => exact ⟨k + 1, acc ++ [s[k]], by omega, by go_num, R, hbw.trans b1, by simp; omega, HA2⟩
       case measure => simp [intOf]; omega
      ·have HA2 : Hid ((acc ++ [s[k]]) ++ dec (s.data.toList.drop (k + 1)) = dec s.data.toList) := acc_not hp HA.out ((escAt_of s k h2).trans (esc_no2 _ _ _ hb))
       go_wp2_with (first | (go_at_call 153; refine (l1Hex _ _).mono ?_; rintro e W1 ⟨rfl, hW⟩; have hW2 := hW.symm; subst hW2) | (at_builtin; refine wpAppendByte wr rfl _ _ rfl w.heap.size _ _ s[k] _ rfl hI rfl rfl (by omega) hsz ?_; intro v1 w1 R b1))
       go_roundw
       case rel => exact ⟨k + 1, acc ++ [s[k]], by omega, by go_num, R, hbw.trans b1, by simp; omega, HA2⟩
       case measure => simp [intOf]; omega
      ·have HA2 : Hid ((acc ++ [hexB s[k + 1] s[k + 2]]) ++ dec (s.data.toList.drop (k + 3)) = dec s.data.toList) := by
        have := (acc_esc hp HA.out ((escAt_of s k h2).trans (esc_yes _ _ _ HC.out ha hb))).1
        rw [decB_val s k h2 (esc_yes _ _ _ HC.out ha hb)] at this; exact this
       go_wp2_with (first | (go_at_call 153; refine (l1Hex _ _).mono ?_; rintro e W1 ⟨rfl, hW⟩; have hW2 := hW.symm; subst hW2))
       have hm1 : IntKind.i64.wrap (16 * hexV s[k + 1]) = 16 * hexV s[k + 1] := by rw [IntKind.wrap_i64]; omega
       have hm2 : IntKind.i64.wrap (16 * hexV s[k + 1] + hexV s[k + 2]) = 16 * hexV s[k + 1] + hexV s[k + 2] := by rw [IntKind.wrap_i64]; omega
       have hm3 : IntKind.u8.wrap (16 * hexV s[k + 1] + hexV s[k + 2]) = 16 * hexV s[k + 1] + hexV s[k + 2] := by rw [IntKind.wrap_u8]; omega
       have HB : Hid (((hexB s[k + 1] s[k + 2]).toNat : Int) = 16 * hexV s[k + 1] + hexV s[k + 2]) := hexB_val _ _ ha hb
       go_region_held3 (fun _ => True) (trivial) (first | (go_at_call 153; refine (l1Hex _ _).mono ?_; rintro e W1 ⟨rfl, hW⟩; have hW2 := hW.symm; subst hW2) | (refine stepAppendBytes _ (by rfl) (.tmp 44) (.tmp 58) (by rfl) w.heap.size u3 acc [hexB s[k + 1] s[k + 2]] (by exact (hI.alloc _).drew) wr.heap.size #[.int .u8 (16 * hexV s[k + 1] + hexV s[k + 2])] (0, 0) (by exact heap_alloc_new wr _) (by simp [Lib.byteCells, HB.out]) (by rfl) 1 (by rfl) (by simp; omega) (by simp; omega) ?_; intro v1 w1 R b1) | fail)
       all_goals
        go_wp2
        go_roundw
        case rel => exact ⟨k + 3, acc ++ [hexB s[k + 1] s[k + 2]], by omega, by go_num, R, (hbw.alloc hsz _).drew.trans b1, by simp; omega, HA2⟩
        case measure => simp [intOf]; omega
     ·have HA2 : Hid ((acc ++ [s[k]]) ++ dec (s.data.toList.drop (k + 1)) = dec s.data.toList) := acc_not hp HA.out (escAt_end s k h2)
      have h2i : ¬ ((k : Int) + 2 < (s.size : Int)) := by omega
      go_wp2_with (first | (go_at_call 153; refine (l1Hex _ _).mono ?_; rintro e W1 ⟨rfl, hW⟩; have hW2 := hW.symm; subst hW2) | (at_builtin; refine wpAppendByte wr rfl _ _ rfl w.heap.size _ _ s[k] _ rfl hI rfl rfl (by omega) hsz ?_; intro v1 w1 R b1))
      go_roundw
      case rel => exact ⟨k + 1, acc ++ [s[k]], by omega, by go_num, R, hbw.trans b1, by simp; omega, HA2⟩
      case measure => simp [intOf]; omega
    ·have HA2 : Hid ((acc ++ [s[k]]) ++ dec (s.data.toList.drop (k + 1)) = dec s.data.toList) := acc_not hp HA.out (escAt_no0 s k hp hc)
     have h37 : ((s[k].toNat : Int) == 37) = false := by
      rw [beq_eq_false_iff_ne]; intro h; exact hc (UInt8.toNat_inj.1 (by have : (37 : UInt8).toNat = 37 := rfl; omega))
     go_wp2_with (first | (go_at_call 153; refine (l1Hex _ _).mono ?_; rintro e W1 ⟨rfl, hW⟩; have hW2 := hW.symm; subst hW2) | (at_builtin; refine wpAppendByte wr rfl _ _ rfl w.heap.size _ _ s[k] _ rfl hI rfl rfl (by omega) hsz ?_; intro v1 w1 R b1))
     go_roundw
     case rel => exact ⟨k + 1, acc ++ [s[k]], by omega, by go_num, R, hbw.trans b1, by simp; omega, HA2⟩
     case measure => simp [intOf]; omega
   ·have hkk : k = s.size := by omega
    subst hkk
    have hacc : acc = dec s.data.toList := by have := HA.out; rw [drop_end] at this; simpa [dec] using this
    subst hacc
    have ht := ownB_text hI
    go_wp2
    go_ret
    exact ⟨rfl, hbw⟩
 ·rw [decode_great s hL]
  have hLi : (600 : Int) < (s.size : Int) := by omega
  go_enter Tryz.func129, Tryz.ntmps129
  go_wp2
  go_loopw [3, 4] (fun v i wr => i = .int .i64 0 ∧ OwnB w.heap.size v [] wr ∧ Below w.heap.size w wr) (fun _ i wr => 0)
  case atStart => exact ⟨rfl, ownB_new w _ (Nat.le_refl _), (Below.refl _ w).alloc (Nat.le_refl _) _⟩
  case round =>
   obtain ⟨rfl, hI, hbw⟩ := hrel
   have ht := ownB_text hI
   go_wp2
   go_ret
   exact ⟨rfl, hbw⟩
end Go.Proofs.YtnfhajhdpdidlaaGreatDoor
end
