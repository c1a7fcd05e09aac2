/- impl.FourGet: an address of four bytes. -/
import Derived.Test.YtnmbflljldhjmaaDoorHostI
set_option linter.unusedVariables false
namespace Go.Proofs.YtnmbflljldhjmaaDoor
open Go.RowKit Go.Shelf

theorem digs_le (base : Int) (hb0 : 0 ≤ base) (hb : base ≤ 16) : ∀ (l : List UInt8) (n m : Int), 0 ≤ n → n ≤ 68719476735 → digs base n l = some m → m ≤ 68719476735 := by
  intro l
  induction l with
  | nil => intro n m hn hn2 h; simp [digs] at h; omega
  | cons c r ih =>
    intro n m hn hn2 h
    by_cases hc : hexV c < 0 ∨ base ≤ hexV c ∨ 4294967295 < n
    · rw [digs_no _ _ _ _ hc] at h; cases h
    · rw [digs_yes _ _ _ _ hc] at h
      have h1 := Int.mul_nonneg hn hb0
      have h2 : n * base ≤ 4294967295 * 16 := Int.mul_le_mul (by omega) hb hb0 (by omega)
      have := hexV_range c
      exact ih _ _ (by omega) (by omega) h
theorem partN_le (l : List UInt8) (m : Int) (h : partN l = some m) : m ≤ 68719476735 := by
  unfold partN at h
  (repeat' split at h)
  · cases h
  · exact digs_le 16 (by omega) (by omega) _ _ _ (Int.le_refl _) (by omega) h
  · exact digs_le 8 (by omega) (by omega) _ _ _ (Int.le_refl _) (by omega) h
  · exact digs_le 10 (by omega) (by omega) _ _ _ (Int.le_refl _) (by omega) h

theorem drop_four (P : List (List UInt8)) (i : Nat) (h : i < P.length) : P.drop i = P[i] :: P.drop (i + 1) := List.drop_eq_getElem_cons h

/-- What partNumber answers of a part, by whether it has a number. -/
theorem part_two (q : List UInt8) (W : World) (hq : q.length ≤ 1000000) :
    (partN q = none ∧ Calls Tryd.prog 50 #[.string (mk q)] W fun e w' => e = .returned (.tuple #[.int .i64 0, .bool false]) ∧ ∃ n, w' = W.drewN n) ∨
    (∃ v, partN q = some v ∧ 0 ≤ v ∧ v ≤ 68719476735 ∧ Calls Tryd.prog 50 #[.string (mk q)] W fun e w' => e = .returned (.tuple #[.int .i64 v, .bool true]) ∧ ∃ n, w' = W.drewN n) := by
  have h := partNumber (mk q) W (by rw [mk_size]; exact hq)
  cases hp : partN q with
  | none =>
    obtain ⟨e1, e2⟩ := part_none (s := mk q) hp
    rw [e1, e2] at h
    exact .inl ⟨rfl, h⟩
  | some v =>
    obtain ⟨e1, e2⟩ := part_some (s := mk q) hp
    rw [e1, e2] at h
    exact .inr ⟨v, rfl, partN_ge q v hp, partN_le q v hp, h⟩

set_option maxHeartbeats 4000000 in
set_option maxRecDepth 100000 in
theorem implFour (s : ByteArray) (w : World) (hs : s.size ≤ 1048576) (hm : ∃ m, w.cell? ⟨0, 0, none⟩ = some (.int .i64 m)) :
    Calls Tryd.prog 35 #[.string s] w fun e w' => e = .returned (.tuple #[.int .i64 (fourZ s.data.toList), .bool (fourOk s.data.toList)]) ∧ Below w.heap.size w w' := by
  have hl : s.data.toList.length = s.size := by simp
  by_cases hL : s.size ≤ 200
  · have hLi : (s.size : Int) ≤ 200 := by omega
    have HM : Hid (∀ q ∈ partsL s.data.toList, q.length ≤ 1000000) := fun q hq => by have := partsL_mem_le s.data.toList q hq; omega
    have CP : Hid (Calls Tryd.prog 27 #[.string s] w fun e w' => ∃ c, e = .returned (.slice (some ⟨w.heap.size, 0, none⟩) (partsL s.data.toList).length c) ∧ StrsAt w.heap.size (partsL s.data.toList) w' ∧ Below w.heap.size w w') := hostParts s w (by omega) hm
    have HO : Hid ((partsL s.data.toList).length ≤ 4 → fourL s.data.toList = fourFrom (partsL s.data.toList).length 0 0 (partsL s.data.toList)) := fun h => by unfold fourL; rw [if_pos ⟨by omega, h⟩]
    have HG : Hid (¬ (partsL s.data.toList).length ≤ 4 → fourL s.data.toList = none) := fun h => by unfold fourL; rw [if_neg (fun hh => h hh.2)]
    have h1 := partsL_ne s.data.toList
    have hll := partsL_len_le s.data.toList
    obtain ⟨P, hP⟩ : ∃ P, P = partsL s.data.toList := ⟨_, rfl⟩
    rw [← hP] at HM CP HO HG h1 hll
    clear hP hm
    obtain ⟨n, hn⟩ : ∃ n, n = P.length := ⟨_, rfl⟩
    rw [← hn] at CP HO HG h1 hll
    have HN : Hid (n = P.length) := hn
    clear hn
    by_cases h4 : n ≤ 4
    · have h4i : (n : Int) ≤ 4 := by omega
      have HO2 := HO.out h4
      have HO3 : Hid (fourL s.data.toList = fourFrom n 0 0 P) := HO2
      clear HO2 HO HG
      go_enter Tryd.func35, Tryd.ntmps35
      go_wp2_with fail
      refine CP.out.mono ?_
      rintro e w1 ⟨c, rfl, hS, hB⟩
      go_wp2_with fail
      go_loopw [5, 21] (fun ad ix wr => ∃ (i : Nat) (acc : Int), i ≤ n ∧ ix = .int .i64 i ∧ ad = .int .i64 acc ∧ 0 ≤ acc ∧ acc ≤ 4294967295 ∧ Hid (i < n → acc < midI i) ∧ StrsAt w.heap.size P wr ∧ Below w.heap.size w wr ∧ Hid (fourFrom n i acc (P.drop i) = fourFrom n 0 0 P)) (fun _ ix wr => n - (intOf ix).toNat)
      case atStart => exact ⟨0, 0, Nat.zero_le _, rfl, rfl, by omega, by omega, fun _ => by decide, hS, hB, rfl⟩
      case round =>
        obtain ⟨i, acc, hi, rfl, rfl, ha0, ha1, HI, hSr, hBr, HF⟩ := hrel
        by_cases hp : i < n
        · have hpi : (i : Int) < (n : Int) := by omega
          have hiP : i < P.length := by rw [← HN.out]; exact hp
          have hc := hSr.cell i hiP
          have hmid := HI.out hp
          rcases part_two P[i] wr (HM.out _ (List.getElem_mem hiP)) with ⟨hq, CQ⟩ | ⟨v, hq, hv0, hv1, CQ⟩
          · have HZ : Hid (fourOk s.data.toList = false ∧ fourZ s.data.toList = 0) := four_is_none _ (by rw [HO3.out, ← HF.out, drop_four P i hiP, four_none _ _ _ _ _ hq])
            have CQ2 : Hid (Calls Tryd.prog 50 #[.string (mk P[i])] wr fun e w' => e = .returned (.tuple #[.int .i64 0, .bool false]) ∧ ∃ n, w' = wr.drewN n) := CQ
            clear CQ hq
            by_cases hlast : i + 1 = n
            · have hli : ((i : Int) == (n : Int) - 1) = true := beq_iff_eq.2 (by omega)
              go_wp2_with (go_at_call 50; refine CQ2.out.mono ?_; rintro e W1 ⟨rfl, n1, rfl⟩)
              go_ret2
              exact ⟨by rw [HZ.out.1, HZ.out.2]; rfl, below_drewN hBr _⟩
            · have hli : ((i : Int) == (n : Int) - 1) = false := beq_eq_false_iff_ne.2 (by omega)
              go_wp2_with (go_at_call 50; refine CQ2.out.mono ?_; rintro e W1 ⟨rfl, n1, rfl⟩)
              go_ret2
              exact ⟨by rw [HZ.out.1, HZ.out.2]; rfl, below_drewN hBr _⟩
          · have CQ2 : Hid (Calls Tryd.prog 50 #[.string (mk P[i])] wr fun e w' => e = .returned (.tuple #[.int .i64 v, .bool true]) ∧ ∃ n, w' = wr.drewN n) := CQ
            clear CQ
            rcases (show i = 0 ∨ i = 1 ∨ i = 2 ∨ i = 3 from by omega) with rfl | rfl | rfl | rfl
            · have hm2 : acc < 1 := hmid
              by_cases hlast : n = 1
              · have HL1 : Hid (n = 1) := hlast
                have hli : ((0 : Int) == (n : Int) - 1) = true := beq_iff_eq.2 (by omega)
                have hn1 : n ≤ 1 := by omega
                have hn2 : 1 ≤ n := by omega
                clear hlast
                by_cases hv : v < (4294967296 : Int)
                · have HF2 : Hid (fourFrom n 1 (acc * 4294967296 + v) (P.drop 1) = fourFrom n 0 0 P) := by rw [← HF.out, drop_four P 0 hiP]; exact (four_last n 0 acc v _ (P.drop 1) hq HL1.out.symm hv).symm
                  clear hq
                  go_wp2_with (go_at_call 50; refine CQ2.out.mono ?_; rintro e W1 ⟨rfl, n1, rfl⟩)
                  go_roundw
                  case rel => exact ⟨1, acc * 4294967296 + v, by omega, by go_num, by go_num, by omega, by omega, fun h => absurd h (by omega), hSr, below_drewN hBr _, HF2⟩
                  case measure => simp [intOf]; omega
                · have HZ : Hid (fourOk s.data.toList = false ∧ fourZ s.data.toList = 0) := four_is_none _ (by rw [HO3.out, ← HF.out, drop_four P 0 hiP]; exact four_last_no n 0 acc v _ (P.drop 1) hq HL1.out.symm hv)
                  have hv2 : (4294967296 : Int) ≤ v := by have : ¬ v < (4294967296 : Int) := hv; omega
                  clear hq hv
                  go_wp2_with (go_at_call 50; refine CQ2.out.mono ?_; rintro e W1 ⟨rfl, n1, rfl⟩)
                  go_ret2
                  exact ⟨by rw [HZ.out.1, HZ.out.2]; rfl, below_drewN hBr _⟩
              · have hli : ((0 : Int) == (n : Int) - 1) = false := beq_eq_false_iff_ne.2 (by omega)
                by_cases hv : v < (256 : Int)
                · have HF2 : Hid (fourFrom n 1 (acc * 256 + v) (P.drop 1) = fourFrom n 0 0 P) := by rw [← HF.out, drop_four P 0 hiP]; exact (four_mid n 0 acc v _ (P.drop 1) hq (by omega) hv).symm
                  clear hq
                  go_wp2_with (go_at_call 50; refine CQ2.out.mono ?_; rintro e W1 ⟨rfl, n1, rfl⟩)
                  go_roundw
                  case rel => exact ⟨1, acc * 256 + v, by omega, by go_num, by go_num, by omega, by omega, fun _ => by show acc * 256 + v < 256; omega, hSr, below_drewN hBr _, HF2⟩
                  case measure => simp [intOf]; omega
                · have HZ : Hid (fourOk s.data.toList = false ∧ fourZ s.data.toList = 0) := four_is_none _ (by rw [HO3.out, ← HF.out, drop_four P 0 hiP]; exact four_mid_no n 0 acc v _ (P.drop 1) hq (by omega) hv)
                  have hv2 : (256 : Int) ≤ v := by have : ¬ v < (256 : Int) := hv; omega
                  clear hq hv
                  go_wp2_with (go_at_call 50; refine CQ2.out.mono ?_; rintro e W1 ⟨rfl, n1, rfl⟩)
                  go_ret2
                  exact ⟨by rw [HZ.out.1, HZ.out.2]; rfl, below_drewN hBr _⟩
            · have hm2 : acc < 256 := hmid
              by_cases hlast : n = 2
              · have HL1 : Hid (n = 2) := hlast
                have hli : ((1 : Int) == (n : Int) - 1) = true := beq_iff_eq.2 (by omega)
                have hn1 : n ≤ 2 := by omega
                have hn2 : 2 ≤ n := by omega
                clear hlast
                by_cases hv : v < (16777216 : Int)
                · have HF2 : Hid (fourFrom n 2 (acc * 16777216 + v) (P.drop 2) = fourFrom n 0 0 P) := by rw [← HF.out, drop_four P 1 hiP]; exact (four_last n 1 acc v _ (P.drop 2) hq HL1.out.symm hv).symm
                  clear hq
                  go_wp2_with (go_at_call 50; refine CQ2.out.mono ?_; rintro e W1 ⟨rfl, n1, rfl⟩)
                  go_roundw
                  case rel => exact ⟨2, acc * 16777216 + v, by omega, by go_num, by go_num, by omega, by omega, fun h => absurd h (by omega), hSr, below_drewN hBr _, HF2⟩
                  case measure => simp [intOf]; omega
                · have HZ : Hid (fourOk s.data.toList = false ∧ fourZ s.data.toList = 0) := four_is_none _ (by rw [HO3.out, ← HF.out, drop_four P 1 hiP]; exact four_last_no n 1 acc v _ (P.drop 2) hq HL1.out.symm hv)
                  have hv2 : (16777216 : Int) ≤ v := by have : ¬ v < (16777216 : Int) := hv; omega
                  clear hq hv
                  go_wp2_with (go_at_call 50; refine CQ2.out.mono ?_; rintro e W1 ⟨rfl, n1, rfl⟩)
                  go_ret2
                  exact ⟨by rw [HZ.out.1, HZ.out.2]; rfl, below_drewN hBr _⟩
              · have hli : ((1 : Int) == (n : Int) - 1) = false := beq_eq_false_iff_ne.2 (by omega)
                by_cases hv : v < (256 : Int)
                · have HF2 : Hid (fourFrom n 2 (acc * 256 + v) (P.drop 2) = fourFrom n 0 0 P) := by rw [← HF.out, drop_four P 1 hiP]; exact (four_mid n 1 acc v _ (P.drop 2) hq (by omega) hv).symm
                  clear hq
                  go_wp2_with (go_at_call 50; refine CQ2.out.mono ?_; rintro e W1 ⟨rfl, n1, rfl⟩)
                  go_roundw
                  case rel => exact ⟨2, acc * 256 + v, by omega, by go_num, by go_num, by omega, by omega, fun _ => by show acc * 256 + v < 65536; omega, hSr, below_drewN hBr _, HF2⟩
                  case measure => simp [intOf]; omega
                · have HZ : Hid (fourOk s.data.toList = false ∧ fourZ s.data.toList = 0) := four_is_none _ (by rw [HO3.out, ← HF.out, drop_four P 1 hiP]; exact four_mid_no n 1 acc v _ (P.drop 2) hq (by omega) hv)
                  have hv2 : (256 : Int) ≤ v := by have : ¬ v < (256 : Int) := hv; omega
                  clear hq hv
                  go_wp2_with (go_at_call 50; refine CQ2.out.mono ?_; rintro e W1 ⟨rfl, n1, rfl⟩)
                  go_ret2
                  exact ⟨by rw [HZ.out.1, HZ.out.2]; rfl, below_drewN hBr _⟩
            · have hm2 : acc < 65536 := hmid
              by_cases hlast : n = 3
              · have HL1 : Hid (n = 3) := hlast
                have hli : ((2 : Int) == (n : Int) - 1) = true := beq_iff_eq.2 (by omega)
                have hn1 : n ≤ 3 := by omega
                have hn2 : 3 ≤ n := by omega
                clear hlast
                by_cases hv : v < (65536 : Int)
                · have HF2 : Hid (fourFrom n 3 (acc * 65536 + v) (P.drop 3) = fourFrom n 0 0 P) := by rw [← HF.out, drop_four P 2 hiP]; exact (four_last n 2 acc v _ (P.drop 3) hq HL1.out.symm hv).symm
                  clear hq
                  go_wp2_with (go_at_call 50; refine CQ2.out.mono ?_; rintro e W1 ⟨rfl, n1, rfl⟩)
                  go_roundw
                  case rel => exact ⟨3, acc * 65536 + v, by omega, by go_num, by go_num, by omega, by omega, fun h => absurd h (by omega), hSr, below_drewN hBr _, HF2⟩
                  case measure => simp [intOf]; omega
                · have HZ : Hid (fourOk s.data.toList = false ∧ fourZ s.data.toList = 0) := four_is_none _ (by rw [HO3.out, ← HF.out, drop_four P 2 hiP]; exact four_last_no n 2 acc v _ (P.drop 3) hq HL1.out.symm hv)
                  have hv2 : (65536 : Int) ≤ v := by have : ¬ v < (65536 : Int) := hv; omega
                  clear hq hv
                  go_wp2_with (go_at_call 50; refine CQ2.out.mono ?_; rintro e W1 ⟨rfl, n1, rfl⟩)
                  go_ret2
                  exact ⟨by rw [HZ.out.1, HZ.out.2]; rfl, below_drewN hBr _⟩
              · have hli : ((2 : Int) == (n : Int) - 1) = false := beq_eq_false_iff_ne.2 (by omega)
                by_cases hv : v < (256 : Int)
                · have HF2 : Hid (fourFrom n 3 (acc * 256 + v) (P.drop 3) = fourFrom n 0 0 P) := by rw [← HF.out, drop_four P 2 hiP]; exact (four_mid n 2 acc v _ (P.drop 3) hq (by omega) hv).symm
                  clear hq
                  go_wp2_with (go_at_call 50; refine CQ2.out.mono ?_; rintro e W1 ⟨rfl, n1, rfl⟩)
                  go_roundw
                  case rel => exact ⟨3, acc * 256 + v, by omega, by go_num, by go_num, by omega, by omega, fun _ => by show acc * 256 + v < 16777216; omega, hSr, below_drewN hBr _, HF2⟩
                  case measure => simp [intOf]; omega
                · have HZ : Hid (fourOk s.data.toList = false ∧ fourZ s.data.toList = 0) := four_is_none _ (by rw [HO3.out, ← HF.out, drop_four P 2 hiP]; exact four_mid_no n 2 acc v _ (P.drop 3) hq (by omega) hv)
                  have hv2 : (256 : Int) ≤ v := by have : ¬ v < (256 : Int) := hv; omega
                  clear hq hv
                  go_wp2_with (go_at_call 50; refine CQ2.out.mono ?_; rintro e W1 ⟨rfl, n1, rfl⟩)
                  go_ret2
                  exact ⟨by rw [HZ.out.1, HZ.out.2]; rfl, below_drewN hBr _⟩
            · have hm2 : acc < 16777216 := hmid
              have hlast : n = 4 := by omega
              have HL1 : Hid (n = 4) := hlast
              have hli : ((3 : Int) == (n : Int) - 1) = true := beq_iff_eq.2 (by omega)
              have hn1 : n ≤ 4 := by omega
              have hn2 : 4 ≤ n := by omega
              clear hlast
              by_cases hv : v < (256 : Int)
              · have HF2 : Hid (fourFrom n 4 (acc * 256 + v) (P.drop 4) = fourFrom n 0 0 P) := by rw [← HF.out, drop_four P 3 hiP]; exact (four_last n 3 acc v _ (P.drop 4) hq HL1.out.symm hv).symm
                clear hq
                go_wp2_with (go_at_call 50; refine CQ2.out.mono ?_; rintro e W1 ⟨rfl, n1, rfl⟩)
                go_roundw
                case rel => exact ⟨4, acc * 256 + v, by omega, by go_num, by go_num, by omega, by omega, fun h => absurd h (by omega), hSr, below_drewN hBr _, HF2⟩
                case measure => simp [intOf]; omega
              · have HZ : Hid (fourOk s.data.toList = false ∧ fourZ s.data.toList = 0) := four_is_none _ (by rw [HO3.out, ← HF.out, drop_four P 3 hiP]; exact four_last_no n 3 acc v _ (P.drop 4) hq HL1.out.symm hv)
                have hv2 : (256 : Int) ≤ v := by have : ¬ v < (256 : Int) := hv; omega
                clear hq hv
                go_wp2_with (go_at_call 50; refine CQ2.out.mono ?_; rintro e W1 ⟨rfl, n1, rfl⟩)
                go_ret2
                exact ⟨by rw [HZ.out.1, HZ.out.2]; rfl, below_drewN hBr _⟩
        · have hin : i = n := by omega
          subst hin
          have hpi : ¬ ((i : Int) < (i : Int)) := by omega
          have HZ : Hid (fourOk s.data.toList = true ∧ fourZ s.data.toList = acc) := four_is_some _ _ (by rw [HO3.out, ← HF.out, List.drop_of_length_le (by rw [← HN.out]; exact Nat.le_refl _)]; rfl)
          go_wp2
          go_ret2
          exact ⟨by rw [HZ.out.1, HZ.out.2]; rfl, hBr⟩
    · have h4i : (4 : Int) < (n : Int) := by omega
      have HZ : Hid (fourOk s.data.toList = false ∧ fourZ s.data.toList = 0) := four_is_none _ (HG.out h4)
      go_enter Tryd.func35, Tryd.ntmps35
      go_wp2_with fail
      refine CP.out.mono ?_
      rintro e w1 ⟨c, rfl, hS, hB⟩
      go_wp2
      go_ret2
      exact ⟨by rw [HZ.out.1, HZ.out.2]; rfl, hB⟩
  · have hLi : (200 : Int) < (s.size : Int) := by omega
    have HZ : Hid (fourOk s.data.toList = false ∧ fourZ s.data.toList = 0) := four_is_none _ (by unfold fourL; rw [if_neg (by omega)])
    go_enter Tryd.func35, Tryd.ntmps35
    go_wp2
    go_ret2
    exact ⟨by rw [HZ.out.1, HZ.out.2]; rfl, Below.refl _ _⟩
end Go.Proofs.YtnmbflljldhjmaaDoor
