/- impl.isHostName, impl.allFigures, impl.endsWithNumber. -/
import Derived.Test.YtbogjajfbchdjaaDoorHostI
import Derived.Test.YtbogjajfbchdjaaDoorNameP
set_option linter.unusedVariables false
namespace Go.Proofs.YtbogjajfbchdjaaDoor
open Go.RowKit Go.Shelf

theorem isSmall (c : UInt8) (w : World) : Calls Tryd.prog 46 #[.int .u8 (c.toNat : Int)] w fun e w' => e = .returned (.bool (smallB c)) ∧ w' = w := by
  have hb := u8_lt c
  have HS : Hid (smallB c = decide ((97 : Int) ≤ (c.toNat : Int) ∧ (c.toNat : Int) ≤ 122)) := by show _ = _; unfold smallB; exact decide_eq_decide.2 (by omega)
  rcases (show (c.toNat : Int) < 97 ∨ ((97 : Int) ≤ (c.toNat : Int)) from by omega) with h1 | h1
  all_goals
    go_enter Tryd.func46, Tryd.ntmps46
    go_wp2
    go_ret
    exact ⟨ret_bool (by rw [HS.out]; simp <;> omega), rfl⟩
theorem isFigure (c : UInt8) (w : World) : Calls Tryd.prog 47 #[.int .u8 (c.toNat : Int)] w fun e w' => e = .returned (.bool (figB c)) ∧ w' = w := by
  have hb := u8_lt c
  have HS : Hid (figB c = decide ((48 : Int) ≤ (c.toNat : Int) ∧ (c.toNat : Int) ≤ 57)) := by show _ = _; unfold figB; exact decide_eq_decide.2 (by omega)
  rcases (show (c.toNat : Int) < 48 ∨ ((48 : Int) ≤ (c.toNat : Int)) from by omega) with h1 | h1
  all_goals
    go_enter Tryd.func47, Tryd.ntmps47
    go_wp2
    go_ret
    exact ⟨ret_bool (by rw [HS.out]; simp <;> omega), rfl⟩

theorem u8_back' (c : UInt8) : (c.toNat : Int).toNat.toUInt8 = c := by simp
theorem index_three (c : UInt8) : (Lib.indexByte [45, 95, 46] c < 0 ∧ c ≠ 45 ∧ c ≠ 95 ∧ c ≠ 46) ∨ (0 ≤ Lib.indexByte [45, 95, 46] c ∧ (c = 45 ∨ c = 95 ∨ c = 46)) := by
  by_cases h1 : c = 45
  · subst h1; right; exact ⟨by decide, .inl rfl⟩
  · by_cases h2 : c = 95
    · subst h2; right; exact ⟨by decide, .inr (.inl rfl)⟩
    · by_cases h3 : c = 46
      · subst h3; right; exact ⟨by decide, .inr (.inr rfl)⟩
      · left
        have e1 : ((45 : UInt8) == c) = false := by simpa using fun h => h1 h.symm
        have e2 : ((95 : UInt8) == c) = false := by simpa using fun h => h2 h.symm
        have e3 : ((46 : UInt8) == c) = false := by simpa using fun h => h3 h.symm
        refine ⟨?_, h1, h2, h3⟩
        simp [Lib.indexByte, e1, e2, e3]

theorem index_call (c : UInt8) (w : World) : Calls Tryd.prog 48 #[.string ⟨#[45, 95, 46]⟩, .int .u8 (c.toNat : Int)] w fun e w' => e = .returned (.int .i64 (Lib.indexByte [45, 95, 46] c)) ∧ w' = w := by
  have := Tryd.strings_IndexByte ⟨#[45, 95, 46]⟩ (c.toNat : Int) w
  rw [u8_back'] at this; exact this

set_option maxHeartbeats 2000000 in
set_option maxRecDepth 100000 in
theorem isHostName (s : ByteArray) (w : World) (hm : ∃ m, w.cell? ⟨0, 0, none⟩ = some (.int .i64 m)) (hs : s.size ≤ 1048576) :
    Calls Tryd.prog 42 #[.string s] w fun e w' => e = .returned (.bool (nameL s.data.toList)) ∧ Below w.heap.size w w' := by
  have hl : s.data.toList.length = s.size := by simp
  rcases (show s.size < 1 ∨ (1 ≤ s.size ∧ 60 < s.size) ∨ (1 ≤ s.size ∧ s.size ≤ 60) from by omega) with h1 | ⟨h1, h2⟩ | ⟨h1, h2⟩
  · have h1i : (s.size : Int) < 1 := by omega
    have HZ : Hid (nameL s.data.toList = false) := nameL_len _ (by omega)
    go_enter Tryd.func42, Tryd.ntmps42
    go_wp2
    go_ret
    exact ⟨by rw [HZ.out]; rfl, Below.refl _ _⟩
  · have h1i : (1 : Int) ≤ (s.size : Int) := by omega
    have h2i : (60 : Int) < (s.size : Int) := by omega
    have HZ : Hid (nameL s.data.toList = false) := nameL_len _ (by omega)
    go_enter Tryd.func42, Tryd.ntmps42
    go_wp2
    go_ret
    exact ⟨by rw [HZ.out]; rfl, Below.refl _ _⟩
  have h1i : (1 : Int) ≤ (s.size : Int) := by omega
  have h2i : (s.size : Int) ≤ 60 := by omega
  have HLEN : Hid (1 ≤ s.data.toList.length ∧ s.data.toList.length ≤ 60) := ⟨by omega, by omega⟩
  have CP : Hid (Calls Tryd.prog 49 #[.string s] w fun e w' => ∃ c, e = .returned (.slice (some ⟨w.heap.size, 0, none⟩) (partsL s.data.toList).length c) ∧ StrsAt w.heap.size (partsL s.data.toList) w' ∧ Below w.heap.size w w') := hostParts s w (by omega) hm
  have HY : Hid ((∀ c ∈ s.data.toList, nmB c = true ∨ c = 46) → (∀ p ∈ partsL s.data.toList, p ≠ []) → nameL s.data.toList = true) := fun a b => nameL_yes _ HLEN.out a b
  have HE : Hid ([] ∈ partsL s.data.toList → nameL s.data.toList = false) := nameL_empty _
  have HX : Hid (∀ k (hk : k < s.size), nmB s[k] = false → s[k] ≠ 46 → nameL s.data.toList = false) := fun k hk a b => nameL_byte _ s[k] (by simp [ByteArray.getElem_eq_getElem_data]) a b
  have hll := partsL_len_le s.data.toList
  clear hm
  obtain ⟨P, hP⟩ : ∃ P, P = partsL s.data.toList := ⟨_, rfl⟩
  rw [← hP] at CP HY HE hll
  clear hP
  obtain ⟨n, hn⟩ : ∃ n, n = P.length := ⟨_, rfl⟩
  rw [← hn] at CP hll
  have HN : Hid (n = P.length) := hn
  have hn9 : n ≤ 61 := by omega
  clear hn hll
  go_enter Tryd.func42, Tryd.ntmps42
  go_wp2
  go_loop [3] (fun i => ∃ k : Nat, k ≤ s.size ∧ i = .int .i64 k ∧ Hid (∀ j (hj : j < s.size), j < k → nmB s[j] = true ∨ s[j] = 46)) (fun i => s.size - (intOf i).toNat)
  case atStart => exact ⟨0, Nat.zero_le _, rfl, fun j hj h => absurd h (by omega)⟩
  case round =>
    obtain ⟨k, hk, rfl, HA⟩ := hrel
    by_cases hp : k < s.size
    · have hki : (k : Int) < (s.size : Int) := by omega
      have HS : Hid (nmB s[k] = (smallB s[k] || figB s[k] || s[k] == 45 || s[k] == 95)) := rfl
      cases h3 : smallB s[k] with
      | true =>
        have HA2 : Hid (∀ j (hj : j < s.size), j < k + 1 → nmB s[j] = true ∨ s[j] = 46) := by
          intro j hj h
          by_cases hjk : j = k
          · subst hjk; left; rw [HS.out, h3]; rfl
          · exact HA.out j hj (by omega)
        go_wp2_with (first
          | (go_at_call 46; refine (isSmall s[k] _).mono ?_; rintro e W1 ⟨rfl, hW⟩; have hW2 := hW.symm; subst hW2; rw [h3])
          | fail)
        go_round
        case rel => exact ⟨k + 1, by omega, by go_num, HA2⟩
        case measure => simp [intOf]; omega
      | false =>
        cases h4 : figB s[k] with
        | true =>
          have HA2 : Hid (∀ j (hj : j < s.size), j < k + 1 → nmB s[j] = true ∨ s[j] = 46) := by
            intro j hj h
            by_cases hjk : j = k
            · subst hjk; left; rw [HS.out, h3, h4]; rfl
            · exact HA.out j hj (by omega)
          go_wp2_with (first
            | (go_at_call 46; refine (isSmall s[k] _).mono ?_; rintro e W1 ⟨rfl, hW⟩; have hW2 := hW.symm; subst hW2; rw [h3])
            | (go_at_call 47; refine (isFigure s[k] _).mono ?_; rintro e W1 ⟨rfl, hW⟩; have hW2 := hW.symm; subst hW2; rw [h4])
            | fail)
          go_round
          case rel => exact ⟨k + 1, by omega, by go_num, HA2⟩
          case measure => simp [intOf]; omega
        | false =>
          rcases index_three s[k] with ⟨hi, hx⟩ | ⟨hi, hx⟩
          · have HZ : Hid (nameL s.data.toList = false) := HX.out k hp (by rw [HS.out, h3, h4]; simp [hx.1, hx.2.1]) hx.2.2
            clear hx
            go_wp2_with (first
              | (go_at_call 46; refine (isSmall s[k] _).mono ?_; rintro e W1 ⟨rfl, hW⟩; have hW2 := hW.symm; subst hW2; rw [h3])
              | (go_at_call 47; refine (isFigure s[k] _).mono ?_; rintro e W1 ⟨rfl, hW⟩; have hW2 := hW.symm; subst hW2; rw [h4])
              | (go_at_call 48; refine (index_call s[k] _).mono ?_; rintro e W1 ⟨rfl, hW⟩; have hW2 := hW.symm; subst hW2)
              | fail)
            go_ret
            exact ⟨by rw [HZ.out]; rfl, Below.refl _ _⟩
          · have HA2 : Hid (∀ j (hj : j < s.size), j < k + 1 → nmB s[j] = true ∨ s[j] = 46) := by
              intro j hj h
              by_cases hjk : j = k
              · subst hjk
                rcases hx with hx | hx | hx
                · left; rw [HS.out, hx]; simp
                · left; rw [HS.out, hx]; simp
                · right; exact hx
              · exact HA.out j hj (by omega)
            clear hx
            go_wp2_with (first
              | (go_at_call 46; refine (isSmall s[k] _).mono ?_; rintro e W1 ⟨rfl, hW⟩; have hW2 := hW.symm; subst hW2; rw [h3])
              | (go_at_call 47; refine (isFigure s[k] _).mono ?_; rintro e W1 ⟨rfl, hW⟩; have hW2 := hW.symm; subst hW2; rw [h4])
              | (go_at_call 48; refine (index_call s[k] _).mono ?_; rintro e W1 ⟨rfl, hW⟩; have hW2 := hW.symm; subst hW2)
              | fail)
            go_round
            case rel => exact ⟨k + 1, by omega, by go_num, HA2⟩
            case measure => simp [intOf]; omega
    · have hkk : k = s.size := by omega
      subst hkk
      have HB : Hid (∀ c ∈ s.data.toList, nmB c = true ∨ c = 46) := by
        intro c hc
        obtain ⟨j, hj, e⟩ := List.getElem_of_mem hc
        have hj' : j < s.size := by simpa using hj
        have := HA.out j hj' hj'
        have e2 : s[j] = c := by rw [← e]; simp [ByteArray.getElem_eq_getElem_data]
        rw [e2] at this; exact this
      clear HA
      go_wp2_with (go_at_call 49; refine CP.out.mono ?_; rintro e w1 ⟨c, rfl, hS, hB⟩)
      go_loop [40] (fun i => ∃ k : Nat, k ≤ n ∧ i = .int .i64 k ∧ Hid (∀ j (hj : j < P.length), j < k → P[j] ≠ [])) (fun i => n - (intOf i).toNat)
      case atStart => exact ⟨0, Nat.zero_le _, rfl, fun j hj h => absurd h (by omega)⟩
      case round =>
        obtain ⟨k, hk, rfl, HA⟩ := hrel
        by_cases hp : k < n
        · have hki : (k : Int) < (n : Int) := by omega
          have hkP : k < P.length := by rw [← HN.out]; exact hp
          have hc := hS.cell k hkP
          by_cases hz : P[k] = []
          · have HZ : Hid (nameL s.data.toList = false) := HE.out (by rw [← hz]; exact List.getElem_mem hkP)
            rw [hz] at hc
            have hc2 : w1.cell? ⟨w.heap.size, k, none⟩ = some (.string ⟨#[]⟩) := hc
            clear hc
            go_wp2
            go_ret
            exact ⟨by rw [HZ.out]; rfl, hB⟩
          · have HA2 : Hid (∀ j (hj : j < P.length), j < k + 1 → P[j] ≠ []) := by
              intro j hj h
              by_cases hjk : j = k
              · subst hjk; exact hz
              · exact HA.out j hj (by omega)
            obtain ⟨z, hzz, hzn⟩ : ∃ z : ByteArray, w1.cell? ⟨w.heap.size, k, none⟩ = some (.string z) ∧ z.toList ≠ [] := by
              refine ⟨_, hc, ?_⟩
              rw [ByteArray.toList_eq, mk_data]; exact hz
            have hne1 : (z.toList == []) = false := beq_eq_false_iff_ne.2 hzn
            have hne2 : z.toList.isEmpty = false := List.isEmpty_eq_false_iff.2 hzn
            clear hc hz
            go_wp2
            go_round
            case rel => exact ⟨k + 1, by omega, by go_num, HA2⟩
            case measure => simp [intOf]; omega
        · have hkk : k = n := by omega
          have HZ : Hid (nameL s.data.toList = true) := HY.out HB.out (by
            intro p hp
            obtain ⟨j, hj, e⟩ := List.getElem_of_mem hp
            rw [← e]; exact HA.out j hj (by rw [hkk, HN.out]; exact hj))
          have hki : ¬ ((k : Int) < (n : Int)) := by omega
          go_wp2
          go_ret
          exact ⟨by rw [HZ.out]; rfl, hB⟩
end Go.Proofs.YtbogjajfbchdjaaDoor
