/- The law FnLower answers true, whatever the code. -/
import Derived.Test.YtdmfmiophpdnaaaDrLower
import Derived.Test.YtdmfmiophpdnaaaLowS
import Derived.BigQuiet
import Derived.Deep.QuietTactic
set_option linter.unusedVariables false
namespace Go.Proofs.Ytdmfmiophpdnaaa
open Go.RowKit Go.Shelf

theorem lowB_lowB (c : UInt8) : lowB (lowB c) = lowB c := by
  by_cases h : 65 ≤ c.toNat ∧ c.toNat ≤ 90
  · have h1 := lowB_cap c (by omega) (by omega)
    exact lowB_not _ (by omega)
  · rw [lowB_not c (by omega)]; exact lowB_not c (by omega)
theorem low_low (l : List UInt8) : low (low l) = low l := by
  simp only [low, List.map_map]
  exact List.map_congr_left (fun c _ => lowB_lowB c)

/-- What a small letter is: no capital one; the byte, or 32 more. -/
theorem lowB_is (c : UInt8) : (((lowB c).toNat : Int) < 65 ∨ (90 : Int) < ((lowB c).toNat : Int)) ∧ (((lowB c).toNat : Int) = (c.toNat : Int) ∨ (((lowB c).toNat : Int) = (c.toNat : Int) + 32 ∧ (c.toNat : Int) ≤ 90)) := by
  by_cases h : (65 : Int) ≤ (c.toNat : Int) ∧ (c.toNat : Int) ≤ 90
  · have h1 := lowB_cap c h.1 h.2
    omega
  · rw [lowB_not c h]; omega

set_option maxHeartbeats 2000000 in
set_option maxRecDepth 100000 in
theorem fnLower_walk (w : World) (a : Option Addr) (len cap : Nat) (zs : List Int) (h : IsRow .u8 w a len cap zs) :
    Calls Try.prog 5 #[.slice a len cap] w fun e w' => e = .returned (.bool true) ∧ Below w.heap.size w w' := by
  have hC := code_of_row h
  by_cases h1 : (1048576 : Int) < (len : Int)
  · go_enter Try.func5, Try.ntmps5
    go_wp2
    go_ret
    exact ⟨rfl, Below.refl _ _⟩
  · have h1' : (len : Int) ≤ 1048576 := by omega
    clear h1 h
    go_enter Try.func5, Try.ntmps5
    go_wp2_with fail
    refine (drawLower w.heap.size a len cap _ (Nat.le_refl _) hC).mono ?_
    rintro e w1 ⟨s, rfl, hs, b1⟩
    clear hC
    obtain ⟨x, hx⟩ : ∃ x : ByteArray, x = ⟨(low s.data.toList).toArray⟩ := ⟨_, rfl⟩
    have hxs : x.size = s.size := by rw [hx]; show (low s.data.toList).toArray.size = _; simp [low_length]
    have hxx : ⟨(low x.data.toList).toArray⟩ = x := by rw [hx]; simp [low_low]
    have HX : Hid (∀ k (h : k < s.size) (h' : k < x.size), x[k] = lowB s[k]) := by
      intro k h h'
      subst hx
      show (low s.data.toList).toArray[k]'_ = _
      simp [low]; rfl
    have C1 : Hid (∀ W, Calls Try.prog 16 #[.string s] W fun e w' => e = .returned (.string x) ∧ Below W.heap.size W w') := fun W => by rw [hx]; exact implLower s W (by omega)
    have C2 : Hid (∀ W, Calls Try.prog 17 #[.string s] W fun e w' => e = .returned (.string x) ∧ Below W.heap.size W w') := fun W => by rw [hx]; exact specLower s W (by omega)
    have C3 : Hid (∀ W, Calls Try.prog 16 #[.string x] W fun e w' => e = .returned (.string x) ∧ Below W.heap.size W w') := fun W => by
      have := implLower x W (by omega); rw [hxx] at this; exact this
    clear hx hxx
    go_wp2_with fail
    refine (C1.out _).mono ?_
    rintro e w2 ⟨rfl, b2⟩
    go_wp2_with fail
    refine (C2.out _).mono ?_
    rintro e w3 ⟨rfl, b3⟩
    go_wp2_with fail
    refine (C3.out _).mono ?_
    rintro e w4 ⟨rfl, b4⟩
    go_wp2_with fail
    have bb : Below w.heap.size w w4 := (b1.trans (b2.mono b1.size)).trans ((b3.mono (Nat.le_trans b1.size b2.size)).trans (b4.mono (Nat.le_trans b1.size (Nat.le_trans b2.size b3.size))))
    clear C1 C2 C3 b1 b2 b3 b4
    go_loopw [5] (fun i wr => ∃ k : Nat, k ≤ s.size ∧ i = .int .i64 k ∧ Below w.heap.size w wr) (fun i wr => s.size - (intOf i).toNat)
    case atStart => exact ⟨0, Nat.zero_le _, rfl, bb⟩
    case round =>
      obtain ⟨k, hk, rfl, hb⟩ := hrel
      by_cases hp : k < s.size
      · have hpx : k < x.size := by omega
        have hki : (k : Int) < (s.size : Int) := by omega
        obtain ⟨hA, hB⟩ := lowB_is s[k]
        rw [← HX.out k hp hpx] at hA hB
        have hxb := u8_lt x[k]
        have hsb := u8_lt s[k]
        rcases hB with hB | ⟨hB, hB2⟩
        · have e1 : ((x[k].toNat : Int) != (s[k].toNat : Int)) = false := by rw [hB]; simp
          clear hB
          rcases hA with hA | hA
          · have d1 : decide ((65 : Int) ≤ (x[k].toNat : Int)) = false := by simp; omega
            go_wp2
            go_quiet (fail)
            go_wp2
            go_roundw
            case rel => exact ⟨k + 1, by omega, by go_num, below_drewN hb _⟩
            case measure => simp [intOf]; omega
          · have d1 : (65 : Int) ≤ (x[k].toNat : Int) := by omega
            have d2 : decide ((x[k].toNat : Int) ≤ 90) = false := by simp; omega
            go_wp2
            go_quiet (fail)
            go_wp2
            go_roundw
            case rel => exact ⟨k + 1, by omega, by go_num, below_drewN hb _⟩
            case measure => simp [intOf]; omega
        · have e1 : ((x[k].toNat : Int) != (s[k].toNat : Int)) = true := by rw [bne_iff_ne]; omega
          have e2 : ((x[k].toNat : Int) != (s[k].toNat : Int) + 32) = false := by rw [hB]; simp
          have hw : IntKind.u8.wrap ((s[k].toNat : Int) + 32) = (s[k].toNat : Int) + 32 := by rw [IntKind.wrap_u8]; omega
          clear hB
          rcases hA with hA | hA
          · have d1 : decide ((65 : Int) ≤ (x[k].toNat : Int)) = false := by simp; omega
            go_wp2
            go_quiet (fail)
            go_wp2
            go_roundw
            case rel => exact ⟨k + 1, by omega, by go_num, below_drewN hb _⟩
            case measure => simp [intOf]; omega
          · have d1 : (65 : Int) ≤ (x[k].toNat : Int) := by omega
            have d2 : decide ((x[k].toNat : Int) ≤ 90) = false := by simp; omega
            go_wp2
            go_quiet (fail)
            go_wp2
            go_roundw
            case rel => exact ⟨k + 1, by omega, by go_num, below_drewN hb _⟩
            case measure => simp [intOf]; omega
      · have hkk : ¬ ((k : Int) < (s.size : Int)) := by omega
        go_wp2
        go_ret
        exact ⟨rfl, hb⟩
end Go.Proofs.Ytdmfmiophpdnaaa
