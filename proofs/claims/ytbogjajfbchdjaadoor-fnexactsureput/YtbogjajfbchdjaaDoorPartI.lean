/- impl.isHex, partBase and partNumber: the number of a part. -/
import Derived.Test.YtbogjajfbchdjaaDoorPartL
import Derived.BigQuiet
import Derived.Deep.QuietTactic
import Derived.WalkSmall
set_option linter.unusedVariables false
namespace Go.Proofs.YtbogjajfbchdjaaDoor
open Go.RowKit Go.Shelf

theorem hexA_pref (l : List UInt8) : (Lib.hasPrefix l [48, 120] || Lib.hasPrefix l [48, 88]) = hexA l := by
  unfold Lib.hasPrefix hexA
  match l with
  | [] => rfl
  | [a] => simp [List.isPrefixOf]
  | a :: b :: r =>
    simp only [List.isPrefixOf, Bool.and_true]
    by_cases h : a = 48
    · subst h
      by_cases h1 : b = 120
      · subst h1; simp
      · by_cases h2 : b = 88
        · subst h2; simp
        · have e1 : (b == 120) = false := beq_eq_false_iff_ne.2 h1
          have e2 : (b == 88) = false := beq_eq_false_iff_ne.2 h2
          have e3 : ((120 : UInt8) == b) = false := beq_eq_false_iff_ne.2 (fun e => h1 e.symm)
          have e4 : ((88 : UInt8) == b) = false := beq_eq_false_iff_ne.2 (fun e => h2 e.symm)
          rw [e1, e2, e3, e4]; simp
    · have e1 : (a == 48) = false := beq_eq_false_iff_ne.2 h
      have e2 : ((48 : UInt8) == a) = false := beq_eq_false_iff_ne.2 (fun e => h e.symm)
      rw [e1, e2]; simp

set_option maxHeartbeats 1000000 in
theorem isHex (s : ByteArray) (w : World) : Calls Tryd.prog 50 #[.string s] w fun e w' => e = .returned (.bool (hexA s.data.toList)) ∧ w' = w := by
  obtain ⟨b1, h1⟩ : ∃ b, b = Lib.hasPrefix s.data.toList [48, 120] := ⟨_, rfl⟩
  obtain ⟨b2, h2⟩ : ∃ b, b = Lib.hasPrefix s.data.toList [48, 88] := ⟨_, rfl⟩
  have D1 : Hid (∀ W, Calls Tryd.prog 56 #[.string s, .string ⟨#[48, 120]⟩] W fun e w' => e = .returned (.bool b1) ∧ w' = W) := fun W => by rw [h1]; exact Tryd.strings_HasPrefix s ⟨#[48, 120]⟩ W
  have D2 : Hid (∀ W, Calls Tryd.prog 56 #[.string s, .string ⟨#[48, 88]⟩] W fun e w' => e = .returned (.bool b2) ∧ w' = W) := fun W => by rw [h2]; exact Tryd.strings_HasPrefix s ⟨#[48, 88]⟩ W
  have HX : Hid (hexA s.data.toList = (b1 || b2)) := by rw [h1, h2]; exact (hexA_pref _).symm
  clear h1 h2
  cases b1
  · go_enter Tryd.func50, Tryd.ntmps50
    go_wp2_with fail
    refine (D1.out _).mono ?_
    rintro e W1 ⟨rfl, hW⟩
    have hW2 := hW.symm
    subst hW2
    go_wp2_with fail
    refine (D2.out _).mono ?_
    rintro e W1 ⟨rfl, hW⟩
    have hW2 := hW.symm
    subst hW2
    go_wp2
    go_ret
    exact ⟨ret_bool (by rw [HX.out]; rfl), rfl⟩
  · go_enter Tryd.func50, Tryd.ntmps50
    go_wp2_with fail
    refine (D1.out _).mono ?_
    rintro e W1 ⟨rfl, hW⟩
    have hW2 := hW.symm
    subst hW2
    go_wp2
    go_ret
    exact ⟨ret_bool (by rw [HX.out]; rfl), rfl⟩

def baseOf (s : ByteArray) : Int := if hexA s.data.toList then 16 else if octA s.data.toList then 8 else 10
def figsOf (s : ByteArray) : ByteArray := if hexA s.data.toList then s.extract 2 s.size else s
theorem baseOf_is (s : ByteArray) : baseOf s = 8 ∨ baseOf s = 10 ∨ baseOf s = 16 := by
  unfold baseOf; split
  · omega
  · split <;> omega
theorem figsOf_le (s : ByteArray) : (figsOf s).size ≤ s.size := by
  unfold figsOf; split
  · exact ext_le s 2
  · exact Nat.le_refl _
theorem partN_figs (s : ByteArray) (h : s.size ≠ 0) : partN s.data.toList = digs (baseOf s) 0 (figsOf s).data.toList := by
  unfold partN baseOf figsOf
  rw [if_neg (list_ne s h)]
  split
  · rw [ext_drop]
  · split <;> rfl
theorem hexA_two (s : ByteArray) (h : hexA s.data.toList = true) : 2 ≤ s.size := by
  rcases Nat.lt_or_ge s.size 2 with h' | h'
  · rw [hexA_short s h'] at h; cases h
  · exact h'
theorem octA_two (s : ByteArray) (h : octA s.data.toList = true) : 2 ≤ s.size := by
  rcases Nat.lt_or_ge s.size 2 with h' | h'
  · rw [octA_short s h'] at h; cases h
  · exact h'
theorem octA_is (s : ByteArray) (h : 2 ≤ s.size) : octA s.data.toList = (s[0] == 48) := by
  rw [two_ahead s h]; rfl

set_option maxHeartbeats 1000000 in
set_option maxRecDepth 100000 in
theorem partBase (s : ByteArray) (w : World) (hs : s.size ≤ 1000000) :
    Calls Tryd.prog 57 #[.string s] w fun e w' => e = .returned (.tuple #[.int .i64 (baseOf s), .string (figsOf s)]) ∧ ∃ n, w' = w.drewN n := by
  cases hx : hexA s.data.toList with
  | true =>
    have h2 := hexA_two s hx
    have h2i : (2 : Int) ≤ (s.size : Int) := by omega
    have HB : Hid (baseOf s = 16) := by unfold baseOf; rw [if_pos hx]; rfl
    have HF : Hid (figsOf s = s.extract 2 s.size) := by unfold figsOf; rw [if_pos hx]; rfl
    go_enter Tryd.func57, Tryd.ntmps57
    go_wp2_with (go_at_call 50; refine (isHex s _).mono ?_; rintro e W1 ⟨rfl, hW⟩; have hW2 := hW.symm; subst hW2; rw [hx])
    go_quiet (fail)
    go_wp2
    go_ret2
    exact ⟨by rw [HB.out, HF.out]; rfl, _, rfl⟩
  | false =>
    have HF : Hid (figsOf s = s) := by unfold figsOf; rw [hx]; rfl
    by_cases h2 : 2 ≤ s.size
    · have h2i : (2 : Int) ≤ (s.size : Int) := by omega
      by_cases hz : s[0] = 48
      · have HB : Hid (baseOf s = 8) := by unfold baseOf; rw [hx, octA_is s h2, hz]; rfl
        have e0 : ((s[0].toNat : Int) == 48) = true := u8_beq _ 48 (by omega) hz
        clear hz
        go_enter Tryd.func57, Tryd.ntmps57
        go_wp2_with (go_at_call 50; refine (isHex s _).mono ?_; rintro e W1 ⟨rfl, hW⟩; have hW2 := hW.symm; subst hW2; rw [hx])
        go_ret2
        exact ⟨by rw [HB.out, HF.out]; rfl, 0, rfl⟩
      · have HB : Hid (baseOf s = 10) := by unfold baseOf; rw [hx, octA_is s h2, beq_eq_false_iff_ne.2 hz]; rfl
        have e0 : ((s[0].toNat : Int) == 48) = false := u8_bne _ 48 (by omega) hz
        clear hz
        go_enter Tryd.func57, Tryd.ntmps57
        go_wp2_with (go_at_call 50; refine (isHex s _).mono ?_; rintro e W1 ⟨rfl, hW⟩; have hW2 := hW.symm; subst hW2; rw [hx])
        go_ret2
        exact ⟨by rw [HB.out, HF.out]; rfl, 0, rfl⟩
    · have h2i : (s.size : Int) < 2 := by omega
      have HB : Hid (baseOf s = 10) := by unfold baseOf; rw [hx, octA_short s (by omega)]; rfl
      go_enter Tryd.func57, Tryd.ntmps57
      go_wp2_with (go_at_call 50; refine (isHex s _).mono ?_; rintro e W1 ⟨rfl, hW⟩; have hW2 := hW.symm; subst hW2; rw [hx])
      go_ret2
      exact ⟨by rw [HB.out, HF.out]; rfl, 0, rfl⟩
end Go.Proofs.YtbogjajfbchdjaaDoor
