/- impl.formEncode: a piece of a query, written. -/
import Derived.Test.YtjjpbkoglnimaaaDoorFormPP
import Derived.Test.YtjjpbkoglnimaaaDoorPairO
set_option linter.unusedVariables false
namespace Go.Proofs.YtjjpbkoglnimaaaDoor
open Go.RowKit Go.Shelf

def signT : ByteArray := ⟨#[42, 45, 46, 95, 32]⟩
theorem sign_has (c : UInt8) : hasB [42, 45, 46, 95, 32] c = decide (c.toNat = 42 ∨ c.toNat = 45 ∨ c.toNat = 46 ∨ c.toNat = 95 ∨ c.toNat = 32) := by
  have e : ∀ k : UInt8, (c == k) = decide (c.toNat = k.toNat) := by
    intro k; rw [Bool.eq_iff_iff]; simp [UInt8.toNat_inj]
  simp only [hasB, List.contains_cons, List.contains_nil, Bool.or_false, e]
  rw [Bool.eq_iff_iff]; simp

set_option maxHeartbeats 2000000 in
set_option maxRecDepth 100000 in
theorem formHas (c : UInt8) (w : World) :
    Calls Tryd.prog 40 #[.int .u8 (c.toNat : Int)] w fun e w' => e = .returned (.bool (formIn c)) ∧ w' = w := by
  have hb := u8_lt c
  obtain ⟨x, hx⟩ : ∃ x : Int, x = (c.toNat : Int) := ⟨_, rfl⟩
  have CI : Hid (∀ W, Calls Tryd.prog 43 #[.string ⟨#[42, 45, 46, 95, 32]⟩, .int .u8 x] W fun e w' => e = .returned (.int .i64 (Lib.indexByte [42, 45, 46, 95, 32] c)) ∧ w' = W) := fun W => by
    have := Tryd.strings_IndexByte ⟨#[42, 45, 46, 95, 32]⟩ (c.toNat : Int) W
    rw [u8_back] at this; rw [hx]; exact this
  have HX : Hid (decide (0 ≤ Lib.indexByte [42, 45, 46, 95, 32] c) = decide (x = 42 ∨ x = 45 ∨ x = 46 ∨ x = 95 ∨ x = 32)) := by
    show _ = _
    rw [index_hasB, sign_has, decide_eq_decide]; omega
  have HF : Hid (formIn c = decide (¬ ((97 ≤ x ∧ x ≤ 122) ∨ (65 ≤ x ∧ x ≤ 90) ∨ (48 ≤ x ∧ x ≤ 57) ∨ x = 42 ∨ x = 45 ∨ x = 46 ∨ x = 95 ∨ x = 32))) := by
    show _ = _
    unfold formIn okB
    rw [Bool.eq_iff_iff]
    simp only [Bool.not_eq_true', Bool.or_eq_false_iff, decide_eq_false_iff_not, decide_eq_true_eq]
    omega
  rw [← hx] at hb ⊢
  obtain ⟨n, hn⟩ : ∃ n, n = Lib.indexByte [42, 45, 46, 95, 32] c := ⟨_, rfl⟩
  rw [← hn] at CI HX
  clear hn hx
  obtain ⟨hb0, hb1⟩ := hb
  rcases byte_kinds x hb0 hb1 with hk | hk | hk | hk | hk | ⟨h1, h2⟩ | ⟨h1, h2⟩ | ⟨h1, h2⟩ | ⟨h1, h2, h3, h4, h5, hr⟩
  · subst hk
    have HI : Hid (formIn c = false) := by show _ = _; rw [HF.out]; decide
    have hn : ¬ n < 0 := by have := HX.out; simp at this; omega
    go_enter Tryd.func40, Tryd.ntmps40
    go_wp2_with (first | (go_at_call 43; refine (CI.out _).mono ?_; rintro e W1 ⟨rfl, hW⟩; have hW2 := hW.symm; subst hW2) | go_in)
    go_ret
    exact ⟨by rw [HI.out]; first | rfl | (simp; done) | (simp; omega) | (simp [hn]; done) | (simp [hn]; omega), rfl⟩
  · subst hk
    have HI : Hid (formIn c = false) := by show _ = _; rw [HF.out]; decide
    have hn : ¬ n < 0 := by have := HX.out; simp at this; omega
    go_enter Tryd.func40, Tryd.ntmps40
    go_wp2_with (first | (go_at_call 43; refine (CI.out _).mono ?_; rintro e W1 ⟨rfl, hW⟩; have hW2 := hW.symm; subst hW2) | go_in)
    go_ret
    exact ⟨by rw [HI.out]; first | rfl | (simp; done) | (simp; omega) | (simp [hn]; done) | (simp [hn]; omega), rfl⟩
  · subst hk
    have HI : Hid (formIn c = false) := by show _ = _; rw [HF.out]; decide
    have hn : ¬ n < 0 := by have := HX.out; simp at this; omega
    go_enter Tryd.func40, Tryd.ntmps40
    go_wp2_with (first | (go_at_call 43; refine (CI.out _).mono ?_; rintro e W1 ⟨rfl, hW⟩; have hW2 := hW.symm; subst hW2) | go_in)
    go_ret
    exact ⟨by rw [HI.out]; first | rfl | (simp; done) | (simp; omega) | (simp [hn]; done) | (simp [hn]; omega), rfl⟩
  · subst hk
    have HI : Hid (formIn c = false) := by show _ = _; rw [HF.out]; decide
    have hn : ¬ n < 0 := by have := HX.out; simp at this; omega
    go_enter Tryd.func40, Tryd.ntmps40
    go_wp2_with (first | (go_at_call 43; refine (CI.out _).mono ?_; rintro e W1 ⟨rfl, hW⟩; have hW2 := hW.symm; subst hW2) | go_in)
    go_ret
    exact ⟨by rw [HI.out]; first | rfl | (simp; done) | (simp; omega) | (simp [hn]; done) | (simp [hn]; omega), rfl⟩
  · subst hk
    have HI : Hid (formIn c = false) := by show _ = _; rw [HF.out]; decide
    have hn : ¬ n < 0 := by have := HX.out; simp at this; omega
    go_enter Tryd.func40, Tryd.ntmps40
    go_wp2_with (first | (go_at_call 43; refine (CI.out _).mono ?_; rintro e W1 ⟨rfl, hW⟩; have hW2 := hW.symm; subst hW2) | go_in)
    go_ret
    exact ⟨by rw [HI.out]; first | rfl | (simp; done) | (simp; omega) | (simp [hn]; done) | (simp [hn]; omega), rfl⟩
  · have HI : Hid (formIn c = false) := by show _ = _; rw [HF.out]; simp; omega
    go_enter Tryd.func40, Tryd.ntmps40
    go_wp2_with (first | (go_at_call 43; refine (CI.out _).mono ?_; rintro e W1 ⟨rfl, hW⟩; have hW2 := hW.symm; subst hW2) | go_in)
    go_ret
    exact ⟨by rw [HI.out]; rfl, rfl⟩
  · have HI : Hid (formIn c = false) := by show _ = _; rw [HF.out]; simp; omega
    have a1 : x < 97 := by omega
    go_enter Tryd.func40, Tryd.ntmps40
    go_wp2_with (first | (go_at_call 43; refine (CI.out _).mono ?_; rintro e W1 ⟨rfl, hW⟩; have hW2 := hW.symm; subst hW2) | go_in)
    go_ret
    exact ⟨by rw [HI.out]; rfl, rfl⟩
  · have HI : Hid (formIn c = false) := by show _ = _; rw [HF.out]; simp; omega
    have a1 : x < 97 := by omega
    have a2 : x < 65 := by omega
    go_enter Tryd.func40, Tryd.ntmps40
    go_wp2_with (first | (go_at_call 43; refine (CI.out _).mono ?_; rintro e W1 ⟨rfl, hW⟩; have hW2 := hW.symm; subst hW2) | go_in)
    go_ret
    exact ⟨by rw [HI.out]; rfl, rfl⟩
  · have HI : Hid (formIn c = true) := by show _ = _; rw [HF.out]; simp; omega
    have hn : n < 0 := by
      have := HX.out
      rw [decide_eq_decide] at this
      have h0 : ¬ (0 ≤ n) := by rw [this]; omega
      omega
    have d1 : (65 : Int) ≤ x ∨ x < 65 := by omega
    have d2 : (97 : Int) ≤ x ∨ x < 97 := by omega
    have d3 : (48 : Int) ≤ x ∨ x < 48 := by omega
    rcases hr with hr | ⟨h6, h7⟩ | ⟨h6, h7⟩ | hr
    · have a1 : x < 97 := by omega
      have a2 : x < 65 := by omega
      go_enter Tryd.func40, Tryd.ntmps40
      go_wp2_with (first | (go_at_call 43; refine (CI.out _).mono ?_; rintro e W1 ⟨rfl, hW⟩; have hW2 := hW.symm; subst hW2) | go_in)
      go_ret
      exact ⟨by rw [HI.out]; first | rfl | (simp; done) | (simp; omega) | (simp [hn]; done) | (simp [hn]; omega), rfl⟩
    · have a1 : x < 97 := by omega
      have a2 : x < 65 := by omega
      have a3 : (48 : Int) ≤ x := by omega
      go_enter Tryd.func40, Tryd.ntmps40
      go_wp2_with (first | (go_at_call 43; refine (CI.out _).mono ?_; rintro e W1 ⟨rfl, hW⟩; have hW2 := hW.symm; subst hW2) | go_in)
      go_ret
      exact ⟨by rw [HI.out]; first | rfl | (simp; done) | (simp; omega) | (simp [hn]; done) | (simp [hn]; omega), rfl⟩
    · have a1 : (65 : Int) ≤ x := by omega
      have a2 : (48 : Int) ≤ x := by omega
      have a3 : (57 : Int) < x := by omega
      go_enter Tryd.func40, Tryd.ntmps40
      go_wp2_with (first | (go_at_call 43; refine (CI.out _).mono ?_; rintro e W1 ⟨rfl, hW⟩; have hW2 := hW.symm; subst hW2) | go_in)
      go_ret
      exact ⟨by rw [HI.out]; first | rfl | (simp; done) | (simp; omega) | (simp [hn]; done) | (simp [hn]; omega), rfl⟩
    · have a0 : (97 : Int) ≤ x := by omega
      have a1 : (65 : Int) ≤ x := by omega
      have a4 : (90 : Int) < x := by omega
      have a2 : (48 : Int) ≤ x := by omega
      have a3 : (57 : Int) < x := by omega
      go_enter Tryd.func40, Tryd.ntmps40
      go_wp2_with (first | (go_at_call 43; refine (CI.out _).mono ?_; rintro e W1 ⟨rfl, hW⟩; have hW2 := hW.symm; subst hW2) | go_in)
      go_ret
      exact ⟨by rw [HI.out]; first | rfl | (simp; done) | (simp; omega) | (simp [hn]; done) | (simp [hn]; omega), rfl⟩
end Go.Proofs.YtjjpbkoglnimaaaDoor
