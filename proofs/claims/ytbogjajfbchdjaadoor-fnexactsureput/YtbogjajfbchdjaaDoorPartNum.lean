/- impl.partNumber: the number of a part, if it has one. -/
import Derived.Test.YtbogjajfbchdjaaDoorPartI
set_option linter.unusedVariables false
namespace Go.Proofs.YtbogjajfbchdjaaDoor
open Go.RowKit Go.Shelf

def partOk (l : List UInt8) : Bool := (partN l).isSome
def partZ (l : List UInt8) : Int := (partN l).getD 0
theorem part_some {s : ByteArray} {m : Int} (h : partN s.data.toList = some m) : partOk s.data.toList = true ∧ partZ s.data.toList = m := by
  unfold partOk partZ; rw [h]; exact ⟨rfl, rfl⟩
theorem part_none {s : ByteArray} (h : partN s.data.toList = none) : partOk s.data.toList = false ∧ partZ s.data.toList = 0 := by
  unfold partOk partZ; rw [h]; exact ⟨rfl, rfl⟩

set_option maxHeartbeats 2000000 in
set_option maxRecDepth 100000 in
theorem partNumber (s : ByteArray) (w : World) (hs : s.size ≤ 1000000) :
    Calls Tryd.prog 51 #[.string s] w fun e w' => e = .returned (.tuple #[.int .i64 (partZ s.data.toList), .bool (partOk s.data.toList)]) ∧ ∃ n, w' = w.drewN n := by
  by_cases h0 : s.size = 0
  · have he : s = ⟨#[]⟩ := by
      have := mk_list s
      have hl : s.data.toList.length = s.size := by simp
      rw [List.length_eq_zero_iff.1 (show s.data.toList.length = 0 by omega)] at this
      exact this.symm
    subst he
    go_enter Tryd.func51, Tryd.ntmps51
    go_wp2
    go_ret2
    exact ⟨rfl, 0, rfl⟩
  · have hne1 : (s.toList == []) = false := by rw [beq_eq_false_iff_ne, ByteArray.toList_eq]; exact list_ne s h0
    have hne2 : s.toList.isEmpty = false := by rw [ByteArray.toList_eq]; exact List.isEmpty_eq_false_iff.2 (list_ne s h0)
    have hne3 : ¬ s.toList = [] := by rw [ByteArray.toList_eq]; exact list_ne s h0
    have HN : Hid (partN s.data.toList = digs (baseOf s) 0 (figsOf s).data.toList) := partN_figs s h0
    have hfl := figsOf_le s
    have HB := baseOf_is s
    have CB : Hid (∀ W, Calls Tryd.prog 57 #[.string s] W fun e w' => e = .returned (.tuple #[.int .i64 (baseOf s), .string (figsOf s)]) ∧ ∃ n, w' = W.drewN n) := fun W => partBase s W hs
    obtain ⟨base, hbe⟩ : ∃ b, b = baseOf s := ⟨_, rfl⟩
    obtain ⟨f, hfe⟩ : ∃ f, f = figsOf s := ⟨_, rfl⟩
    rw [← hbe, ← hfe] at HN CB
    rw [← hfe] at hfl
    rw [← hbe] at HB
    clear hbe hfe
    have hbl : 8 ≤ base ∧ base ≤ 16 := by omega
    have HB2 : Hid (base = 8 ∨ base = 10 ∨ base = 16) := HB
    clear HB
    go_enter Tryd.func51, Tryd.ntmps51
    go_wp2_with fail
    refine (CB.out _).mono ?_
    rintro e W1 ⟨rfl, n1, hW⟩
    subst hW
    go_wp2_with fail
    go_loop [6, 7] (fun n i => ∃ (k : Nat) (acc : Int), k ≤ f.size ∧ i = .int .i64 k ∧ n = .int .i64 acc ∧ 0 ≤ acc ∧ acc ≤ 68719476735 ∧ Hid (digs base acc (f.data.toList.drop k) = digs base 0 f.data.toList)) (fun _ i => f.size - (intOf i).toNat)
    case atStart => exact ⟨0, 0, Nat.zero_le _, rfl, rfl, by omega, by omega, rfl⟩
    case round =>
      obtain ⟨k, acc, hk, rfl, rfl, ha0, ha1, HD⟩ := hrel
      by_cases hp : k < f.size
      · have hki : (k : Int) < (f.size : Int) := by omega
        have hr := hexV_range f[k]
        rcases (show hexV f[k] < 0 ∨ (0 ≤ hexV f[k] ∧ base ≤ hexV f[k]) ∨ (0 ≤ hexV f[k] ∧ hexV f[k] < base ∧ 4294967295 < acc) ∨ (0 ≤ hexV f[k] ∧ hexV f[k] < base ∧ acc ≤ 4294967295) from by omega) with h1 | ⟨h1, h2⟩ | ⟨h1, h2, h3⟩ | ⟨h1, h2, h3⟩
        · have HF : Hid (partOk s.data.toList = false ∧ partZ s.data.toList = 0) := part_none (by rw [HN.out, ← HD.out, digs_bad base acc f k hp (by omega)])
          go_wp2_with (go_at_call 58; refine (figureValue f[k] _).mono ?_; rintro e W1 ⟨rfl, hW⟩; have hW2 := hW.symm; subst hW2)
          go_ret2
          exact ⟨by rw [HF.out.1, HF.out.2]; rfl, _, rfl⟩
        · have HF : Hid (partOk s.data.toList = false ∧ partZ s.data.toList = 0) := part_none (by rw [HN.out, ← HD.out, digs_bad base acc f k hp (by omega)])
          go_wp2_with (go_at_call 58; refine (figureValue f[k] _).mono ?_; rintro e W1 ⟨rfl, hW⟩; have hW2 := hW.symm; subst hW2)
          go_ret2
          exact ⟨by rw [HF.out.1, HF.out.2]; rfl, _, rfl⟩
        · have HF : Hid (partOk s.data.toList = false ∧ partZ s.data.toList = 0) := part_none (by rw [HN.out, ← HD.out, digs_bad base acc f k hp (by omega)])
          go_wp2_with (go_at_call 58; refine (figureValue f[k] _).mono ?_; rintro e W1 ⟨rfl, hW⟩; have hW2 := hW.symm; subst hW2)
          go_ret2
          exact ⟨by rw [HF.out.1, HF.out.2]; rfl, _, rfl⟩
        · have HD2 : Hid (digs base (acc * base + hexV f[k]) (f.data.toList.drop (k + 1)) = digs base 0 f.data.toList) := (digs_at base acc f k hp (by omega)).symm.trans HD.out
          obtain ⟨q, hq, hq0, hq1⟩ : ∃ q : Int, acc * base = q ∧ 0 ≤ q ∧ q ≤ 68719476720 := ⟨_, rfl, Int.mul_nonneg ha0 (by omega), by rcases HB2.out with e | e | e <;> rw [e] <;> omega⟩
          rw [hq] at HD2
          go_wp2_with (go_at_call 58; refine (figureValue f[k] _).mono ?_; rintro e W1 ⟨rfl, hW⟩; have hW2 := hW.symm; subst hW2)
          go_round
          case rel => exact ⟨k + 1, q + hexV f[k], by omega, by go_num, rfl, by omega, by omega, HD2⟩
          case measure => simp [intOf]; omega
      · have hkk : k = f.size := by omega
        subst hkk
        have HF : Hid (partOk s.data.toList = true ∧ partZ s.data.toList = acc) := part_some (by rw [HN.out, ← HD.out, digs_end])
        go_wp2
        go_ret2
        exact ⟨by rw [HF.out.1, HF.out.2]; rfl, _, rfl⟩
end Go.Proofs.YtbogjajfbchdjaaDoor
