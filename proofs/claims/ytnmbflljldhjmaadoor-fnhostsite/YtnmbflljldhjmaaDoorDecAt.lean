/- impl.decodeAt reads a sign with two figures at a place of a text. -/
import Derived.Test.YtnmbflljldhjmaaDoorHex
import Derived.BigQuiet
import Derived.Deep.QuietTactic
set_option linter.unusedVariables false
namespace Go.Proofs.YtnmbflljldhjmaaDoor
open Go.RowKit Go.Shelf

/-- What decodeAt answers. -/
def decB (s : ByteArray) (k : Nat) : UInt8 := if h : k + 2 < s.size then (if esc s[k] s[k + 1] s[k + 2] then hexB s[k + 1] s[k + 2] else 0) else 0

theorem decB_val (s : ByteArray) (k : Nat) (h : k + 2 < s.size) (h1 : esc s[k] s[k + 1] s[k + 2] = true) : decB s k = hexB s[k + 1] s[k + 2] := by
  simp [decB, h, h1]
theorem decB_not (s : ByteArray) (k : Nat) (h1 : escAt s k = false) : decB s k = 0 := by
  unfold escAt at h1; unfold decB
  split
  · rename_i h; rw [dif_pos h] at h1; simp [h1]
  · rfl

set_option maxHeartbeats 1000000 in
set_option maxRecDepth 100000 in
theorem decodeAt (s : ByteArray) (k : Nat) (w : World) (hs : s.size ≤ 70368744177664) (hk : k < s.size) :
    Calls Tryd.prog 38 #[.string s, .int .i64 (k : Int)] w fun e w' => e = .returned (.tuple #[.int .u8 ((decB s k).toNat : Int), .bool (escAt s k)]) ∧ ∃ n, w' = w.drewN n := by
  have hki : (k : Int) < (s.size : Int) := by omega
  by_cases hc : s[k] = 37
  · have h37 : ((s[k].toNat : Int) != 37) = false := by rw [hc]; rfl
    by_cases h2 : k + 2 < s.size
    · have h2i : (k : Int) + 2 < (s.size : Int) := by omega
      have h1i : (k : Int) + 1 < (s.size : Int) := by omega
      have h3i : ¬ ((s.size : Int) - (k : Int) < 3) := by omega
      have hw1 : IntKind.i64.wrap ((k : Int) + 1) = (k : Int) + 1 := by rw [IntKind.wrap_i64]; omega
      have hw2 : IntKind.i64.wrap ((k : Int) + 2) = (k : Int) + 2 := by rw [IntKind.wrap_i64]; omega
      have h01 : (0 : Int) ≤ (k : Int) + 1 := by omega
      have h02 : (0 : Int) ≤ (k : Int) + 2 := by omega
      have ht1 : ((k : Int) + 1).toNat = k + 1 := by omega
      have ht2 : ((k : Int) + 2).toNat = k + 2 := by omega
      have ra := hexV_range s[k + 1]
      have rb := hexV_range s[k + 2]
      have HE : Hid (escAt s k = esc s[k] s[k + 1] s[k + 2]) := escAt_of s k h2
      have HV : Hid (esc s[k] s[k + 1] s[k + 2] = true → decB s k = hexB s[k + 1] s[k + 2]) := fun h => decB_val s k h2 h
      have HC : Hid (s[k] = 37) := hc
      have HN : Hid (escAt s k = false → decB s k = 0) := decB_not s k
      clear hc
      rcases (show hexV s[k + 1] < 0 ∨ (0 ≤ hexV s[k + 1] ∧ hexV s[k + 2] < 0) ∨ (0 ≤ hexV s[k + 1] ∧ 0 ≤ hexV s[k + 2]) from by omega) with ha | ⟨ha, hb⟩ | ⟨ha, hb⟩
      · have HF : Hid (escAt s k = false) := HE.out.trans (esc_no1 _ _ _ ha)
        go_enter Tryd.func38, Tryd.ntmps38
        go_wp2
        go_quiet ((go_at_call 55; exact Calls.quiet_of_same (figureValue _ _)))
        go_wp2
        go_ret2
        exact ⟨by rw [HF.out, HN.out HF.out]; rfl, _, rfl⟩
      · have HF : Hid (escAt s k = false) := HE.out.trans (esc_no2 _ _ _ hb)
        go_enter Tryd.func38, Tryd.ntmps38
        go_wp2
        go_quiet ((go_at_call 55; exact Calls.quiet_of_same (figureValue _ _)))
        go_wp2
        go_ret2
        exact ⟨by rw [HF.out, HN.out HF.out]; rfl, _, rfl⟩
      · have HF : Hid (escAt s k = true) := HE.out.trans (esc_yes _ _ _ HC.out ha hb)
        have HB : Hid (((decB s k).toNat : Int) = 16 * hexV s[k + 1] + hexV s[k + 2]) := (congrArg (fun x : UInt8 => (x.toNat : Int)) (HV.out (HE.out.symm.trans HF.out))).trans (hexB_val _ _ ha hb)
        go_enter Tryd.func38, Tryd.ntmps38
        go_wp2
        go_quiet ((go_at_call 55; exact Calls.quiet_of_same (figureValue _ _)))
        go_wp2
        go_ret2
        exact ⟨by rw [HF.out, HB.out]; rfl, _, rfl⟩
    · have h3i : (s.size : Int) - (k : Int) < 3 := by omega
      have HF : Hid (escAt s k = false) := escAt_end s k h2
      have HN : Hid (escAt s k = false → decB s k = 0) := decB_not s k
      go_enter Tryd.func38, Tryd.ntmps38
      go_wp2
      go_ret2
      exact ⟨by rw [HF.out, HN.out HF.out]; rfl, 0, rfl⟩
  · have h37 : ((s[k].toNat : Int) != 37) = true := by
      rw [bne_iff_ne]; intro h; exact hc (UInt8.toNat_inj.1 (by have : (37 : UInt8).toNat = 37 := rfl; omega))
    have HF : Hid (escAt s k = false) := escAt_no0 s k hk hc
    have HN : Hid (escAt s k = false → decB s k = 0) := decB_not s k
    go_enter Tryd.func38, Tryd.ntmps38
    go_wp2
    go_ret2
    exact ⟨by rw [HF.out, HN.out HF.out]; rfl, 0, rfl⟩
end Go.Proofs.YtnmbflljldhjmaaDoor
