/- impl.Lower and spec.Lower each give the text with small letters, of at most 2^46 bytes. -/
import Derived.Test.YtnmbflljldhjmaaDoorBld
import Derived.Test.YtnmbflljldhjmaaDoorPlain
set_option linter.unusedVariables false
namespace Go.Proofs.YtnmbflljldhjmaaDoor
open Go.RowKit Go.Shelf

theorem low_cells (s : ByteArray) (k : Nat) (h : k < s.size) : Lib.byteCells (low (s.data.toList.take (k + 1))) = Lib.byteCells (low (s.data.toList.take k)) ++ [.int .u8 ((lowB s[k]).toNat : Int)] := by
  rw [take_snoc s k h, low_snoc, Lib.byteCells_append]; rfl

set_option maxHeartbeats 1000000 in
set_option maxRecDepth 100000 in
theorem implLower (s : ByteArray) (w : World) (hs : s.size ≤ 70368744177664) :
    Calls Tryd.prog 20 #[.string s] w fun e w' => e = .returned (.string ⟨(low s.data.toList).toArray⟩) ∧ Below w.heap.size w w' := by
  go_enter Tryd.func20, Tryd.ntmps20
  go_wp2
  go_loopw [4] (fun i wr => ∃ k : Nat, k ≤ s.size ∧ i = .int .i64 k ∧ Lib.IsBuilderF 62 5 w.heap.size w.heap.size (Lib.byteCells (low (s.data.toList.take k))) wr ∧ Below w.heap.size w wr) (fun i wr => s.size - (intOf i).toNat)
  case atStart =>
    refine ⟨0, Nat.zero_le _, rfl, Lib.IsBuilderF.of (Lib.fresh_isBuilder _ _ w), (Below.refl _ w).alloc (Nat.le_refl _) _⟩
  case round =>
    obtain ⟨k, hk, rfl, hI, hbw⟩ := hrel
    have hsz : w.heap.size ≤ wr.heap.size := hbw.size
    by_cases hp : k < s.size
    · have hb := u8_lt s[k]
      have hlen : (Lib.byteCells (low (s.data.toList.take k))).length + 1 ≤ 140737488355328 := by
        rw [Lib.byteCells_length, low_length]; have := List.length_take_le k s.data.toList; omega
      by_cases h1 : (65 : Int) ≤ (s[k].toNat : Int) ∧ (s[k].toNat : Int) ≤ 90
      · obtain ⟨h1, h2⟩ := h1
        have HC : Hid (((lowB s[k]).toNat : Int) = (s[k].toNat : Int) + 32) := lowB_cap s[k] h1 h2
        go_wp2_with (go_at_call 36; refine (writeByte_k w.heap.size w.heap.size _ _ _ hI hlen hsz).mono ?_; rintro e W1 ⟨rfl, g1, b1, _⟩)
        go_roundw
        case rel => exact ⟨k + 1, by omega, by go_num, Or.inr (by rw [low_cells s k hp, HC.out]; exact g1), hbw.trans b1⟩
        case measure => simp [intOf]; omega
      · have HC : Hid (lowB s[k] = s[k]) := lowB_not s[k] h1
        rcases (show (s[k].toNat : Int) < 65 ∨ ((65 : Int) ≤ (s[k].toNat : Int) ∧ 90 < (s[k].toNat : Int)) from by omega) with h2 | ⟨h2, h3⟩
        all_goals
          clear h1
          go_wp2_with (go_at_call 36; refine (writeByte_k w.heap.size w.heap.size _ _ _ hI hlen hsz).mono ?_; rintro e W1 ⟨rfl, g1, b1, _⟩)
          go_roundw
          case rel => exact ⟨k + 1, by omega, by go_num, Or.inr (by rw [low_cells s k hp, HC.out]; exact g1), hbw.trans b1⟩
          case measure => simp [intOf]; omega
    · have hkk : k = s.size := by omega
      subst hkk
      rw [List.take_of_length_le (by simp)] at hI
      go_wp2_with (go_at_call 37; refine (Tryd.Builder_String_any_k w.heap.size w.heap.size _ _ hI hsz).mono ?_; rintro e W1 ⟨rfl, _, b1, _⟩)
      go_ret
      exact ⟨rfl, hbw.trans b1⟩
end Go.Proofs.YtnmbflljldhjmaaDoor
