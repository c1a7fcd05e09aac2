/- impl.Decode reads a text of figures, of whatever size. -/
import Derived.Test.YtnmbflljldhjmaaDoorDecAt
import Derived.WalkSmall
set_option linter.unusedVariables false
namespace Go.Proofs.YtnmbflljldhjmaaDoor
open Go.RowKit Go.Shelf

/-- What Decode answers. -/
def decode (s : ByteArray) : List UInt8 := if s.size ≤ 600 then dec s.data.toList else []
theorem decode_small (s : ByteArray) (h : s.size ≤ 600) : decode s = dec s.data.toList := if_pos h
theorem decode_great (s : ByteArray) (h : ¬ s.size ≤ 600) : decode s = [] := if_neg h

theorem acc_esc {s : ByteArray} {k : Nat} {acc all : List UInt8} (hk : k < s.size) (h : acc ++ dec (s.data.toList.drop k) = all) (he : escAt s k = true) : (acc ++ [decB s k]) ++ dec (s.data.toList.drop (k + 3)) = all ∧ k + 3 ≤ s.size := by
  by_cases h2 : k + 2 < s.size
  · rw [escAt_of s k h2] at he
    rw [← h, dec_at_esc s k h2 he, decB_val s k h2 he]
    exact ⟨by simp, by omega⟩
  · rw [escAt_end s k h2] at he; cases he
theorem acc_not {s : ByteArray} {k : Nat} {acc all : List UInt8} (hk : k < s.size) (h : acc ++ dec (s.data.toList.drop k) = all) (he : escAt s k = false) : (acc ++ [s[k]]) ++ dec (s.data.toList.drop (k + 1)) = all := by
  rw [← h, dec_at_not s k hk he]; simp
theorem drop_end (s : ByteArray) : s.data.toList.drop s.size = [] := List.drop_of_length_le (by simp)

set_option maxHeartbeats 1000000 in
set_option maxRecDepth 100000 in
theorem implDecode (s : ByteArray) (w : World) (hs : s.size ≤ maxLen) :
    Calls Tryd.prog 21 #[.string s] w fun e w' => e = .returned (.string ⟨(decode s).toArray⟩) ∧ Below w.heap.size w w' := by
  unfold maxLen at hs
  by_cases hL : s.size ≤ 600
  · rw [decode_small s hL]
    have hLi : ¬ ((600 : Int) < (s.size : Int)) := by omega
    go_enter Tryd.func21, Tryd.ntmps21
    go_wp2
    go_loopw [4] (fun i wr => ∃ (k : Nat) (acc : List UInt8), k ≤ s.size ∧ i = .int .i64 k ∧ Lib.IsBuilderF 62 5 w.heap.size w.heap.size (Lib.byteCells acc) wr ∧ Below w.heap.size w wr ∧ acc.length ≤ k ∧ Hid (acc ++ dec (s.data.toList.drop k) = dec s.data.toList)) (fun i wr => s.size - (intOf i).toNat)
    case atStart =>
      exact ⟨0, [], Nat.zero_le _, rfl, Lib.IsBuilderF.of (Lib.fresh_isBuilder _ _ w), (Below.refl _ w).alloc (Nat.le_refl _) _, Nat.le_refl _, rfl⟩
    case round =>
      obtain ⟨k, acc, hk, rfl, hI, hbw, hal, HA⟩ := hrel
      have hsz : w.heap.size ≤ wr.heap.size := hbw.size
      by_cases hp : k < s.size
      · have hlen : (Lib.byteCells acc).length + 1 ≤ 140737488355328 := by rw [Lib.byteCells_length]; omega
        cases he : escAt s k with
        | true =>
          obtain ⟨hA2, hk3⟩ := acc_esc hp HA.out he
          have HA2 : Hid ((acc ++ [decB s k]) ++ dec (s.data.toList.drop (k + 3)) = dec s.data.toList) := hA2
          clear hA2
          go_wp2_with (first
            | (go_at_call 38; refine (decodeAt s k _ (by omega) hp).mono ?_; rintro e W1 ⟨rfl, n1, rfl⟩; rw [he])
            | (go_at_call 36; refine (writeByte_k w.heap.size w.heap.size _ _ _ (by exact hI) hlen (by exact hsz)).mono ?_; rintro e W1 ⟨rfl, g1, b1, _⟩))
          go_roundw
          case rel => exact ⟨k + 3, acc ++ [decB s k], by omega, by go_num, Or.inr (by rw [byteCells_one]; exact g1), (below_drewN hbw _).trans b1, by simp; omega, HA2⟩
          case measure => simp [intOf]; omega
        | false =>
          have HA2 : Hid ((acc ++ [s[k]]) ++ dec (s.data.toList.drop (k + 1)) = dec s.data.toList) := acc_not hp HA.out he
          go_wp2_with (first
            | (go_at_call 38; refine (decodeAt s k _ (by omega) hp).mono ?_; rintro e W1 ⟨rfl, n1, rfl⟩; rw [he])
            | (go_at_call 36; refine (writeByte_k w.heap.size w.heap.size _ _ _ (by exact hI) hlen (by exact hsz)).mono ?_; rintro e W1 ⟨rfl, g1, b1, _⟩))
          go_roundw
          case rel => exact ⟨k + 1, acc ++ [s[k]], by omega, by go_num, Or.inr (by rw [byteCells_one]; exact g1), (below_drewN hbw _).trans b1, by simp; omega, HA2⟩
          case measure => simp [intOf]; omega
      · have hkk : k = s.size := by omega
        subst hkk
        have hacc : acc = dec s.data.toList := by have := HA.out; rw [drop_end] at this; simpa [dec] using this
        subst hacc
        go_wp2_with (go_at_call 37; refine (Tryd.Builder_String_any_k w.heap.size w.heap.size _ _ hI hsz).mono ?_; rintro e W1 ⟨rfl, _, b1, _⟩)
        go_ret
        exact ⟨rfl, hbw.trans b1⟩
  · rw [decode_great s hL]
    have hLi : (600 : Int) < (s.size : Int) := by omega
    go_enter Tryd.func21, Tryd.ntmps21
    go_wp2
    go_ret
    exact ⟨rfl, Below.refl _ _⟩
end Go.Proofs.YtnmbflljldhjmaaDoor
