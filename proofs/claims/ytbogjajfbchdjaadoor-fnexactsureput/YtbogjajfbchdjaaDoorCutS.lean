/- spec.l1Cut: the pieces of a text. -/
import Derived.Test.YtbogjajfbchdjaaDoorOwnS
import Derived.Test.YtbogjajfbchdjaaDoorDecP
set_option linter.unusedVariables false
namespace Go.Proofs.YtbogjajfbchdjaaDoor
open Go.RowKit Go.Shelf

theorem ext_mk (s : ByteArray) (f k : Nat) : s.extract f k = mk ((s.data.toList.drop f).take (k - f)) := by
  apply ByteArray.ext
  apply Array.ext'
  simp [mk, ByteArray.data_extract, List.extract_eq_take_drop]

theorem cut_step (b : UInt8) (s : ByteArray) (f k : Nat) (acc all : List (List UInt8)) (hf : f ≤ k) (hk : k < s.size) (hb : s[k] = b) (hno : ∀ j (hj : j < s.size), f ≤ j → j < k → s[j] ≠ b)
    (h : acc ++ cutL b (s.data.toList.drop f) = all) : (acc ++ [(s.data.toList.drop f).take (k - f)]) ++ cutL b (s.data.toList.drop (k + 1)) = all := by
  have hl : s.data.toList.length = s.size := by simp
  have e : s.data.toList.drop f = (s.data.toList.drop f).take (k - f) ++ b :: s.data.toList.drop (k + 1) := by
    conv => lhs; rw [← List.take_append_drop (k - f) (s.data.toList.drop f)]
    rw [List.drop_drop, show f + (k - f) = k from by omega, drop_at s k hk, hb]
  rw [← h]
  conv => rhs; rw [e]
  rw [cutL_hit]
  · simp
  · intro c hc
    obtain ⟨j, hj, e⟩ := List.getElem_of_mem hc
    rw [List.length_take, List.length_drop] at hj
    rw [← e, List.getElem_take, List.getElem_drop]
    exact hno (f + j) (by omega) (by omega) (by omega)
theorem cut_end (b : UInt8) (s : ByteArray) (f : Nat) (acc all : List (List UInt8)) (hf : f ≤ s.size) (hno : ∀ j (hj : j < s.size), f ≤ j → s[j] ≠ b) (h : acc ++ cutL b (s.data.toList.drop f) = all) : acc ++ [(s.data.toList.drop f).take (s.size - f)] = all := by
  have hl : s.data.toList.length = s.size := by simp
  rw [← h, cutL_none]
  · rw [List.take_of_length_le (by rw [List.length_drop]; omega)]
  · intro c hc
    obtain ⟨j, hj, e⟩ := List.getElem_of_mem hc
    rw [List.length_drop] at hj
    rw [← e, List.getElem_drop]
    exact hno (f + j) (by omega) (by omega)

set_option maxHeartbeats 2000000 in
set_option maxRecDepth 100000 in
theorem l1Cut (s : ByteArray) (b : UInt8) (w : World) (hs : s.size ≤ 1048576) :
    Calls Tryd.prog 39 #[.string s, .int .u8 (b.toNat : Int)] w fun e w' => ∃ v, e = .returned v ∧ OwnS w.heap.size v (cutL b s.data.toList) w' ∧ Below w.heap.size w w' := by
  go_enter Tryd.func39, Tryd.ntmps39
  go_wp2
  go_loopw [5, 6, 7] (fun v fr i wr => ∃ (f k : Nat) (acc : List (List UInt8)), f ≤ k ∧ k ≤ s.size ∧ i = .int .i64 k ∧ fr = .int .i64 f ∧ acc.length ≤ f ∧ OwnS w.heap.size v acc wr ∧ Below w.heap.size w wr ∧ Hid (acc ++ cutL b (s.data.toList.drop f) = cutL b s.data.toList) ∧ Hid (∀ j (hj : j < s.size), f ≤ j → j < k → s[j] ≠ b)) (fun _ _ i wr => s.size - (intOf i).toNat)
  case atStart => exact ⟨0, 0, [], Nat.le_refl _, Nat.zero_le _, rfl, rfl, Nat.le_refl _, ownS_new w _ (Nat.le_refl _), (Below.refl _ w).alloc (Nat.le_refl _) _, rfl, fun j hj h1 h2 => absurd h2 (by omega)⟩
  case round =>
    obtain ⟨f, k, acc, hfk, hk, rfl, rfl, hal, hI, hbw, HA, HN⟩ := hrel
    have hsz : w.heap.size ≤ wr.heap.size := hbw.size
    have hfi : (f : Int) ≤ (k : Int) := by omega
    by_cases hp : k < s.size
    · have hki : (k : Int) < (s.size : Int) := by omega
      by_cases hc : s[k] = b
      · have HA2 : Hid ((acc ++ [(s.data.toList.drop f).take (k - f)]) ++ cutL b (s.data.toList.drop (k + 1)) = cutL b s.data.toList) := cut_step b s f k acc _ hfk hp hc HN.out HA.out
        have e1 : ((s[k].toNat : Int) == (b.toNat : Int)) = true := by rw [hc]; simp
        have HM := ext_mk s f k
        have HM2 : Hid (s.extract f k = mk ((s.data.toList.drop f).take (k - f))) := HM
        clear HM hc
        go_wp2_with (at_builtin; refine wpAppendStr wr rfl _ _ rfl w.heap.size _ _ ((s.data.toList.drop f).take (k - f)) _ HM2.out hI rfl rfl (by omega) hsz ?_; intro v1 w1 R b1)
        go_roundw
        case rel => exact ⟨k + 1, k + 1, _, Nat.le_refl _, by omega, by go_num, by go_num, by simp; omega, R, hbw.trans b1, HA2, fun j hj h1 h2 => absurd h2 (by omega)⟩
        case measure => simp [intOf]; omega
      · have e1 : ((s[k].toNat : Int) == (b.toNat : Int)) = false := by
          rw [beq_eq_false_iff_ne]; intro h; exact hc (UInt8.toNat_inj.1 (by omega))
        have HN2 : Hid (∀ j (hj : j < s.size), f ≤ j → j < k + 1 → s[j] ≠ b) := by
          intro j hj h1 h2
          by_cases hjk : j = k
          · subst hjk; exact hc
          · exact HN.out j hj h1 (by omega)
        clear hc
        go_wp2
        go_roundw
        case rel => exact ⟨f, k + 1, acc, by omega, by omega, by go_num, rfl, hal, hI, hbw, HA, HN2⟩
        case measure => simp [intOf]; omega
    · have hkk : k = s.size := by omega
      subst hkk
      have HA2 : Hid (acc ++ [(s.data.toList.drop f).take (s.size - f)] = cutL b s.data.toList) := cut_end b s f acc _ hfk (fun j hj h1 => HN.out j hj h1 hj) HA.out
      have HM2 : Hid (s.extract f s.size = mk ((s.data.toList.drop f).take (s.size - f))) := ext_mk s f s.size
      go_wp2_with (at_builtin; refine wpAppendStr wr rfl _ _ rfl w.heap.size _ _ ((s.data.toList.drop f).take (s.size - f)) _ HM2.out hI rfl rfl (by omega) hsz ?_; intro v1 w1 R b1)
      go_ret
      exact ⟨_, rfl, by rw [← HA2.out]; exact R, hbw.trans b1⟩
end Go.Proofs.YtbogjajfbchdjaaDoor
