/- impl.formEncode: a piece of a query, written. -/
import Derived.Test.YtjjpbkoglnimaaaDoorFormPI
import Derived.Test.YtjjpbkoglnimaaaDoorBldS
set_option linter.unusedVariables false
namespace Go.Proofs.YtjjpbkoglnimaaaDoor
open Go.RowKit Go.Shelf

set_option maxHeartbeats 2000000 in
set_option maxRecDepth 100000 in
theorem encodeByF (s : ByteArray) (w : World) (hs : s.size ≤ 2000000) :
    Calls Tryd.prog 45 #[.func (.func 40) #[] #[], .string s] w fun e w' => e = .returned (.string ⟨(enc (formIn) s.data.toList).toArray⟩) ∧ Below w.heap.size w w' := by
  go_enter Tryd.func45, Tryd.ntmps45
  go_wp2
  go_loopw [6] (fun i wr => ∃ k : Nat, k ≤ s.size ∧ i = .int .i64 k ∧ Lib.IsBuilderF 44 5 w.heap.size w.heap.size (Lib.byteCells (enc (formIn) (s.data.toList.take k))) wr ∧ Below w.heap.size w wr) (fun i wr => s.size - (intOf i).toNat)
  case atStart => exact ⟨0, Nat.zero_le _, rfl, Lib.IsBuilderF.of (Lib.fresh_isBuilder _ _ w), (Below.refl _ w).alloc (Nat.le_refl _) _⟩
  case round =>
    obtain ⟨k, hk, rfl, hI, hbw⟩ := hrel
    have hsz : w.heap.size ≤ wr.heap.size := hbw.size
    by_cases hp : k < s.size
    · have hb := u8_lt s[k]
      have hki : (k : Int) < (s.size : Int) := by omega
      have hll := enc_take_len (formIn) s k
      have h15 : bits .and .u8 (s[k].toNat : Int) 15 = (s[k].toNat : Int) % 16 := u8_and15 _ hb.1 hb.2
      have HT : Hid (enc (formIn) (s.data.toList.take (k + 1)) = enc (formIn) (s.data.toList.take k) ++ encB (formIn) s[k]) := enc_take _ s k hp
      cases hin : formIn s[k] with
      | true =>
        go_wp2_with (first
          | (go_at_call 40; refine (formHas s[k] _).mono ?_; rintro e W1 ⟨rfl, hW⟩; have hW2 := hW.symm; subst hW2; rw [hin])
          | fail)
        refine (writeByte_k w.heap.size w.heap.size _ 37 _ hI (by rw [Lib.byteCells_length]; omega) hsz).mono ?_
        rintro e W1 ⟨rfl, g1, b1, _⟩
        have s1 : w.heap.size ≤ W1.heap.size := Nat.le_trans hsz b1.size
        go_wp2_with fail
        rw [fig_at _ (fig_shr s[k]).1]
        refine (writeByte_k w.heap.size w.heap.size _ _ _ (Or.inr g1) (by rw [List.length_append, Lib.byteCells_length]; simp; omega) s1).mono ?_
        rintro e W2 ⟨rfl, g2, b2, _⟩
        have s2 : w.heap.size ≤ W2.heap.size := Nat.le_trans s1 b2.size
        go_wp2_with fail
        rw [fig_at _ (fig_shr s[k]).2]
        refine (writeByte_k w.heap.size w.heap.size _ _ _ (Or.inr g2) (by rw [List.length_append, List.length_append, Lib.byteCells_length]; simp; omega) s2).mono ?_
        rintro e W3 ⟨rfl, g3, b3, _⟩
        go_wp2
        go_roundw
        case rel => exact ⟨k + 1, by omega, by go_num, Or.inr (by rw [HT.out, encB_yes _ _ hin, cells_three]; exact g3), ((hbw.trans b1).trans b2).trans b3⟩
        case measure => simp [intOf]; omega
      | false =>
        have HT2 : Hid (enc (formIn) (s.data.toList.take (k + 1)) = enc (formIn) (s.data.toList.take k) ++ [s[k]]) := by
          show _ = _
          rw [HT.out, encB_no _ _ hin]
        go_wp2_with (first
          | (go_at_call 40; refine (formHas s[k] _).mono ?_; rintro e W1 ⟨rfl, hW⟩; have hW2 := hW.symm; subst hW2; rw [hin])
          | (go_at_call 22; refine (writeByte_k w.heap.size w.heap.size _ _ _ hI (by rw [Lib.byteCells_length]; omega) hsz).mono ?_; rintro e W1 ⟨rfl, g1, b1, _⟩))
        go_roundw
        case rel => exact ⟨k + 1, by omega, by go_num, Or.inr (by rw [HT2.out, byteCells_one]; exact g1), hbw.trans b1⟩
        case measure => simp [intOf]; omega
    · have hkk : k = s.size := by omega
      subst hkk
      rw [List.take_of_length_le (by simp)] at hI
      go_wp2_with (go_at_call 25; refine (Tryd.Builder_String_any_k w.heap.size w.heap.size _ _ hI hsz).mono ?_; rintro e W1 ⟨rfl, _, b1, _⟩)
      go_ret
      exact ⟨rfl, hbw.trans b1⟩

set_option maxHeartbeats 1000000 in
set_option maxRecDepth 100000 in
theorem formEncode (l : List UInt8) (m : Int) (w : World) (hl : l.length ≤ 2000000) (hm : w.cell? ⟨0, 0, none⟩ = some (.int .i64 m)) :
    Calls Tryd.prog 24 #[.string (mk l)] w fun e w' => e = .returned (.string (mk (textP l))) ∧ Below w.heap.size w w' := by
  have hG : 0 < w.heap.size := cell_in hm
  have hle := enc_length formIn l
  have C1 : Hid (Calls Tryd.prog 45 #[.func (.func 40) #[] #[], .string (mk l)] w fun e w' => e = .returned (.string (mk (enc formIn l))) ∧ Below w.heap.size w w') := by
    have := encodeByF (mk l) w (by rw [mk_size]; omega)
    rw [mk_data] at this; exact this
  have C2 : Hid (∀ W, W.cell? ⟨0, 0, none⟩ = some (.int .i64 m) → Calls Tryd.prog 44 #[.string (mk (enc formIn l)), .string ⟨#[32]⟩, .string ⟨#[43]⟩] W fun e w' => e = .returned (.string (mk (textP l))) ∧ Below W.heap.size W w') := by
    intro W hW
    refine (Tryd.strings_ReplaceAll (mk (enc formIn l)) ⟨#[32]⟩ ⟨#[43]⟩ m W (by rw [mk_size]; omega) hW (by decide) ?_).mono ?_
    · have := Lib.countB_le ⟨#[32]⟩ (by decide) _ (mk (enc formIn l)) (Nat.le_refl _)
      have e : (⟨#[43]⟩ : ByteArray).size = 1 := rfl
      rw [mk_size] at this
      rw [e, mk_size]; omega
    · rintro e w' ⟨rfl, b⟩
      refine ⟨?_, b⟩
      show Ending.returned (.string ⟨(Lib.replaceAll (enc formIn l) [32] [43]).toArray⟩) = _
      rw [rep_one 32 43 (by decide), turn_enc]; rfl
  go_enter Tryd.func24, Tryd.ntmps24
  go_wp2_with fail
  refine C1.out.mono ?_
  rintro e W1 ⟨rfl, b1⟩
  go_wp2_with fail
  refine (C2.out _ (cell_keep b1 hm hG)).mono ?_
  rintro e W2 ⟨rfl, b2⟩
  go_wp2
  go_ret
  exact ⟨rfl, b1.trans (b2.mono b1.size)⟩
end Go.Proofs.YtjjpbkoglnimaaaDoor
