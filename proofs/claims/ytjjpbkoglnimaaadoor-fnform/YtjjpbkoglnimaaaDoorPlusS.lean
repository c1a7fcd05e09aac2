/- spec.l1Plus: a piece of a query, read. -/
import Derived.Test.YtjjpbkoglnimaaaDoorByteR
import Derived.Test.YtjjpbkoglnimaaaDoorFormP
import Derived.Test.YtjjpbkoglnimaaaDoorDecS
set_option linter.unusedVariables false
namespace Go.Proofs.YtjjpbkoglnimaaaDoor
open Go.RowKit Go.Shelf

set_option maxHeartbeats 2000000 in
set_option maxRecDepth 100000 in
theorem l1Plus (l : List UInt8) (w : World) (hl : l.length ≤ 600) :
    Calls Tryd.prog 33 #[.string (mk l)] w fun e w' => e = .returned (.string (mk (textG l))) ∧ Below w.heap.size w w' := by
  obtain ⟨c, W0, hrun, hR, hB0⟩ := bytes_run (mk l) w
  rw [mk_size] at hrun
  rw [mk_data] at hR
  have CC : Hid (∀ W, Calls Tryd.prog 50 #[.string (mk (plusL l))] W fun e w' => e = .returned (.string (mk (textG l))) ∧ Below W.heap.size W w') := by
    intro W
    refine (specDecode (mk (plusL l)) W (by rw [mk_size, plusL_len]; unfold maxLen; omega)).mono ?_
    rintro e w' ⟨rfl, b⟩
    exact ⟨by rw [decode_small _ (by rw [mk_size, plusL_len]; omega), mk_data]; rfl, b⟩
  go_enter Tryd.func33, Tryd.ntmps33
  go_wp2
  go_loopw [4] (fun i wr => ∃ k : Nat, k ≤ l.length ∧ i = .int .i64 k ∧ RowB w.heap.size (plusL (l.take k) ++ l.drop k) wr ∧ Below w.heap.size w wr) (fun i wr => l.length - (intOf i).toNat)
  case atStart => exact ⟨0, Nat.zero_le _, rfl, hR, hB0⟩
  case round =>
    clear hrun hR hB0
    obtain ⟨k, hk, rfl, hI, hbw⟩ := hrel
    by_cases hp : k < l.length
    · have hki : (k : Int) < (l.length : Int) := by omega
      have hI' : RowB w.heap.size ((l.take k).map (fun x => if x = 43 then (32 : UInt8) else x) ++ l.drop k) wr := hI
      obtain ⟨hc, hf⟩ := hI'.atMap hp
      by_cases hx : l[k] = 43
      · have e1 : ((l[k].toNat : Int) == 43) = true := by rw [hx]; rfl
        have HP : Hid (RowB w.heap.size (plusL (l.take (k + 1)) ++ l.drop (k + 1)) (wr.setCell ⟨w.heap.size, k, none⟩ (.int .u8 32))) := hI'.putMap hp 32 (by rw [if_pos hx]; rfl)
        clear hx hI hI'
        go_wp2
        go_roundw
        case rel => exact ⟨k + 1, by omega, by go_num, HP.out, hbw.setCell (p := ⟨w.heap.size, k, none⟩) (Nat.le_refl _) _⟩
        case measure => simp [intOf]; omega
      · have e1 : ((l[k].toNat : Int) == 43) = false := by
          rw [beq_eq_false_iff_ne]; intro e; apply hx; apply UInt8.toNat_inj.1; show _ = 43; omega
        have HP : Hid (RowB w.heap.size (plusL (l.take (k + 1)) ++ l.drop (k + 1)) wr) := hI'.same hp (by rw [if_neg hx])
        clear hx hI hI'
        go_wp2
        go_roundw
        case rel => exact ⟨k + 1, by omega, by go_num, HP.out, hbw⟩
        case measure => simp [intOf]; omega
    · have hkk : k = l.length := by omega
      subst hkk
      rw [List.take_length, List.drop_length, List.append_nil] at hI
      have ht := hI.text (cap := c)
      rw [plusL_len] at ht
      clear hI
      go_wp2_with fail
      refine (CC.out _).mono ?_
      rintro _ W1 ⟨rfl, d1⟩
      go_wp2
      go_ret
      have := hbw.size
      exact ⟨rfl, hbw.trans (d1.mono this)⟩
end Go.Proofs.YtjjpbkoglnimaaaDoor
