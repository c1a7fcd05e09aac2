/- laws.eqPair, eqPairS of lists of the same pairs. -/
import Derived.Test.YtjjpbkoglnimaaaDoorPairO
import Derived.Deep.RegionHeld3
set_option linter.unusedVariables false
namespace Go.Proofs.YtjjpbkoglnimaaaDoor
open Go.RowKit Go.Shelf

set_option maxHeartbeats 1000000 in
set_option maxRecDepth 100000 in
theorem eqPair (y z : ByteArray) (w : World) :
    Calls Tryd.prog 34 #[.agg #[.string y, .string z], .agg #[.string y, .string z]] w fun e w' => e = .returned (.bool true) ∧ Below w.heap.size w w' := by
  go_enter Tryd.func34, Tryd.ntmps34
  go_wp2
  go_ret
  exact ⟨rfl, ((Below.refl _ w).alloc (Nat.le_refl _) _).alloc (by simp) _⟩

def HeldE (w : World) (b o b' o' : Nat) (y z : ByteArray) (W : World) : Prop :=
  Below w.heap.size w W ∧ W.cell? ⟨b, o, none⟩ = some (.string y) ∧ W.cell? ⟨b, o + 1, none⟩ = some (.string z) ∧ W.cell? ⟨b', o', none⟩ = some (.string y) ∧ W.cell? ⟨b', o' + 1, none⟩ = some (.string z)
theorem HeldE.step {w W W1 : World} {b o b' o' : Nat} {y z : ByteArray} (h : HeldE w b o b' o' y z W) (bW : Below W.heap.size W W1) : HeldE w b o b' o' y z W1 :=
  ⟨h.1.trans (bW.mono h.1.size), cell_keep bW h.2.1 (cell_in h.2.1), cell_keep bW h.2.2.1 (cell_in h.2.2.1), cell_keep bW h.2.2.2.1 (cell_in h.2.2.2.1), cell_keep bW h.2.2.2.2 (cell_in h.2.2.2.2)⟩
theorem HeldE.drew {w W : World} {b o b' o' : Nat} {y z : ByteArray} (h : HeldE w b o b' o' y z W) : HeldE w b o b' o' y z W.drew := ⟨h.1.drew, h.2⟩

set_option maxHeartbeats 1000000 in
set_option maxRecDepth 100000 in
theorem eqPairS (a a' : Option Addr) (len cap len' cap' : Nat) (ps : List PairL) (w : World) (h : PairsOf a len ps w) (h' : PairsOf a' len' ps w) (hl : len ≤ 1000000000) :
    Calls Tryd.prog 14 #[.slice a len cap, .slice a' len' cap'] w fun e w' => e = .returned (.bool true) ∧ Below w.heap.size w w' := by
  have hll : len' = len := by rw [h.1, h'.1]
  subst hll
  have HLEN : Hid (len' = ps.length) := h.1
  go_enter Tryd.func14, Tryd.ntmps14
  go_wp2
  go_loopw [5] (fun i wr => ∃ k : Nat, k ≤ len' ∧ i = .int .i64 k ∧ Below w.heap.size w wr) (fun i wr => len' - (intOf i).toNat)
  case atStart => exact ⟨0, Nat.zero_le _, rfl, Below.refl _ _⟩
  case round =>
    obtain ⟨k, hk, rfl, hbw⟩ := hrel
    by_cases hp : k < len'
    · have hki : (k : Int) < (len' : Int) := by omega
      obtain ⟨b, off, y, z, rfl, hy, hz, hym, hzm⟩ := (h.later hbw).at k (by have := HLEN.out; omega)
      obtain ⟨b', off', y', z', rfl, hy', hz', hym', hzm'⟩ := (h'.later hbw).at k (by have := HLEN.out; omega)
      have e1 : y' = y := by rw [hym, hym']
      have e2 : z' = z := by rw [hzm, hzm']
      subst e1 e2
      have HH : HeldE w b (off + k * 2) b' (off' + k * 2) y' z' wr := ⟨hbw, hy, hz, hy', hz'⟩
      clear hym hzm hym' hzm'
      go_wp2
      go_region_held3 (fun W => Below w.heap.size w W ∧ W.cell? ⟨b, off + k * 2, none⟩ = some (.string y') ∧ W.cell? ⟨b, off + k * 2 + 1, none⟩ = some (.string z') ∧ W.cell? ⟨b', off' + k * 2, none⟩ = some (.string y') ∧ W.cell? ⟨b', off' + k * 2 + 1, none⟩ = some (.string z')) (first | exact HeldE.drew HH | exact HH | assumption | exact HeldE.step (W := wr) HH (by assumption) | exact HeldE.step (by assumption) (by assumption) | exact HeldE.step (HeldE.drew HH) (by assumption) | exact HeldE.step ⟨by assumption, by assumption, by assumption, by assumption, by assumption⟩ (by assumption)) (first | (go_at_call 34; refine (eqPair _ _ _).mono ?_; rintro e W1 ⟨rfl, bW⟩) | fail)
      all_goals
        go_wp2
        go_roundw
        case rel => exact ⟨k + 1, by omega, by go_num, by first | assumption | exact And.left (by assumption)⟩
        case measure => simp [intOf]; omega
    · have hkk : ¬ ((k : Int) < (len' : Int)) := by omega
      go_wp2
      go_ret
      exact ⟨rfl, hbw⟩
end Go.Proofs.YtjjpbkoglnimaaaDoor
