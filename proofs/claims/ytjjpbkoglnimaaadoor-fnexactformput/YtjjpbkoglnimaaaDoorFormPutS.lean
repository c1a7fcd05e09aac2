/- spec.FormPut: pairs, written as a query. -/
import Derived.Test.YtjjpbkoglnimaaaDoorFormTP
import Derived.Test.YtjjpbkoglnimaaaDoorPieceS
import Derived.Test.YtjjpbkoglnimaaaDoorPairO
import Derived.Deep.RegionHeld3
set_option linter.unusedVariables false
namespace Go.Proofs.YtjjpbkoglnimaaaDoor
open Go.RowKit Go.Shelf

theorem heldF_call {w W W1 : World} {b o : Nat} {y z : Value} (h : Below w.heap.size w W ∧ W.cell? ⟨b, o, none⟩ = some y ∧ W.cell? ⟨b, o + 1, none⟩ = some z) (bW : Below W.heap.size W W1) : Below w.heap.size w W1 ∧ W1.cell? ⟨b, o, none⟩ = some y ∧ W1.cell? ⟨b, o + 1, none⟩ = some z :=
  ⟨h.1.trans (bW.mono h.1.size), cell_keep bW h.2.1 (cell_in h.2.1), cell_keep bW h.2.2 (cell_in h.2.2)⟩
theorem heldF_call3 {w W W1 : World} {b o : Nat} {y z : Value} (h : Below w.heap.size w W) (h1 : W.cell? ⟨b, o, none⟩ = some y) (h2 : W.cell? ⟨b, o + 1, none⟩ = some z) (bW : Below W.heap.size W W1) : Below w.heap.size w W1 ∧ W1.cell? ⟨b, o, none⟩ = some y ∧ W1.cell? ⟨b, o + 1, none⟩ = some z := heldF_call ⟨h, h1, h2⟩ bW

def pieceT (t : ByteArray) : ByteArray := mk (textP t.data.toList)
theorem l1PieceT (t : ByteArray) (w : World) (hs : t.size ≤ 2000000) : Calls Tryd.prog 26 #[.string t] w fun e w' => e = .returned (.string (pieceT t)) ∧ Below w.heap.size w w' := l1Piece t w hs

set_option maxHeartbeats 2000000 in
set_option maxRecDepth 100000 in
theorem specFormPut (a : Option Addr) (len cap : Nat) (ps : List PairL) (w : World) (h : PairsOf a len ps w) (hl : totP ps ≤ 1100000) (hll : ps.length ≤ 1100000) :
    Calls Tryd.prog 9 #[.slice a len cap] w fun e w' => e = .returned (.string (mk (formT ps))) ∧ Below w.heap.size w w' := by
  have HLEN : Hid (len = ps.length) := h.1
  have hlb : len ≤ 1100000 := by have := HLEN.out; omega
  go_enter Tryd.func9, Tryd.ntmps9
  go_wp2
  go_loopw [3, 4] (fun o i wr => ∃ (k : Nat) (x : ByteArray), k ≤ len ∧ i = .int .i64 k ∧ o = .string x ∧ x.size ≤ 5500000 ∧ Hid (x = mk (formT (ps.take k))) ∧ Below w.heap.size w wr) (fun _ i wr => len - (intOf i).toNat)
  case atStart => exact ⟨0, _, Nat.zero_le _, rfl, rfl, by decide, rfl, Below.refl _ _⟩
  case round =>
    obtain ⟨k, x, hk, rfl, rfl, hx, HX, hbw⟩ := hrel
    by_cases hp : k < len
    · have hki : (k : Int) < (len : Int) := by omega
      have hkl : k < ps.length := by have := HLEN.out; omega
      obtain ⟨b, off, y, z, rfl, hy, hz, hym, hzm⟩ := (h.later hbw).at k hkl
      obtain ⟨hty, htz⟩ := totP_at ps k hkl
      have htk := formT_take_len ps (k + 1)
      have hys : y.size ≤ 2000000 := by rw [hym, mk_size]; omega
      have hzs : z.size ≤ 2000000 := by rw [hzm, mk_size]; omega
      have hyT : pieceT y = mk (textP ps[k].1) := by unfold pieceT; rw [hym, mk_data]
      have hzT : pieceT z = mk (textP ps[k].2) := by unfold pieceT; rw [hzm, mk_data]
      have hs1 : (pieceT y).size ≤ 3300000 := by rw [hyT, mk_size]; have := textP_len ps[k].1; omega
      have hs2 : (pieceT z).size ≤ 3300000 := by rw [hzT, mk_size]; have := textP_len ps[k].2; omega
      have HB0 : Hid (k = 0 → ((x ++ mk (textP ps[k].1)) ++ ⟨#[61]⟩) ++ mk (textP ps[k].2) = mk (formT (ps.take (k + 1)))) := by
        intro h0
        subst h0
        rw [formT_zero ps hkl, HX.out]
        apply ByteArray.ext; apply Array.ext'; simp [mk, oneP, formT, ampP]
      have HB1 : Hid (0 < k → (((x ++ ⟨#[38]⟩) ++ mk (textP ps[k].1)) ++ ⟨#[61]⟩) ++ mk (textP ps[k].2) = mk (formT (ps.take (k + 1)))) := by
        intro h0
        rw [formT_succ ps k hkl h0, HX.out]
        apply ByteArray.ext; apply Array.ext'; simp [mk, oneP]
      have HSZ : Hid ((mk (formT (ps.take (k + 1)))).size ≤ 5500000) := by show _ ≤ _; rw [mk_size]; omega
      rw [← hyT, ← hzT] at HB0 HB1
      clear hym hzm hty htz htk HX hyT hzT
      have z61 : (⟨#[61]⟩ : ByteArray).size = 1 := rfl
      have z38 : (⟨#[38]⟩ : ByteArray).size = 1 := rfl
      by_cases hk0 : k = 0
      · have hk0i : ¬ ((0 : Int) < (k : Int)) := by omega
        have HB : Hid (((x ++ pieceT y) ++ ⟨#[61]⟩) ++ pieceT z = mk (formT (ps.take (k + 1)))) := HB0.out hk0
        clear hk0 HB0 HB1
        have zA : ¬ (9223372036854775807 < x.size + (pieceT y).size) := by omega
        have zA2 : x.size + (pieceT y).size ≤ 9223372036854775807 := by omega
        have zB : ¬ (9223372036854775807 < x.size + (pieceT y).size + 1) := by omega
        have zB2 : x.size + (pieceT y).size + 1 ≤ 9223372036854775807 := by omega
        have zC : ¬ (9223372036854775807 < x.size + (pieceT y).size + 1 + (pieceT z).size) := by omega
        have zC2 : x.size + (pieceT y).size + 1 + (pieceT z).size ≤ 9223372036854775807 := by omega
        go_wp2
        go_region_held3 (fun W => Below w.heap.size w W ∧ W.cell? ⟨b, off + k * 2, none⟩ = some (.string y) ∧ W.cell? ⟨b, off + k * 2 + 1, none⟩ = some (.string z)) (first | exact ⟨Below.drew hbw, hy, hz⟩ | exact ⟨hbw, hy, hz⟩ | assumption | exact heldF_call (by assumption) (by assumption) | exact heldF_call3 (by assumption) (by assumption) (by assumption) (by assumption)) (first | (go_at_call 26; refine (l1PieceT _ _ (by first | exact hys | exact hzs)).mono ?_; rintro e W1 ⟨rfl, bW⟩) | fail)
        all_goals
          go_wp2
          go_roundw
          case rel => exact ⟨k + 1, _, by omega, by go_num, rfl, by rw [HB.out]; exact HSZ.out, HB, by first | assumption | exact And.left (by assumption)⟩
          case measure => simp [intOf]; omega
      · have hk0i : (0 : Int) < (k : Int) := by omega
        have HB : Hid ((((x ++ ⟨#[38]⟩) ++ pieceT y) ++ ⟨#[61]⟩) ++ pieceT z = mk (formT (ps.take (k + 1)))) := HB1.out (by omega)
        clear hk0 HB0 HB1
        obtain ⟨x1, hx1⟩ : ∃ x1, x1 = x ++ ⟨#[38]⟩ := ⟨_, rfl⟩
        have hx1s : x1.size ≤ 5500001 := by rw [hx1, ByteArray.size_append]; omega
        have HX1 : Hid (x ++ ⟨#[38]⟩ = x1) := hx1.symm
        rw [← hx1] at HB
        clear hx1
        have zA : ¬ (9223372036854775807 < x1.size + (pieceT y).size) := by omega
        have zA2 : x1.size + (pieceT y).size ≤ 9223372036854775807 := by omega
        have zB : ¬ (9223372036854775807 < x1.size + (pieceT y).size + 1) := by omega
        have zB2 : x1.size + (pieceT y).size + 1 ≤ 9223372036854775807 := by omega
        have zC : ¬ (9223372036854775807 < x1.size + (pieceT y).size + 1 + (pieceT z).size) := by omega
        have zC2 : x1.size + (pieceT y).size + 1 + (pieceT z).size ≤ 9223372036854775807 := by omega
        go_wp2
        rw [HX1.out]
        go_region_held3 (fun W => Below w.heap.size w W ∧ W.cell? ⟨b, off + k * 2, none⟩ = some (.string y) ∧ W.cell? ⟨b, off + k * 2 + 1, none⟩ = some (.string z)) (first | exact ⟨Below.drew hbw, hy, hz⟩ | exact ⟨hbw, hy, hz⟩ | assumption | exact heldF_call (by assumption) (by assumption) | exact heldF_call3 (by assumption) (by assumption) (by assumption) (by assumption)) (first | (go_at_call 26; refine (l1PieceT _ _ (by first | exact hys | exact hzs)).mono ?_; rintro e W1 ⟨rfl, bW⟩) | fail)
        all_goals
          go_wp2
          go_roundw
          case rel => exact ⟨k + 1, _, by omega, by go_num, rfl, by rw [HB.out]; exact HSZ.out, HB, by first | assumption | exact And.left (by assumption)⟩
          case measure => simp [intOf]; omega
    · have hkk : k = len := by omega
      subst hkk
      have HE := HX.out
      rw [List.take_of_length_le (by have := HLEN.out; omega)] at HE
      subst HE
      go_wp2
      go_ret
      exact ⟨rfl, hbw⟩
end Go.Proofs.YtjjpbkoglnimaaaDoor
