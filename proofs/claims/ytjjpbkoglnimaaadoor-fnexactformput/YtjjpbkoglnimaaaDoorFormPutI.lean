/- impl.FormPut: pairs, written as a query. -/
import Derived.Test.YtjjpbkoglnimaaaDoorFormTP
import Derived.Test.YtjjpbkoglnimaaaDoorFormPE
import Derived.Test.YtjjpbkoglnimaaaDoorBldB
set_option linter.unusedVariables false
namespace Go.Proofs.YtjjpbkoglnimaaaDoor
open Go.RowKit Go.Shelf

/-- A pair in a block of its own. -/
def PairAt (h : Nat) (y z : ByteArray) (w : World) : Prop := w.heap[h]? = some (.cells #[.string y, .string z] 41 (0, 0))
theorem PairAt.below {h : Nat} {y z : ByteArray} {w w' : World} (k : PairAt h y z w) (b : Below w.heap.size w w') : PairAt h y z w' := (b.block h (Array.getElem?_eq_some_iff.1 k).1).trans k
theorem PairAt.kept {h b : Nat} {y z : ByteArray} {w w' : World} (k : PairAt h y z w) (o : Lib.OthersKept 5 (some b) w w') (hb : h ≠ b) : PairAt h y z w' :=
  o h _ k (by simpa using hb) (fun c fz e => by simp at e)
theorem PairAt.cells {h : Nat} {y z : ByteArray} {w : World} (k : PairAt h y z w) : w.cell? ⟨h, 0, none⟩ = some (.string y) ∧ w.cell? ⟨h, 1, none⟩ = some (.string z) :=
  ⟨by rw [Lib.cell_of_heap k]; rfl, by rw [Lib.cell_of_heap k]; rfl⟩
theorem cells_one4 (l a b : List UInt8) : Lib.byteCells (l ++ (a ++ 61 :: b)) = ((Lib.byteCells l ++ Lib.strCells (mk a)) ++ [.int .u8 61]) ++ Lib.strCells (mk b) := by
  rw [Lib.byteCells_append, Lib.byteCells_append]
  simp [Lib.byteCells, Lib.strCells, mk]

set_option maxHeartbeats 4000000 in
set_option maxRecDepth 100000 in
theorem implFormPut (a : Option Addr) (len cap : Nat) (ps : List PairL) (m : Int) (w : World) (h : PairsOf a len ps w) (hl : totP ps ≤ 1100000) (hll : ps.length ≤ 1100000) (hm : w.cell? ⟨0, 0, none⟩ = some (.int .i64 m)) :
    Calls Tryd.prog 8 #[.slice a len cap] w fun e w' => e = .returned (.string (mk (formT ps))) ∧ Below w.heap.size w w' := by
  have HLEN : Hid (len = ps.length) := h.1
  have hlb : len ≤ 1100000 := by have := HLEN.out; omega
  have hG : 0 < w.heap.size := cell_in hm
  go_enter Tryd.func8, Tryd.ntmps8
  go_wp2
  go_loopw [8] (fun i wr => ∃ k : Nat, k ≤ len ∧ i = .int .i64 k ∧ Lib.IsBuilderF 44 5 w.heap.size w.heap.size (Lib.byteCells (formT (ps.take k))) wr ∧ Below w.heap.size w wr ∧ w.heap.size < wr.heap.size) (fun i wr => len - (intOf i).toNat)
  case atStart =>
    refine ⟨0, Nat.zero_le _, rfl, Lib.IsBuilderF.of (Lib.fresh_isBuilder _ _ w), (Below.refl _ w).alloc (Nat.le_refl _) _, by simp⟩
  case round =>
    obtain ⟨k, hk, rfl, hI, hbw, hgt⟩ := hrel
    by_cases hp : k < len
    · have hki : (k : Int) < (len : Int) := by omega
      have hkl : k < ps.length := by have := HLEN.out; omega
      obtain ⟨b, off, y, z, rfl, hy, hz, hym, hzm⟩ := (h.later hbw).at k hkl
      have htk := formT_take_len ps k
      obtain ⟨hty, htz⟩ := totP_at ps k hkl
      have CY : Hid (∀ W, W.cell? ⟨0, 0, none⟩ = some (.int .i64 m) → Calls Tryd.prog 24 #[.string y] W fun e w' => e = .returned (.string (mk (textP ps[k].1))) ∧ Below W.heap.size W w') := by
        intro W hW; rw [hym]; exact formEncode _ m W (by omega) hW
      have CZ : Hid (∀ W, W.cell? ⟨0, 0, none⟩ = some (.int .i64 m) → Calls Tryd.prog 24 #[.string z] W fun e w' => e = .returned (.string (mk (textP ps[k].2))) ∧ Below W.heap.size W w') := by
        intro W hW; rw [hzm]; exact formEncode _ m W (by omega) hW
      have hs1 : (mk (textP ps[k].1)).size ≤ 3300000 := by rw [mk_size]; have := textP_len ps[k].1; omega
      have hs2 : (mk (textP ps[k].2)).size ≤ 3300000 := by rw [mk_size]; have := textP_len ps[k].2; omega
      have HB0 : Hid (k = 0 → Lib.byteCells (formT (ps.take (k + 1))) = ((Lib.byteCells (formT (ps.take k)) ++ Lib.strCells (mk (textP ps[k].1))) ++ [.int .u8 61]) ++ Lib.strCells (mk (textP ps[k].2))) := by
        intro h0
        subst h0
        rw [formT_zero ps hkl, ← cells_one4]
        rfl
      have HB1 : Hid (0 < k → Lib.byteCells (formT (ps.take (k + 1))) = (((Lib.byteCells (formT (ps.take k)) ++ [.int .u8 38]) ++ Lib.strCells (mk (textP ps[k].1))) ++ [.int .u8 61]) ++ Lib.strCells (mk (textP ps[k].2))) := by
        intro h0
        rw [formT_succ ps k hkl h0]
        have e : Lib.byteCells (formT (ps.take k)) ++ [.int .u8 38] = Lib.byteCells (formT (ps.take k) ++ [38]) := by rw [Lib.byteCells_append]; rfl
        rw [e, ← cells_one4, List.append_assoc]
        rfl
      have hbl : (Lib.byteCells (formT (ps.take k))).length ≤ 5500000 := by rw [Lib.byteCells_length]; omega
      generalize Lib.byteCells (formT (ps.take k)) = bs at *
      generalize mk (textP ps[k].1) = ty at *
      generalize mk (textP ps[k].2) = tz at *
      clear hym hzm hty htz htk
      have hP0 : PairAt wr.heap.size y z (wr.alloc (.cells #[.string y, .string z] 41)) := heap_alloc_new wr _
      have hI0 := hI.alloc (.cells #[.string y, .string z] 41)
      have hB0 : Below w.heap.size w (wr.alloc (.cells #[.string y, .string z] 41)) := hbw.alloc hbw.size _
      have hne : wr.heap.size ≠ w.heap.size := by omega
      obtain ⟨hh, hhe⟩ : ∃ hh, hh = wr.heap.size := ⟨_, rfl⟩
      by_cases hk0 : k = 0
      · have hk0i : ¬ ((0 : Int) < (k : Int)) := by omega
        have HB := HB0.out hk0
        have HBH : Hid (Lib.byteCells (formT (ps.take (k + 1))) = ((bs ++ Lib.strCells ty) ++ [.int .u8 61]) ++ Lib.strCells tz) := HB
        clear HB hk0 HB0 HB1
        obtain ⟨c0, c1⟩ := hP0.cells
        have hmr := cell_keep hB0 hm hG
        go_wp2_with fail
        refine (CY.out _ hmr).mono ?_
        rintro e W2 ⟨rfl, d2⟩
        have hI2 := builder_below hI0 d2
        have hP2 := hP0.below d2
        have hB2 := hB0.trans (d2.mono hB0.size)
        go_wp2_with fail
        refine (writeString_k w.heap.size w.heap.size _ _ _ hI2 (by first | omega | (simp; omega)) hB2.size).mono ?_
        rintro e W3 ⟨rfl, g3, d3, o3⟩
        have hP3 := hP2.kept o3 hne
        have hB3 := hB2.trans d3
        go_wp2_with fail
        refine (writeByte_k w.heap.size w.heap.size _ _ _ (Or.inr g3) (by simp [Lib.strCells_length]; omega) hB3.size).mono ?_
        rintro e W4 ⟨rfl, g4, d4, o4⟩
        have hP4 := hP3.kept o4 hne
        have hB4 := hB3.trans d4
        obtain ⟨c4, c5⟩ := hP4.cells
        have hm4 := cell_keep hB4 hm hG
        go_wp2_with fail
        refine (CZ.out _ hm4).mono ?_
        rintro e W5 ⟨rfl, d5⟩
        have hI5 := builder_below (Or.inr g4) d5
        have hB5 := hB4.trans (d5.mono hB4.size)
        go_wp2_with fail
        refine (writeString_k w.heap.size w.heap.size _ _ _ hI5 (by simp [Lib.strCells_length]; omega) hB5.size).mono ?_
        rintro e W6 ⟨rfl, g6, d6, o6⟩
        have hB6 := hB5.trans d6
        have hgt6 : w.heap.size < W6.heap.size := by
          have z0 := d2.size
          have z1 := d3.size
          have z2 := d4.size
          have z3 := d5.size
          have z4 := d6.size
          simp at z0
          omega
        clear hI0 hI2 hI5 hP0 hP2 hP3 hP4 hB0 hB2 hB3 hB4 hB5 g3 g4
        go_wp2
        go_roundw
        case rel => exact ⟨k + 1, by omega, by go_num, Or.inr (by rw [HBH.out]; exact g6), hB6, hgt6⟩
        case measure => simp [intOf]; omega
      · have hk0i : (0 : Int) < (k : Int) := by omega
        have HB := HB1.out (by omega)
        have HBH : Hid (Lib.byteCells (formT (ps.take (k + 1))) = (((bs ++ [Value.int .u8 38]) ++ Lib.strCells ty) ++ [.int .u8 61]) ++ Lib.strCells tz) := HB
        clear HB hk0 HB0 HB1
        go_wp2_with fail
        refine (writeByte_k w.heap.size w.heap.size _ _ _ hI0 (by omega) hB0.size).mono ?_
        rintro e W1 ⟨rfl, g1, d1, o1⟩
        have hP1 := hP0.kept o1 hne
        have hB1 := hB0.trans d1
        obtain ⟨c0, c1⟩ := hP1.cells
        have hmr := cell_keep hB1 hm hG
        go_wp2_with fail
        refine (CY.out _ hmr).mono ?_
        rintro e W2 ⟨rfl, d2⟩
        have hI2 := builder_below (Or.inr g1) d2
        have hP2 := hP1.below d2
        have hB2 := hB1.trans (d2.mono hB1.size)
        go_wp2_with fail
        refine (writeString_k w.heap.size w.heap.size _ _ _ hI2 (by first | omega | (simp; omega)) hB2.size).mono ?_
        rintro e W3 ⟨rfl, g3, d3, o3⟩
        have hP3 := hP2.kept o3 hne
        have hB3 := hB2.trans d3
        go_wp2_with fail
        refine (writeByte_k w.heap.size w.heap.size _ _ _ (Or.inr g3) (by simp [Lib.strCells_length]; omega) hB3.size).mono ?_
        rintro e W4 ⟨rfl, g4, d4, o4⟩
        have hP4 := hP3.kept o4 hne
        have hB4 := hB3.trans d4
        obtain ⟨c4, c5⟩ := hP4.cells
        have hm4 := cell_keep hB4 hm hG
        go_wp2_with fail
        refine (CZ.out _ hm4).mono ?_
        rintro e W5 ⟨rfl, d5⟩
        have hI5 := builder_below (Or.inr g4) d5
        have hB5 := hB4.trans (d5.mono hB4.size)
        go_wp2_with fail
        refine (writeString_k w.heap.size w.heap.size _ _ _ hI5 (by simp [Lib.strCells_length]; omega) hB5.size).mono ?_
        rintro e W6 ⟨rfl, g6, d6, o6⟩
        have hB6 := hB5.trans d6
        have hgt6 : w.heap.size < W6.heap.size := by
          have z0 := d2.size
          have z1 := d3.size
          have z2 := d4.size
          have z3 := d5.size
          have z4 := d6.size
          have z5 := d1.size; simp at z5
          omega
        clear hI0 hI2 hI5 hP0 hP2 hP3 hP4 hB0 hB2 hB3 hB4 hB5 g3 g4
        go_wp2
        go_roundw
        case rel => exact ⟨k + 1, by omega, by go_num, Or.inr (by rw [HBH.out]; exact g6), hB6, hgt6⟩
        case measure => simp [intOf]; omega
    · have hkk : k = len := by omega
      subst hkk
      rw [List.take_of_length_le (by have := HLEN.out; omega)] at hI
      go_wp2_with (go_at_call 25; refine (Tryd.Builder_String_any_k w.heap.size w.heap.size _ _ hI hbw.size).mono ?_; rintro e W1 ⟨rfl, _, b1, _⟩)
      go_ret
      exact ⟨rfl, hbw.trans b1⟩
end Go.Proofs.YtjjpbkoglnimaaaDoor
