/- spec.HostGet: a host, read of a text. -/
import Derived.Test.YtnfhajhdpdidlaaGreatDoorB10
import Derived.Test.YtnfhajhdpdidlaaGreatDoorB27
import Derived.Test.YtnfhajhdpdidlaaGreatDoorB28
import Derived.Test.YtnfhajhdpdidlaaGreatDoorB05
set_option linter.unusedVariables false
set_option maxHeartbeats 4000000
set_option maxRecDepth 100000
section
namespace Go.Proofs.YtnfhajhdpdidlaaGreatDoor
open Go.RowKit Go.Shelf
def HostZ (h : Nat) (w : World) : Prop := w.heap[h]? = some (.cells #[.int .i64 0, .string ⟨#[]⟩, .int .i64 0] 29 (0, 0))
theorem HostZ.below {h : Nat} {w w' : World} (k : HostZ h w) (b : Below w.heap.size w w') : HostZ h w' := (b.block h (Array.getElem?_eq_some_iff.1 k).1).trans k
theorem HostZ.cells {h : Nat} {w : World} (k : HostZ h w) : (w.cell? ⟨h, 0, none⟩ = some (.int .i64 0) ∧ w.cell? ⟨h, 1, none⟩ = some (.string ⟨#[]⟩) ∧ w.cell? ⟨h, 2, none⟩ = some (.int .i64 0)) ∧ (w.frozen? ⟨h, 0, none⟩ = false ∧ w.frozen? ⟨h, 1, none⟩ = false ∧ w.frozen? ⟨h, 2, none⟩ = false) :=
 ⟨⟨by rw [Lib.cell_of_heap k]; rfl, by rw [Lib.cell_of_heap k]; rfl, by rw [Lib.cell_of_heap k]; rfl⟩, Lib.frozen_of_heap k 0, Lib.frozen_of_heap k 1, Lib.frozen_of_heap k 2⟩
theorem below_host {w W : World} (b : Below w.heap.size w W) (x y z : Value) : Below w.heap.size w (((W.setCell ⟨w.heap.size, 0, none⟩ x).setCell ⟨w.heap.size, 1, none⟩ y).setCell ⟨w.heap.size, 2, none⟩ z) :=
 ((b.setCell (p := ⟨w.heap.size, 0, none⟩) (Nat.le_refl _) _).setCell (p := ⟨w.heap.size, 1, none⟩) (Nat.le_refl _) _).setCell (p := ⟨w.heap.size, 2, none⟩) (Nat.le_refl _) _
theorem ends_nil : endsL [] = false := ends_empty [] (by decide)
theorem name_nil : nameL [] = false := nameL_len [] (by decide)
theorem specHostGet (s : ByteArray) (w : World) (hs : s.size ≤ 1048576) :
  Calls Tryz.prog 102 #[.string s] w fun e w' => e = .returned (.tuple #[getAgg s.data.toList, .bool (getOk s.data.toList)]) ∧ Below w.heap.size w w' := by
 have hl : s.data.toList.length = s.size := by simp
 have hz0 : HostZ w.heap.size (w.alloc (.cells #[.int .i64 0, .string ⟨#[]⟩, .int .i64 0] 29)) := heap_alloc_new w _
 by_cases hL : s.size ≤ 200
 ·have hLi : (s.size : Int) ≤ 200 := by omega
  have hdl := dec_le s.data.toList
  obtain ⟨t, ht⟩ : ∃ t, t = readL s.data.toList := ⟨_, rfl⟩
  have htl : t.length ≤ 200 := by rw [ht]; unfold readL; rw [low_length]; omega
  have C1 : Hid (∀ W, Calls Tryz.prog 129 #[.string s] W fun e w' => e = .returned (.string (mk (dec s.data.toList))) ∧ Below W.heap.size W w') := by
   intro W
   refine (specDecode s W (by unfold maxLen; omega)).mono ?_
   rintro e w' ⟨rfl, b⟩
   exact ⟨by rw [decode_small _ (by omega)]; rfl, b⟩
  have C2 : Hid (∀ W, Calls Tryz.prog 128 #[.string (mk (dec s.data.toList))] W fun e w' => e = .returned (.string (mk t)) ∧ Below W.heap.size W w') := by
   intro W; rw [ht]; exact specLower (mk (dec s.data.toList)) W (by rw [mk_size]; omega)
  have C3 : Hid (∀ W, Calls Tryz.prog 108 #[.string (mk t)] W fun e w' => e = .returned (.bool (endsL t)) ∧ Below W.heap.size W w') := fun W => l2Ends (mk t) W (by rw [mk_size]; omega)
  have C4 : Hid (∀ W, Calls Tryz.prog 130 #[.string (mk t)] W fun e w' => e = .returned (.tuple #[.int .i64 (fourZ t), .bool (fourOk t)]) ∧ Below W.heap.size W w') := fun W => specFour (mk t) W (by rw [mk_size]; omega)
  have C5 : Hid (∀ W, Calls Tryz.prog 107 #[.string (mk t)] W fun e w' => e = .returned (.bool (nameL t)) ∧ Below W.heap.size W w') := fun W => l2Name (mk t) W (by rw [mk_size]; omega)
  have HG : Hid (getAgg s.data.toList = .agg #[.int .i64 (hostKind t), .string (hostName t), .int .i64 (hostAddr t)]) := by show _ = _; unfold getAgg; rw [if_pos (by omega), ← ht]; rfl
  have HO : Hid (getOk s.data.toList = decide (hostKind t ≠ 0)) := by show _ = _; unfold getOk hostOkL; rw [if_pos (by omega), ← ht]
  clear hdl ht htl
  generalize mk (dec s.data.toList) = ds at *
  by_cases h0 : t = []
  ·subst h0
   have HG2 : Hid (getAgg s.data.toList = .agg #[.int .i64 0, .string ⟨#[]⟩, .int .i64 0]) := by show _ = _; rw [HG.out]; unfold hostKind hostName hostAddr; simp [ends_nil, name_nil]
   have HO2 : Hid (getOk s.data.toList = false) := by show _ = _; rw [HO.out]; unfold hostKind; simp [ends_nil, name_nil]
   have C2b : Hid (∀ W, Calls Tryz.prog 128 #[.string ds] W fun e w' => e = .returned (.string ⟨#[]⟩) ∧ Below W.heap.size W w') := C2
   clear C2 C3 C4 C5
   go_enter Tryz.func102, Tryz.ntmps102
   go_wp2_with fail
   refine (C1.out _).mono ?_
   rintro e W1 ⟨rfl, d1⟩
   have b1 : Below w.heap.size w W1 := ((Below.refl _ w).alloc (Nat.le_refl _) _).trans (d1.mono (by simp))
   have hz1 := hz0.below d1
   go_wp2_with fail
   refine (C2b.out _).mono ?_
   rintro e W2 ⟨rfl, d2⟩
   have b2 := b1.trans (d2.mono b1.size)
   have hz2 := hz1.below d2
   obtain ⟨⟨c0, c1, c2⟩, f0, f1, f2⟩ := hz2.cells
   go_wp2
   exact bodyPost_ret (v := .tuple #[.agg #[.int .i64 0, .string ⟨#[]⟩, .int .i64 0], .bool false]) (by simp [results, Tryz.results102, go_sem, c0, c1, c2]) rfl ⟨by rw [HG2.out, HO2.out], below_host b2 _ _ _⟩
  ·obtain ⟨x, hx⟩ : ∃ x, x = mk t := ⟨_, rfl⟩
   have hne1 : (x.toList == []) = false := by rw [hx, beq_eq_false_iff_ne, ByteArray.toList_eq, mk_data]; exact h0
   have hne2 : x.toList.isEmpty = false := by rw [hx, ByteArray.toList_eq, mk_data]; exact List.isEmpty_eq_false_iff.2 h0
   have HXT : Hid (x = mk t) := hx
   rw [← hx] at C2 C3 C4 C5
   clear hx h0
   cases he : endsL t with
   | true =>
    rw [he] at C3
    cases hf : fourOk t with
    | true =>
     rw [hf] at C4
     have HG2 : Hid (getAgg s.data.toList = .agg #[.int .i64 2, .string ⟨#[]⟩, .int .i64 (fourZ t)]) := by show _ = _; rw [HG.out]; unfold hostKind hostName hostAddr; simp [he, hf]
     have HO2 : Hid (getOk s.data.toList = true) := by show _ = _; rw [HO.out]; unfold hostKind; simp [he, hf]
     generalize fourZ t = fz at *
     clear he hf C5 HG HO
     go_enter Tryz.func102, Tryz.ntmps102
     go_wp2_with fail
     refine (C1.out _).mono ?_
     rintro e W1 ⟨rfl, d1⟩
     have b1 : Below w.heap.size w W1 := ((Below.refl _ w).alloc (Nat.le_refl _) _).trans (d1.mono (by simp))
     have hz1 := hz0.below d1
     go_wp2_with fail
     refine (C2.out _).mono ?_
     rintro e W2 ⟨rfl, d2⟩
     have b2 := b1.trans (d2.mono b1.size)
     have hz2 := hz1.below d2
     go_wp2_with fail
     refine (C3.out _).mono ?_
     rintro e W3 ⟨rfl, d3⟩
     have b3 := b2.trans (d3.mono b2.size)
     have hz3 := hz2.below d3
     go_wp2_with fail
     refine (C4.out _).mono ?_
     rintro e W4 ⟨rfl, d4⟩
     have b4 := b3.trans (d4.mono b3.size)
     have hz4 := hz3.below d4
     obtain ⟨⟨c0, c1, c2⟩, f0, f1, f2⟩ := hz4.cells
     go_wp2
     exact bodyPost_ret (v := .tuple #[.agg #[.int .i64 2, .string ⟨#[]⟩, .int .i64 fz], .bool true]) (by simp [results, Tryz.results102, go_sem, c0, c1, c2]) rfl ⟨by rw [HG2.out, HO2.out], below_host b4 _ _ _⟩
    | false =>
     rw [hf] at C4
     have HG2 : Hid (getAgg s.data.toList = .agg #[.int .i64 0, .string ⟨#[]⟩, .int .i64 0]) := by show _ = _; rw [HG.out]; unfold hostKind hostName hostAddr; simp [he, hf]
     have HO2 : Hid (getOk s.data.toList = false) := by show _ = _; rw [HO.out]; unfold hostKind; simp [he, hf]
     generalize fourZ t = fz at *
     clear he hf C5 HG HO
     go_enter Tryz.func102, Tryz.ntmps102
     go_wp2_with fail
     refine (C1.out _).mono ?_
     rintro e W1 ⟨rfl, d1⟩
     have b1 : Below w.heap.size w W1 := ((Below.refl _ w).alloc (Nat.le_refl _) _).trans (d1.mono (by simp))
     have hz1 := hz0.below d1
     go_wp2_with fail
     refine (C2.out _).mono ?_
     rintro e W2 ⟨rfl, d2⟩
     have b2 := b1.trans (d2.mono b1.size)
     have hz2 := hz1.below d2
     go_wp2_with fail
     refine (C3.out _).mono ?_
     rintro e W3 ⟨rfl, d3⟩
     have b3 := b2.trans (d3.mono b2.size)
     have hz3 := hz2.below d3
     go_wp2_with fail
     refine (C4.out _).mono ?_
     rintro e W4 ⟨rfl, d4⟩
     have b4 := b3.trans (d4.mono b3.size)
     have hz4 := hz3.below d4
     obtain ⟨⟨c0, c1, c2⟩, f0, f1, f2⟩ := hz4.cells
     go_wp2
     exact bodyPost_ret (v := .tuple #[.agg #[.int .i64 0, .string ⟨#[]⟩, .int .i64 0], .bool false]) (by simp [results, Tryz.results102, go_sem, c0, c1, c2]) rfl ⟨by rw [HG2.out, HO2.out], below_host b4 _ _ _⟩
   | false =>
    rw [he] at C3
    cases hf : nameL t with
    | true =>
     rw [hf] at C5
     have HG2 : Hid (getAgg s.data.toList = .agg #[.int .i64 1, .string (mk t), .int .i64 0]) := by show _ = _; rw [HG.out]; unfold hostKind hostName hostAddr; simp [he, hf]
     have HO2 : Hid (getOk s.data.toList = true) := by show _ = _; rw [HO.out]; unfold hostKind; simp [he, hf]
     rw [← HXT.out] at HG2
     clear he hf C4 HG HO
     go_enter Tryz.func102, Tryz.ntmps102
     go_wp2_with fail
     refine (C1.out _).mono ?_
     rintro e W1 ⟨rfl, d1⟩
     have b1 : Below w.heap.size w W1 := ((Below.refl _ w).alloc (Nat.le_refl _) _).trans (d1.mono (by simp))
     have hz1 := hz0.below d1
     go_wp2_with fail
     refine (C2.out _).mono ?_
     rintro e W2 ⟨rfl, d2⟩
     have b2 := b1.trans (d2.mono b1.size)
     have hz2 := hz1.below d2
     go_wp2_with fail
     refine (C3.out _).mono ?_
     rintro e W3 ⟨rfl, d3⟩
     have b3 := b2.trans (d3.mono b2.size)
     have hz3 := hz2.below d3
     go_wp2_with fail
     refine (C5.out _).mono ?_
     rintro e W4 ⟨rfl, d4⟩
     have b4 := b3.trans (d4.mono b3.size)
     have hz4 := hz3.below d4
     obtain ⟨⟨c0, c1, c2⟩, f0, f1, f2⟩ := hz4.cells
     go_wp2
     exact bodyPost_ret (v := .tuple #[.agg #[.int .i64 1, .string x, .int .i64 0], .bool true]) (by simp [results, Tryz.results102, go_sem, c0, c1, c2]) rfl ⟨by rw [HG2.out, HO2.out], below_host b4 _ _ _⟩
    | false =>
     rw [hf] at C5
     have HG2 : Hid (getAgg s.data.toList = .agg #[.int .i64 0, .string ⟨#[]⟩, .int .i64 0]) := by show _ = _; rw [HG.out]; unfold hostKind hostName hostAddr; simp [he, hf]
     have HO2 : Hid (getOk s.data.toList = false) := by show _ = _; rw [HO.out]; unfold hostKind; simp [he, hf]
     clear he hf C4 HG HO
     go_enter Tryz.func102, Tryz.ntmps102
     go_wp2_with fail
     refine (C1.out _).mono ?_
     rintro e W1 ⟨rfl, d1⟩
     have b1 : Below w.heap.size w W1 := ((Below.refl _ w).alloc (Nat.le_refl _) _).trans (d1.mono (by simp))
     have hz1 := hz0.below d1
     go_wp2_with fail
     refine (C2.out _).mono ?_
     rintro e W2 ⟨rfl, d2⟩
     have b2 := b1.trans (d2.mono b1.size)
     have hz2 := hz1.below d2
     go_wp2_with fail
     refine (C3.out _).mono ?_
     rintro e W3 ⟨rfl, d3⟩
     have b3 := b2.trans (d3.mono b2.size)
     have hz3 := hz2.below d3
     go_wp2_with fail
     refine (C5.out _).mono ?_
     rintro e W4 ⟨rfl, d4⟩
     have b4 := b3.trans (d4.mono b3.size)
     have hz4 := hz3.below d4
     obtain ⟨⟨c0, c1, c2⟩, f0, f1, f2⟩ := hz4.cells
     go_wp2
     exact bodyPost_ret (v := .tuple #[.agg #[.int .i64 0, .string ⟨#[]⟩, .int .i64 0], .bool false]) (by simp [results, Tryz.results102, go_sem, c0, c1, c2]) rfl ⟨by rw [HG2.out, HO2.out], below_host b4 _ _ _⟩
 ·have hLi : (200 : Int) < (s.size : Int) := by omega
  have HG2 : Hid (getAgg s.data.toList = .agg #[.int .i64 0, .string ⟨#[]⟩, .int .i64 0]) := by show _ = _; unfold getAgg; rw [if_neg (by omega)]
  have HO2 : Hid (getOk s.data.toList = false) := by show _ = _; unfold getOk; rw [if_neg (by omega)]
  obtain ⟨ds, hds⟩ : ∃ ds : ByteArray, ds = ⟨(decode s).toArray⟩ := ⟨_, rfl⟩
  have C1 : Hid (∀ W, Calls Tryz.prog 129 #[.string s] W fun e w' => e = .returned (.string ds) ∧ Below W.heap.size W w') := by
   intro W; rw [hds]; exact specDecode s W (by unfold maxLen; omega)
  have hdz : ds.size ≤ 1048576 := by
   rw [hds]; show (decode s).toArray.size ≤ _
   unfold decode
   split
   ·have := dec_le s.data.toList; simp; omega
   ·simp
  obtain ⟨ls, hls⟩ : ∃ ls : ByteArray, ls = ⟨(low ds.data.toList).toArray⟩ := ⟨_, rfl⟩
  have C2 : Hid (∀ W, Calls Tryz.prog 128 #[.string ds] W fun e w' => e = .returned (.string ls) ∧ Below W.heap.size W w') := by
   intro W; rw [hls]; exact specLower ds W (by omega)
  clear hds hls
  go_enter Tryz.func102, Tryz.ntmps102
  go_wp2_with fail
  refine (C1.out _).mono ?_
  rintro e W1 ⟨rfl, d1⟩
  have b1 : Below w.heap.size w W1 := ((Below.refl _ w).alloc (Nat.le_refl _) _).trans (d1.mono (by simp))
  have hz1 := hz0.below d1
  go_wp2_with fail
  refine (C2.out _).mono ?_
  rintro e W2 ⟨rfl, d2⟩
  have b2 := b1.trans (d2.mono b1.size)
  have hz2 := hz1.below d2
  obtain ⟨⟨c0, c1, c2⟩, f0, f1, f2⟩ := hz2.cells
  go_wp2
  exact bodyPost_ret (v := .tuple #[.agg #[.int .i64 0, .string ⟨#[]⟩, .int .i64 0], .bool false]) (by simp [results, Tryz.results102, go_sem, c0, c1, c2]) rfl ⟨by rw [HG2.out, HO2.out], below_host b2 _ _ _⟩
end Go.Proofs.YtnfhajhdpdidlaaGreatDoor
end
