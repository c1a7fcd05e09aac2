/- laws.szOrigin, laws.toOrigin: an origin as the laws hand it in. -/
import Derived.Test.YtdiloljmpcapfaaDoorOkI
import Derived.Test.YtdiloljmpcapfaaDoorBlk
set_option linter.unusedVariables false
namespace Go.Proofs.YtdiloljmpcapfaaDoor
open Go.RowKit Go.Shelf

set_option maxHeartbeats 1000000 in
set_option maxRecDepth 100000 in
theorem szHostAny (k : Int) (s : ByteArray) (a L : Int) (w : World) (hs : s.size ≤ maxLen) (h0 : 0 ≤ L) (h1 : L ≤ 1048576) :
    Calls Tryd.prog 8 #[.agg #[.int .i64 k, .string s, .int .i64 a], .int .i64 L] w fun e w' => e = .returned (.int .i64 (if L < (s.size : Int) then -1 else L - (s.size : Int))) ∧ Below w.heap.size w w' := by
  have hmx : (s.size : Int) ≤ 9223372036854775807 := by unfold maxLen at hs; omega
  by_cases h : L < (s.size : Int)
  · rw [if_pos h]
    have h2 : L - (s.size : Int) < 0 := by omega
    go_enter Tryd.func8, Tryd.ntmps8
    go_wp2
    go_ret
    exact ⟨rfl, (Below.refl _ w).alloc (Nat.le_refl _) _⟩
  · rw [if_neg h]
    have h2 : ¬ (L - (s.size : Int) < 0) := by omega
    go_enter Tryd.func8, Tryd.ntmps8
    go_wp2
    go_ret
    exact ⟨rfl, (Below.refl _ w).alloc (Nat.le_refl _) _⟩

set_option maxHeartbeats 1000000 in
set_option maxRecDepth 100000 in
theorem szOrigin (c : ByteArray) (k : Int) (s : ByteArray) (a p : Int) (w : World) (hc : c.size ≤ maxLen) (hs : s.size ≤ maxLen) :
    Calls Tryd.prog 4 #[.agg #[.string c, .int .i64 k, .string s, .int .i64 a, .int .i64 p], .int .i64 1048576] w fun e w' => e = .returned (.int .i64 (if (1048576 : Int) < (c.size : Int) + (s.size : Int) then -1 else 1048576 - (c.size : Int) - (s.size : Int))) ∧ Below w.heap.size w w' := by
  have hmx : (c.size : Int) ≤ 9223372036854775807 := by unfold maxLen at hc; omega
  have hms : (s.size : Int) ≤ 9223372036854775807 := by unfold maxLen at hs; omega
  have hB0 : Below w.heap.size w (w.alloc (Obj.cells #[.string c, .int .i64 k, .string s, .int .i64 a, .int .i64 p] 25)) := (Below.refl _ w).alloc (Nat.le_refl _) _
  by_cases h : (1048576 : Int) < (c.size : Int)
  · have h2 : (1048576 : Int) - (c.size : Int) < 0 := by omega
    rw [if_pos (by omega)]
    go_enter Tryd.func4, Tryd.ntmps4
    go_wp2
    go_ret
    exact ⟨rfl, hB0⟩
  · have h2 : ¬ ((1048576 : Int) - (c.size : Int) < 0) := by omega
    have CS : Hid (∀ W, Calls Tryd.prog 8 #[.agg #[.int .i64 k, .string s, .int .i64 a], .int .i64 (1048576 - (c.size : Int))] W fun e w' => e = .returned (.int .i64 (if 1048576 - (c.size : Int) < (s.size : Int) then -1 else 1048576 - (c.size : Int) - (s.size : Int))) ∧ Below W.heap.size W w') := fun W => szHostAny k s a _ W hs (by omega) (by omega)
    by_cases h3 : (1048576 : Int) < (c.size : Int) + (s.size : Int)
    · rw [if_pos h3]
      rw [if_pos (show 1048576 - (c.size : Int) < (s.size : Int) by omega)] at CS
      go_enter Tryd.func4, Tryd.ntmps4
      go_wp2_with fail
      refine (CS.out _).mono ?_
      rintro e W1 ⟨rfl, d1⟩
      have b1 := hB0.trans (d1.mono hB0.size)
      go_wp2
      go_ret
      exact ⟨rfl, b1⟩
    · rw [if_neg h3]
      rw [if_neg (show ¬ (1048576 - (c.size : Int) < (s.size : Int)) by omega)] at CS
      have h4 : ¬ ((1048576 : Int) - (c.size : Int) - (s.size : Int) < 0) := by omega
      go_enter Tryd.func4, Tryd.ntmps4
      go_wp2_with fail
      refine (CS.out _).mono ?_
      rintro e W1 ⟨rfl, d1⟩
      have b1 := hB0.trans (d1.mono hB0.size)
      go_wp2
      go_ret
      exact ⟨rfl, b1⟩

theorem alloc3 (w : World) (A B C : Obj) : (((w.alloc A).alloc B).alloc C).heap.size = w.heap.size + 3 := by simp
set_option maxHeartbeats 1000000 in
set_option maxRecDepth 100000 in
theorem toOrigin (c : ByteArray) (k : Int) (s : ByteArray) (a p : Int) (w : World) :
    Calls Tryd.prog 6 #[.agg #[.string c, .int .i64 k, .string s, .int .i64 a, .int .i64 p]] w fun e w' => e = .returned (.agg #[.string c, .int .i64 k, .string s, .int .i64 a, .int .i64 p]) ∧ Below w.heap.size w w' := by
  go_enter Tryd.func6, Tryd.ntmps6
  go_wp2_with fail
  have b0 := below3 w (Obj.cells #[.string c, .int .i64 k, .string s, .int .i64 a, .int .i64 p] 25) (Obj.cells #[.string ⟨#[]⟩, .int .i64 0, .string ⟨#[]⟩, .int .i64 0, .int .i64 0] 30) (Obj.cells #[.string c, .int .i64 0, .string ⟨#[]⟩, .int .i64 0, .int .i64 0] 30)
  have hz0 := alloc3 w (Obj.cells #[.string c, .int .i64 k, .string s, .int .i64 a, .int .i64 p] 25) (Obj.cells #[.string ⟨#[]⟩, .int .i64 0, .string ⟨#[]⟩, .int .i64 0, .int .i64 0] 30) (Obj.cells #[.string c, .int .i64 0, .string ⟨#[]⟩, .int .i64 0, .int .i64 0] 30)
  have k0 : Blk w.heap.size #[.string c, .int .i64 k, .string s, .int .i64 a, .int .i64 p] 25 (((w.alloc (Obj.cells #[.string c, .int .i64 k, .string s, .int .i64 a, .int .i64 p] 25)).alloc (Obj.cells #[.string ⟨#[]⟩, .int .i64 0, .string ⟨#[]⟩, .int .i64 0, .int .i64 0] 30)).alloc (Obj.cells #[.string c, .int .i64 0, .string ⟨#[]⟩, .int .i64 0, .int .i64 0] 30)) := ((Blk.new w _ _).alloc _).alloc _
  have k1 : Blk (w.heap.size + 1) #[.string ⟨#[]⟩, .int .i64 0, .string ⟨#[]⟩, .int .i64 0, .int .i64 0] 30 (((w.alloc (Obj.cells #[.string c, .int .i64 k, .string s, .int .i64 a, .int .i64 p] 25)).alloc (Obj.cells #[.string ⟨#[]⟩, .int .i64 0, .string ⟨#[]⟩, .int .i64 0, .int .i64 0] 30)).alloc (Obj.cells #[.string c, .int .i64 0, .string ⟨#[]⟩, .int .i64 0, .int .i64 0] 30)) := by
    have := (Blk.new (w.alloc (Obj.cells #[.string c, .int .i64 k, .string s, .int .i64 a, .int .i64 p] 25)) #[.string ⟨#[]⟩, .int .i64 0, .string ⟨#[]⟩, .int .i64 0, .int .i64 0] 30).alloc (Obj.cells #[.string c, .int .i64 0, .string ⟨#[]⟩, .int .i64 0, .int .i64 0] 30)
    simpa using this
  have k2 : Blk (w.heap.size + 2) #[.string c, .int .i64 0, .string ⟨#[]⟩, .int .i64 0, .int .i64 0] 30 (((w.alloc (Obj.cells #[.string c, .int .i64 k, .string s, .int .i64 a, .int .i64 p] 25)).alloc (Obj.cells #[.string ⟨#[]⟩, .int .i64 0, .string ⟨#[]⟩, .int .i64 0, .int .i64 0] 30)).alloc (Obj.cells #[.string c, .int .i64 0, .string ⟨#[]⟩, .int .i64 0, .int .i64 0] 30)) := by
    have := Blk.new ((w.alloc (Obj.cells #[.string c, .int .i64 k, .string s, .int .i64 a, .int .i64 p] 25)).alloc (Obj.cells #[.string ⟨#[]⟩, .int .i64 0, .string ⟨#[]⟩, .int .i64 0, .int .i64 0] 30)) #[.string c, .int .i64 0, .string ⟨#[]⟩, .int .i64 0, .int .i64 0] 30
    simpa using this
  refine (toHost k s a _).mono ?_
  rintro e W1 ⟨rfl, d1⟩
  rw [hz0] at d1
  have b1 : Below w.heap.size w W1 := b0.trans (d1.mono (by omega))
  have j0 := k0.below d1 (by omega)
  have j1 := k1.below d1 (by omega)
  have j2 := k2.below d1 (by omega)
  clear k0 k1 k2 b0 hz0 d1
  have l1 := j1.lt
  have l2 := j2.lt
  have x4 : W1.cell? ⟨w.heap.size, 4, none⟩ = some (.int .i64 p) := j0.cell 4
  have y0 : W1.cell? ⟨w.heap.size + 1, 0, none⟩ = some (.string ⟨#[]⟩) := j1.cell 0
  have y1 : W1.cell? ⟨w.heap.size + 1, 1, none⟩ = some (.int .i64 0) := j1.cell 1
  have y2 : W1.cell? ⟨w.heap.size + 1, 2, none⟩ = some (.string ⟨#[]⟩) := j1.cell 2
  have y3 : W1.cell? ⟨w.heap.size + 1, 3, none⟩ = some (.int .i64 0) := j1.cell 3
  have y4 : W1.cell? ⟨w.heap.size + 1, 4, none⟩ = some (.int .i64 0) := j1.cell 4
  have z0 : W1.cell? ⟨w.heap.size + 1 + 1, 0, none⟩ = some (.string c) := j2.cell 0
  have z1 : W1.cell? ⟨w.heap.size + 1 + 1, 1, none⟩ = some (.int .i64 0) := j2.cell 1
  have z2 : W1.cell? ⟨w.heap.size + 1 + 1, 2, none⟩ = some (.string ⟨#[]⟩) := j2.cell 2
  have z3 : W1.cell? ⟨w.heap.size + 1 + 1, 3, none⟩ = some (.int .i64 0) := j2.cell 3
  have z4 : W1.cell? ⟨w.heap.size + 1 + 1, 4, none⟩ = some (.int .i64 0) := j2.cell 4
  have f10 := j1.free 0
  have f11 := j1.free 1
  have f12 := j1.free 2
  have f13 := j1.free 3
  have f14 := j1.free 4
  have f20 : W1.frozen? ⟨w.heap.size + 1 + 1, 0, none⟩ = false := j2.free 0
  have f21 : W1.frozen? ⟨w.heap.size + 1 + 1, 1, none⟩ = false := j2.free 1
  have f22 : W1.frozen? ⟨w.heap.size + 1 + 1, 2, none⟩ = false := j2.free 2
  have f23 : W1.frozen? ⟨w.heap.size + 1 + 1, 3, none⟩ = false := j2.free 3
  have f24 : W1.frozen? ⟨w.heap.size + 1 + 1, 4, none⟩ = false := j2.free 4
  clear j0 j1 j2
  go_wp2
  refine bodyPost_ret (v := .agg #[.string c, .int .i64 k, .string s, .int .i64 a, .int .i64 p]) (by simp [results, Tryd.results6, go_sem, y0, y1, y2, y3, y4]) rfl ⟨rfl, ?_⟩
  have u1 : w.heap.size ≤ w.heap.size + 1 := by omega
  have u2 : w.heap.size ≤ w.heap.size + 1 + 1 := by omega
  exact ((((((((b1.setCell (p := ⟨w.heap.size + 1 + 1, 1, none⟩) u2 _).setCell (p := ⟨w.heap.size + 1 + 1, 2, none⟩) u2 _).setCell (p := ⟨w.heap.size + 1 + 1, 3, none⟩) u2 _).setCell (p := ⟨w.heap.size + 1 + 1, 4, none⟩) u2 _).setCell (p := ⟨w.heap.size + 1, 0, none⟩) u1 _).setCell (p := ⟨w.heap.size + 1, 1, none⟩) u1 _).setCell (p := ⟨w.heap.size + 1, 2, none⟩) u1 _).setCell (p := ⟨w.heap.size + 1, 3, none⟩) u1 _).setCell (p := ⟨w.heap.size + 1, 4, none⟩) u1 _
end Go.Proofs.YtdiloljmpcapfaaDoor
