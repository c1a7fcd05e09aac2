/- impl.Encode writes the bytes of a set as figures, whatever the text. -/
import Derived.Test.YtjkbgdnjghlakaaDoorEncI
set_option linter.unusedVariables false
namespace Go.Proofs.YtjkbgdnjghlakaaDoor
open Go.RowKit Go.Shelf

set_option maxHeartbeats 1000000 in
set_option maxRecDepth 100000 in
theorem implEncode (set : Int) (s : ByteArray) (w : World) (hs : s.size ≤ maxLen) :
    Calls Tryd.prog 31 #[.int .i64 set, .string s] w fun e w' => e = .returned (.string ⟨(encode set s).toArray⟩) ∧ Below w.heap.size w w' := by
  unfold maxLen at hs
  by_cases hL : s.size ≤ 200
  · rw [encode_small set s hL]
    have hLi : (s.size : Int) ≤ 200 := by omega
    go_enter Tryd.func31, Tryd.ntmps31
    go_wp2_with fail
    refine (setOf set _).mono ?_
    rintro e W1 ⟨rfl, hW⟩
    have hc : W1.cell? ⟨w.heap.size, 0, none⟩ = some (.string (setT set)) := by rw [hW, Lib.cell_of_heap (heap_alloc_new w _)]; rfl
    have hl : w.heap.size < W1.heap.size := by rw [hW]; simp
    have hb1 : Below w.heap.size w W1 := by rw [hW]; exact (Below.refl _ w).alloc (Nat.le_refl _) _
    clear hW
    go_wp2_with fail
    refine (encodeBy set s w.heap.size _ (by omega) hl hc).mono ?_
    rintro e W2 ⟨rfl, b2⟩
    go_wp2
    go_ret
    exact ⟨rfl, hb1.trans (b2.mono (Nat.le_of_lt hl))⟩
  · rw [encode_great set s hL]
    have hLi : (200 : Int) < (s.size : Int) := by omega
    go_enter Tryd.func31, Tryd.ntmps31
    go_wp2
    go_ret
    exact ⟨rfl, Below.refl _ _⟩
end Go.Proofs.YtjkbgdnjghlakaaDoor
