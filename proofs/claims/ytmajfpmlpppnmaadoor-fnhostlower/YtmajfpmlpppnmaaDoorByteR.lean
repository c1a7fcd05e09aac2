/- A text turned into bytes that the call writes over: the new row, one byte put, its text again. -/
import Derived.Test.YtmajfpmlpppnmaaDoorOwn
import Derived.Test.YtmajfpmlpppnmaaDoorCutP
import Derived.Lib.ConvBytes
set_option linter.unusedVariables false
namespace Go.Proofs.YtmajfpmlpppnmaaDoor
open Go.RowKit Go.Shelf

/-- In block g lie the bytes l, and none of them is frozen. -/
def RowB (g : Nat) (l : List UInt8) (w : World) : Prop :=
  ∃ A fr, w.heap[g]? = some (.cells A 5 fr) ∧ l.length ≤ fr.1 ∧ l.length ≤ A.size ∧ ∀ j (h : j < l.length), A[j]? = some (.int .u8 (l[j].toNat : Int))
theorem RowB.cell {g : Nat} {l : List UInt8} {w : World} (h : RowB g l w) (j : Nat) (hj : j < l.length) : w.cell? ⟨g, j, none⟩ = some (.int .u8 (l[j].toNat : Int)) := by
  obtain ⟨A, fr, hg, _, _, hc⟩ := h
  rw [Lib.cell_of_heap hg]; exact hc j hj
theorem RowB.free {g : Nat} {l : List UInt8} {w : World} (h : RowB g l w) (j : Nat) (hj : j < l.length) : w.frozen? ⟨g, j, none⟩ = false := by
  obtain ⟨A, fr, hg, hf, _, hc⟩ := h
  simp [World.frozen?, hg]; omega
theorem RowB.put {g : Nat} {l : List UInt8} {w : World} (h : RowB g l w) (k : Nat) (c : UInt8) (n : Int) (hn : n = (c.toNat : Int)) (hk : k < l.length) : RowB g (l.set k c) (w.setCell ⟨g, k, none⟩ (.int .u8 n)) := by
  obtain ⟨A, fr, hg, hf, hs, hc⟩ := h
  subst hn
  refine ⟨A.set k (.int .u8 (c.toNat : Int)) (by omega), fr, ?_, by simpa using hf, by simpa using hs, ?_⟩
  · simp [World.setCell, Array.getElem?_modify, hg]
    rw [Array.setIfInBounds_def]
    simp [show k < A.size from by omega]
  · intro j hj
    rw [Array.getElem?_set]
    split
    · rename_i e; subst e; simp
    · rename_i e; rw [List.getElem_set_ne e]; exact hc j (by simpa using hj)
theorem RowB.text {g cap : Nat} {l : List UInt8} {w : World} (h : RowB g l w) : (convert 22 9 (.slice (some ⟨g, 0, none⟩) l.length cap)).run Tryd.prog w = .ok (.string (mk l)) w := by
  refine run_convert_bytes_back w 22 9 5 ⟨g, 0, none⟩ cap l Tryd.underlying22 Tryd.underlying5 Tryd.underlying9 ?_
  intro j hj
  rw [addr_add]; exact h.cell j hj
theorem rowB_new (s : ByteArray) (w : World) : RowB w.heap.size s.data.toList (Lib.bytesWorld w 5 s) := by
  refine ⟨_, _, Lib.bytesWorld_at_new w 5 s, ?_, ?_, ?_⟩
  · simp [Lib.bytesCells]
  · simp [Lib.bytesCells]
  · intro j hj
    have hj' : j < s.data.size := by simpa using hj
    simp only [Lib.bytesCells]
    rw [Array.getElem?_append_left (by simpa using hj')]
    rw [Array.getElem?_map, Array.getElem?_eq_getElem hj']; rfl
theorem bytes_below (s : ByteArray) (w : World) : Below w.heap.size w (Lib.bytesWorld w 5 s) :=
  ⟨by simp [Lib.bytesWorld, World.freeze, World.alloc, World.drew, -World.alloc_eq, -World.drew_eq], by simp [Lib.bytesWorld, World.freeze, World.alloc, World.drew, -World.alloc_eq, -World.drew_eq], by simp [Lib.bytesWorld, World.freeze, World.alloc, World.drew, -World.alloc_eq, -World.drew_eq], by rw [Lib.bytesWorld_size]; omega, fun k hk => Lib.bytesWorld_at_old w _ s k hk⟩
/-- The run of such a turn, as a walk takes it. -/
theorem bytes_run (s : ByteArray) (w : World) : ∃ c W, (convert 9 22 (.string s)).run Tryd.prog w = .ok (.slice (some ⟨w.heap.size, 0, none⟩) s.size c) W ∧ RowB w.heap.size s.data.toList W ∧ Below w.heap.size w W :=
  ⟨_, _, Lib.run_convert_string_bytes w 9 22 5 s Tryd.underlying9 Tryd.underlying22 Tryd.underlying5, rowB_new s w, bytes_below s w⟩
theorem set_take_drop (l : List UInt8) (f : UInt8 → UInt8) (k : Nat) (hk : k < l.length) : ((l.take k).map f ++ l.drop k).set k (f l[k]) = (l.take (k + 1)).map f ++ l.drop (k + 1) := by
  induction l generalizing k with
  | nil => simp at hk
  | cons c r ih =>
    cases k with
    | zero => simp
    | succ k => simpa using ih k (by simpa using hk)
theorem part_map_at (l : List UInt8) (f : UInt8 → UInt8) (k : Nat) (hk : k < l.length) (h : k < ((l.take k).map f ++ l.drop k).length) : ((l.take k).map f ++ l.drop k)[k] = l[k] := by
  rw [List.getElem_append_right (by simp; omega)]
  simp [Nat.min_eq_left (Nat.le_of_lt hk)]
theorem part_map_len (l : List UInt8) (f : UInt8 → UInt8) (k : Nat) (hk : k ≤ l.length) : ((l.take k).map f ++ l.drop k).length = l.length := by simp; omega
theorem part_map_same (l : List UInt8) (f : UInt8 → UInt8) (k : Nat) (hk : k < l.length) (h : f l[k] = l[k]) : (l.take k).map f ++ l.drop k = (l.take (k + 1)).map f ++ l.drop (k + 1) := by
  rw [List.take_succ_eq_append_getElem hk, List.drop_eq_getElem_cons hk, List.map_append]
  simp [h]
/-- A row in which the first k bytes have been turned: the next one is as it was, and may be turned. -/
theorem RowB.atMap {g k : Nat} {l : List UInt8} {f : UInt8 → UInt8} {w : World} (h : RowB g ((l.take k).map f ++ l.drop k) w) (hk : k < l.length) : w.cell? ⟨g, k, none⟩ = some (.int .u8 (l[k].toNat : Int)) ∧ w.frozen? ⟨g, k, none⟩ = false := by
  have hl := part_map_len l f k (Nat.le_of_lt hk)
  refine ⟨?_, h.free k (by omega)⟩
  rw [h.cell k (by omega), part_map_at l f k hk]
theorem RowB.putMap {g k : Nat} {l : List UInt8} {f : UInt8 → UInt8} {w : World} (h : RowB g ((l.take k).map f ++ l.drop k) w) (hk : k < l.length) (n : Int) (hn : n = ((f l[k]).toNat : Int)) : RowB g ((l.take (k + 1)).map f ++ l.drop (k + 1)) (w.setCell ⟨g, k, none⟩ (.int .u8 n)) := by
  have hl := part_map_len l f k (Nat.le_of_lt hk)
  have := h.put k (f l[k]) n hn (by omega)
  rwa [set_take_drop l f k hk] at this
theorem RowB.same {g k : Nat} {l : List UInt8} {f : UInt8 → UInt8} {w : World} (h : RowB g ((l.take k).map f ++ l.drop k) w) (hk : k < l.length) (hn : f l[k] = l[k]) : RowB g ((l.take (k + 1)).map f ++ l.drop (k + 1)) w := by
  rwa [part_map_same l f k hk hn] at h
end Go.Proofs.YtmajfpmlpppnmaaDoor
