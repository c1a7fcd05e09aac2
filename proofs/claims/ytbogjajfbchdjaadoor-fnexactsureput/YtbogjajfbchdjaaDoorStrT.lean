/- toStringS: a copy of a list of texts. -/
import Derived.Test.YtbogjajfbchdjaaDoorStrS
set_option linter.unusedVariables false
namespace Go.Proofs.YtbogjajfbchdjaaDoor
open Go.RowKit Go.Shelf

/-- The first k texts of ss lie in block g, which is as long as ss. -/
def Part (g : Nat) (ss : List (List UInt8)) (k : Nat) (w : World) : Prop :=
  ∃ A : Array Value, w.heap[g]? = some (.cells A 9 (0, 0)) ∧ A.size = ss.length ∧ ∀ j (h : j < ss.length), j < k → A[j]? = some (.string (mk ss[j]))
theorem Part.strs {g : Nat} {ss : List (List UInt8)} {w : World} (h : Part g ss ss.length w) : StrsOf (some ⟨g, 0, none⟩) ss.length ss w := by
  obtain ⟨A, hg, _, hc⟩ := h
  refine ⟨rfl, .inr ⟨g, 0, rfl, fun j hj => ?_⟩⟩
  rw [Nat.zero_add, Lib.cell_of_heap hg]; exact hc j hj hj
theorem Part.cell {g : Nat} {ss : List (List UInt8)} {k : Nat} {w : World} (h : Part g ss k w) (hk : k < ss.length) : ∃ v, w.cell? ⟨g, k, none⟩ = some v := by
  obtain ⟨A, hg, hs, _⟩ := h
  rw [Lib.cell_of_heap hg]
  exact ⟨A[k]'(by omega), by rw [Array.getElem?_eq_getElem]⟩
theorem Part.free {g : Nat} {ss : List (List UInt8)} {k : Nat} {w : World} (h : Part g ss k w) (j : Nat) : w.frozen? ⟨g, j, none⟩ = false := by
  obtain ⟨A, hg, hs, _⟩ := h
  exact Lib.frozen_of_heap hg j
theorem Part.put {g : Nat} {ss : List (List UInt8)} {k : Nat} {w : World} (h : Part g ss k w) (hk : k < ss.length) : Part g ss (k + 1) (w.setCell ⟨g, k, none⟩ (.string (mk ss[k]))) := by
  obtain ⟨A, hg, hs, hc⟩ := h
  refine ⟨A.set k (.string (mk ss[k])) (by omega), ?_, by simp [hs], ?_⟩
  · simp [World.setCell, Array.getElem?_modify, hg]
    rw [Array.setIfInBounds_def]
    simp [hs, hk]
  · intro j hj hjk
    rw [Array.getElem?_set]
    split
    · rename_i e; subst e; rfl
    · exact hc j hj (by omega)
theorem part_new (ss : List (List UInt8)) (w : World) (z : Array Value) : Part w.heap.size ss 0 (w.alloc (.cells (madeCells z (ss.length * 1)) 9)) := by
  refine ⟨_, heap_alloc_new w _, by rw [size_madeCells]; simp, fun j hj h => absurd h (by omega)⟩

set_option maxHeartbeats 1000000 in
set_option maxRecDepth 100000 in
theorem toStringP (a : Option Addr) (len cap : Nat) (ss : List (List UInt8)) (w : World) (h : StrsOf a len ss w) (hl : len ≤ 1000000000) :
    Calls Tryd.prog 16 #[.slice a len cap] w fun e w' => e = .returned (.slice (some ⟨w.heap.size, 0, none⟩) len len) ∧ Part w.heap.size ss ss.length w' ∧ Below w.heap.size w w' := by
  have HLEN : Hid (len = ss.length) := h.1
  have HM : ∃ W, (Instr.makeSlice 22 (.int .i64 (len : Int)) (.int .i64 (len : Int))).run Tryd.prog w = .ok (.slice (some ⟨w.heap.size, 0, none⟩) len len) W ∧ Part w.heap.size ss 0 W ∧ Below w.heap.size w W := by
    obtain ⟨i0, hi, hz0, hz1, hz2⟩ := info_parts infoStr
    have := run_make (P := Tryd.prog) w 22 9 i0 (.string ⟨#[]⟩) Tryd.underlying22 hi hz0 .i64 .i64 (len : Int) (len : Int) (by omega) (by omega) (by rw [hz2]; omega) (by omega)
    rw [hz1] at this
    simp only [Int.toNat_natCast] at this
    refine ⟨_, this, ?_, (Below.refl _ w).alloc (Nat.le_refl _) _⟩
    rw [HLEN.out]; exact part_new ss w _
  obtain ⟨W, hmk, hP, hbW⟩ := HM
  go_enter Tryd.func16, Tryd.ntmps16
  go_wp2
  go_loopw [4] (fun i wr => ∃ k : Nat, k ≤ len ∧ i = .int .i64 k ∧ Part w.heap.size ss k wr ∧ Below w.heap.size w wr) (fun i wr => len - (intOf i).toNat)
  case atStart => exact ⟨0, Nat.zero_le _, rfl, hP, hbW⟩
  case round =>
    clear hmk hP hbW
    obtain ⟨k, hk, rfl, hI, hbw⟩ := hrel
    by_cases hp : k < len
    · have hki : (k : Int) < (len : Int) := by omega
      have hkl : k < ss.length := by have := HLEN.out; omega
      obtain ⟨b, off, z, rfl, hz, hzm, hzs⟩ := (h.later hbw).at k hkl
      obtain ⟨u, hu⟩ := hI.cell hkl
      have hf := hI.free k
      have HP : Hid (Part w.heap.size ss (k + 1) (wr.setCell ⟨w.heap.size, k, none⟩ (.string z))) := by rw [hzm]; exact hI.put hkl
      clear hzm hzs hI
      go_wp2
      go_roundw
      case rel => exact ⟨k + 1, by omega, by go_num, HP.out, hbw.setCell (p := ⟨w.heap.size, k, none⟩) (Nat.le_refl _) _⟩
      case measure => simp [intOf]; omega
    · have hkk : k = len := by omega
      subst hkk
      go_wp2
      go_ret
      refine ⟨rfl, ?_, hbw⟩
      have := HLEN.out
      subst this
      exact hI
theorem toStringS (a : Option Addr) (len cap : Nat) (ss : List (List UInt8)) (w : World) (h : StrsOf a len ss w) (hl : len ≤ 1000000000) :
    Calls Tryd.prog 16 #[.slice a len cap] w fun e w' => e = .returned (.slice (some ⟨w.heap.size, 0, none⟩) len len) ∧ StrsOf (some ⟨w.heap.size, 0, none⟩) len ss w' ∧ Below w.heap.size w w' :=
  (toStringP a len cap ss w h hl).mono fun e w' ⟨he, hp, hb⟩ => ⟨he, by rw [h.1]; exact hp.strs, hb⟩
end Go.Proofs.YtbogjajfbchdjaaDoor
