/- The reader's choice out of a list: one of the list's own, and nothing turns but the reader's place. -/
import Derived.Test.YteapapcedkpkmaaDoorPick
import Derived.Test.YteapapcedkpkmaaDoorCode
set_option linter.unusedVariables false
namespace Go.Proofs.YteapapcedkpkmaaDoor
open Go.RowKit Go.Shelf

set_option maxHeartbeats 1000000 in
set_option maxRecDepth 100000 in
theorem rdOf (B r p g c : Nat) (xs : List ByteArray) (t : TypeId) (fr : Nat × Nat) (A : Array Value) (w : World) (hA : A.toList = xs.map Value.string) (hg : w.heap[g]? = some (.cells A t fr)) (hgr : g ≠ r) (h1 : 1 ≤ xs.length) (hx : xs.length ≤ 1000000) (hp : p ≤ 1000000) (h : Rd B r p w) :
    Calls Tryd.prog 10 #[.pointer (some ⟨r, 0, none⟩), .slice (some ⟨g, 0, none⟩) xs.length c] w fun e w' => ∃ x, x ∈ xs ∧ e = .returned (Value.string x) ∧ Rd B r (p + 1) w' ∧ w.grownBy w' (some r) := by
  go_enter Tryd.func10, Tryd.ntmps10
  go_wp2_with fail
  refine (pick B r p _ _ (by omega) (by omega) hp h).mono ?_
  rintro e w1 ⟨v, rfl, hv0, hv1, hr1, hg1⟩
  obtain ⟨j, rfl⟩ := Int.eq_ofNat_of_zero_le hv0
  have hj : j < xs.length := by omega
  have hcell : w1.cell? ⟨g, j, none⟩ = some (Value.string xs[j]) := by
    have hh : w1.heap[g]? = some (.cells A t fr) := (hg1.block g (Array.getElem?_eq_some_iff.1 hg).1 (by simp [hgr])).trans hg
    rw [Lib.cell_of_heap hh, ← Array.getElem?_toList, hA]
    simp [hj]
  go_wp2
  go_ret
  exact ⟨xs[j], List.getElem_mem hj, rfl, hr1, hg1⟩

end Go.Proofs.YteapapcedkpkmaaDoor
