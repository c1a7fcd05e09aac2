/- Lists of texts that are owned: what stays of them (for seats without paths). -/
import Derived.Test.YtbogjajfbchdjaaDoorOwnS
set_option linter.unusedVariables false
namespace Go.Proofs.YtbogjajfbchdjaaDoor
open Go.RowKit Go.Shelf

theorem OwnS.later {B : Nat} {v : Value} {ps : List (List UInt8)} {w w' : World} (h : OwnS B v ps w) (hb : Below w.heap.size w w') : OwnS B v ps w' := by
  refine ⟨h.1, ?_⟩
  rcases h.2 with h | ⟨g, cap, cur, hv, hB, hg, hnc, hcm, hcs, ht⟩
  · exact .inl h
  · exact .inr ⟨g, cap, cur, hv, hB, (hb.block g (Array.getElem?_eq_some_iff.1 hg).1).trans hg, hnc, hcm, hcs, ht⟩
theorem OwnS.base {B B' : Nat} {v : Value} {ps : List (List UInt8)} {w : World} (h : OwnS B v ps w) (hB : B' ≤ B) : OwnS B' v ps w := by
  refine ⟨h.1, ?_⟩
  rcases h.2 with h | ⟨g, cap, cur, hv, hb, hg, hnc, hcm, hcs, ht⟩
  · exact .inl h
  · exact .inr ⟨g, cap, cur, hv, by omega, hg, hnc, hcm, hcs, ht⟩
theorem ownS_nil (w : World) (B : Nat) : OwnS B (.slice none 0 0) [] w := World.ownsRow_nil _ _ _ _
theorem OwnS.shape {B : Nat} {v : Value} {ps : List (List UInt8)} {w : World} (h : OwnS B v ps w) : ∃ a c, v = .slice a ps.length c ∧ ps.length ≤ c := by
  rcases h.2 with ⟨hv, h0⟩ | ⟨g, cap, cur, hv, _, _, hc, _⟩
  · exact ⟨none, 0, by rw [hv, h0], by omega⟩
  · exact ⟨_, cap, hv, hc⟩
theorem OwnS.pop {B n c : Nat} {a : Option Addr} {ps : List (List UInt8)} {w : World} (h : OwnS B (.slice a (n + 1) c) ps w) : OwnS B (.slice a n c) ps.dropLast w := by
  rcases h.2 with ⟨hv, h0⟩ | ⟨g, cap, cur, hv, hB, hg, hnc, hcm, hcs, ht⟩
  · cases hv
  · simp only [Value.slice.injEq] at hv
    obtain ⟨rfl, hn, rfl⟩ := hv
    have hd : ps.dropLast.length = n := by rw [List.length_dropLast]; omega
    refine ⟨by simp, .inr ⟨g, c, cur, by rw [hd], hB, hg, by omega, hcm, hcs, ?_⟩⟩
    have e : (cur.toList.take (ps.length * 1)).take n = (ps.map fun p => Value.string (mk p)).take n := by rw [ht]
    rw [List.take_take] at e
    rw [hd, Nat.mul_one, show n = min n (ps.length * 1) from by omega, e, List.dropLast_eq_take, List.map_take, ← hn]
    simp
theorem OwnS.strs {B : Nat} {v : Value} {ps : List (List UInt8)} {w : World} (h : OwnS B v ps w) : ∃ a c, v = .slice a ps.length c ∧ ps.length ≤ c ∧ StrsOf a ps.length ps w := by
  by_cases h0 : ps = []
  · obtain ⟨a, c, hv, hc⟩ := h.shape
    exact ⟨a, c, hv, hc, rfl, .inl h0⟩
  · obtain ⟨g, c, hv, _, hc, hS⟩ := ownS_strs h h0
    refine ⟨_, c, hv, hc, rfl, .inr ⟨g, 0, rfl, fun j hj => ?_⟩⟩
    rw [Nat.zero_add]; exact hS.cell j hj
end Go.Proofs.YtbogjajfbchdjaaDoor
