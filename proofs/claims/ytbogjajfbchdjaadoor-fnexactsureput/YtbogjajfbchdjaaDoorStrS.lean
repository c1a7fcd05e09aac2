/- Lists of texts that came in or were made. -/
import Derived.Test.YtbogjajfbchdjaaDoorOwn
import Derived.Test.YtbogjajfbchdjaaDoorCutP
import Derived.BigQuiet
import Derived.Deep.QuietTactic
import Derived.OwnWalk
import Derived.WalkSmall
set_option linter.unusedVariables false
namespace Go.Proofs.YtbogjajfbchdjaaDoor
open Go.RowKit Go.Shelf

/-- A slice value (its address and length) reads as the texts ss. -/
def StrsOf (a : Option Addr) (len : Nat) (ss : List (List UInt8)) (w : World) : Prop :=
  len = ss.length ∧ (ss = [] ∨ ∃ b off, a = some ⟨b, off, none⟩ ∧ ∀ j (h : j < ss.length), w.cell? ⟨b, off + j, none⟩ = some (.string (mk ss[j])))

theorem cell_in {w : World} {p : Addr} {v : Value} (h : w.cell? p = some v) : p.block < w.heap.size := by
  rcases Nat.lt_or_ge p.block w.heap.size with h' | h'
  · exact h'
  · simp [World.cell?, Array.getElem?_eq_none h'] at h

theorem StrsOf.later {a : Option Addr} {len : Nat} {ss : List (List UInt8)} {w w' : World} (h : StrsOf a len ss w) (hb : Below w.heap.size w w') : StrsOf a len ss w' := by
  obtain ⟨hl, h⟩ := h
  refine ⟨hl, ?_⟩
  rcases h with h | ⟨b, off, ha, hc⟩
  · exact .inl h
  · refine .inr ⟨b, off, ha, fun j hj => ?_⟩
    rw [hb.cell (p := ⟨b, off + j, none⟩) (cell_in (hc j hj))]
    exact hc j hj
theorem StrsOf.drewN {a : Option Addr} {len : Nat} {ss : List (List UInt8)} {w : World} (h : StrsOf a len ss w) (n : Nat) : StrsOf a len ss (w.drewN n) := h
theorem StrsOf.at {a : Option Addr} {len : Nat} {ss : List (List UInt8)} {w : World} (h : StrsOf a len ss w) (k : Nat) (hk : k < ss.length) : ∃ b off z, a = some ⟨b, off, none⟩ ∧ w.cell? ⟨b, off + k, none⟩ = some (.string z) ∧ z = mk ss[k] ∧ z.size = ss[k].length := by
  rcases h.2 with h | ⟨b, off, ha, hc⟩
  · subst h; simp at hk
  · exact ⟨b, off, _, ha, hc k hk, rfl, mk_size _⟩

theorem addr_add_at (b off i : Nat) : (⟨b, off, none⟩ : Addr).add i = ⟨b, off + i, none⟩ := by unfold Addr.add; split <;> simp_all
/-- What an opened list of texts reads as. -/
theorem strs_open {w : World} {x : Addr} {len cap : Nat} {ss : List ByteArray} (hl : len ≤ cap) (hs : ss.length = cap) (hc : ∀ i, i < ss.length → w.cell? (x.add i) = some (.string (ss.getD i ByteArray.empty))) : StrsOf (some x) len ((ss.take len).map fun s => s.data.toList) w := by
  refine ⟨by simp; omega, ?_⟩
  by_cases h0 : len = 0
  · subst h0; exact .inl rfl
  obtain ⟨b, off, spot⟩ := x
  have h1 := hc 0 (by omega)
  have hsp : spot = none := by simpa [Addr.add] using World.cell?_spot h1
  subst hsp
  refine .inr ⟨b, off, rfl, fun j hj => ?_⟩
  have hj' : j < len := by simp at hj; omega
  have h2 := hc j (by omega)
  rw [addr_add_at] at h2
  rw [h2]
  simp only [List.getElem_map, List.getElem_take]
  rw [mk_list, List.getD_eq_getElem?_getD, List.getElem?_eq_getElem (by omega)]; rfl

theorem infoStr : (Tryd.prog.info? 9).map (fun i => (i.zero, i.size, i.bytes)) = some (some (.string ⟨#[]⟩), 1, 16) := by kernel_rfl

/-- How many texts and bytes. -/
def tot (ss : List (List UInt8)) : Nat := (ss.map List.length).sum
theorem tot_snoc (ss : List (List UInt8)) (k : Nat) (hk : k < ss.length) : tot (ss.take (k + 1)) = tot (ss.take k) + ss[k].length := by
  unfold tot; rw [List.take_succ_eq_append_getElem hk, List.map_append, List.sum_append]; rfl

end Go.Proofs.YtbogjajfbchdjaaDoor
