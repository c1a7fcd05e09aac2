/- Slices of pairs of texts: read, and owned. -/
import Derived.Test.YtjjpbkoglnimaaaDoorOwnS
set_option linter.unusedVariables false
namespace Go.Proofs.YtjjpbkoglnimaaaDoor
open Go.RowKit Go.Shelf

theorem cell_keep {B G o : Nat} {v : Value} {w w' : World} (hb : Below B w w') (h : w.cell? ⟨G, o, none⟩ = some v) (hG : G < B) : w'.cell? ⟨G, o, none⟩ = some v := by
  rw [hb.cell (p := ⟨G, o, none⟩) hG]; exact h

abbrev PairL := List UInt8 × List UInt8
def cellsP (ps : List PairL) : List Value := ps.flatMap fun p => [.string (mk p.1), .string (mk p.2)]
theorem cellsP_len (ps : List PairL) : (cellsP ps).length = ps.length * 2 := by
  induction ps with
  | nil => rfl
  | cons p ps ih => simp [cellsP] at ih ⊢; omega
theorem cellsP_at (ps : List PairL) (j : Nat) (h : j < ps.length) : (cellsP ps)[j * 2]? = some (.string (mk ps[j].1)) ∧ (cellsP ps)[j * 2 + 1]? = some (.string (mk ps[j].2)) := by
  induction ps generalizing j with
  | nil => simp at h
  | cons p ps ih =>
    cases j with
    | zero => exact ⟨rfl, rfl⟩
    | succ j =>
      have := ih j (by simpa using h)
      have e : cellsP (p :: ps) = .string (mk p.1) :: .string (mk p.2) :: cellsP ps := rfl
      rw [e, show (j + 1) * 2 = (j * 2) + 1 + 1 from by omega]
      simpa using this

/-- A slice value (its address and length) reads as the pairs ps. -/
def PairsOf (a : Option Addr) (len : Nat) (ps : List PairL) (w : World) : Prop :=
  len = ps.length ∧ (ps = [] ∨ ∃ b off, a = some ⟨b, off, none⟩ ∧ ∀ j (h : j < ps.length), w.cell? ⟨b, off + j * 2, none⟩ = some (.string (mk ps[j].1)) ∧ w.cell? ⟨b, off + j * 2 + 1, none⟩ = some (.string (mk ps[j].2)))
theorem PairsOf.later {a : Option Addr} {len : Nat} {ps : List PairL} {w w' : World} (h : PairsOf a len ps w) (hb : Below w.heap.size w w') : PairsOf a len ps w' := by
  obtain ⟨hl, h⟩ := h
  refine ⟨hl, ?_⟩
  rcases h with h | ⟨b, off, ha, hc⟩
  · exact .inl h
  · exact .inr ⟨b, off, ha, fun j hj => ⟨cell_keep hb (hc j hj).1 (cell_in (hc j hj).1), cell_keep hb (hc j hj).2 (cell_in (hc j hj).2)⟩⟩
theorem PairsOf.at {a : Option Addr} {len : Nat} {ps : List PairL} {w : World} (h : PairsOf a len ps w) (k : Nat) (hk : k < ps.length) : ∃ b off y z, a = some ⟨b, off, none⟩ ∧ w.cell? ⟨b, off + k * 2, none⟩ = some (.string y) ∧ w.cell? ⟨b, off + k * 2 + 1, none⟩ = some (.string z) ∧ y = mk ps[k].1 ∧ z = mk ps[k].2 := by
  rcases h.2 with h | ⟨b, off, ha, hc⟩
  · subst h; simp at hk
  · exact ⟨b, off, _, _, ha, (hc k hk).1, (hc k hk).2, rfl, rfl⟩

theorem infoPair : (Tryd.prog.info? 41).map (fun i => (i.zero, i.size, i.bytes)) = some (some (.agg #[.string ⟨#[]⟩, .string ⟨#[]⟩]), 2, 32) := by kernel_rfl
/-- The slice value v owns the pairs ps. -/
def OwnP (B : Nat) (v : Value) (ps : List PairL) (w : World) : Prop := w.ownsRow B 41 2 v ps.length (cellsP ps)
theorem ownP_new (w : World) (B : Nat) (hB : B ≤ w.heap.size) : OwnP B (.slice (some ⟨w.heap.size, 0, none⟩) 0 0) [] (w.alloc (.cells #[] 41)) :=
  ⟨rfl, .inr ⟨w.heap.size, 0, #[], rfl, hB, heap_alloc_new w _, Nat.le_refl _, Nat.zero_le _, rfl, rfl⟩⟩
theorem ownP_nil (w : World) (B : Nat) : OwnP B (.slice none 0 0) [] w := World.ownsRow_nil _ _ _ _
theorem OwnP.later {B : Nat} {v : Value} {ps : List PairL} {w w' : World} (h : OwnP B v ps w) (hb : Below w.heap.size w w') : OwnP B v ps w' := by
  refine ⟨h.1, ?_⟩
  rcases h.2 with h | ⟨g, cap, cur, hv, hB, hg, hnc, hcm, hcs, ht⟩
  · exact .inl h
  · exact .inr ⟨g, cap, cur, hv, hB, (hb.block g (Array.getElem?_eq_some_iff.1 hg).1).trans hg, hnc, hcm, hcs, ht⟩
theorem OwnP.base {B B' : Nat} {v : Value} {ps : List PairL} {w : World} (h : OwnP B v ps w) (hB : B' ≤ B) : OwnP B' v ps w := by
  refine ⟨h.1, ?_⟩
  rcases h.2 with h | ⟨g, cap, cur, hv, hb, hg, hnc, hcm, hcs, ht⟩
  · exact .inl h
  · exact .inr ⟨g, cap, cur, hv, by omega, hg, hnc, hcm, hcs, ht⟩
theorem OwnP.pairs {B : Nat} {v : Value} {ps : List PairL} {w : World} (h : OwnP B v ps w) : ∃ a c, v = .slice a ps.length c ∧ ps.length ≤ c ∧ PairsOf a ps.length ps w := by
  rcases h.2 with ⟨hv, h0⟩ | ⟨g, cap, cur, hv, hB, hg, hnc, hcm, hcs, ht⟩
  · have : ps = [] := List.length_eq_zero_iff.1 h0
    subst this
    exact ⟨none, 0, hv, Nat.le_refl _, rfl, .inl rfl⟩
  · refine ⟨_, cap, hv, hnc, rfl, .inr ⟨g, 0, rfl, fun j hj => ?_⟩⟩
    have key : ∀ i, i < ps.length * 2 → w.cell? ⟨g, 0 + i, none⟩ = (cellsP ps)[i]? := by
      intro i hi
      rw [Nat.zero_add, Lib.cell_of_heap hg, ← ht, List.getElem?_take, if_pos hi]; simp
    obtain ⟨c1, c2⟩ := cellsP_at ps j hj
    exact ⟨(key (j * 2) (by omega)).trans c1, by have := key (j * 2 + 1) (by omega); rw [← Nat.add_assoc] at this; exact this.trans c2⟩

theorem wpAppendPair {ops : Array Oper} {rest : List Oper} {o : Oper} {a : Act} {Q : Exit → Act → World → Prop} (w0 : World) (hgd : o.guard = none) (s x : Operand)
    (ho : o.op = .call { callee := .builtin .append, args := #[s, x], argTypes := #[23, 23] })
    (B : Nat) (v : Value) (ps : List PairL) (p : PairL) (b c : ByteArray) (hb : b = mk p.1) (hc : c = mk p.2) (hI : OwnP B v ps w0) (hs : a.eval s = v)
    (hx : a.eval x = .slice (some ⟨w0.heap.size, 0, none⟩) 1 1) (hlen : ps.length + 1 ≤ 1000000000000) (hB : B ≤ w0.heap.size)
    (h : ∀ v' w', OwnP B v' (ps ++ [p]) w' → Below B w0 w' → wpList Tryd.prog ops Q rest (a.put o.dst v') w') : wpList Tryd.prog ops Q (o :: rest) a (w0.alloc (.cells #[.string b, .string c] 41)) := by
  obtain ⟨i0, hi, hz0, hz1, hz2⟩ := info_parts infoPair
  refine wpList_append_own _ hgd s x 23 ho B 41 i0 (.agg #[.string ⟨#[]⟩, .string ⟨#[]⟩]) 2 32 Tryd.underlying23 hi hz0 hz1 hz2 rfl (by decide) v ps.length (cellsP ps) hs (World.ownsRow.alloc hI _) ⟨w0.heap.size, 0, none⟩ 1 1 [.string b, .string c] hx rfl ?c1 ?c2 ?c3 ?c4 ?c5 ?_
  case c1 =>
    intro j u hj
    rw [addr_add, Lib.cell_of_heap (heap_alloc_new w0 _)]
    simpa using hj
  case c2 => intro u hu; simp at hu; rcases hu with rfl | rfl <;> rfl
  case c3 => unfold maxLen; omega
  case c4 => omega
  case c5 => simp; omega
  intro v' w1 hown hgrow _
  refine h v' w1 ?_ ?_
  · have e : cellsP (ps ++ [p]) = cellsP ps ++ [.string b, .string c] := by simp [cellsP, hb, hc]
    unfold OwnP; rw [e, List.length_append]; exact hown
  · exact ((Below.refl B w0).alloc hB _).grown hgrow (by simp; omega) (fun k hk => (World.ownsRow.lt hI k hk).1)
end Go.Proofs.YtjjpbkoglnimaaaDoor
