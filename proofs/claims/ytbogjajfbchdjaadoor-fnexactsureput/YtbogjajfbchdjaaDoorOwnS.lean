/- Texts that lie in a block; a slice of texts that the call owns. -/
import Derived.Test.YtbogjajfbchdjaaDoorStrS
set_option linter.unusedVariables false
namespace Go.Proofs.YtbogjajfbchdjaaDoor
open Go.RowKit Go.Shelf

/-- From the head of block g on lie the texts ps. -/
def StrsAt (g : Nat) (ps : List (List UInt8)) (w : World) : Prop :=
  ∃ A t fr, w.heap[g]? = some (.cells A t fr) ∧ ∀ j (hj : j < ps.length), A[j]? = some (.string (mk ps[j]))
theorem StrsAt.cell {g : Nat} {ps : List (List UInt8)} {w : World} (h : StrsAt g ps w) (j : Nat) (hj : j < ps.length) : w.cell? ⟨g, j, none⟩ = some (.string (mk ps[j])) := by
  obtain ⟨A, t, fr, hg, hc⟩ := h
  rw [Lib.cell_of_heap hg]; exact hc j hj
theorem StrsAt.stays {g : Nat} {ps : List (List UInt8)} {w w' : World} (h : StrsAt g ps w) (hk : w'.heap[g]? = w.heap[g]?) : StrsAt g ps w' := by
  obtain ⟨A, t, fr, hg, hc⟩ := h
  exact ⟨A, t, fr, hk.trans hg, hc⟩
theorem StrsAt.less {g : Nat} {ps : List (List UInt8)} {w : World} (h : StrsAt g ps w) : StrsAt g ps.dropLast w := by
  obtain ⟨A, t, fr, hg, hc⟩ := h
  refine ⟨A, t, fr, hg, fun j hj => ?_⟩
  have hj' : j < ps.length := by rw [List.length_dropLast] at hj; omega
  rw [List.getElem_dropLast]; exact hc j hj'
theorem StrsAt.lt {g : Nat} {ps : List (List UInt8)} {w : World} (h : StrsAt g ps w) : g < w.heap.size := by
  obtain ⟨A, t, fr, hg, hc⟩ := h
  exact (Array.getElem?_eq_some_iff.1 hg).1

theorem strsAt_split (s : ByteArray) (w : World) : StrsAt w.heap.size (cutL 46 s.data.toList) (w.alloc (.cells ((Lib.splitB (mk [46]) 0 (Lib.countB s (mk [46])) s).map Value.string).toArray 9)) := by
  refine ⟨_, _, _, heap_alloc_new w _, fun j hj => ?_⟩
  rw [split_cut]
  simp [hj]

/-- The slice value v owns the texts ps. -/
def OwnS (B : Nat) (v : Value) (ps : List (List UInt8)) (w : World) : Prop := w.ownsRow B 9 1 v ps.length (ps.map fun p => Value.string (mk p))
theorem ownS_new (w : World) (B : Nat) (hB : B ≤ w.heap.size) : OwnS B (.slice (some ⟨w.heap.size, 0, none⟩) 0 0) [] (w.alloc (.cells #[] 9)) :=
  ⟨rfl, .inr ⟨w.heap.size, 0, #[], rfl, hB, heap_alloc_new w _, Nat.le_refl _, Nat.zero_le _, rfl, rfl⟩⟩
theorem ownS_strs {B : Nat} {v : Value} {ps : List (List UInt8)} {w : World} (h : OwnS B v ps w) (hne : ps ≠ []) : ∃ g c, v = .slice (some ⟨g, 0, none⟩) ps.length c ∧ B ≤ g ∧ ps.length ≤ c ∧ StrsAt g ps w := by
  rcases h.2 with ⟨_, h0⟩ | ⟨g, cap, cur, hv, hb, hg, hnc, hcm, hcs, htake⟩
  · exact absurd (List.length_eq_zero_iff.1 h0) hne
  · refine ⟨g, cap, hv, hb, hnc, cur, _, _, hg, fun j hj => ?_⟩
    have : (cur.toList.take (ps.length * 1))[j]? = (ps.map fun p => Value.string (mk p))[j]? := by rw [htake]
    rw [List.getElem?_take] at this
    simp [hj] at this
    simpa using this

theorem wpAppendStr {ops : Array Oper} {rest : List Oper} {o : Oper} {a : Act} {Q : Exit → Act → World → Prop} (w0 : World) (hgd : o.guard = none) (s x : Operand)
    (ho : o.op = .call { callee := .builtin .append, args := #[s, x], argTypes := #[22, 22] })
    (B : Nat) (v : Value) (ps : List (List UInt8)) (p : List UInt8) (b : ByteArray) (hb : b = mk p) (hI : OwnS B v ps w0) (hs : a.eval s = v)
    (hx : a.eval x = .slice (some ⟨w0.heap.size, 0, none⟩) 1 1) (hlen : ps.length + 1 ≤ 1000000000000) (hB : B ≤ w0.heap.size)
    (h : ∀ v' w', OwnS B v' (ps ++ [p]) w' → Below B w0 w' → wpList Tryd.prog ops Q rest (a.put o.dst v') w') : wpList Tryd.prog ops Q (o :: rest) a (w0.alloc (.cells #[.string b] 9)) := by
  obtain ⟨i0, hi, hz0, hz1, hz2⟩ := info_parts infoStr
  refine wpList_append_own _ hgd s x 22 ho B 9 i0 (.string ⟨#[]⟩) 1 16 Tryd.underlying22 hi hz0 hz1 hz2 rfl (by decide) v ps.length (ps.map fun p => Value.string (mk p)) hs (World.ownsRow.alloc hI _) ⟨w0.heap.size, 0, none⟩ 1 1 [.string b] hx rfl ?c1 ?c2 ?c3 ?c4 ?c5 ?_
  case c1 =>
    intro j u hj
    rw [addr_add, Lib.cell_of_heap (heap_alloc_new w0 _)]
    simpa using hj
  case c2 => intro u hu; simp at hu; subst hu; rfl
  case c3 => unfold maxLen; omega
  case c4 => omega
  case c5 => simp; omega
  intro v' w1 hown hgrow _
  refine h v' w1 ?_ ?_
  · unfold OwnS; rw [List.map_append, List.length_append]; subst hb; exact hown
  · exact ((Below.refl B w0).alloc hB _).grown hgrow (by simp; omega) (fun k hk => (World.ownsRow.lt hI k hk).1)
end Go.Proofs.YtbogjajfbchdjaaDoor
