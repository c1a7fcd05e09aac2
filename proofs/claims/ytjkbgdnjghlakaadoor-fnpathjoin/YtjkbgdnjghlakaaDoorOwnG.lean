/- Appends of texts at operations that a guard lets through. -/
import Derived.Test.YtjkbgdnjghlakaaDoorWalkS
set_option linter.unusedVariables false
namespace Go.Proofs.YtjkbgdnjghlakaaDoor
open Go.RowKit Go.Shelf

theorem wpAppendStrsG {ops : Array Oper} {rest : List Oper} {o : Oper} {a : Act} {Q : Exit → Act → World → Prop} (w0 : World) (hgd : Region.wanted o (yielded ops a.tmps) = true) (s x : Operand)
    (ho : o.op = .call { callee := .builtin .append, args := #[s, x], argTypes := #[24, 24] })
    (B : Nat) (v : Value) (ps qs : List (List UInt8)) (hI : OwnS B v ps w0) (hs : a.eval s = v) (b off m : Nat)
    (hx : a.eval x = .slice (some ⟨b, off, none⟩) qs.length m) (hq : ∀ j (h : j < qs.length), w0.cell? ⟨b, off + j, none⟩ = some (.string (mk qs[j]))) (hlen : ps.length + qs.length ≤ 1000000000000) (hB : B ≤ w0.heap.size)
    (h : ∀ v' w', OwnS B v' (ps ++ qs) w' → Below B w0 w' → wpList Tryd.prog ops Q rest (a.put o.dst v') w') : wpList Tryd.prog ops Q (o :: rest) a w0 := by
  obtain ⟨i0, hi, hz0, hz1, hz2⟩ := info_parts infoStr
  refine wpList_step fun K hK => ?_
  rw [if_pos hgd]
  refine wp_append_own _ s x 24 ho B 9 i0 (.string ⟨#[]⟩) 1 16 Tryd.underlying24 hi hz0 hz1 hz2 rfl (by decide) v ps.length (ps.map fun p => Value.string (mk p)) hs hI ⟨b, off, none⟩ qs.length m (qs.map fun p => Value.string (mk p)) hx (by simp) ?c1 ?c2 ?c3 ?c4 ?c5 ?_
  case c1 =>
    intro j u hj
    obtain ⟨hj', hu⟩ := List.getElem?_eq_some_iff.1 hj
    have hj2 : j < qs.length := by simpa using hj'
    rw [addr_add_at, hq j hj2, ← hu]; simp
  case c2 => intro u hu; obtain ⟨p, _, rfl⟩ := List.mem_map.1 hu; rfl
  case c3 => unfold maxLen; omega
  case c4 => omega
  case c5 => exact hB
  intro v' w1 hown hgrow _
  refine hK _ _ (h v' w1 ?_ ?_)
  · unfold OwnS; rw [List.map_append, List.length_append]; exact hown
  · exact (Below.refl B w0).grown hgrow hB (fun k hk => (World.ownsRow.lt hI k hk).1)

theorem wpAppendStrG {ops : Array Oper} {rest : List Oper} {o : Oper} {a : Act} {Q : Exit → Act → World → Prop} (w0 : World) (hgd : Region.wanted o (yielded ops a.tmps) = true) (s x : Operand)
    (ho : o.op = .call { callee := .builtin .append, args := #[s, x], argTypes := #[24, 24] })
    (B : Nat) (v : Value) (ps : List (List UInt8)) (p : List UInt8) (b : ByteArray) (hb : b = mk p) (hI : OwnS B v ps w0) (hs : a.eval s = v)
    (hx : a.eval x = .slice (some ⟨w0.heap.size, 0, none⟩) 1 1) (hlen : ps.length + 1 ≤ 1000000000000) (hB : B ≤ w0.heap.size)
    (h : ∀ v' w', OwnS B v' (ps ++ [p]) w' → Below B w0 w' → wpList Tryd.prog ops Q rest (a.put o.dst v') w') : wpList Tryd.prog ops Q (o :: rest) a (w0.alloc (.cells #[.string b] 9)) := by
  refine wpAppendStrsG (w0.alloc (.cells #[.string b] 9)) hgd s x ho B v ps [p] (World.ownsRow.alloc hI _) hs w0.heap.size 0 1 hx ?_ (by simpa using hlen) (by simp; omega) ?_
  · intro j hj
    have : j = 0 := by simp at hj; omega
    subst this
    rw [Lib.cell_of_heap (heap_alloc_new w0 _), hb]; rfl
  · intro v' w' hO hB'
    exact h v' w' hO (((Below.refl B w0).alloc hB _).trans hB')
end Go.Proofs.YtjkbgdnjghlakaaDoor
