/- An append of pairs that lie elsewhere. -/
import Derived.Test.YtjjpbkoglnimaaaDoorPairO
set_option linter.unusedVariables false
namespace Go.Proofs.YtjjpbkoglnimaaaDoor
open Go.RowKit Go.Shelf

theorem run_append_none {P : Program} (w : World) (t ty e : TypeId) (i : TypeInfo) (ht : P.underlying t = some (.slice e)) (hi : P.info? e = some i) (a : Option Addr) (n c m : Nat) (hc : n ≤ c) :
    (Builtin.append_ #[t, t] ty #[.slice a n c, .slice none 0 m]).run P w = .ok (.slice a n c) w := by
  cases a <;> simp [Builtin.append_, run_underlying ht, sizeOf, typeInfo, hi, Builtin.lenOf, Builtin.firstCells, loadCells, hc, storeCells]

theorem wpAppendPairs {ops : Array Oper} {rest : List Oper} {o : Oper} {a : Act} {Q : Exit → Act → World → Prop} (w0 : World) (hgd : o.guard = none) (s x : Operand)
    (ho : o.op = .call { callee := .builtin .append, args := #[s, x], argTypes := #[23, 23] })
    (B : Nat) (v : Value) (ps qs : List PairL) (hI : OwnP B v ps w0) (hs : a.eval s = v) (ax : Option Addr) (m : Nat)
    (hx : a.eval x = .slice ax qs.length m) (hq : PairsOf ax qs.length qs w0) (hlen : ps.length + qs.length ≤ 1000000000000) (hB : B ≤ w0.heap.size)
    (h : ∀ v' w', OwnP B v' (ps ++ qs) w' → Below B w0 w' → wpList Tryd.prog ops Q rest (a.put o.dst v') w') : wpList Tryd.prog ops Q (o :: rest) a w0 := by
  obtain ⟨i0, hi, hz0, hz1, hz2⟩ := info_parts infoPair
  match ax, hq, hx with
  | none, hq, hx =>
    have hqs : qs = [] := by
      rcases hq.2 with h | ⟨b, off, ha, _⟩
      · exact h
      · cases ha
    subst hqs
    obtain ⟨a1, c1, rfl, hc1, _⟩ := hI.pairs
    refine wpList_plain hgd fun K hK => ?_
    unfold Oper.wp execOp
    have hr := run_append_none (P := Tryd.prog) w0 23 o.type 41 i0 Tryd.underlying23 hi a1 ps.length c1 m hc1
    simp only [ho, resolve, invoke, builtin, Sem.run_bind, Sem.run_pure, Result.andThen_ok, List.map_toArray, List.map_cons, List.map_nil, hs, hx, List.length_nil, hr]
    exact hK _ _ (h _ _ (by rw [List.append_nil]; exact hI) (Below.refl _ _))
  | some ⟨b, off, spot⟩, hq, hx =>
    refine wpList_append_own _ hgd s x 23 ho B 41 i0 (.agg #[.string ⟨#[]⟩, .string ⟨#[]⟩]) 2 32 Tryd.underlying23 hi hz0 hz1 hz2 rfl (by decide) v ps.length (cellsP ps) hs hI ⟨b, off, spot⟩ qs.length m (cellsP qs) hx (cellsP_len qs) ?c1 ?c2 ?c3 ?c4 ?c5 ?_
    case c1 =>
      intro j u hj
      have hjl := (List.getElem?_eq_some_iff.1 hj).1
      rw [cellsP_len] at hjl
      rcases hq.2 with h | ⟨b', off', ha, hc⟩
      · subst h; simp at hjl
      · simp only [Option.some.injEq, Addr.mk.injEq] at ha
        obtain ⟨rfl, rfl, rfl⟩ := ha
        rw [addr_add_at]
        obtain ⟨i, hi⟩ : ∃ i, j = i * 2 ∨ j = i * 2 + 1 := ⟨j / 2, by omega⟩
        rcases hi with rfl | rfl
        · rw [(hc i (by omega)).1, ← (cellsP_at qs i (by omega)).1]; exact hj
        · rw [← Nat.add_assoc, (hc i (by omega)).2, ← (cellsP_at qs i (by omega)).2]; exact hj
    case c2 =>
      intro u hu
      obtain ⟨p, _, hu⟩ := List.mem_flatMap.1 hu
      simp at hu
      rcases hu with rfl | rfl <;> rfl
    case c3 => unfold maxLen; omega
    case c4 => omega
    case c5 => exact hB
    intro v' w1 hown hgrow _
    refine h v' w1 ?_ ?_
    · have e : cellsP (ps ++ qs) = cellsP ps ++ cellsP qs := by simp [cellsP]
      unfold OwnP; rw [e, List.length_append]; exact hown
    · exact (Below.refl B w0).grown hgrow hB (fun k hk => (World.ownsRow.lt hI k hk).1)
end Go.Proofs.YtjjpbkoglnimaaaDoor
