/- Byte slices that the call itself has made: a new one, one byte more, its text. -/
import Derived.Test.YtbogjajfbchdjaaDoorShelf
import Derived.WalkKit
import Derived.BigCall
import Derived.BigQuiet
import Derived.Shelf.Lays
import Derived.Below
import Derived.Lib.FrozenHead2
import Derived.Lib.OthersKept
import Derived.Test.YtbogjajfbchdjaaDoorPlain
import Derived.Laws.IdiomStrings
set_option linter.unusedVariables false
namespace Go.Proofs.YtbogjajfbchdjaaDoor
open Go.RowKit Go.Shelf

theorem infoByte : (Tryd.prog.info? 5).map (fun i => (i.zero, i.size, i.bytes)) = some (some (.int .u8 0), 1, 1) := by kernel_rfl
theorem ret_int {k : IntKind} {a b : Int} (h : a = b) : Ending.returned (.int k a) = .returned (.int k b) := by rw [h]

theorem ret_bool {a b : Bool} (h : a = b) : Ending.returned (.bool a) = .returned (.bool b) := by rw [h]

/-- The slice value v owns the bytes l, in the world w, from block B on. -/
def OwnB (B : Nat) (v : Value) (l : List UInt8) (w : World) : Prop := w.ownsRow B 5 1 v l.length (Lib.byteCells l)

theorem ownB_new (w : World) (B : Nat) (hB : B ≤ w.heap.size) : OwnB B (.slice (some ⟨w.heap.size, 0, none⟩) 0 0) [] (w.alloc (.cells #[] 5)) :=
  ⟨rfl, .inr ⟨w.heap.size, 0, #[], rfl, hB, heap_alloc_new w _, Nat.le_refl _, Nat.zero_le _, rfl, rfl⟩⟩

theorem ownB_nil (w : World) (B : Nat) : OwnB B (.slice none 0 0) [] w := World.ownsRow_nil _ _ _ _

theorem ownB_shape {B : Nat} {v : Value} {l : List UInt8} {w : World} (h : OwnB B v l w) : ∃ a c, v = .slice a l.length c := by
  rcases h.2 with ⟨hv, h0⟩ | ⟨g, cap, cur, hv, _⟩
  · exact ⟨none, 0, by rw [hv, h0]⟩
  · exact ⟨_, cap, hv⟩

theorem ownB_text {B : Nat} {v : Value} {l : List UInt8} {w : World} (h : OwnB B v l w) : (convert 55 9 v).run Tryd.prog w = .ok (.string ⟨l.toArray⟩) w := by
  rcases h.2 with ⟨rfl, h0⟩ | ⟨g, cap, cur, rfl, hb, hg, hnc, hcm, hcs, htake⟩
  · have hl : l = [] := List.length_eq_zero_iff.1 h0
    subst hl
    rw [run_convert_bytes_string w 55 9 5 none 0 0 Tryd.underlying55 Tryd.underlying5 Tryd.underlying9]
    rfl
  · refine run_convert_bytes_back w 55 9 5 ⟨g, 0, none⟩ cap l Tryd.underlying55 Tryd.underlying5 Tryd.underlying9 ?_
    intro j hj
    have hadd : (⟨g, 0, none⟩ : Addr).add j = ⟨g, j, none⟩ := by unfold Addr.add; split <;> simp_all
    rw [hadd, Lib.cell_of_heap hg]
    have : (cur.toList.take (l.length * 1))[j]? = (Lib.byteCells l)[j]? := by rw [htake]
    rw [List.getElem?_take] at this
    simp [hj, Lib.byteCells] at this
    simpa using this

theorem byteCells_one (l : List UInt8) (c : UInt8) : Lib.byteCells (l ++ [c]) = Lib.byteCells l ++ [.int .u8 (c.toNat : Int)] := by
  rw [Lib.byteCells_append]; rfl

/-- What an append of one byte leaves. -/
theorem ownB_one {B : Nat} {v' : Value} {l : List UInt8} {w' : World} (c : UInt8) (h : w'.ownsRow B 5 1 v' (l.length + 1) (Lib.byteCells l ++ [.int .u8 (c.toNat : Int)])) : OwnB B v' (l ++ [c]) w' := by
  unfold OwnB; rw [byteCells_one, List.length_append]; exact h

theorem addr_add (g j : Nat) : (⟨g, 0, none⟩ : Addr).add j = ⟨g, j, none⟩ := by unfold Addr.add; split <;> simp_all

/-- An append of bytes that were laid in a block of their own just ahead, onto a slice that the call owns. -/
theorem wpAppendBytes {ops : Array Oper} {rest : List Oper} {o : Oper} {a : Act} {Q : Exit → Act → World → Prop} (w0 : World) (hgd : o.guard = none) (s x : Operand)
    (ho : o.op = .call { callee := .builtin .append, args := #[s, x], argTypes := #[55, 55] })
    (B : Nat) (v : Value) (l cs : List UInt8) (A : Array Value) (hA : A.toList = Lib.byteCells cs) (hI : OwnB B v l w0) (hs : a.eval s = v)
    (m : Nat) (hx : a.eval x = .slice (some ⟨w0.heap.size, 0, none⟩) cs.length m) (hlen : l.length + cs.length ≤ 140737488355328) (hB : B ≤ w0.heap.size)
    (h : ∀ v' w', OwnB B v' (l ++ cs) w' → Below B w0 w' → wpList Tryd.prog ops Q rest (a.put o.dst v') w') : wpList Tryd.prog ops Q (o :: rest) a (w0.alloc (.cells A 5)) := by
  obtain ⟨i0, hi, hz0, hz1, hz2⟩ := info_parts infoByte
  refine wpList_append_own _ hgd s x 55 ho B 5 i0 (.int .u8 0) 1 1 Tryd.underlying55 hi hz0 hz1 hz2 rfl (by decide) v l.length (Lib.byteCells l) hs (World.ownsRow.alloc hI _) ⟨w0.heap.size, 0, none⟩ cs.length m (Lib.byteCells cs) hx (by rw [Lib.byteCells_length, Nat.mul_one]) ?c1 ?c2 ?c3 ?c4 ?c5 ?_
  case c1 =>
    intro j u hj
    rw [addr_add, Lib.cell_of_heap (heap_alloc_new w0 _), ← Array.getElem?_toList, hA]
    exact hj
  case c2 =>
    intro u hu
    simp only [Lib.byteCells, List.mem_map] at hu
    obtain ⟨b, _, rfl⟩ := hu
    rfl
  case c3 => unfold maxLen; omega
  case c4 => omega
  case c5 => simp; omega
  intro v' w1 hown hgrow _
  refine h v' w1 ?_ ?_
  · unfold OwnB; rw [Lib.byteCells_append, List.length_append]; exact hown
  · exact ((Below.refl B w0).alloc hB _).grown hgrow (by simp; omega) (fun k hk => (World.ownsRow.lt hI k hk).1)

theorem wpAppendByte {ops : Array Oper} {rest : List Oper} {o : Oper} {a : Act} {Q : Exit → Act → World → Prop} (w0 : World) (hgd : o.guard = none) (s x : Operand)
    (ho : o.op = .call { callee := .builtin .append, args := #[s, x], argTypes := #[55, 55] })
    (B : Nat) (v : Value) (l : List UInt8) (c : UInt8) (n : Int) (hn : (c.toNat : Int) = n) (hI : OwnB B v l w0) (hs : a.eval s = v)
    (hx : a.eval x = .slice (some ⟨w0.heap.size, 0, none⟩) 1 1) (hlen : l.length + 1 ≤ 140737488355328) (hB : B ≤ w0.heap.size)
    (h : ∀ v' w', OwnB B v' (l ++ [c]) w' → Below B w0 w' → wpList Tryd.prog ops Q rest (a.put o.dst v') w') : wpList Tryd.prog ops Q (o :: rest) a (w0.alloc (.cells #[.int .u8 n] 5)) :=
  wpAppendBytes w0 hgd s x ho B v l [c] _ (by simp [Lib.byteCells, hn]) hI hs 1 hx (by simpa using hlen) hB h

theorem run_news {w : World} {g : Nat} {A : Array Value} {t : TypeId} {fr : Nat × Nat} {cs : List UInt8} (hg : w.heap[g]? = some (.cells A t fr)) (hA : A.toList = Lib.byteCells cs) : ∀ j u, (Lib.byteCells cs)[j]? = some u → w.cell? ((⟨g, 0, none⟩ : Addr).add j) = some u := by
  intro j u hj
  rw [addr_add, Lib.cell_of_heap hg, ← Array.getElem?_toList, hA]
  exact hj
theorem byteCells_oneCell (cs : List UInt8) : ∀ u ∈ Lib.byteCells cs, u.oneCell' = true := by
  intro u hu
  simp only [Lib.byteCells, List.mem_map] at hu
  obtain ⟨b, _, rfl⟩ := hu
  rfl

/-- The same at a step of a region that draws its order. -/
theorem stepAppendBytes {ops : Array Oper} {o : Oper} {a : Act} {K : Act → World → Prop} {Q : Exit → Act → World → Prop} {E : Prop} (w0 : World) (hgd : o.guard = none) (s x : Operand)
    (ho : o.op = .call { callee := .builtin .append, args := #[s, x], argTypes := #[55, 55] })
    (B : Nat) (v : Value) (l cs : List UInt8) (hI : OwnB B v l w0) (g : Nat) (A : Array Value) (fr : Nat × Nat) (hg : w0.heap[g]? = some (.cells A 5 fr)) (hA : A.toList = Lib.byteCells cs) (hs : a.eval s = v)
    (m : Nat) (hx : a.eval x = .slice (some ⟨g, 0, none⟩) cs.length m) (hlen : l.length + cs.length ≤ 140737488355328) (hB : B ≤ w0.heap.size)
    (h : ∀ v' w', OwnB B v' (l ++ cs) w' → Below B w0 w' → K (a.put o.dst v') w') : if Region.wanted o (yielded ops a.tmps) = true then Oper.wp Tryd.prog o a w0 K Q else E := by
  have hw : Region.wanted o (yielded ops a.tmps) = true := by simp [Region.wanted, hgd]
  rw [if_pos hw]
  obtain ⟨i0, hi, hz0, hz1, hz2⟩ := info_parts infoByte
  refine wp_append_own _ s x 55 ho B 5 i0 (.int .u8 0) 1 1 Tryd.underlying55 hi hz0 hz1 hz2 rfl (by decide) v l.length (Lib.byteCells l) hs hI ⟨g, 0, none⟩ cs.length m (Lib.byteCells cs) hx (by rw [Lib.byteCells_length, Nat.mul_one]) (run_news hg hA) (byteCells_oneCell cs) (by unfold maxLen; omega) (by omega) hB ?_
  intro v' w1 hown hgrow _
  refine h v' w1 ?_ ?_
  · unfold OwnB; rw [Lib.byteCells_append, List.length_append]; exact hown
  · exact (Below.refl B w0).grown hgrow hB (fun k hk => (World.ownsRow.lt hI k hk).1)

theorem OwnB.alloc {B : Nat} {v : Value} {l : List UInt8} {w : World} (h : OwnB B v l w) (o : Obj) : OwnB B v l (w.alloc o) := World.ownsRow.alloc h o
theorem OwnB.drew {B : Nat} {v : Value} {l : List UInt8} {w : World} (h : OwnB B v l w) : OwnB B v l w.drew := h
theorem OwnB.drewN {B : Nat} {v : Value} {l : List UInt8} {w : World} (h : OwnB B v l w) (n : Nat) : OwnB B v l (w.drewN n) := h
end Go.Proofs.YtbogjajfbchdjaaDoor
