/- What strings.Builder's copyCheck and WriteByte do to a builder that the call itself has made, at this program. No condition but the room of 2^47 bytes. Plain facts on lists of bytes: nothing of any program. Byte slices that the call itself has made: a new one, one byte more, its text. A block of the heap with given cells, and what stays of it. strings.Reader: ReadByte, UnreadByte, Reset, at a block that begins with a reader. -/
import Derived.Test.YtnfhajhdpdidlaaGreatDoorShelfr
import Derived.WalkKit
import Derived.BigCall
import Derived.Lib.FrozenHead2
import Derived.Lib.OthersKept
import Derived.Laws.IdiomStrings
import Derived.Handy
set_option linter.unusedVariables false
set_option maxHeartbeats 2000000
set_option maxRecDepth 100000
section
namespace Go.Proofs.YtnfhajhdpdidlaaGreatDoor
open Go.RowKit Go.Shelf
theorem infoByte : (Tryz.prog.info? 5).map (fun i => (i.zero, i.size, i.bytes)) = some (some (.int .u8 0), 1, 1) := by kernel_rfl
theorem sizeBld : ∃ j, Tryz.prog.info? 67 = some j ∧ j.size = 2 := by
 have h : (Tryz.prog.info? 67).map (·.size) = some 2 := by kernel_rfl
 obtain ⟨j, hj, hs⟩ := Option.map_eq_some_iff.1 h
 exact ⟨j, hj, hs⟩
theorem copyCheck_used (b : Nat) (w : World) (h0 : w.cell? ⟨b, 0, none⟩ = some (.pointer (some ⟨b, 0, none⟩))) :
  Calls Tryz.prog 86 #[.pointer (some ⟨b, 0, none⟩)] w fun e w' => e = .returned (.tuple #[]) ∧ w' = w := by
 obtain ⟨j, hj, _⟩ := sizeBld
 go_enter Tryz.func86, Tryz.ntmps86
 go_wp2
 rw [Lib.run_neq_ptr_same w _ Tryz.underlying65 hj]
 go_wp2
 go_end0
 exact ⟨rfl, rfl⟩
theorem copyCheck_fresh (b : Nat) (w : World) (h0 : w.cell? ⟨b, 0, none⟩ = some (.pointer none)) (hsh : w.shape? b = some (67, 2)) (hfz : w.frozen? ⟨b, 0, none⟩ = false) :
  Calls Tryz.prog 86 #[.pointer (some ⟨b, 0, none⟩)] w fun e w' => e = .returned (.tuple #[]) ∧ w' = w.setCell ⟨b, 0, none⟩ (.pointer (some ⟨b, 0, none⟩)) := by
 obtain ⟨j, hj, hjs⟩ := sizeBld
 go_enter Tryz.func86, Tryz.ntmps86
 go_wp2
 rw [Lib.run_to_unsafe w ⟨b, 0, none⟩ Tryz.underlying65 Tryz.underlying110 hj (by rw [hjs]; decide) hsh (Nat.zero_lt_succ 1)]
 simp only [Result.andThen]
 rw [Oper.upon_value]
 go_wp2
 rw [run_callFunc_extern Tryz.func114 (by kernel_rfl) (by kernel_rfl) (by kernel_rfl) (e := Extern.AbiNoEscape.same) (by kernel_rfl)]
 rw [Lib.run_noEscape]
 simp only [Result.andThen]
 rw [Oper.upon_value]
 go_wp2
 rw [Lib.run_from_unsafe w ⟨b, 0, none⟩ Tryz.underlying110 Tryz.underlying65 hj hsh (by kernel_rfl)]
 simp only [Result.andThen]
 rw [Oper.upon_value]
 go_wp2
 go_end0
 exact ⟨rfl, rfl⟩
theorem copyCheck_k (B b : Nat) (bs : List Value) (w : World) (h : Lib.IsBuilderF 67 5 B b bs w) :
  Calls Tryz.prog 86 #[.pointer (some ⟨b, 0, none⟩)] w fun e w' => e = .returned (.tuple #[]) ∧ Lib.BuilderAtF 67 5 B b (.pointer (some ⟨b, 0, none⟩)) bs w' ∧ Below B w w' ∧ Lib.OthersKept 5 (some b) w w' := by
 rcases h with h | h
 ·refine (copyCheck_fresh b w h.cell0 h.shape h.frozen0).mono ?_
  rintro e w' ⟨rfl, rfl⟩
  exact ⟨rfl, h.used _, (Below.refl B w).setCell (p := ⟨b, 0, none⟩) h.1 _, (Lib.OthersKept.refl _ _ w).setCell ⟨b, 0, none⟩ rfl _⟩
 ·refine (copyCheck_used b w h.cell0).mono ?_
  rintro e w' ⟨rfl, rfl⟩
  exact ⟨rfl, h, Below.refl B _, Lib.OthersKept.refl _ _ _⟩
theorem writeByte_k (B b : Nat) (bs : List Value) (c : Int) (w : World) (h : Lib.IsBuilderF 67 5 B b bs w) (hlen : bs.length + 1 ≤ 140737488355328) (hBw : B ≤ w.heap.size) :
  Calls Tryz.prog 45 #[.pointer (some ⟨b, 0, none⟩), .int .u8 c] w fun e w' => e = .returned .nilIface ∧ Lib.BuilderAtF 67 5 B b (.pointer (some ⟨b, 0, none⟩)) (bs ++ [.int .u8 c]) w' ∧ Below B w w' ∧ Lib.OthersKept 5 (some b) w w' := by
 obtain ⟨i0, hi, hz0, hz1, hz2⟩ := info_parts infoByte
 go_enter Tryz.func45, Tryz.ntmps45
 go_wp2_with (go_at_call 86; refine (copyCheck_k B b bs _ h).mono ?_)
 rintro e w1 ⟨rfl, h1, hb1, hk1⟩
 obtain ⟨hB, v, hbk, hown, hne⟩ := h1
 have c0 : w1.cell? ⟨b, 0, none⟩ = some (.pointer (some ⟨b, 0, none⟩)) := by rw [Lib.cell_of_heap hbk]; rfl
 have c1 : w1.cell? ⟨b, 1, none⟩ = some v := by rw [Lib.cell_of_heap hbk]; rfl
 go_wp2_with (at_builtin; refine wpList_append_ownF _ rfl _ _ 35 rfl B 5 i0 (.int .u8 0) 1 1 Tryz.underlying35 hi hz0 hz1 hz2 rfl (by decide) _ _ _ rfl (hown.alloc _) ⟨w1.heap.size, 0, none⟩ 1 1 [.int .u8 c] rfl rfl ?c1 ?c2 ?c3 ?c4 ?c5 ?_)
 case c1 =>
  intro j u hj
  match j, hj with
  | 0, hj => simp at hj; subst hj; simp [Addr.add]
 case c2 => intro u hu; simp at hu; subst hu; rfl
 case c3 => unfold maxLen; omega
 case c4 => omega
 case c5 => have := hb1.size; simp; omega
 intro v' w2 hown' hgrow _
 have hlt : b < w1.heap.size := by
  rcases Nat.lt_or_ge b w1.heap.size with h' | h'
  ·exact h'
  ·simp [Array.getElem?_eq_none h'] at hbk
 have hb2 : w2.heap[b]? = some (.cells #[.pointer (some ⟨b, 0, none⟩), v] 67 (0, 0)) := by
  rw [hgrow.block b (by simp; omega) (fun e => hne e.symm), Lib.alloc_old w1 _ b hlt]
  exact hbk
 have d0 : w2.cell? ⟨b, 0, none⟩ = some (.pointer (some ⟨b, 0, none⟩)) := by rw [Lib.cell_of_heap hb2]; rfl
 have d1 : w2.cell? ⟨b, 1, none⟩ = some v := by rw [Lib.cell_of_heap hb2]; rfl
 have f1 : w2.frozen? ⟨b, 1, none⟩ = false := Lib.frozen_of_heap hb2 1
 obtain ⟨g, cap, rfl⟩ : ∃ g cap, v' = .slice (some ⟨g, 0, none⟩) (bs.length + 1) cap := by
  rcases hown'.2 with ⟨_, h0⟩ | ⟨g, cap, cur, fz, hv, _⟩
  ·omega
  ·exact ⟨g, cap, hv⟩
 go_wp2
 go_ret
 refine ⟨rfl, ?_, ?_, ((hk1.alloc _).grown hgrow (Lib.ownsRowF_kind (hown.alloc _))).setCell ⟨b, 1, none⟩ rfl _⟩
 ·exact Lib.BuilderAtF.put (T := 67) (e := 5) hB hb2 (bs' := bs ++ [.int .u8 c]) (by simpa using hown') (by decide)
 ·exact ((hb1.alloc (by have := hb1.size; omega) _).grown hgrow (by have := hb1.size; simp; omega) (fun k hk => (hown.lt k hk).1)).setCell (p := ⟨b, 1, none⟩) hB _
end Go.Proofs.YtnfhajhdpdidlaaGreatDoor
end
section
namespace Go.Proofs.YtnfhajhdpdidlaaGreatDoor
open Go.RowKit
def lowB (c : UInt8) : UInt8 := if 65 ≤ c.toNat ∧ c.toNat ≤ 90 then c + 32 else c
def low (l : List UInt8) : List UInt8 := l.map lowB
theorem low_length (l : List UInt8) : (low l).length = l.length := by simp [low]
theorem take_snoc (s : ByteArray) (k : Nat) (h : k < s.size) : s.data.toList.take (k + 1) = s.data.toList.take k ++ [s[k]] := by
 rw [List.take_succ_eq_append_getElem (by simpa using h)]; rfl
theorem low_snoc (l : List UInt8) (c : UInt8) : low (l ++ [c]) = low l ++ [lowB c] := by simp [low]
theorem lowB_cap (c : UInt8) (h1 : (65 : Int) ≤ (c.toNat : Int)) (h2 : (c.toNat : Int) ≤ 90) : ((lowB c).toNat : Int) = (c.toNat : Int) + 32 := by
 unfold lowB
 rw [if_pos ⟨by omega, by omega⟩, UInt8.toNat_add]
 have : (32 : UInt8).toNat = 32 := rfl
 omega
theorem lowB_not (c : UInt8) (h : ¬ ((65 : Int) ≤ (c.toNat : Int) ∧ (c.toNat : Int) ≤ 90)) : lowB c = c := by
 unfold lowB
 rw [if_neg (by omega)]
theorem u8_lt (c : UInt8) : (0 : Int) ≤ (c.toNat : Int) ∧ (c.toNat : Int) < 256 := ⟨by omega, by have := c.toNat_lt; omega⟩
end Go.Proofs.YtnfhajhdpdidlaaGreatDoor
end
section
namespace Go.Proofs.YtnfhajhdpdidlaaGreatDoor
open Go.RowKit Go.Shelf
theorem ret_int {k : IntKind} {a b : Int} (h : a = b) : Ending.returned (.int k a) = .returned (.int k b) := by rw [h]
theorem ret_bool {a b : Bool} (h : a = b) : Ending.returned (.bool a) = .returned (.bool b) := by rw [h]
def OwnB (B : Nat) (v : Value) (l : List UInt8) (w : World) : Prop := w.ownsRow B 5 1 v l.length (Lib.byteCells l)
theorem ownB_new (w : World) (B : Nat) (hB : B ≤ w.heap.size) : OwnB B (.slice (some ⟨w.heap.size, 0, none⟩) 0 0) [] (w.alloc (.cells #[] 5)) :=
 ⟨rfl, .inr ⟨w.heap.size, 0, #[], rfl, hB, heap_alloc_new w _, Nat.le_refl _, Nat.zero_le _, rfl, rfl⟩⟩
theorem ownB_text {B : Nat} {v : Value} {l : List UInt8} {w : World} (h : OwnB B v l w) : (convert 35 9 v).run Tryz.prog w = .ok (.string ⟨l.toArray⟩) w := by
 rcases h.2 with ⟨rfl, h0⟩ | ⟨g, cap, cur, rfl, hb, hg, hnc, hcm, hcs, htake⟩
 ·have hl : l = [] := List.length_eq_zero_iff.1 h0
  subst hl
  rw [run_convert_bytes_string w 35 9 5 none 0 0 Tryz.underlying35 Tryz.underlying5 Tryz.underlying9]
  rfl
 ·refine run_convert_bytes_back w 35 9 5 ⟨g, 0, none⟩ cap l Tryz.underlying35 Tryz.underlying5 Tryz.underlying9 ?_
  intro j hj
  have hadd : (⟨g, 0, none⟩ : Addr).add j = ⟨g, j, none⟩ := by unfold Addr.add; split <;> simp_all
  rw [hadd, Lib.cell_of_heap hg]
  have : (cur.toList.take (l.length * 1))[j]? = (Lib.byteCells l)[j]? := by rw [htake]
  rw [List.getElem?_take] at this
  simp [hj, Lib.byteCells] at this
  simpa using this
theorem byteCells_one (l : List UInt8) (c : UInt8) : Lib.byteCells (l ++ [c]) = Lib.byteCells l ++ [.int .u8 (c.toNat : Int)] := by
 rw [Lib.byteCells_append]; rfl
theorem addr_add (g j : Nat) : (⟨g, 0, none⟩ : Addr).add j = ⟨g, j, none⟩ := by unfold Addr.add; split <;> simp_all
theorem wpAppendBytes {ops : Array Oper} {rest : List Oper} {o : Oper} {a : Act} {Q : Exit → Act → World → Prop} (w0 : World) (hgd : o.guard = none) (s x : Operand)
  (ho : o.op = .call { callee := .builtin .append, args := #[s, x], argTypes := #[35, 35] })
  (B : Nat) (v : Value) (l cs : List UInt8) (A : Array Value) (hA : A.toList = Lib.byteCells cs) (hI : OwnB B v l w0) (hs : a.eval s = v)
  (m : Nat) (hx : a.eval x = .slice (some ⟨w0.heap.size, 0, none⟩) cs.length m) (hlen : l.length + cs.length ≤ 140737488355328) (hB : B ≤ w0.heap.size)
  (h : ∀ v' w', OwnB B v' (l ++ cs) w' → Below B w0 w' → wpList Tryz.prog ops Q rest (a.put o.dst v') w') : wpList Tryz.prog ops Q (o :: rest) a (w0.alloc (.cells A 5)) := by
 obtain ⟨i0, hi, hz0, hz1, hz2⟩ := info_parts infoByte
 refine wpList_append_own _ hgd s x 35 ho B 5 i0 (.int .u8 0) 1 1 Tryz.underlying35 hi hz0 hz1 hz2 rfl (by decide) v l.length (Lib.byteCells l) hs (World.ownsRow.alloc hI _) ⟨w0.heap.size, 0, none⟩ cs.length m (Lib.byteCells cs) hx (by rw [Lib.byteCells_length, Nat.mul_one]) ?c1 ?c2 ?c3 ?c4 ?c5 ?_
 case c1 =>
  intro j u hj
  rw [addr_add, Lib.cell_of_heap (heap_alloc_new w0 _), ← Array.getElem?_toList, hA]
  exact hj
 case c2 =>
  intro u hu
  simp only [Lib.byteCells, List.mem_map] at hu
  obtain ⟨b, _, rfl⟩ := hu
  rfl
 case c3 => unfold maxLen; omega
 case c4 => omega
 case c5 => simp; omega
 intro v' w1 hown hgrow _
 refine h v' w1 ?_ ?_
 ·unfold OwnB; rw [Lib.byteCells_append, List.length_append]; exact hown
 ·exact ((Below.refl B w0).alloc hB _).grown hgrow (by simp; omega) (fun k hk => (World.ownsRow.lt hI k hk).1)
theorem wpAppendByte {ops : Array Oper} {rest : List Oper} {o : Oper} {a : Act} {Q : Exit → Act → World → Prop} (w0 : World) (hgd : o.guard = none) (s x : Operand)
  (ho : o.op = .call { callee := .builtin .append, args := #[s, x], argTypes := #[35, 35] })
  (B : Nat) (v : Value) (l : List UInt8) (c : UInt8) (n : Int) (hn : (c.toNat : Int) = n) (hI : OwnB B v l w0) (hs : a.eval s = v)
  (hx : a.eval x = .slice (some ⟨w0.heap.size, 0, none⟩) 1 1) (hlen : l.length + 1 ≤ 140737488355328) (hB : B ≤ w0.heap.size)
  (h : ∀ v' w', OwnB B v' (l ++ [c]) w' → Below B w0 w' → wpList Tryz.prog ops Q rest (a.put o.dst v') w') : wpList Tryz.prog ops Q (o :: rest) a (w0.alloc (.cells #[.int .u8 n] 5)) :=
 wpAppendBytes w0 hgd s x ho B v l [c] _ (by simp [Lib.byteCells, hn]) hI hs 1 hx (by simpa using hlen) hB h
theorem run_news {w : World} {g : Nat} {A : Array Value} {t : TypeId} {fr : Nat × Nat} {cs : List UInt8} (hg : w.heap[g]? = some (.cells A t fr)) (hA : A.toList = Lib.byteCells cs) : ∀ j u, (Lib.byteCells cs)[j]? = some u → w.cell? ((⟨g, 0, none⟩ : Addr).add j) = some u := by
 intro j u hj
 rw [addr_add, Lib.cell_of_heap hg, ← Array.getElem?_toList, hA]
 exact hj
theorem byteCells_oneCell (cs : List UInt8) : ∀ u ∈ Lib.byteCells cs, u.oneCell' = true := by
 intro u hu
 simp only [Lib.byteCells, List.mem_map] at hu
 obtain ⟨b, _, rfl⟩ := hu
 rfl
theorem stepAppendBytes {ops : Array Oper} {o : Oper} {a : Act} {K : Act → World → Prop} {Q : Exit → Act → World → Prop} {E : Prop} (w0 : World) (hgd : o.guard = none) (s x : Operand)
  (ho : o.op = .call { callee := .builtin .append, args := #[s, x], argTypes := #[35, 35] })
  (B : Nat) (v : Value) (l cs : List UInt8) (hI : OwnB B v l w0) (g : Nat) (A : Array Value) (fr : Nat × Nat) (hg : w0.heap[g]? = some (.cells A 5 fr)) (hA : A.toList = Lib.byteCells cs) (hs : a.eval s = v)
  (m : Nat) (hx : a.eval x = .slice (some ⟨g, 0, none⟩) cs.length m) (hlen : l.length + cs.length ≤ 140737488355328) (hB : B ≤ w0.heap.size)
  (h : ∀ v' w', OwnB B v' (l ++ cs) w' → Below B w0 w' → K (a.put o.dst v') w') : if Region.wanted o (yielded ops a.tmps) = true then Oper.wp Tryz.prog o a w0 K Q else E := by
 have hw : Region.wanted o (yielded ops a.tmps) = true := by simp [Region.wanted, hgd]
 rw [if_pos hw]
 obtain ⟨i0, hi, hz0, hz1, hz2⟩ := info_parts infoByte
 refine wp_append_own _ s x 35 ho B 5 i0 (.int .u8 0) 1 1 Tryz.underlying35 hi hz0 hz1 hz2 rfl (by decide) v l.length (Lib.byteCells l) hs hI ⟨g, 0, none⟩ cs.length m (Lib.byteCells cs) hx (by rw [Lib.byteCells_length, Nat.mul_one]) (run_news hg hA) (byteCells_oneCell cs) (by unfold maxLen; omega) (by omega) hB ?_
 intro v' w1 hown hgrow _
 refine h v' w1 ?_ ?_
 ·unfold OwnB; rw [Lib.byteCells_append, List.length_append]; exact hown
 ·exact (Below.refl B w0).grown hgrow hB (fun k hk => (World.ownsRow.lt hI k hk).1)
theorem OwnB.alloc {B : Nat} {v : Value} {l : List UInt8} {w : World} (h : OwnB B v l w) (o : Obj) : OwnB B v l (w.alloc o) := World.ownsRow.alloc h o
theorem OwnB.drew {B : Nat} {v : Value} {l : List UInt8} {w : World} (h : OwnB B v l w) : OwnB B v l w.drew := h
theorem OwnB.drewN {B : Nat} {v : Value} {l : List UInt8} {w : World} (h : OwnB B v l w) (n : Nat) : OwnB B v l (w.drewN n) := h
end Go.Proofs.YtnfhajhdpdidlaaGreatDoor
end
section
namespace Go.Proofs.YtnfhajhdpdidlaaGreatDoor
open Go.RowKit Go.Shelf
def Blk (g : Nat) (A : Array Value) (t : TypeId) (w : World) : Prop := w.heap[g]? = some (.cells A t (0, 0))
theorem Blk.lt {g : Nat} {A : Array Value} {t : TypeId} {w : World} (h : Blk g A t w) : g < w.heap.size := (Array.getElem?_eq_some_iff.1 h).1
theorem Blk.cell {g : Nat} {A : Array Value} {t : TypeId} {w : World} (h : Blk g A t w) (j : Nat) : w.cell? ⟨g, j, none⟩ = A[j]? := Lib.cell_of_heap h j
theorem Blk.free {g : Nat} {A : Array Value} {t : TypeId} {w : World} (h : Blk g A t w) (j : Nat) : w.frozen? ⟨g, j, none⟩ = false := Lib.frozen_of_heap h j
theorem Blk.below {g B : Nat} {A : Array Value} {t : TypeId} {w w' : World} (h : Blk g A t w) (b : Below B w w') (hB : g < B) : Blk g A t w' := (b.block g hB).trans h
theorem Blk.alloc {g : Nat} {A : Array Value} {t : TypeId} {w : World} (h : Blk g A t w) (o : Obj) : Blk g A t (w.alloc o) := (Lib.alloc_old w o g h.lt).trans h
theorem Blk.new (w : World) (A : Array Value) (t : TypeId) : Blk w.heap.size A t (w.alloc (.cells A t)) := heap_alloc_new w _
theorem Blk.drew {g : Nat} {A : Array Value} {t : TypeId} {w : World} (h : Blk g A t w) : Blk g A t w.drew := h
end Go.Proofs.YtnfhajhdpdidlaaGreatDoor
end
section
namespace Go.Proofs.YtnfhajhdpdidlaaGreatDoor
open Go.RowKit Go.Shelf
def Rdr (g : Nat) (t : ByteArray) (i : Nat) (R : List Value) (T : TypeId) (w : World) : Prop := Blk g (#[.string t, .int .i64 (i : Int), .int .i64 (-1)] ++ R.toArray) T w
theorem Rdr.cells {g : Nat} {t : ByteArray} {i : Nat} {R : List Value} {T : TypeId} {w : World} (h : Rdr g t i R T w) :
  w.cell? ⟨g, 0, none⟩ = some (.string t) ∧ w.cell? ⟨g, 1, none⟩ = some (.int .i64 (i : Int)) ∧ w.cell? ⟨g, 2, none⟩ = some (.int .i64 (-1)) ∧ w.frozen? ⟨g, 0, none⟩ = false ∧ w.frozen? ⟨g, 1, none⟩ = false ∧ w.frozen? ⟨g, 2, none⟩ = false :=
 ⟨by rw [h.cell 0]; simp, by rw [h.cell 1]; simp, by rw [h.cell 2]; simp, h.free 0, h.free 1, h.free 2⟩
theorem Blk.set {w : World} {g : Nat} {A : Array Value} {t : TypeId} (h : Blk g A t w) (j : Nat) (v : Value) : Blk g (A.setIfInBounds j v) t (w.setCell ⟨g, j, none⟩ v) := heap_setCell_same w g j A t v h
theorem setRow_id {w : World} {g : Nat} {A : Array Value} {t : TypeId} (h : Blk g A t w) : w.setRow g A = w := by
 have e : (w.setRow g A).heap = w.heap := by
  apply Array.ext_getElem?
  intro k
  by_cases hk : k = g
  ·subst hk; rw [setRow_heap w k A A t (0, 0) h]; exact h.symm
  ·exact setRow_other w g k A hk
 have : ({ w with heap := (w.setRow g A).heap } : World) = { w with heap := w.heap } := by rw [e]
 exact this
theorem setCell_id {w : World} {g j : Nat} {A : Array Value} {t : TypeId} {v : Value} (h : Blk g A t w) (hv : A[j]? = some v) : w.setCell ⟨g, j, none⟩ v = w := by
 rw [setCell_eq_setRow w g j A t (0, 0) v h]
 have : A.setIfInBounds j v = A := by
  apply Array.ext_getElem?
  intro k
  rw [Array.getElem?_setIfInBounds]
  by_cases hk : j = k
  ·subst hk
   obtain ⟨hj, _⟩ := Array.getElem?_eq_some_iff.1 hv
   rw [if_pos rfl, if_pos hj, hv]
  ·rw [if_neg hk]
 rw [this]
 exact setRow_id h
theorem grown_set (w : World) (g j : Nat) (v : Value) : w.grownBy (w.setCell ⟨g, j, none⟩ v) (some g) :=
 ⟨rfl, rfl, rfl, by simp [World.setCell], fun k _ hk => Below.heap_setCell _ _ _ _ (fun e => hk (by simp [e]))⟩
theorem grown_then {a b c : World} {row : Option Nat} (h : a.grownBy b row) (k : b.grownBy c row) : a.grownBy c row :=
 ⟨k.os.trans h.os, k.tape.trans h.tape, k.output.trans h.output, Nat.le_trans h.size k.size, fun j hj hn => (k.block j (Nat.lt_of_lt_of_le hj h.size) hn).trans (h.block j hj hn)⟩
theorem Rdr.move {g : Nat} {t : ByteArray} {i : Nat} {R : List Value} {T : TypeId} {w : World} (h : Rdr g t i R T w) (j : Nat) : Rdr g t j R T (w.setCell ⟨g, 1, none⟩ (.int .i64 (j : Int))) := by
 have := Blk.set h 1 (.int .i64 (j : Int))
 unfold Rdr
 simpa using this
theorem Rdr.keep {g : Nat} {t : ByteArray} {i : Nat} {R : List Value} {T : TypeId} {w : World} (h : Rdr g t i R T w) : w.setCell ⟨g, 2, none⟩ (.int .i64 (-1)) = w := setCell_id h (by simp)
theorem readByte_end (g : Nat) (t : ByteArray) (i : Nat) (R : List Value) (T : TypeId) (E : Value) (w : World) (h : Rdr g t i R T w) (hE : w.cell? ⟨1, 0, none⟩ = some E) (hi : t.size ≤ i) (hi9 : i ≤ 1048576) :
  Calls Tryz.prog 116 #[.pointer (some ⟨g, 0, none⟩)] w fun e w' => e = .returned (.tuple #[.int .u8 0, E]) ∧ w' = w.drew.drew := by
 have K := h.keep
 obtain ⟨c0, c1, c2, f0, f1, f2⟩ := h.cells
 have hii : ¬ ((i : Int) < (t.size : Int)) := by omega
 have hig : (t.size : Int) ≤ (i : Int) := by omega
 clear h
 go_enter Tryz.func116, Tryz.ntmps116
 go_wp2
 go_region
 go_wp2
 go_region
 go_wp2
 exact bodyPost_ret (v := .tuple #[.int .u8 0, E]) (by simp [results, Tryz.results116, go_sem]) rfl ⟨rfl, rfl⟩
theorem Rdr.drew {g : Nat} {t : ByteArray} {i : Nat} {R : List Value} {T : TypeId} {w : World} (h : Rdr g t i R T w) : Rdr g t i R T w.drew := h
theorem grownBy_drew {a b : World} {row : Option Nat} (h : a.grownBy b row) : a.grownBy b.drew row := ⟨h.os, h.tape, h.output, h.size, h.block⟩
theorem readByte_yes (g : Nat) (t : ByteArray) (i : Nat) (R : List Value) (T : TypeId) (w : World) (h : Rdr g t i R T w) (hi : i < t.size) (hi9 : t.size ≤ 1048576) :
  Calls Tryz.prog 116 #[.pointer (some ⟨g, 0, none⟩)] w fun e w' => e = .returned (.tuple #[.int .u8 (t[i].toNat : Int), .nilIface]) ∧ Rdr g t (i + 1) R T w' ∧ w.grownBy w' (some g) := by
 have K := h.keep
 obtain ⟨c0, c1, c2, f0, f1, f2⟩ := h.cells
 have hii : ¬ ((t.size : Int) ≤ (i : Int)) := by omega
 have hig : (i : Int) < (t.size : Int) := by omega
 have HM : Hid (Rdr g t (i + 1) R T (w.setCell ⟨g, 1, none⟩ (.int .i64 ((i + 1 : Nat) : Int)))) := h.move (i + 1)
 have HE : Hid (((i + 1 : Nat) : Int) = (i : Int) + 1) := by show _ = _; omega
 clear h
 go_enter Tryz.func116, Tryz.ntmps116
 go_wp2
 go_region
 go_wp2
 go_region
 go_wp2
 refine bodyPost_ret (v := .tuple #[.int .u8 (t[i].toNat : Int), .nilIface]) (by simp [results, Tryz.results116, go_sem]) rfl ⟨rfl, ?_, grownBy_drew (grownBy_drew (grown_set w g 1 _))⟩
 have := HM.out
 rw [HE.out] at this
 exact this.drew.drew
theorem unread (g : Nat) (t : ByteArray) (i : Nat) (R : List Value) (T : TypeId) (w : World) (h : Rdr g t (i + 1) R T w) (hi9 : i ≤ 1048576) :
  Calls Tryz.prog 118 #[.pointer (some ⟨g, 0, none⟩)] w fun e w' => e = .returned .nilIface ∧ Rdr g t i R T w' ∧ w.grownBy w' (some g) := by
 have K := h.keep
 obtain ⟨c0, c1, c2, f0, f1, f2⟩ := h.cells
 have hii : ¬ (((i + 1 : Nat) : Int) ≤ 0) := by omega
 have hij : (0 : Int) < ((i + 1 : Nat) : Int) := by omega
 have HM : Hid (Rdr g t i R T (w.setCell ⟨g, 1, none⟩ (.int .i64 (i : Int)))) := h.move i
 have HE : ((i + 1 : Nat) : Int) - 1 = (i : Int) := by omega
 have HW : IntKind.i64.wrap (i : Int) = (i : Int) := by rw [IntKind.wrap_i64]; omega
 clear h
 generalize ((i + 1 : Nat) : Int) = z at *
 go_enter Tryz.func118, Tryz.ntmps118
 go_wp2
 go_ret
 exact ⟨rfl, HM.out, grown_set w g 1 _⟩
end Go.Proofs.YtnfhajhdpdidlaaGreatDoor
end
