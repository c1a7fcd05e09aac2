/- A box with an address, and a zero address for the answer, as spec's functions have them. -/
import Derived.Test.YtnfhajhdpdidlaaGreatDoorB15
import Derived.Test.YtnfhajhdpdidlaaGreatDoorB23
import Derived.Test.YtnfhajhdpdidlaaGreatDoorB24
set_option linter.unusedVariables false
set_option linter.unusedSimpArgs false
section
namespace Go.Proofs.YtnfhajhdpdidlaaGreatDoor
open Go.RowKit Go.Shelf
def zeroC : Array Value := #[(.string ⟨#[]⟩), (.string ⟨#[]⟩), (.string ⟨#[]⟩), (.int .i64 0), (.string ⟨#[]⟩), (.int .i64 0), (.int .i64 0), (.slice none 0 0), (.string ⟨#[]⟩), (.bool false), (.string ⟨#[]⟩), (.bool false), (.string ⟨#[]⟩)]
structure BX (w : World) (p : P) (v : Value) (W : World) : Prop where
 make ::
 bx : Blk w.heap.size (p.cells v) 31 W
 rs : Blk (w.heap.size + 1) zeroC 31 W
 bw : Below w.heap.size w W
theorem BX.start (w : World) (p : P) (v : Value) : BX w p v ((w.alloc (.cells (p.cells v) 31)).alloc (.cells zeroC 31)) where
 bx := Blk.alloc (Blk.new w _ _) _
 rs := by
  have := Blk.new (w.alloc (.cells (p.cells v) 31)) zeroC 31
  rw [show (w.alloc (Obj.cells (p.cells v) 31)).heap.size = w.heap.size + 1 by simp] at this
  exact this
 bw := ((Below.refl _ w).alloc (Nat.le_refl _) _).alloc (by simp) _
theorem BX.later {w W W' : World} {p : P} {v : Value} (h : BX w p v W) (b : Below W.heap.size W W') : BX w p v W' :=
 ⟨h.bx.below b h.bx.lt, h.rs.below b h.rs.lt, h.bw.trans (b.mono h.bw.size)⟩
theorem BX.cells {w W : World} {q : P} {v : Value} (h : BX w q v W) :
  W.cell? ⟨w.heap.size, 0, none⟩ = some (.string q.sc) ∧ W.cell? ⟨w.heap.size, 1, none⟩ = some (.string q.us) ∧ W.cell? ⟨w.heap.size, 2, none⟩ = some (.string q.pw) ∧ W.cell? ⟨w.heap.size, 3, none⟩ = some (.int .i64 q.hk) ∧ W.cell? ⟨w.heap.size, 4, none⟩ = some (.string q.hn) ∧ W.cell? ⟨w.heap.size, 5, none⟩ = some (.int .i64 q.ha) ∧ W.cell? ⟨w.heap.size, 6, none⟩ = some (.int .i64 q.po) ∧ W.cell? ⟨w.heap.size, 7, none⟩ = some v ∧ W.cell? ⟨w.heap.size, 8, none⟩ = some (.string q.op) ∧ W.cell? ⟨w.heap.size, 9, none⟩ = some (.bool q.hq) ∧ W.cell? ⟨w.heap.size, 10, none⟩ = some (.string q.qu) ∧ W.cell? ⟨w.heap.size, 11, none⟩ = some (.bool q.hf) ∧ W.cell? ⟨w.heap.size, 12, none⟩ = some (.string q.fr) :=
 ⟨h.bx.cell 0, h.bx.cell 1, h.bx.cell 2, h.bx.cell 3, h.bx.cell 4, h.bx.cell 5, h.bx.cell 6, h.bx.cell 7, h.bx.cell 8, h.bx.cell 9, h.bx.cell 10, h.bx.cell 11, h.bx.cell 12⟩
theorem BX.zeros {w W : World} {q : P} {v : Value} (h : BX w q v W) :
  W.cell? ⟨w.heap.size + 1, 0, none⟩ = some (.string ⟨#[]⟩) ∧ W.cell? ⟨w.heap.size + 1, 1, none⟩ = some (.string ⟨#[]⟩) ∧ W.cell? ⟨w.heap.size + 1, 2, none⟩ = some (.string ⟨#[]⟩) ∧ W.cell? ⟨w.heap.size + 1, 3, none⟩ = some (.int .i64 0) ∧ W.cell? ⟨w.heap.size + 1, 4, none⟩ = some (.string ⟨#[]⟩) ∧ W.cell? ⟨w.heap.size + 1, 5, none⟩ = some (.int .i64 0) ∧ W.cell? ⟨w.heap.size + 1, 6, none⟩ = some (.int .i64 0) ∧ W.cell? ⟨w.heap.size + 1, 7, none⟩ = some (.slice none 0 0) ∧ W.cell? ⟨w.heap.size + 1, 8, none⟩ = some (.string ⟨#[]⟩) ∧ W.cell? ⟨w.heap.size + 1, 9, none⟩ = some (.bool false) ∧ W.cell? ⟨w.heap.size + 1, 10, none⟩ = some (.string ⟨#[]⟩) ∧ W.cell? ⟨w.heap.size + 1, 11, none⟩ = some (.bool false) ∧ W.cell? ⟨w.heap.size + 1, 12, none⟩ = some (.string ⟨#[]⟩) :=
 ⟨h.rs.cell 0, h.rs.cell 1, h.rs.cell 2, h.rs.cell 3, h.rs.cell 4, h.rs.cell 5, h.rs.cell 6, h.rs.cell 7, h.rs.cell 8, h.rs.cell 9, h.rs.cell 10, h.rs.cell 11, h.rs.cell 12⟩
theorem BX.free {w W : World} {q : P} {v : Value} (h : BX w q v W) :
  W.frozen? ⟨w.heap.size + 1, 0, none⟩ = false ∧ W.frozen? ⟨w.heap.size + 1, 1, none⟩ = false ∧ W.frozen? ⟨w.heap.size + 1, 2, none⟩ = false ∧ W.frozen? ⟨w.heap.size + 1, 3, none⟩ = false ∧ W.frozen? ⟨w.heap.size + 1, 4, none⟩ = false ∧ W.frozen? ⟨w.heap.size + 1, 5, none⟩ = false ∧ W.frozen? ⟨w.heap.size + 1, 6, none⟩ = false ∧ W.frozen? ⟨w.heap.size + 1, 7, none⟩ = false ∧ W.frozen? ⟨w.heap.size + 1, 8, none⟩ = false ∧ W.frozen? ⟨w.heap.size + 1, 9, none⟩ = false ∧ W.frozen? ⟨w.heap.size + 1, 10, none⟩ = false ∧ W.frozen? ⟨w.heap.size + 1, 11, none⟩ = false ∧ W.frozen? ⟨w.heap.size + 1, 12, none⟩ = false :=
 ⟨h.rs.free 0, h.rs.free 1, h.rs.free 2, h.rs.free 3, h.rs.free 4, h.rs.free 5, h.rs.free 6, h.rs.free 7, h.rs.free 8, h.rs.free 9, h.rs.free 10, h.rs.free 11, h.rs.free 12⟩
theorem BX.set {w W : World} {p q : P} {v v' : Value} (h : BX w p v W) (j : Nat) (x : Value) (e : (p.cells v).setIfInBounds j x = q.cells v') : BX w q v' (W.setCell ⟨w.heap.size, j, none⟩ x) where
 bx := by
  have := Blk.set h.bx j x
  rw [e] at this
  exact this
 rs := h.rs.other _ _ _ (by omega)
 bw := h.bw.setCell (p := ⟨w.heap.size, j, none⟩) (Nat.le_refl _) _
theorem BX.fin {w W : World} {p : P} {v : Value} (h : BX w p v W) (v0 v1 v2 v3 v4 v5 v6 v7 v8 v9 v10 v11 v12 : Value) :
  Blk (w.heap.size + 1) #[v0, v1, v2, v3, v4, v5, v6, v7, v8, v9, v10, v11, v12] 31 (((((((((((((W.setCell ⟨w.heap.size + 1, 0, none⟩ v0).setCell ⟨w.heap.size + 1, 1, none⟩ v1).setCell ⟨w.heap.size + 1, 2, none⟩ v2).setCell ⟨w.heap.size + 1, 3, none⟩ v3).setCell ⟨w.heap.size + 1, 4, none⟩ v4).setCell ⟨w.heap.size + 1, 5, none⟩ v5).setCell ⟨w.heap.size + 1, 6, none⟩ v6).setCell ⟨w.heap.size + 1, 7, none⟩ v7).setCell ⟨w.heap.size + 1, 8, none⟩ v8).setCell ⟨w.heap.size + 1, 9, none⟩ v9).setCell ⟨w.heap.size + 1, 10, none⟩ v10).setCell ⟨w.heap.size + 1, 11, none⟩ v11).setCell ⟨w.heap.size + 1, 12, none⟩ v12) ∧ Below w.heap.size w (((((((((((((W.setCell ⟨w.heap.size + 1, 0, none⟩ v0).setCell ⟨w.heap.size + 1, 1, none⟩ v1).setCell ⟨w.heap.size + 1, 2, none⟩ v2).setCell ⟨w.heap.size + 1, 3, none⟩ v3).setCell ⟨w.heap.size + 1, 4, none⟩ v4).setCell ⟨w.heap.size + 1, 5, none⟩ v5).setCell ⟨w.heap.size + 1, 6, none⟩ v6).setCell ⟨w.heap.size + 1, 7, none⟩ v7).setCell ⟨w.heap.size + 1, 8, none⟩ v8).setCell ⟨w.heap.size + 1, 9, none⟩ v9).setCell ⟨w.heap.size + 1, 10, none⟩ v10).setCell ⟨w.heap.size + 1, 11, none⟩ v11).setCell ⟨w.heap.size + 1, 12, none⟩ v12) ∧ W.grownBy (((((((((((((W.setCell ⟨w.heap.size + 1, 0, none⟩ v0).setCell ⟨w.heap.size + 1, 1, none⟩ v1).setCell ⟨w.heap.size + 1, 2, none⟩ v2).setCell ⟨w.heap.size + 1, 3, none⟩ v3).setCell ⟨w.heap.size + 1, 4, none⟩ v4).setCell ⟨w.heap.size + 1, 5, none⟩ v5).setCell ⟨w.heap.size + 1, 6, none⟩ v6).setCell ⟨w.heap.size + 1, 7, none⟩ v7).setCell ⟨w.heap.size + 1, 8, none⟩ v8).setCell ⟨w.heap.size + 1, 9, none⟩ v9).setCell ⟨w.heap.size + 1, 10, none⟩ v10).setCell ⟨w.heap.size + 1, 11, none⟩ v11).setCell ⟨w.heap.size + 1, 12, none⟩ v12) (some (w.heap.size + 1)) :=
 ⟨Blk.put13 h.rs _ _ _ _ _ _ _ _ _ _ _ _ _, below_put13 h.bw (Nat.le_succ _) _ _ _ _ _ _ _ _ _ _ _ _ _, grown13 _ _ _ _ _ _ _ _ _ _ _ _ _ _ _⟩
theorem at_up (S l : List UInt8) : atL S l = (upL S l).length := by
 rcases up_cases S l with ⟨e, h⟩ | ⟨a, c, b, e, hu, hc, ha⟩
 ·rw [e]; exact atL_miss S l (fun j hj => h l[j] (List.getElem_mem hj))
 ·rw [hu]
  have hal : a.length < l.length := by rw [e]; simp
  have hg : l[a.length]? = some c := by rw [e, List.getElem?_append_right (Nat.le_refl _)]; simp
  apply atL_hit S l a.length hal
  ·intro j hj hlt
   have : l[j]? = some a[j] := by rw [e, List.getElem?_append_left hlt, List.getElem?_eq_getElem hlt]
   rw [List.getElem?_eq_getElem hj] at this
   simp at this
   rw [this]; exact ha a[j] (List.getElem_mem hlt)
  ·rw [List.getElem?_eq_getElem hal] at hg
   simp at hg
   rw [hg]; exact hc
theorem atC (S l : List UInt8) (w : World) (hl : l.length ≤ 1000000) (hS : S.length ≤ 1000) :
  Calls Tryz.prog 136 #[.string (mk l), .string (mk S)] w fun e w' => e = .returned (.int .i64 ((upL S l).length : Int)) ∧ Below w.heap.size w w' := by
 refine (l1At (mk l) (mk S) w (by rw [mk_size]; omega) (by rw [mk_size]; exact hS)).mono ?_
 rintro e w' ⟨rfl, b⟩
 exact ⟨by rw [mk_data, mk_data, at_up], b⟩
theorem encC (set : Int) (l : List UInt8) (w : World) (hl : l.length ≤ 1000000) :
  Calls Tryz.prog 137 #[.int .i64 set, .string (mk l)] w fun e w' => e = .returned (.string (wrT set l)) ∧ Below w.heap.size w w' := specEncode set (mk l) w (by rw [mk_size]; unfold maxLen; omega)
theorem ext_takeM (l : List UInt8) (k : Nat) (hk : k ≤ l.length) : (mk l).extract 0 k = mk (l.take k) := by
 rw [← mk_list ((mk l).extract 0 k), ext_list (mk l) 0 k (Nat.zero_le _) (by rw [mk_size]; exact hk)]
 simp [mk_data]
theorem ext_dropM (l : List UInt8) (k : Nat) : (mk l).extract k (mk l).size = mk (l.drop k) := by
 rw [← mk_list ((mk l).extract k (mk l).size), ext_from, mk_data]
end Go.Proofs.YtnfhajhdpdidlaaGreatDoor
end
