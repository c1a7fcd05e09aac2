/- A box with an address, and a zero address for the answer, as spec's functions have them. spec.l3Tail, spec.l3Who. spec.l1Cut and l2Parts: the pieces of a text, the parts of a host's text. spec.l1In: whether a number lies between two. spec.l3Port. -/
import Derived.Test.YtfcbjdooijhibaaGreatDoorD15
import Derived.Test.YtfcbjdooijhibaaGreatDoorD22
import Derived.Test.YtfcbjdooijhibaaGreatDoorD23
import Derived.Test.YtfcbjdooijhibaaGreatDoorD07
import Derived.Test.YtfcbjdooijhibaaGreatDoorD05
set_option linter.unusedVariables false
set_option linter.unusedSimpArgs false
set_option maxHeartbeats 4000000
set_option maxRecDepth 100000
section
namespace Go.Proofs.YtfcbjdooijhibaaGreatDoor
open Go.RowKit Go.Shelf
def zeroC : Array Value := #[(.string ⟨#[]⟩), (.string ⟨#[]⟩), (.string ⟨#[]⟩), (.int .i64 0), (.string ⟨#[]⟩), (.int .i64 0), (.int .i64 0), (.slice none 0 0), (.string ⟨#[]⟩), (.bool false), (.string ⟨#[]⟩), (.bool false), (.string ⟨#[]⟩)]
structure BX (w : World) (p : P) (v : Value) (W : World) : Prop where
 make ::
 bx : Blk w.heap.size (p.cells v) 27 W
 rs : Blk (w.heap.size + 1) zeroC 27 W
 bw : Below w.heap.size w W
theorem BX.start (w : World) (p : P) (v : Value) : BX w p v ((w.alloc (.cells (p.cells v) 27)).alloc (.cells zeroC 27)) where
 bx := Blk.alloc (Blk.new w _ _) _
 rs := by
  have := Blk.new (w.alloc (.cells (p.cells v) 27)) zeroC 27
  rw [show (w.alloc (Obj.cells (p.cells v) 27)).heap.size = w.heap.size + 1 by simp] at this
  exact this
 bw := ((Below.refl _ w).alloc (Nat.le_refl _) _).alloc (by simp) _
theorem BX.later {w W W' : World} {p : P} {v : Value} (h : BX w p v W) (b : Below W.heap.size W W') : BX w p v W' :=
 ⟨h.bx.below b h.bx.lt, h.rs.below b h.rs.lt, h.bw.trans (b.mono h.bw.size)⟩
theorem BX.cells {w W : World} {q : P} {v : Value} (h : BX w q v W) :
  W.cell? ⟨w.heap.size, 0, none⟩ = some (.string q.sc) ∧ W.cell? ⟨w.heap.size, 1, none⟩ = some (.string q.us) ∧ W.cell? ⟨w.heap.size, 2, none⟩ = some (.string q.pw) ∧ W.cell? ⟨w.heap.size, 3, none⟩ = some (.int .i64 q.hk) ∧ W.cell? ⟨w.heap.size, 4, none⟩ = some (.string q.hn) ∧ W.cell? ⟨w.heap.size, 5, none⟩ = some (.int .i64 q.ha) ∧ W.cell? ⟨w.heap.size, 6, none⟩ = some (.int .i64 q.po) ∧ W.cell? ⟨w.heap.size, 7, none⟩ = some v ∧ W.cell? ⟨w.heap.size, 8, none⟩ = some (.string q.op) ∧ W.cell? ⟨w.heap.size, 9, none⟩ = some (.bool q.hq) ∧ W.cell? ⟨w.heap.size, 10, none⟩ = some (.string q.qu) ∧ W.cell? ⟨w.heap.size, 11, none⟩ = some (.bool q.hf) ∧ W.cell? ⟨w.heap.size, 12, none⟩ = some (.string q.fr) :=
 ⟨h.bx.cell 0, h.bx.cell 1, h.bx.cell 2, h.bx.cell 3, h.bx.cell 4, h.bx.cell 5, h.bx.cell 6, h.bx.cell 7, h.bx.cell 8, h.bx.cell 9, h.bx.cell 10, h.bx.cell 11, h.bx.cell 12⟩
theorem BX.zeros {w W : World} {q : P} {v : Value} (h : BX w q v W) :
  W.cell? ⟨w.heap.size + 1, 0, none⟩ = some (.string ⟨#[]⟩) ∧ W.cell? ⟨w.heap.size + 1, 1, none⟩ = some (.string ⟨#[]⟩) ∧ W.cell? ⟨w.heap.size + 1, 2, none⟩ = some (.string ⟨#[]⟩) ∧ W.cell? ⟨w.heap.size + 1, 3, none⟩ = some (.int .i64 0) ∧ W.cell? ⟨w.heap.size + 1, 4, none⟩ = some (.string ⟨#[]⟩) ∧ W.cell? ⟨w.heap.size + 1, 5, none⟩ = some (.int .i64 0) ∧ W.cell? ⟨w.heap.size + 1, 6, none⟩ = some (.int .i64 0) ∧ W.cell? ⟨w.heap.size + 1, 7, none⟩ = some (.slice none 0 0) ∧ W.cell? ⟨w.heap.size + 1, 8, none⟩ = some (.string ⟨#[]⟩) ∧ W.cell? ⟨w.heap.size + 1, 9, none⟩ = some (.bool false) ∧ W.cell? ⟨w.heap.size + 1, 10, none⟩ = some (.string ⟨#[]⟩) ∧ W.cell? ⟨w.heap.size + 1, 11, none⟩ = some (.bool false) ∧ W.cell? ⟨w.heap.size + 1, 12, none⟩ = some (.string ⟨#[]⟩) :=
 ⟨h.rs.cell 0, h.rs.cell 1, h.rs.cell 2, h.rs.cell 3, h.rs.cell 4, h.rs.cell 5, h.rs.cell 6, h.rs.cell 7, h.rs.cell 8, h.rs.cell 9, h.rs.cell 10, h.rs.cell 11, h.rs.cell 12⟩
theorem BX.free {w W : World} {q : P} {v : Value} (h : BX w q v W) :
  W.frozen? ⟨w.heap.size + 1, 0, none⟩ = false ∧ W.frozen? ⟨w.heap.size + 1, 1, none⟩ = false ∧ W.frozen? ⟨w.heap.size + 1, 2, none⟩ = false ∧ W.frozen? ⟨w.heap.size + 1, 3, none⟩ = false ∧ W.frozen? ⟨w.heap.size + 1, 4, none⟩ = false ∧ W.frozen? ⟨w.heap.size + 1, 5, none⟩ = false ∧ W.frozen? ⟨w.heap.size + 1, 6, none⟩ = false ∧ W.frozen? ⟨w.heap.size + 1, 7, none⟩ = false ∧ W.frozen? ⟨w.heap.size + 1, 8, none⟩ = false ∧ W.frozen? ⟨w.heap.size + 1, 9, none⟩ = false ∧ W.frozen? ⟨w.heap.size + 1, 10, none⟩ = false ∧ W.frozen? ⟨w.heap.size + 1, 11, none⟩ = false ∧ W.frozen? ⟨w.heap.size + 1, 12, none⟩ = false :=
 ⟨h.rs.free 0, h.rs.free 1, h.rs.free 2, h.rs.free 3, h.rs.free 4, h.rs.free 5, h.rs.free 6, h.rs.free 7, h.rs.free 8, h.rs.free 9, h.rs.free 10, h.rs.free 11, h.rs.free 12⟩
theorem BX.set {w W : World} {p q : P} {v v' : Value} (h : BX w p v W) (j : Nat) (x : Value) (e : (p.cells v).setIfInBounds j x = q.cells v') : BX w q v' (W.setCell ⟨w.heap.size, j, none⟩ x) where
 bx := by
  have := Blk.set h.bx j x
  rw [e] at this
  exact this
 rs := h.rs.other _ _ _ (by omega)
 bw := h.bw.setCell (p := ⟨w.heap.size, j, none⟩) (Nat.le_refl _) _
theorem BX.fin {w W : World} {p : P} {v : Value} (h : BX w p v W) (v0 v1 v2 v3 v4 v5 v6 v7 v8 v9 v10 v11 v12 : Value) :
  Blk (w.heap.size + 1) #[v0, v1, v2, v3, v4, v5, v6, v7, v8, v9, v10, v11, v12] 27 (((((((((((((W.setCell ⟨w.heap.size + 1, 0, none⟩ v0).setCell ⟨w.heap.size + 1, 1, none⟩ v1).setCell ⟨w.heap.size + 1, 2, none⟩ v2).setCell ⟨w.heap.size + 1, 3, none⟩ v3).setCell ⟨w.heap.size + 1, 4, none⟩ v4).setCell ⟨w.heap.size + 1, 5, none⟩ v5).setCell ⟨w.heap.size + 1, 6, none⟩ v6).setCell ⟨w.heap.size + 1, 7, none⟩ v7).setCell ⟨w.heap.size + 1, 8, none⟩ v8).setCell ⟨w.heap.size + 1, 9, none⟩ v9).setCell ⟨w.heap.size + 1, 10, none⟩ v10).setCell ⟨w.heap.size + 1, 11, none⟩ v11).setCell ⟨w.heap.size + 1, 12, none⟩ v12) ∧ Below w.heap.size w (((((((((((((W.setCell ⟨w.heap.size + 1, 0, none⟩ v0).setCell ⟨w.heap.size + 1, 1, none⟩ v1).setCell ⟨w.heap.size + 1, 2, none⟩ v2).setCell ⟨w.heap.size + 1, 3, none⟩ v3).setCell ⟨w.heap.size + 1, 4, none⟩ v4).setCell ⟨w.heap.size + 1, 5, none⟩ v5).setCell ⟨w.heap.size + 1, 6, none⟩ v6).setCell ⟨w.heap.size + 1, 7, none⟩ v7).setCell ⟨w.heap.size + 1, 8, none⟩ v8).setCell ⟨w.heap.size + 1, 9, none⟩ v9).setCell ⟨w.heap.size + 1, 10, none⟩ v10).setCell ⟨w.heap.size + 1, 11, none⟩ v11).setCell ⟨w.heap.size + 1, 12, none⟩ v12) ∧ W.grownBy (((((((((((((W.setCell ⟨w.heap.size + 1, 0, none⟩ v0).setCell ⟨w.heap.size + 1, 1, none⟩ v1).setCell ⟨w.heap.size + 1, 2, none⟩ v2).setCell ⟨w.heap.size + 1, 3, none⟩ v3).setCell ⟨w.heap.size + 1, 4, none⟩ v4).setCell ⟨w.heap.size + 1, 5, none⟩ v5).setCell ⟨w.heap.size + 1, 6, none⟩ v6).setCell ⟨w.heap.size + 1, 7, none⟩ v7).setCell ⟨w.heap.size + 1, 8, none⟩ v8).setCell ⟨w.heap.size + 1, 9, none⟩ v9).setCell ⟨w.heap.size + 1, 10, none⟩ v10).setCell ⟨w.heap.size + 1, 11, none⟩ v11).setCell ⟨w.heap.size + 1, 12, none⟩ v12) (some (w.heap.size + 1)) :=
 ⟨Blk.put13 h.rs _ _ _ _ _ _ _ _ _ _ _ _ _, below_put13 h.bw (Nat.le_succ _) _ _ _ _ _ _ _ _ _ _ _ _ _, grown13 _ _ _ _ _ _ _ _ _ _ _ _ _ _ _⟩
theorem at_up (S l : List UInt8) : atL S l = (upL S l).length := by
 rcases up_cases S l with ⟨e, h⟩ | ⟨a, c, b, e, hu, hc, ha⟩
 ·rw [e]; exact atL_miss S l (fun j hj => h l[j] (List.getElem_mem hj))
 ·rw [hu]
  have hal : a.length < l.length := by rw [e]; simp
  have hg : l[a.length]? = some c := by rw [e, List.getElem?_append_right (Nat.le_refl _)]; simp
  apply atL_hit S l a.length hal
  ·intro j hj hlt
   have : l[j]? = some a[j] := by rw [e, List.getElem?_append_left hlt, List.getElem?_eq_getElem hlt]
   rw [List.getElem?_eq_getElem hj] at this
   simp at this
   rw [this]; exact ha a[j] (List.getElem_mem hlt)
  ·rw [List.getElem?_eq_getElem hal] at hg
   simp at hg
   rw [hg]; exact hc
theorem atC (S l : List UInt8) (w : World) (hl : l.length ≤ 1000000) (hS : S.length ≤ 1000) :
  Calls Tryz.prog 82 #[.string (mk l), .string (mk S)] w fun e w' => e = .returned (.int .i64 ((upL S l).length : Int)) ∧ Below w.heap.size w w' := by
 refine (l1At (mk l) (mk S) w (by rw [mk_size]; omega) (by rw [mk_size]; exact hS)).mono ?_
 rintro e w' ⟨rfl, b⟩
 exact ⟨by rw [mk_data, mk_data, at_up], b⟩
theorem encC (set : Int) (l : List UInt8) (w : World) (hl : l.length ≤ 1000000) :
  Calls Tryz.prog 83 #[.int .i64 set, .string (mk l)] w fun e w' => e = .returned (.string (wrT set l)) ∧ Below w.heap.size w w' := specEncode set (mk l) w (by rw [mk_size]; unfold maxLen; omega)
theorem ext_takeM (l : List UInt8) (k : Nat) (hk : k ≤ l.length) : (mk l).extract 0 k = mk (l.take k) := by
 rw [← mk_list ((mk l).extract 0 k), ext_list (mk l) 0 k (Nat.zero_le _) (by rw [mk_size]; exact hk)]
 simp [mk_data]
theorem ext_dropM (l : List UInt8) (k : Nat) : (mk l).extract k (mk l).size = mk (l.drop k) := by
 rw [← mk_list ((mk l).extract k (mk l).size), ext_from, mk_data]
end Go.Proofs.YtfcbjdooijhibaaGreatDoor
end
section
namespace Go.Proofs.YtfcbjdooijhibaaGreatDoor
open Go.RowKit Go.Shelf
def tail1 (p : P) (l : List UInt8) : P := if (upL [35] l).length < l.length then { p with hf := true, fr := wrT 3 (l.drop ((upL [35] l).length + 1)) } else p
def tail2 (p : P) (m : List UInt8) : P := if m = [] then p else { p with hq := true, qu := wrT 2 m.tail }
def tailS (p : P) (l : List UInt8) : P := tail2 (tail1 p l) (upL [35] l)
theorem up_take (S l : List UInt8) : l.take (upL S l).length = upL S l := by
 have hp : upL S l <+: l := by unfold upL; exact List.takeWhile_prefix _
 exact (List.prefix_iff_eq_take.1 hp).symm
theorem l3Tail (p : P) (a : Option Addr) (n c : Nat) (l : List UInt8) (w : World) (hl : l.length ≤ 1000) :
  Calls Tryz.prog 84 #[.agg (p.cells (.slice a n c)), .string (mk l)] w fun e w' => e = .returned (.agg ((tailS p l).cells (.slice a n c))) ∧ Below w.heap.size w w' := by
 have H0 : Hid (BX w p (.slice a n c) ((w.alloc (.cells (p.cells (.slice a n c)) 27)).alloc (.cells zeroC 27))) := BX.start w p (.slice a n c)
 unfold P.cells zeroC at H0
 obtain ⟨s, hs⟩ : ∃ s, s = mk l := ⟨_, rfl⟩
 have hss : s.size = l.length := by rw [hs, mk_size]
 obtain ⟨k, hk⟩ : ∃ k, k = (upL [35] l).length := ⟨_, rfl⟩
 have hkl : k ≤ l.length := by rw [hk]; exact upL_le _ _
 have CA : Hid (∀ W, Calls Tryz.prog 82 #[.string s, .string ⟨#[35]⟩] W fun e w' => e = .returned (.int .i64 (k : Int)) ∧ Below W.heap.size W w') := fun W => by rw [hk, hs]; exact atC [35] l W (by omega) (by decide)
 obtain ⟨m, hm⟩ : ∃ m, m = upL [35] l := ⟨_, rfl⟩
 obtain ⟨sm, hsm⟩ : ∃ sm, sm = mk m := ⟨_, rfl⟩
 have hx1 : s.extract 0 k = sm := by rw [hs, hsm, ext_takeM l k hkl, hk, up_take, hm]
 have HTS : Hid (tailS p l = tail2 (tail1 p l) m) := by show _ = _; rw [hm]; rfl
 have hml : m.length ≤ 1000 := by rw [hm]; have := upL_le [35] l; omega
 obtain ⟨sd, hsd⟩ : ∃ sd, sd = mk (l.drop (k + 1)) := ⟨_, rfl⟩
 obtain ⟨wd, hwd⟩ : ∃ wd, wd = wrT 3 (l.drop (k + 1)) := ⟨_, rfl⟩
 have hx2 : s.extract (k + 1) s.size = sd := by rw [hs, hsd]; exact ext_dropM l (k + 1)
 have HT1 : Hid (tail1 p l = if k < s.size then { p with hf := true, fr := wd } else p) := by show _ = _; rw [hwd, hss, hk]; rfl
 have CE : Hid (∀ W, Calls Tryz.prog 83 #[.int .i64 3, .string sd] W fun e w' => e = .returned (.string wd) ∧ Below W.heap.size W w') := fun W => by rw [hsd, hwd]; exact encC 3 _ W (by rw [List.length_drop]; omega)
 obtain ⟨mt, hmt⟩ : ∃ mt, mt = mk m.tail := ⟨_, rfl⟩
 obtain ⟨wt, hwt⟩ : ∃ wt, wt = wrT 2 m.tail := ⟨_, rfl⟩
 have CQ : Hid (∀ W, Calls Tryz.prog 83 #[.int .i64 2, .string mt] W fun e w' => e = .returned (.string wt) ∧ Below W.heap.size W w') := fun W => by rw [hmt, hwt]; exact encC 2 _ W (by rw [List.length_tail]; omega)
 have hx3 : sm.extract 1 sm.size = mt := by rw [hsm, ext_dropM, hmt, List.drop_one]
 have hm0c : (m = [] ∧ sm = ⟨#[]⟩) ∨ (m ≠ [] ∧ 1 ≤ sm.size ∧ (sm.toList == []) = false ∧ sm.toList.isEmpty = false) := by
  by_cases h : m = []
  ·left; exact ⟨h, by rw [hsm, h]; rfl⟩
  ·right
   have := text_full (mk m) (by rw [mk_data]; exact h)
   refine ⟨h, ?_, by rw [hsm]; exact this.1, by rw [hsm]; exact this.2⟩
   rw [hsm, mk_size]; exact List.length_pos_iff.2 h
 have hsz : s.size ≤ 1000 := by omega
 have hks : k ≤ s.size := by omega
 have HT2 : Hid (∀ r, tail2 r m = if m = [] then r else { r with hq := true, qu := wt }) := by intro r; rw [hwt]; rfl
 rw [← hs]
 clear hk hm hmt hwt hwd hsd hsm hs hss hkl
 unfold P.cells
 go_enter Tryz.func84, Tryz.ntmps84
 go_wp2_with fail
 refine (CA.out _).mono ?_
 rintro e W1 ⟨rfl, d1⟩
 have HX1 : Hid (BX w p (.slice a n c) W1) := H0.out.later d1
 clear d1 H0 CA
 by_cases hkk : k < s.size
 ·have hki : (k : Int) < (s.size : Int) := by omega
  have HT1' : Hid (tail1 p l = { p with hf := true, fr := wd }) := by show _ = _; rw [HT1.out, if_pos hkk]
  have c11 : W1.cell? ⟨w.heap.size, 11, none⟩ = some (.bool p.hf) := HX1.out.cells.2.2.2.2.2.2.2.2.2.2.2.1
  have f11 : W1.frozen? ⟨w.heap.size, 11, none⟩ = false := HX1.out.bx.free 11
  have HX2 : Hid (BX w { p with hf := true } (.slice a n c) (W1.setCell ⟨w.heap.size, 11, none⟩ (.bool true))) := HX1.out.set 11 _ rfl
  clear HX1 HT1
  go_wp2_with fail
  refine (CE.out _).mono ?_
  rintro e W3 ⟨rfl, d3⟩
  have HX3 : Hid (BX w { p with hf := true } (.slice a n c) W3) := HX2.out.later d3
  have c12 : W3.cell? ⟨w.heap.size, 12, none⟩ = some (.string p.fr) := HX3.out.cells.2.2.2.2.2.2.2.2.2.2.2.2
  have f12 : W3.frozen? ⟨w.heap.size, 12, none⟩ = false := HX3.out.bx.free 12
  obtain ⟨p1, hp1⟩ : ∃ p1, p1 = { p with hf := true, fr := wd } := ⟨_, rfl⟩
  have HXC0 : Hid (BX w p1 (.slice a n c) (W3.setCell ⟨w.heap.size, 12, none⟩ (.string wd))) := by rw [hp1]; exact HX3.out.set 12 _ rfl
  rw [← hp1] at HT1'
  clear d3 HX2 HX3 CE c11 f11 hp1 hx2
  obtain ⟨W4, hW4⟩ : ∃ W4, W4 = W3.setCell ⟨w.heap.size, 12, none⟩ (.string wd) := ⟨_, rfl⟩
  have HXC : Hid (BX w p1 (.slice a n c) (W3.setCell ⟨w.heap.size, 12, none⟩ (.string wd))) := HXC0.out
  clear HXC0 hW4
  rcases hm0c with ⟨hm0, hmt0⟩ | ⟨hm0, hmz, hb1, hb2⟩
  ·have HDUM : True := trivial
   obtain ⟨q, hq⟩ : ∃ q, q = p1 := ⟨_, rfl⟩
   have HX : Hid (BX w q (.slice a n c) (W3.setCell ⟨w.heap.size, 12, none⟩ (.string wd))) := by rw [hq]; exact HXC.out
   have HQ : Hid (tailS p l = q) := by show _ = _; rw [HTS.out, HT1'.out, HT2.out, if_pos hm0, hq]
   clear hq HXC HT1' HTS HT2 CQ hm0 hx3 HDUM
   obtain ⟨c0, c1, c2, c3, c4, c5, c6, c7, c8, c9, c10, c11, c12⟩ := HX.out.cells
   obtain ⟨z0, z1, z2, z3, z4, z5, z6, z7, z8, z9, z10, z11, z12⟩ := HX.out.zeros
   obtain ⟨y0, y1, y2, y3, y4, y5, y6, y7, y8, y9, y10, y11, y12⟩ := HX.out.free
   go_wp2
   obtain ⟨hf1, hf2, hf3⟩ := HX.out.fin (.string q.sc) (.string q.us) (.string q.pw) (.int .i64 q.hk) (.string q.hn) (.int .i64 q.ha) (.int .i64 q.po) (.slice a n c) (.string q.op) (.bool q.hq) (.string q.qu) (.bool q.hf) (.string q.fr)
   have HRB : Hid (Blk (w.heap.size + 1) #[(.string q.sc), (.string q.us), (.string q.pw), (.int .i64 q.hk), (.string q.hn), (.int .i64 q.ha), (.int .i64 q.po), (.slice a n c), (.string q.op), (.bool q.hq), (.string q.qu), (.bool q.hf), (.string q.fr)] 27 ((((((((((((((W3.setCell ⟨w.heap.size, 12, none⟩ (.string wd)).setCell ⟨w.heap.size + 1, 0, none⟩ (.string q.sc)).setCell ⟨w.heap.size + 1, 1, none⟩ (.string q.us)).setCell ⟨w.heap.size + 1, 2, none⟩ (.string q.pw)).setCell ⟨w.heap.size + 1, 3, none⟩ (.int .i64 q.hk)).setCell ⟨w.heap.size + 1, 4, none⟩ (.string q.hn)).setCell ⟨w.heap.size + 1, 5, none⟩ (.int .i64 q.ha)).setCell ⟨w.heap.size + 1, 6, none⟩ (.int .i64 q.po)).setCell ⟨w.heap.size + 1, 7, none⟩ (.slice a n c)).setCell ⟨w.heap.size + 1, 8, none⟩ (.string q.op)).setCell ⟨w.heap.size + 1, 9, none⟩ (.bool q.hq)).setCell ⟨w.heap.size + 1, 10, none⟩ (.string q.qu)).setCell ⟨w.heap.size + 1, 11, none⟩ (.bool q.hf)).setCell ⟨w.heap.size + 1, 12, none⟩ (.string q.fr))) := hf1
   have HBB : Hid (Below w.heap.size w ((((((((((((((W3.setCell ⟨w.heap.size, 12, none⟩ (.string wd)).setCell ⟨w.heap.size + 1, 0, none⟩ (.string q.sc)).setCell ⟨w.heap.size + 1, 1, none⟩ (.string q.us)).setCell ⟨w.heap.size + 1, 2, none⟩ (.string q.pw)).setCell ⟨w.heap.size + 1, 3, none⟩ (.int .i64 q.hk)).setCell ⟨w.heap.size + 1, 4, none⟩ (.string q.hn)).setCell ⟨w.heap.size + 1, 5, none⟩ (.int .i64 q.ha)).setCell ⟨w.heap.size + 1, 6, none⟩ (.int .i64 q.po)).setCell ⟨w.heap.size + 1, 7, none⟩ (.slice a n c)).setCell ⟨w.heap.size + 1, 8, none⟩ (.string q.op)).setCell ⟨w.heap.size + 1, 9, none⟩ (.bool q.hq)).setCell ⟨w.heap.size + 1, 10, none⟩ (.string q.qu)).setCell ⟨w.heap.size + 1, 11, none⟩ (.bool q.hf)).setCell ⟨w.heap.size + 1, 12, none⟩ (.string q.fr))) := hf2
   have HGG : Hid ((W3.setCell ⟨w.heap.size, 12, none⟩ (.string wd)).grownBy ((((((((((((((W3.setCell ⟨w.heap.size, 12, none⟩ (.string wd)).setCell ⟨w.heap.size + 1, 0, none⟩ (.string q.sc)).setCell ⟨w.heap.size + 1, 1, none⟩ (.string q.us)).setCell ⟨w.heap.size + 1, 2, none⟩ (.string q.pw)).setCell ⟨w.heap.size + 1, 3, none⟩ (.int .i64 q.hk)).setCell ⟨w.heap.size + 1, 4, none⟩ (.string q.hn)).setCell ⟨w.heap.size + 1, 5, none⟩ (.int .i64 q.ha)).setCell ⟨w.heap.size + 1, 6, none⟩ (.int .i64 q.po)).setCell ⟨w.heap.size + 1, 7, none⟩ (.slice a n c)).setCell ⟨w.heap.size + 1, 8, none⟩ (.string q.op)).setCell ⟨w.heap.size + 1, 9, none⟩ (.bool q.hq)).setCell ⟨w.heap.size + 1, 10, none⟩ (.string q.qu)).setCell ⟨w.heap.size + 1, 11, none⟩ (.bool q.hf)).setCell ⟨w.heap.size + 1, 12, none⟩ (.string q.fr)) (some (w.heap.size + 1))) := hf3
   clear hf1 hf2 hf3
   generalize ((((((((((((((W3.setCell ⟨w.heap.size, 12, none⟩ (.string wd)).setCell ⟨w.heap.size + 1, 0, none⟩ (.string q.sc)).setCell ⟨w.heap.size + 1, 1, none⟩ (.string q.us)).setCell ⟨w.heap.size + 1, 2, none⟩ (.string q.pw)).setCell ⟨w.heap.size + 1, 3, none⟩ (.int .i64 q.hk)).setCell ⟨w.heap.size + 1, 4, none⟩ (.string q.hn)).setCell ⟨w.heap.size + 1, 5, none⟩ (.int .i64 q.ha)).setCell ⟨w.heap.size + 1, 6, none⟩ (.int .i64 q.po)).setCell ⟨w.heap.size + 1, 7, none⟩ (.slice a n c)).setCell ⟨w.heap.size + 1, 8, none⟩ (.string q.op)).setCell ⟨w.heap.size + 1, 9, none⟩ (.bool q.hq)).setCell ⟨w.heap.size + 1, 10, none⟩ (.string q.qu)).setCell ⟨w.heap.size + 1, 11, none⟩ (.bool q.hf)).setCell ⟨w.heap.size + 1, 12, none⟩ (.string q.fr)) = W9 at *
   clear c0 c1 c2 c3 c4 c5 c6 c7 c8 c9 c10 c11 c12 z0 z1 z2 z3 z4 z5 z6 z7 z8 z9 z10 z11 z12 y0 y1 y2 y3 y4 y5 y6 y7 y8 y9 y10 y11 y12
   have z0 : W9.cell? ⟨w.heap.size + 1, 0, none⟩ = some (.string q.sc) := HRB.out.cell 0
   have z1 : W9.cell? ⟨w.heap.size + 1, 1, none⟩ = some (.string q.us) := HRB.out.cell 1
   have z2 : W9.cell? ⟨w.heap.size + 1, 2, none⟩ = some (.string q.pw) := HRB.out.cell 2
   have z3 : W9.cell? ⟨w.heap.size + 1, 3, none⟩ = some (.int .i64 q.hk) := HRB.out.cell 3
   have z4 : W9.cell? ⟨w.heap.size + 1, 4, none⟩ = some (.string q.hn) := HRB.out.cell 4
   have z5 : W9.cell? ⟨w.heap.size + 1, 5, none⟩ = some (.int .i64 q.ha) := HRB.out.cell 5
   have z6 : W9.cell? ⟨w.heap.size + 1, 6, none⟩ = some (.int .i64 q.po) := HRB.out.cell 6
   have z7 : W9.cell? ⟨w.heap.size + 1, 7, none⟩ = some (.slice a n c) := HRB.out.cell 7
   have z8 : W9.cell? ⟨w.heap.size + 1, 8, none⟩ = some (.string q.op) := HRB.out.cell 8
   have z9 : W9.cell? ⟨w.heap.size + 1, 9, none⟩ = some (.bool q.hq) := HRB.out.cell 9
   have z10 : W9.cell? ⟨w.heap.size + 1, 10, none⟩ = some (.string q.qu) := HRB.out.cell 10
   have z11 : W9.cell? ⟨w.heap.size + 1, 11, none⟩ = some (.bool q.hf) := HRB.out.cell 11
   have z12 : W9.cell? ⟨w.heap.size + 1, 12, none⟩ = some (.string q.fr) := HRB.out.cell 12
   refine bodyPost_ret (v := .agg #[(.string q.sc), (.string q.us), (.string q.pw), (.int .i64 q.hk), (.string q.hn), (.int .i64 q.ha), (.int .i64 q.po), (.slice a n c), (.string q.op), (.bool q.hq), (.string q.qu), (.bool q.hf), (.string q.fr)]) (by simp [results, Tryz.results84, go_sem, z0, z1, z2, z3, z4, z5, z6, z7, z8, z9, z10, z11, z12]) rfl ?_
   exact ⟨by rw [HQ.out], HBB.out⟩
  ·have hmi : (1 : Int) ≤ (sm.size : Int) := by omega
   have c9 : (W3.setCell ⟨w.heap.size, 12, none⟩ (.string wd)).cell? ⟨w.heap.size, 9, none⟩ = some (.bool (p1).hq) := HXC.out.cells.2.2.2.2.2.2.2.2.2.1
   have f9 : (W3.setCell ⟨w.heap.size, 12, none⟩ (.string wd)).frozen? ⟨w.heap.size, 9, none⟩ = false := HXC.out.bx.free 9
   have HXD : Hid (BX w ({ p1 with hq := true }) (.slice a n c) ((W3.setCell ⟨w.heap.size, 12, none⟩ (.string wd)).setCell ⟨w.heap.size, 9, none⟩ (.bool true))) := HXC.out.set 9 _ rfl
   have HQ : Hid (tailS p l = { p1 with hq := true, qu := wt }) := by show _ = _; rw [HTS.out, HT1'.out, HT2.out, if_neg hm0]
   clear HXC HT1' HTS HT2 hm0
   go_wp2_with fail
   refine (CQ.out _).mono ?_
   rintro e W5 ⟨rfl, d5⟩
   have HXE : Hid (BX w ({ p1 with hq := true }) (.slice a n c) W5) := HXD.out.later d5
   clear d5 HXD CQ c9 f9
   obtain ⟨q, hq⟩ : ∃ q, q = { p1 with hq := true, qu := wt } := ⟨_, rfl⟩
   have d10 : W5.cell? ⟨w.heap.size, 10, none⟩ = some (.string (p1).qu) := HXE.out.cells.2.2.2.2.2.2.2.2.2.2.1
   have f10 : W5.frozen? ⟨w.heap.size, 10, none⟩ = false := HXE.out.bx.free 10
   have HX : Hid (BX w q (.slice a n c) (W5.setCell ⟨w.heap.size, 10, none⟩ (.string wt))) := by rw [hq]; exact HXE.out.set 10 _ rfl
   have HQ2 : Hid (tailS p l = q) := by rw [hq]; exact HQ.out
   clear hq HXE HQ hx3 hmz hmi hb1 hb2
   obtain ⟨c0, c1, c2, c3, c4, c5, c6, c7, c8, c9, c10, c11, c12⟩ := HX.out.cells
   obtain ⟨z0, z1, z2, z3, z4, z5, z6, z7, z8, z9, z10, z11, z12⟩ := HX.out.zeros
   obtain ⟨y0, y1, y2, y3, y4, y5, y6, y7, y8, y9, y10, y11, y12⟩ := HX.out.free
   go_wp2
   obtain ⟨hf1, hf2, hf3⟩ := HX.out.fin (.string q.sc) (.string q.us) (.string q.pw) (.int .i64 q.hk) (.string q.hn) (.int .i64 q.ha) (.int .i64 q.po) (.slice a n c) (.string q.op) (.bool q.hq) (.string q.qu) (.bool q.hf) (.string q.fr)
   have HRB : Hid (Blk (w.heap.size + 1) #[(.string q.sc), (.string q.us), (.string q.pw), (.int .i64 q.hk), (.string q.hn), (.int .i64 q.ha), (.int .i64 q.po), (.slice a n c), (.string q.op), (.bool q.hq), (.string q.qu), (.bool q.hf), (.string q.fr)] 27 ((((((((((((((W5.setCell ⟨w.heap.size, 10, none⟩ (.string wt)).setCell ⟨w.heap.size + 1, 0, none⟩ (.string q.sc)).setCell ⟨w.heap.size + 1, 1, none⟩ (.string q.us)).setCell ⟨w.heap.size + 1, 2, none⟩ (.string q.pw)).setCell ⟨w.heap.size + 1, 3, none⟩ (.int .i64 q.hk)).setCell ⟨w.heap.size + 1, 4, none⟩ (.string q.hn)).setCell ⟨w.heap.size + 1, 5, none⟩ (.int .i64 q.ha)).setCell ⟨w.heap.size + 1, 6, none⟩ (.int .i64 q.po)).setCell ⟨w.heap.size + 1, 7, none⟩ (.slice a n c)).setCell ⟨w.heap.size + 1, 8, none⟩ (.string q.op)).setCell ⟨w.heap.size + 1, 9, none⟩ (.bool q.hq)).setCell ⟨w.heap.size + 1, 10, none⟩ (.string q.qu)).setCell ⟨w.heap.size + 1, 11, none⟩ (.bool q.hf)).setCell ⟨w.heap.size + 1, 12, none⟩ (.string q.fr))) := hf1
   have HBB : Hid (Below w.heap.size w ((((((((((((((W5.setCell ⟨w.heap.size, 10, none⟩ (.string wt)).setCell ⟨w.heap.size + 1, 0, none⟩ (.string q.sc)).setCell ⟨w.heap.size + 1, 1, none⟩ (.string q.us)).setCell ⟨w.heap.size + 1, 2, none⟩ (.string q.pw)).setCell ⟨w.heap.size + 1, 3, none⟩ (.int .i64 q.hk)).setCell ⟨w.heap.size + 1, 4, none⟩ (.string q.hn)).setCell ⟨w.heap.size + 1, 5, none⟩ (.int .i64 q.ha)).setCell ⟨w.heap.size + 1, 6, none⟩ (.int .i64 q.po)).setCell ⟨w.heap.size + 1, 7, none⟩ (.slice a n c)).setCell ⟨w.heap.size + 1, 8, none⟩ (.string q.op)).setCell ⟨w.heap.size + 1, 9, none⟩ (.bool q.hq)).setCell ⟨w.heap.size + 1, 10, none⟩ (.string q.qu)).setCell ⟨w.heap.size + 1, 11, none⟩ (.bool q.hf)).setCell ⟨w.heap.size + 1, 12, none⟩ (.string q.fr))) := hf2
   have HGG : Hid ((W5.setCell ⟨w.heap.size, 10, none⟩ (.string wt)).grownBy ((((((((((((((W5.setCell ⟨w.heap.size, 10, none⟩ (.string wt)).setCell ⟨w.heap.size + 1, 0, none⟩ (.string q.sc)).setCell ⟨w.heap.size + 1, 1, none⟩ (.string q.us)).setCell ⟨w.heap.size + 1, 2, none⟩ (.string q.pw)).setCell ⟨w.heap.size + 1, 3, none⟩ (.int .i64 q.hk)).setCell ⟨w.heap.size + 1, 4, none⟩ (.string q.hn)).setCell ⟨w.heap.size + 1, 5, none⟩ (.int .i64 q.ha)).setCell ⟨w.heap.size + 1, 6, none⟩ (.int .i64 q.po)).setCell ⟨w.heap.size + 1, 7, none⟩ (.slice a n c)).setCell ⟨w.heap.size + 1, 8, none⟩ (.string q.op)).setCell ⟨w.heap.size + 1, 9, none⟩ (.bool q.hq)).setCell ⟨w.heap.size + 1, 10, none⟩ (.string q.qu)).setCell ⟨w.heap.size + 1, 11, none⟩ (.bool q.hf)).setCell ⟨w.heap.size + 1, 12, none⟩ (.string q.fr)) (some (w.heap.size + 1))) := hf3
   clear hf1 hf2 hf3
   generalize ((((((((((((((W5.setCell ⟨w.heap.size, 10, none⟩ (.string wt)).setCell ⟨w.heap.size + 1, 0, none⟩ (.string q.sc)).setCell ⟨w.heap.size + 1, 1, none⟩ (.string q.us)).setCell ⟨w.heap.size + 1, 2, none⟩ (.string q.pw)).setCell ⟨w.heap.size + 1, 3, none⟩ (.int .i64 q.hk)).setCell ⟨w.heap.size + 1, 4, none⟩ (.string q.hn)).setCell ⟨w.heap.size + 1, 5, none⟩ (.int .i64 q.ha)).setCell ⟨w.heap.size + 1, 6, none⟩ (.int .i64 q.po)).setCell ⟨w.heap.size + 1, 7, none⟩ (.slice a n c)).setCell ⟨w.heap.size + 1, 8, none⟩ (.string q.op)).setCell ⟨w.heap.size + 1, 9, none⟩ (.bool q.hq)).setCell ⟨w.heap.size + 1, 10, none⟩ (.string q.qu)).setCell ⟨w.heap.size + 1, 11, none⟩ (.bool q.hf)).setCell ⟨w.heap.size + 1, 12, none⟩ (.string q.fr)) = W9 at *
   clear c0 c1 c2 c3 c4 c5 c6 c7 c8 c9 c10 c11 c12 z0 z1 z2 z3 z4 z5 z6 z7 z8 z9 z10 z11 z12 y0 y1 y2 y3 y4 y5 y6 y7 y8 y9 y10 y11 y12
   have z0 : W9.cell? ⟨w.heap.size + 1, 0, none⟩ = some (.string q.sc) := HRB.out.cell 0
   have z1 : W9.cell? ⟨w.heap.size + 1, 1, none⟩ = some (.string q.us) := HRB.out.cell 1
   have z2 : W9.cell? ⟨w.heap.size + 1, 2, none⟩ = some (.string q.pw) := HRB.out.cell 2
   have z3 : W9.cell? ⟨w.heap.size + 1, 3, none⟩ = some (.int .i64 q.hk) := HRB.out.cell 3
   have z4 : W9.cell? ⟨w.heap.size + 1, 4, none⟩ = some (.string q.hn) := HRB.out.cell 4
   have z5 : W9.cell? ⟨w.heap.size + 1, 5, none⟩ = some (.int .i64 q.ha) := HRB.out.cell 5
   have z6 : W9.cell? ⟨w.heap.size + 1, 6, none⟩ = some (.int .i64 q.po) := HRB.out.cell 6
   have z7 : W9.cell? ⟨w.heap.size + 1, 7, none⟩ = some (.slice a n c) := HRB.out.cell 7
   have z8 : W9.cell? ⟨w.heap.size + 1, 8, none⟩ = some (.string q.op) := HRB.out.cell 8
   have z9 : W9.cell? ⟨w.heap.size + 1, 9, none⟩ = some (.bool q.hq) := HRB.out.cell 9
   have z10 : W9.cell? ⟨w.heap.size + 1, 10, none⟩ = some (.string q.qu) := HRB.out.cell 10
   have z11 : W9.cell? ⟨w.heap.size + 1, 11, none⟩ = some (.bool q.hf) := HRB.out.cell 11
   have z12 : W9.cell? ⟨w.heap.size + 1, 12, none⟩ = some (.string q.fr) := HRB.out.cell 12
   refine bodyPost_ret (v := .agg #[(.string q.sc), (.string q.us), (.string q.pw), (.int .i64 q.hk), (.string q.hn), (.int .i64 q.ha), (.int .i64 q.po), (.slice a n c), (.string q.op), (.bool q.hq), (.string q.qu), (.bool q.hf), (.string q.fr)]) (by simp [results, Tryz.results84, go_sem, z0, z1, z2, z3, z4, z5, z6, z7, z8, z9, z10, z11, z12]) rfl ?_
   exact ⟨by rw [HQ2.out], HBB.out⟩
 ·have hki : ¬ ((k : Int) < (s.size : Int)) := by omega
  have HT1' : Hid (tail1 p l = p) := by show _ = _; rw [HT1.out, if_neg hkk]
  have HXC : Hid (BX w p (.slice a n c) W1) := HX1.out
  clear HX1 HT1 hx2 CE
  rcases hm0c with ⟨hm0, hmt0⟩ | ⟨hm0, hmz, hb1, hb2⟩
  ·have HDUM : True := trivial
   obtain ⟨q, hq⟩ : ∃ q, q = p := ⟨_, rfl⟩
   have HX : Hid (BX w q (.slice a n c) W1) := by rw [hq]; exact HXC.out
   have HQ : Hid (tailS p l = q) := by show _ = _; rw [HTS.out, HT1'.out, HT2.out, if_pos hm0, hq]
   clear hq HXC HT1' HTS HT2 CQ hm0 hx3 HDUM
   obtain ⟨c0, c1, c2, c3, c4, c5, c6, c7, c8, c9, c10, c11, c12⟩ := HX.out.cells
   obtain ⟨z0, z1, z2, z3, z4, z5, z6, z7, z8, z9, z10, z11, z12⟩ := HX.out.zeros
   obtain ⟨y0, y1, y2, y3, y4, y5, y6, y7, y8, y9, y10, y11, y12⟩ := HX.out.free
   go_wp2
   obtain ⟨hf1, hf2, hf3⟩ := HX.out.fin (.string q.sc) (.string q.us) (.string q.pw) (.int .i64 q.hk) (.string q.hn) (.int .i64 q.ha) (.int .i64 q.po) (.slice a n c) (.string q.op) (.bool q.hq) (.string q.qu) (.bool q.hf) (.string q.fr)
   have HRB : Hid (Blk (w.heap.size + 1) #[(.string q.sc), (.string q.us), (.string q.pw), (.int .i64 q.hk), (.string q.hn), (.int .i64 q.ha), (.int .i64 q.po), (.slice a n c), (.string q.op), (.bool q.hq), (.string q.qu), (.bool q.hf), (.string q.fr)] 27 (((((((((((((W1.setCell ⟨w.heap.size + 1, 0, none⟩ (.string q.sc)).setCell ⟨w.heap.size + 1, 1, none⟩ (.string q.us)).setCell ⟨w.heap.size + 1, 2, none⟩ (.string q.pw)).setCell ⟨w.heap.size + 1, 3, none⟩ (.int .i64 q.hk)).setCell ⟨w.heap.size + 1, 4, none⟩ (.string q.hn)).setCell ⟨w.heap.size + 1, 5, none⟩ (.int .i64 q.ha)).setCell ⟨w.heap.size + 1, 6, none⟩ (.int .i64 q.po)).setCell ⟨w.heap.size + 1, 7, none⟩ (.slice a n c)).setCell ⟨w.heap.size + 1, 8, none⟩ (.string q.op)).setCell ⟨w.heap.size + 1, 9, none⟩ (.bool q.hq)).setCell ⟨w.heap.size + 1, 10, none⟩ (.string q.qu)).setCell ⟨w.heap.size + 1, 11, none⟩ (.bool q.hf)).setCell ⟨w.heap.size + 1, 12, none⟩ (.string q.fr))) := hf1
   have HBB : Hid (Below w.heap.size w (((((((((((((W1.setCell ⟨w.heap.size + 1, 0, none⟩ (.string q.sc)).setCell ⟨w.heap.size + 1, 1, none⟩ (.string q.us)).setCell ⟨w.heap.size + 1, 2, none⟩ (.string q.pw)).setCell ⟨w.heap.size + 1, 3, none⟩ (.int .i64 q.hk)).setCell ⟨w.heap.size + 1, 4, none⟩ (.string q.hn)).setCell ⟨w.heap.size + 1, 5, none⟩ (.int .i64 q.ha)).setCell ⟨w.heap.size + 1, 6, none⟩ (.int .i64 q.po)).setCell ⟨w.heap.size + 1, 7, none⟩ (.slice a n c)).setCell ⟨w.heap.size + 1, 8, none⟩ (.string q.op)).setCell ⟨w.heap.size + 1, 9, none⟩ (.bool q.hq)).setCell ⟨w.heap.size + 1, 10, none⟩ (.string q.qu)).setCell ⟨w.heap.size + 1, 11, none⟩ (.bool q.hf)).setCell ⟨w.heap.size + 1, 12, none⟩ (.string q.fr))) := hf2
   have HGG : Hid (W1.grownBy (((((((((((((W1.setCell ⟨w.heap.size + 1, 0, none⟩ (.string q.sc)).setCell ⟨w.heap.size + 1, 1, none⟩ (.string q.us)).setCell ⟨w.heap.size + 1, 2, none⟩ (.string q.pw)).setCell ⟨w.heap.size + 1, 3, none⟩ (.int .i64 q.hk)).setCell ⟨w.heap.size + 1, 4, none⟩ (.string q.hn)).setCell ⟨w.heap.size + 1, 5, none⟩ (.int .i64 q.ha)).setCell ⟨w.heap.size + 1, 6, none⟩ (.int .i64 q.po)).setCell ⟨w.heap.size + 1, 7, none⟩ (.slice a n c)).setCell ⟨w.heap.size + 1, 8, none⟩ (.string q.op)).setCell ⟨w.heap.size + 1, 9, none⟩ (.bool q.hq)).setCell ⟨w.heap.size + 1, 10, none⟩ (.string q.qu)).setCell ⟨w.heap.size + 1, 11, none⟩ (.bool q.hf)).setCell ⟨w.heap.size + 1, 12, none⟩ (.string q.fr)) (some (w.heap.size + 1))) := hf3
   clear hf1 hf2 hf3
   generalize (((((((((((((W1.setCell ⟨w.heap.size + 1, 0, none⟩ (.string q.sc)).setCell ⟨w.heap.size + 1, 1, none⟩ (.string q.us)).setCell ⟨w.heap.size + 1, 2, none⟩ (.string q.pw)).setCell ⟨w.heap.size + 1, 3, none⟩ (.int .i64 q.hk)).setCell ⟨w.heap.size + 1, 4, none⟩ (.string q.hn)).setCell ⟨w.heap.size + 1, 5, none⟩ (.int .i64 q.ha)).setCell ⟨w.heap.size + 1, 6, none⟩ (.int .i64 q.po)).setCell ⟨w.heap.size + 1, 7, none⟩ (.slice a n c)).setCell ⟨w.heap.size + 1, 8, none⟩ (.string q.op)).setCell ⟨w.heap.size + 1, 9, none⟩ (.bool q.hq)).setCell ⟨w.heap.size + 1, 10, none⟩ (.string q.qu)).setCell ⟨w.heap.size + 1, 11, none⟩ (.bool q.hf)).setCell ⟨w.heap.size + 1, 12, none⟩ (.string q.fr)) = W9 at *
   clear c0 c1 c2 c3 c4 c5 c6 c7 c8 c9 c10 c11 c12 z0 z1 z2 z3 z4 z5 z6 z7 z8 z9 z10 z11 z12 y0 y1 y2 y3 y4 y5 y6 y7 y8 y9 y10 y11 y12
   have z0 : W9.cell? ⟨w.heap.size + 1, 0, none⟩ = some (.string q.sc) := HRB.out.cell 0
   have z1 : W9.cell? ⟨w.heap.size + 1, 1, none⟩ = some (.string q.us) := HRB.out.cell 1
   have z2 : W9.cell? ⟨w.heap.size + 1, 2, none⟩ = some (.string q.pw) := HRB.out.cell 2
   have z3 : W9.cell? ⟨w.heap.size + 1, 3, none⟩ = some (.int .i64 q.hk) := HRB.out.cell 3
   have z4 : W9.cell? ⟨w.heap.size + 1, 4, none⟩ = some (.string q.hn) := HRB.out.cell 4
   have z5 : W9.cell? ⟨w.heap.size + 1, 5, none⟩ = some (.int .i64 q.ha) := HRB.out.cell 5
   have z6 : W9.cell? ⟨w.heap.size + 1, 6, none⟩ = some (.int .i64 q.po) := HRB.out.cell 6
   have z7 : W9.cell? ⟨w.heap.size + 1, 7, none⟩ = some (.slice a n c) := HRB.out.cell 7
   have z8 : W9.cell? ⟨w.heap.size + 1, 8, none⟩ = some (.string q.op) := HRB.out.cell 8
   have z9 : W9.cell? ⟨w.heap.size + 1, 9, none⟩ = some (.bool q.hq) := HRB.out.cell 9
   have z10 : W9.cell? ⟨w.heap.size + 1, 10, none⟩ = some (.string q.qu) := HRB.out.cell 10
   have z11 : W9.cell? ⟨w.heap.size + 1, 11, none⟩ = some (.bool q.hf) := HRB.out.cell 11
   have z12 : W9.cell? ⟨w.heap.size + 1, 12, none⟩ = some (.string q.fr) := HRB.out.cell 12
   refine bodyPost_ret (v := .agg #[(.string q.sc), (.string q.us), (.string q.pw), (.int .i64 q.hk), (.string q.hn), (.int .i64 q.ha), (.int .i64 q.po), (.slice a n c), (.string q.op), (.bool q.hq), (.string q.qu), (.bool q.hf), (.string q.fr)]) (by simp [results, Tryz.results84, go_sem, z0, z1, z2, z3, z4, z5, z6, z7, z8, z9, z10, z11, z12]) rfl ?_
   exact ⟨by rw [HQ.out], HBB.out⟩
  ·have hmi : (1 : Int) ≤ (sm.size : Int) := by omega
   have c9 : W1.cell? ⟨w.heap.size, 9, none⟩ = some (.bool (p).hq) := HXC.out.cells.2.2.2.2.2.2.2.2.2.1
   have f9 : W1.frozen? ⟨w.heap.size, 9, none⟩ = false := HXC.out.bx.free 9
   have HXD : Hid (BX w ({ p with hq := true }) (.slice a n c) (W1.setCell ⟨w.heap.size, 9, none⟩ (.bool true))) := HXC.out.set 9 _ rfl
   have HQ : Hid (tailS p l = { p with hq := true, qu := wt }) := by show _ = _; rw [HTS.out, HT1'.out, HT2.out, if_neg hm0]
   clear HXC HT1' HTS HT2 hm0
   go_wp2_with fail
   refine (CQ.out _).mono ?_
   rintro e W5 ⟨rfl, d5⟩
   have HXE : Hid (BX w ({ p with hq := true }) (.slice a n c) W5) := HXD.out.later d5
   clear d5 HXD CQ c9 f9
   obtain ⟨q, hq⟩ : ∃ q, q = { p with hq := true, qu := wt } := ⟨_, rfl⟩
   have d10 : W5.cell? ⟨w.heap.size, 10, none⟩ = some (.string (p).qu) := HXE.out.cells.2.2.2.2.2.2.2.2.2.2.1
   have f10 : W5.frozen? ⟨w.heap.size, 10, none⟩ = false := HXE.out.bx.free 10
   have HX : Hid (BX w q (.slice a n c) (W5.setCell ⟨w.heap.size, 10, none⟩ (.string wt))) := by rw [hq]; exact HXE.out.set 10 _ rfl
   have HQ2 : Hid (tailS p l = q) := by rw [hq]; exact HQ.out
   clear hq HXE HQ hx3 hmz hmi hb1 hb2
   obtain ⟨c0, c1, c2, c3, c4, c5, c6, c7, c8, c9, c10, c11, c12⟩ := HX.out.cells
   obtain ⟨z0, z1, z2, z3, z4, z5, z6, z7, z8, z9, z10, z11, z12⟩ := HX.out.zeros
   obtain ⟨y0, y1, y2, y3, y4, y5, y6, y7, y8, y9, y10, y11, y12⟩ := HX.out.free
   go_wp2
   obtain ⟨hf1, hf2, hf3⟩ := HX.out.fin (.string q.sc) (.string q.us) (.string q.pw) (.int .i64 q.hk) (.string q.hn) (.int .i64 q.ha) (.int .i64 q.po) (.slice a n c) (.string q.op) (.bool q.hq) (.string q.qu) (.bool q.hf) (.string q.fr)
   have HRB : Hid (Blk (w.heap.size + 1) #[(.string q.sc), (.string q.us), (.string q.pw), (.int .i64 q.hk), (.string q.hn), (.int .i64 q.ha), (.int .i64 q.po), (.slice a n c), (.string q.op), (.bool q.hq), (.string q.qu), (.bool q.hf), (.string q.fr)] 27 ((((((((((((((W5.setCell ⟨w.heap.size, 10, none⟩ (.string wt)).setCell ⟨w.heap.size + 1, 0, none⟩ (.string q.sc)).setCell ⟨w.heap.size + 1, 1, none⟩ (.string q.us)).setCell ⟨w.heap.size + 1, 2, none⟩ (.string q.pw)).setCell ⟨w.heap.size + 1, 3, none⟩ (.int .i64 q.hk)).setCell ⟨w.heap.size + 1, 4, none⟩ (.string q.hn)).setCell ⟨w.heap.size + 1, 5, none⟩ (.int .i64 q.ha)).setCell ⟨w.heap.size + 1, 6, none⟩ (.int .i64 q.po)).setCell ⟨w.heap.size + 1, 7, none⟩ (.slice a n c)).setCell ⟨w.heap.size + 1, 8, none⟩ (.string q.op)).setCell ⟨w.heap.size + 1, 9, none⟩ (.bool q.hq)).setCell ⟨w.heap.size + 1, 10, none⟩ (.string q.qu)).setCell ⟨w.heap.size + 1, 11, none⟩ (.bool q.hf)).setCell ⟨w.heap.size + 1, 12, none⟩ (.string q.fr))) := hf1
   have HBB : Hid (Below w.heap.size w ((((((((((((((W5.setCell ⟨w.heap.size, 10, none⟩ (.string wt)).setCell ⟨w.heap.size + 1, 0, none⟩ (.string q.sc)).setCell ⟨w.heap.size + 1, 1, none⟩ (.string q.us)).setCell ⟨w.heap.size + 1, 2, none⟩ (.string q.pw)).setCell ⟨w.heap.size + 1, 3, none⟩ (.int .i64 q.hk)).setCell ⟨w.heap.size + 1, 4, none⟩ (.string q.hn)).setCell ⟨w.heap.size + 1, 5, none⟩ (.int .i64 q.ha)).setCell ⟨w.heap.size + 1, 6, none⟩ (.int .i64 q.po)).setCell ⟨w.heap.size + 1, 7, none⟩ (.slice a n c)).setCell ⟨w.heap.size + 1, 8, none⟩ (.string q.op)).setCell ⟨w.heap.size + 1, 9, none⟩ (.bool q.hq)).setCell ⟨w.heap.size + 1, 10, none⟩ (.string q.qu)).setCell ⟨w.heap.size + 1, 11, none⟩ (.bool q.hf)).setCell ⟨w.heap.size + 1, 12, none⟩ (.string q.fr))) := hf2
   have HGG : Hid ((W5.setCell ⟨w.heap.size, 10, none⟩ (.string wt)).grownBy ((((((((((((((W5.setCell ⟨w.heap.size, 10, none⟩ (.string wt)).setCell ⟨w.heap.size + 1, 0, none⟩ (.string q.sc)).setCell ⟨w.heap.size + 1, 1, none⟩ (.string q.us)).setCell ⟨w.heap.size + 1, 2, none⟩ (.string q.pw)).setCell ⟨w.heap.size + 1, 3, none⟩ (.int .i64 q.hk)).setCell ⟨w.heap.size + 1, 4, none⟩ (.string q.hn)).setCell ⟨w.heap.size + 1, 5, none⟩ (.int .i64 q.ha)).setCell ⟨w.heap.size + 1, 6, none⟩ (.int .i64 q.po)).setCell ⟨w.heap.size + 1, 7, none⟩ (.slice a n c)).setCell ⟨w.heap.size + 1, 8, none⟩ (.string q.op)).setCell ⟨w.heap.size + 1, 9, none⟩ (.bool q.hq)).setCell ⟨w.heap.size + 1, 10, none⟩ (.string q.qu)).setCell ⟨w.heap.size + 1, 11, none⟩ (.bool q.hf)).setCell ⟨w.heap.size + 1, 12, none⟩ (.string q.fr)) (some (w.heap.size + 1))) := hf3
   clear hf1 hf2 hf3
   generalize ((((((((((((((W5.setCell ⟨w.heap.size, 10, none⟩ (.string wt)).setCell ⟨w.heap.size + 1, 0, none⟩ (.string q.sc)).setCell ⟨w.heap.size + 1, 1, none⟩ (.string q.us)).setCell ⟨w.heap.size + 1, 2, none⟩ (.string q.pw)).setCell ⟨w.heap.size + 1, 3, none⟩ (.int .i64 q.hk)).setCell ⟨w.heap.size + 1, 4, none⟩ (.string q.hn)).setCell ⟨w.heap.size + 1, 5, none⟩ (.int .i64 q.ha)).setCell ⟨w.heap.size + 1, 6, none⟩ (.int .i64 q.po)).setCell ⟨w.heap.size + 1, 7, none⟩ (.slice a n c)).setCell ⟨w.heap.size + 1, 8, none⟩ (.string q.op)).setCell ⟨w.heap.size + 1, 9, none⟩ (.bool q.hq)).setCell ⟨w.heap.size + 1, 10, none⟩ (.string q.qu)).setCell ⟨w.heap.size + 1, 11, none⟩ (.bool q.hf)).setCell ⟨w.heap.size + 1, 12, none⟩ (.string q.fr)) = W9 at *
   clear c0 c1 c2 c3 c4 c5 c6 c7 c8 c9 c10 c11 c12 z0 z1 z2 z3 z4 z5 z6 z7 z8 z9 z10 z11 z12 y0 y1 y2 y3 y4 y5 y6 y7 y8 y9 y10 y11 y12
   have z0 : W9.cell? ⟨w.heap.size + 1, 0, none⟩ = some (.string q.sc) := HRB.out.cell 0
   have z1 : W9.cell? ⟨w.heap.size + 1, 1, none⟩ = some (.string q.us) := HRB.out.cell 1
   have z2 : W9.cell? ⟨w.heap.size + 1, 2, none⟩ = some (.string q.pw) := HRB.out.cell 2
   have z3 : W9.cell? ⟨w.heap.size + 1, 3, none⟩ = some (.int .i64 q.hk) := HRB.out.cell 3
   have z4 : W9.cell? ⟨w.heap.size + 1, 4, none⟩ = some (.string q.hn) := HRB.out.cell 4
   have z5 : W9.cell? ⟨w.heap.size + 1, 5, none⟩ = some (.int .i64 q.ha) := HRB.out.cell 5
   have z6 : W9.cell? ⟨w.heap.size + 1, 6, none⟩ = some (.int .i64 q.po) := HRB.out.cell 6
   have z7 : W9.cell? ⟨w.heap.size + 1, 7, none⟩ = some (.slice a n c) := HRB.out.cell 7
   have z8 : W9.cell? ⟨w.heap.size + 1, 8, none⟩ = some (.string q.op) := HRB.out.cell 8
   have z9 : W9.cell? ⟨w.heap.size + 1, 9, none⟩ = some (.bool q.hq) := HRB.out.cell 9
   have z10 : W9.cell? ⟨w.heap.size + 1, 10, none⟩ = some (.string q.qu) := HRB.out.cell 10
   have z11 : W9.cell? ⟨w.heap.size + 1, 11, none⟩ = some (.bool q.hf) := HRB.out.cell 11
   have z12 : W9.cell? ⟨w.heap.size + 1, 12, none⟩ = some (.string q.fr) := HRB.out.cell 12
   refine bodyPost_ret (v := .agg #[(.string q.sc), (.string q.us), (.string q.pw), (.int .i64 q.hk), (.string q.hn), (.int .i64 q.ha), (.int .i64 q.po), (.slice a n c), (.string q.op), (.bool q.hq), (.string q.qu), (.bool q.hf), (.string q.fr)]) (by simp [results, Tryz.results84, go_sem, z0, z1, z2, z3, z4, z5, z6, z7, z8, z9, z10, z11, z12]) rfl ?_
   exact ⟨by rw [HQ2.out], HBB.out⟩
def whoS (p : P) (l : List UInt8) : P := if (upL [58] l).length < l.length then { p with us := wrT 4 (upL [58] l), pw := wrT 4 (l.drop ((upL [58] l).length + 1)) } else { p with us := wrT 4 (upL [58] l) }
theorem l3Who (p : P) (a : Option Addr) (n c : Nat) (l : List UInt8) (w : World) (hl : l.length ≤ 1000) :
  Calls Tryz.prog 135 #[.agg (p.cells (.slice a n c)), .string (mk l)] w fun e w' => e = .returned (.agg ((whoS p l).cells (.slice a n c))) ∧ Below w.heap.size w w' := by
 have H0 : Hid (BX w p (.slice a n c) ((w.alloc (.cells (p.cells (.slice a n c)) 27)).alloc (.cells zeroC 27))) := BX.start w p (.slice a n c)
 unfold P.cells zeroC at H0
 obtain ⟨s, hs⟩ : ∃ s, s = mk l := ⟨_, rfl⟩
 have hss : s.size = l.length := by rw [hs, mk_size]
 obtain ⟨k, hk⟩ : ∃ k, k = (upL [58] l).length := ⟨_, rfl⟩
 have hkl : k ≤ l.length := by rw [hk]; exact upL_le _ _
 have CA : Hid (∀ W, Calls Tryz.prog 82 #[.string s, .string ⟨#[58]⟩] W fun e w' => e = .returned (.int .i64 (k : Int)) ∧ Below W.heap.size W w') := fun W => by rw [hk, hs]; exact atC [58] l W (by omega) (by decide)
 obtain ⟨sm, hsm⟩ : ∃ sm, sm = mk (upL [58] l) := ⟨_, rfl⟩
 have hx1 : s.extract 0 k = sm := by rw [hs, hsm, ext_takeM l k hkl, hk, up_take]
 obtain ⟨wu, hwu⟩ : ∃ wu, wu = wrT 4 (upL [58] l) := ⟨_, rfl⟩
 obtain ⟨sd, hsd⟩ : ∃ sd, sd = mk (l.drop (k + 1)) := ⟨_, rfl⟩
 obtain ⟨wd, hwd⟩ : ∃ wd, wd = wrT 4 (l.drop (k + 1)) := ⟨_, rfl⟩
 have hx2 : s.extract (k + 1) s.size = sd := by rw [hs, hsd]; exact ext_dropM l (k + 1)
 have CE : Hid (∀ W, Calls Tryz.prog 83 #[.int .i64 4, .string sm] W fun e w' => e = .returned (.string wu) ∧ Below W.heap.size W w') := fun W => by rw [hsm, hwu]; exact encC 4 _ W (by have := upL_le [58] l; omega)
 have CQ : Hid (∀ W, Calls Tryz.prog 83 #[.int .i64 4, .string sd] W fun e w' => e = .returned (.string wd) ∧ Below W.heap.size W w') := fun W => by rw [hsd, hwd]; exact encC 4 _ W (by rw [List.length_drop]; omega)
 have HW : Hid (whoS p l = if k < s.size then { p with us := wu, pw := wd } else { p with us := wu }) := by show _ = _; rw [hwd, hwu, hss, hk]; rfl
 have hsz : s.size ≤ 1000 := by omega
 have hks : k ≤ s.size := by omega
 rw [← hs]
 clear hk hwu hwd hsd hsm hs hss hkl
 unfold P.cells
 go_enter Tryz.func135, Tryz.ntmps135
 go_wp2_with fail
 refine (CA.out _).mono ?_
 rintro e W1 ⟨rfl, d1⟩
 have HX1 : Hid (BX w p (.slice a n c) W1) := H0.out.later d1
 clear d1 H0 CA
 go_wp2_with fail
 refine (CE.out _).mono ?_
 rintro e W2 ⟨rfl, d2⟩
 have HX2 : Hid (BX w p (.slice a n c) W2) := HX1.out.later d2
 have d1' : W2.cell? ⟨w.heap.size, 1, none⟩ = some (.string p.us) := HX2.out.cells.2.1
 have f1' : W2.frozen? ⟨w.heap.size, 1, none⟩ = false := HX2.out.bx.free 1
 have HX3 : Hid (BX w { p with us := wu } (.slice a n c) (W2.setCell ⟨w.heap.size, 1, none⟩ (.string wu))) := HX2.out.set 1 _ rfl
 clear d2 HX1 HX2 CE
 by_cases hkk : k < s.size
 ·have hki : (k : Int) < (s.size : Int) := by omega
  have HWW : Hid (whoS p l = { p with us := wu, pw := wd }) := by show _ = _; rw [HW.out, if_pos hkk]
  clear HW
  go_wp2_with fail
  refine (CQ.out _).mono ?_
  rintro e W4 ⟨rfl, d4⟩
  have HX4 : Hid (BX w { p with us := wu } (.slice a n c) W4) := HX3.out.later d4
  have d2' : W4.cell? ⟨w.heap.size, 2, none⟩ = some (.string p.pw) := HX4.out.cells.2.2.1
  have f2' : W4.frozen? ⟨w.heap.size, 2, none⟩ = false := HX4.out.bx.free 2
  obtain ⟨q, hq⟩ : ∃ q, q = { p with us := wu, pw := wd } := ⟨_, rfl⟩
  have HX : Hid (BX w q (.slice a n c) (W4.setCell ⟨w.heap.size, 2, none⟩ (.string wd))) := by rw [hq]; exact HX4.out.set 2 _ rfl
  have HQ : Hid (whoS p l = q) := by rw [hq]; exact HWW.out
  clear hq HX4 HX3 d4 CQ HWW d1' f1'
  obtain ⟨c0, c1, c2, c3, c4, c5, c6, c7, c8, c9, c10, c11, c12⟩ := HX.out.cells
  obtain ⟨z0, z1, z2, z3, z4, z5, z6, z7, z8, z9, z10, z11, z12⟩ := HX.out.zeros
  obtain ⟨y0, y1, y2, y3, y4, y5, y6, y7, y8, y9, y10, y11, y12⟩ := HX.out.free
  go_wp2
  obtain ⟨hf1, hf2, hf3⟩ := HX.out.fin (.string q.sc) (.string q.us) (.string q.pw) (.int .i64 q.hk) (.string q.hn) (.int .i64 q.ha) (.int .i64 q.po) (.slice a n c) (.string q.op) (.bool q.hq) (.string q.qu) (.bool q.hf) (.string q.fr)
  have HRB : Hid (Blk (w.heap.size + 1) #[(.string q.sc), (.string q.us), (.string q.pw), (.int .i64 q.hk), (.string q.hn), (.int .i64 q.ha), (.int .i64 q.po), (.slice a n c), (.string q.op), (.bool q.hq), (.string q.qu), (.bool q.hf), (.string q.fr)] 27 ((((((((((((((W4.setCell ⟨w.heap.size, 2, none⟩ (.string wd)).setCell ⟨w.heap.size + 1, 0, none⟩ (.string q.sc)).setCell ⟨w.heap.size + 1, 1, none⟩ (.string q.us)).setCell ⟨w.heap.size + 1, 2, none⟩ (.string q.pw)).setCell ⟨w.heap.size + 1, 3, none⟩ (.int .i64 q.hk)).setCell ⟨w.heap.size + 1, 4, none⟩ (.string q.hn)).setCell ⟨w.heap.size + 1, 5, none⟩ (.int .i64 q.ha)).setCell ⟨w.heap.size + 1, 6, none⟩ (.int .i64 q.po)).setCell ⟨w.heap.size + 1, 7, none⟩ (.slice a n c)).setCell ⟨w.heap.size + 1, 8, none⟩ (.string q.op)).setCell ⟨w.heap.size + 1, 9, none⟩ (.bool q.hq)).setCell ⟨w.heap.size + 1, 10, none⟩ (.string q.qu)).setCell ⟨w.heap.size + 1, 11, none⟩ (.bool q.hf)).setCell ⟨w.heap.size + 1, 12, none⟩ (.string q.fr))) := hf1
  have HBB : Hid (Below w.heap.size w ((((((((((((((W4.setCell ⟨w.heap.size, 2, none⟩ (.string wd)).setCell ⟨w.heap.size + 1, 0, none⟩ (.string q.sc)).setCell ⟨w.heap.size + 1, 1, none⟩ (.string q.us)).setCell ⟨w.heap.size + 1, 2, none⟩ (.string q.pw)).setCell ⟨w.heap.size + 1, 3, none⟩ (.int .i64 q.hk)).setCell ⟨w.heap.size + 1, 4, none⟩ (.string q.hn)).setCell ⟨w.heap.size + 1, 5, none⟩ (.int .i64 q.ha)).setCell ⟨w.heap.size + 1, 6, none⟩ (.int .i64 q.po)).setCell ⟨w.heap.size + 1, 7, none⟩ (.slice a n c)).setCell ⟨w.heap.size + 1, 8, none⟩ (.string q.op)).setCell ⟨w.heap.size + 1, 9, none⟩ (.bool q.hq)).setCell ⟨w.heap.size + 1, 10, none⟩ (.string q.qu)).setCell ⟨w.heap.size + 1, 11, none⟩ (.bool q.hf)).setCell ⟨w.heap.size + 1, 12, none⟩ (.string q.fr))) := hf2
  have HGG : Hid ((W4.setCell ⟨w.heap.size, 2, none⟩ (.string wd)).grownBy ((((((((((((((W4.setCell ⟨w.heap.size, 2, none⟩ (.string wd)).setCell ⟨w.heap.size + 1, 0, none⟩ (.string q.sc)).setCell ⟨w.heap.size + 1, 1, none⟩ (.string q.us)).setCell ⟨w.heap.size + 1, 2, none⟩ (.string q.pw)).setCell ⟨w.heap.size + 1, 3, none⟩ (.int .i64 q.hk)).setCell ⟨w.heap.size + 1, 4, none⟩ (.string q.hn)).setCell ⟨w.heap.size + 1, 5, none⟩ (.int .i64 q.ha)).setCell ⟨w.heap.size + 1, 6, none⟩ (.int .i64 q.po)).setCell ⟨w.heap.size + 1, 7, none⟩ (.slice a n c)).setCell ⟨w.heap.size + 1, 8, none⟩ (.string q.op)).setCell ⟨w.heap.size + 1, 9, none⟩ (.bool q.hq)).setCell ⟨w.heap.size + 1, 10, none⟩ (.string q.qu)).setCell ⟨w.heap.size + 1, 11, none⟩ (.bool q.hf)).setCell ⟨w.heap.size + 1, 12, none⟩ (.string q.fr)) (some (w.heap.size + 1))) := hf3
  clear hf1 hf2 hf3
  generalize ((((((((((((((W4.setCell ⟨w.heap.size, 2, none⟩ (.string wd)).setCell ⟨w.heap.size + 1, 0, none⟩ (.string q.sc)).setCell ⟨w.heap.size + 1, 1, none⟩ (.string q.us)).setCell ⟨w.heap.size + 1, 2, none⟩ (.string q.pw)).setCell ⟨w.heap.size + 1, 3, none⟩ (.int .i64 q.hk)).setCell ⟨w.heap.size + 1, 4, none⟩ (.string q.hn)).setCell ⟨w.heap.size + 1, 5, none⟩ (.int .i64 q.ha)).setCell ⟨w.heap.size + 1, 6, none⟩ (.int .i64 q.po)).setCell ⟨w.heap.size + 1, 7, none⟩ (.slice a n c)).setCell ⟨w.heap.size + 1, 8, none⟩ (.string q.op)).setCell ⟨w.heap.size + 1, 9, none⟩ (.bool q.hq)).setCell ⟨w.heap.size + 1, 10, none⟩ (.string q.qu)).setCell ⟨w.heap.size + 1, 11, none⟩ (.bool q.hf)).setCell ⟨w.heap.size + 1, 12, none⟩ (.string q.fr)) = W9 at *
  clear c0 c1 c2 c3 c4 c5 c6 c7 c8 c9 c10 c11 c12 z0 z1 z2 z3 z4 z5 z6 z7 z8 z9 z10 z11 z12 y0 y1 y2 y3 y4 y5 y6 y7 y8 y9 y10 y11 y12
  have z0 : W9.cell? ⟨w.heap.size + 1, 0, none⟩ = some (.string q.sc) := HRB.out.cell 0
  have z1 : W9.cell? ⟨w.heap.size + 1, 1, none⟩ = some (.string q.us) := HRB.out.cell 1
  have z2 : W9.cell? ⟨w.heap.size + 1, 2, none⟩ = some (.string q.pw) := HRB.out.cell 2
  have z3 : W9.cell? ⟨w.heap.size + 1, 3, none⟩ = some (.int .i64 q.hk) := HRB.out.cell 3
  have z4 : W9.cell? ⟨w.heap.size + 1, 4, none⟩ = some (.string q.hn) := HRB.out.cell 4
  have z5 : W9.cell? ⟨w.heap.size + 1, 5, none⟩ = some (.int .i64 q.ha) := HRB.out.cell 5
  have z6 : W9.cell? ⟨w.heap.size + 1, 6, none⟩ = some (.int .i64 q.po) := HRB.out.cell 6
  have z7 : W9.cell? ⟨w.heap.size + 1, 7, none⟩ = some (.slice a n c) := HRB.out.cell 7
  have z8 : W9.cell? ⟨w.heap.size + 1, 8, none⟩ = some (.string q.op) := HRB.out.cell 8
  have z9 : W9.cell? ⟨w.heap.size + 1, 9, none⟩ = some (.bool q.hq) := HRB.out.cell 9
  have z10 : W9.cell? ⟨w.heap.size + 1, 10, none⟩ = some (.string q.qu) := HRB.out.cell 10
  have z11 : W9.cell? ⟨w.heap.size + 1, 11, none⟩ = some (.bool q.hf) := HRB.out.cell 11
  have z12 : W9.cell? ⟨w.heap.size + 1, 12, none⟩ = some (.string q.fr) := HRB.out.cell 12
  refine bodyPost_ret (v := .agg #[(.string q.sc), (.string q.us), (.string q.pw), (.int .i64 q.hk), (.string q.hn), (.int .i64 q.ha), (.int .i64 q.po), (.slice a n c), (.string q.op), (.bool q.hq), (.string q.qu), (.bool q.hf), (.string q.fr)]) (by simp [results, Tryz.results135, go_sem, z0, z1, z2, z3, z4, z5, z6, z7, z8, z9, z10, z11, z12]) rfl ?_
  exact ⟨by rw [HQ.out], HBB.out⟩
 ·have hki : ¬ ((k : Int) < (s.size : Int)) := by omega
  obtain ⟨q, hq⟩ : ∃ q, q = { p with us := wu } := ⟨_, rfl⟩
  have HX : Hid (BX w q (.slice a n c) (W2.setCell ⟨w.heap.size, 1, none⟩ (.string wu))) := by rw [hq]; exact HX3.out
  have HQ : Hid (whoS p l = q) := by show _ = _; rw [HW.out, if_neg hkk, hq]
  clear hq HX3 CQ HW
  obtain ⟨c0, c1, c2, c3, c4, c5, c6, c7, c8, c9, c10, c11, c12⟩ := HX.out.cells
  obtain ⟨z0, z1, z2, z3, z4, z5, z6, z7, z8, z9, z10, z11, z12⟩ := HX.out.zeros
  obtain ⟨y0, y1, y2, y3, y4, y5, y6, y7, y8, y9, y10, y11, y12⟩ := HX.out.free
  go_wp2
  obtain ⟨hf1, hf2, hf3⟩ := HX.out.fin (.string q.sc) (.string q.us) (.string q.pw) (.int .i64 q.hk) (.string q.hn) (.int .i64 q.ha) (.int .i64 q.po) (.slice a n c) (.string q.op) (.bool q.hq) (.string q.qu) (.bool q.hf) (.string q.fr)
  have HRB : Hid (Blk (w.heap.size + 1) #[(.string q.sc), (.string q.us), (.string q.pw), (.int .i64 q.hk), (.string q.hn), (.int .i64 q.ha), (.int .i64 q.po), (.slice a n c), (.string q.op), (.bool q.hq), (.string q.qu), (.bool q.hf), (.string q.fr)] 27 ((((((((((((((W2.setCell ⟨w.heap.size, 1, none⟩ (.string wu)).setCell ⟨w.heap.size + 1, 0, none⟩ (.string q.sc)).setCell ⟨w.heap.size + 1, 1, none⟩ (.string q.us)).setCell ⟨w.heap.size + 1, 2, none⟩ (.string q.pw)).setCell ⟨w.heap.size + 1, 3, none⟩ (.int .i64 q.hk)).setCell ⟨w.heap.size + 1, 4, none⟩ (.string q.hn)).setCell ⟨w.heap.size + 1, 5, none⟩ (.int .i64 q.ha)).setCell ⟨w.heap.size + 1, 6, none⟩ (.int .i64 q.po)).setCell ⟨w.heap.size + 1, 7, none⟩ (.slice a n c)).setCell ⟨w.heap.size + 1, 8, none⟩ (.string q.op)).setCell ⟨w.heap.size + 1, 9, none⟩ (.bool q.hq)).setCell ⟨w.heap.size + 1, 10, none⟩ (.string q.qu)).setCell ⟨w.heap.size + 1, 11, none⟩ (.bool q.hf)).setCell ⟨w.heap.size + 1, 12, none⟩ (.string q.fr))) := hf1
  have HBB : Hid (Below w.heap.size w ((((((((((((((W2.setCell ⟨w.heap.size, 1, none⟩ (.string wu)).setCell ⟨w.heap.size + 1, 0, none⟩ (.string q.sc)).setCell ⟨w.heap.size + 1, 1, none⟩ (.string q.us)).setCell ⟨w.heap.size + 1, 2, none⟩ (.string q.pw)).setCell ⟨w.heap.size + 1, 3, none⟩ (.int .i64 q.hk)).setCell ⟨w.heap.size + 1, 4, none⟩ (.string q.hn)).setCell ⟨w.heap.size + 1, 5, none⟩ (.int .i64 q.ha)).setCell ⟨w.heap.size + 1, 6, none⟩ (.int .i64 q.po)).setCell ⟨w.heap.size + 1, 7, none⟩ (.slice a n c)).setCell ⟨w.heap.size + 1, 8, none⟩ (.string q.op)).setCell ⟨w.heap.size + 1, 9, none⟩ (.bool q.hq)).setCell ⟨w.heap.size + 1, 10, none⟩ (.string q.qu)).setCell ⟨w.heap.size + 1, 11, none⟩ (.bool q.hf)).setCell ⟨w.heap.size + 1, 12, none⟩ (.string q.fr))) := hf2
  have HGG : Hid ((W2.setCell ⟨w.heap.size, 1, none⟩ (.string wu)).grownBy ((((((((((((((W2.setCell ⟨w.heap.size, 1, none⟩ (.string wu)).setCell ⟨w.heap.size + 1, 0, none⟩ (.string q.sc)).setCell ⟨w.heap.size + 1, 1, none⟩ (.string q.us)).setCell ⟨w.heap.size + 1, 2, none⟩ (.string q.pw)).setCell ⟨w.heap.size + 1, 3, none⟩ (.int .i64 q.hk)).setCell ⟨w.heap.size + 1, 4, none⟩ (.string q.hn)).setCell ⟨w.heap.size + 1, 5, none⟩ (.int .i64 q.ha)).setCell ⟨w.heap.size + 1, 6, none⟩ (.int .i64 q.po)).setCell ⟨w.heap.size + 1, 7, none⟩ (.slice a n c)).setCell ⟨w.heap.size + 1, 8, none⟩ (.string q.op)).setCell ⟨w.heap.size + 1, 9, none⟩ (.bool q.hq)).setCell ⟨w.heap.size + 1, 10, none⟩ (.string q.qu)).setCell ⟨w.heap.size + 1, 11, none⟩ (.bool q.hf)).setCell ⟨w.heap.size + 1, 12, none⟩ (.string q.fr)) (some (w.heap.size + 1))) := hf3
  clear hf1 hf2 hf3
  generalize ((((((((((((((W2.setCell ⟨w.heap.size, 1, none⟩ (.string wu)).setCell ⟨w.heap.size + 1, 0, none⟩ (.string q.sc)).setCell ⟨w.heap.size + 1, 1, none⟩ (.string q.us)).setCell ⟨w.heap.size + 1, 2, none⟩ (.string q.pw)).setCell ⟨w.heap.size + 1, 3, none⟩ (.int .i64 q.hk)).setCell ⟨w.heap.size + 1, 4, none⟩ (.string q.hn)).setCell ⟨w.heap.size + 1, 5, none⟩ (.int .i64 q.ha)).setCell ⟨w.heap.size + 1, 6, none⟩ (.int .i64 q.po)).setCell ⟨w.heap.size + 1, 7, none⟩ (.slice a n c)).setCell ⟨w.heap.size + 1, 8, none⟩ (.string q.op)).setCell ⟨w.heap.size + 1, 9, none⟩ (.bool q.hq)).setCell ⟨w.heap.size + 1, 10, none⟩ (.string q.qu)).setCell ⟨w.heap.size + 1, 11, none⟩ (.bool q.hf)).setCell ⟨w.heap.size + 1, 12, none⟩ (.string q.fr)) = W9 at *
  clear c0 c1 c2 c3 c4 c5 c6 c7 c8 c9 c10 c11 c12 z0 z1 z2 z3 z4 z5 z6 z7 z8 z9 z10 z11 z12 y0 y1 y2 y3 y4 y5 y6 y7 y8 y9 y10 y11 y12
  have z0 : W9.cell? ⟨w.heap.size + 1, 0, none⟩ = some (.string q.sc) := HRB.out.cell 0
  have z1 : W9.cell? ⟨w.heap.size + 1, 1, none⟩ = some (.string q.us) := HRB.out.cell 1
  have z2 : W9.cell? ⟨w.heap.size + 1, 2, none⟩ = some (.string q.pw) := HRB.out.cell 2
  have z3 : W9.cell? ⟨w.heap.size + 1, 3, none⟩ = some (.int .i64 q.hk) := HRB.out.cell 3
  have z4 : W9.cell? ⟨w.heap.size + 1, 4, none⟩ = some (.string q.hn) := HRB.out.cell 4
  have z5 : W9.cell? ⟨w.heap.size + 1, 5, none⟩ = some (.int .i64 q.ha) := HRB.out.cell 5
  have z6 : W9.cell? ⟨w.heap.size + 1, 6, none⟩ = some (.int .i64 q.po) := HRB.out.cell 6
  have z7 : W9.cell? ⟨w.heap.size + 1, 7, none⟩ = some (.slice a n c) := HRB.out.cell 7
  have z8 : W9.cell? ⟨w.heap.size + 1, 8, none⟩ = some (.string q.op) := HRB.out.cell 8
  have z9 : W9.cell? ⟨w.heap.size + 1, 9, none⟩ = some (.bool q.hq) := HRB.out.cell 9
  have z10 : W9.cell? ⟨w.heap.size + 1, 10, none⟩ = some (.string q.qu) := HRB.out.cell 10
  have z11 : W9.cell? ⟨w.heap.size + 1, 11, none⟩ = some (.bool q.hf) := HRB.out.cell 11
  have z12 : W9.cell? ⟨w.heap.size + 1, 12, none⟩ = some (.string q.fr) := HRB.out.cell 12
  refine bodyPost_ret (v := .agg #[(.string q.sc), (.string q.us), (.string q.pw), (.int .i64 q.hk), (.string q.hn), (.int .i64 q.ha), (.int .i64 q.po), (.slice a n c), (.string q.op), (.bool q.hq), (.string q.qu), (.bool q.hf), (.string q.fr)]) (by simp [results, Tryz.results135, go_sem, z0, z1, z2, z3, z4, z5, z6, z7, z8, z9, z10, z11, z12]) rfl ?_
  exact ⟨by rw [HQ.out], HBB.out⟩
end Go.Proofs.YtfcbjdooijhibaaGreatDoor
end
section
namespace Go.Proofs.YtfcbjdooijhibaaGreatDoor
open Go.RowKit Go.Shelf
theorem l2Parts (s : ByteArray) (w : World) (hs : s.size ≤ 1048576) :
  Calls Tryz.prog 75 #[.string s] w fun e w' => ∃ g c, e = .returned (.slice (some ⟨g, 0, none⟩) (partsL s.data.toList).length c) ∧ w.heap.size ≤ g ∧ StrsAt g (partsL s.data.toList) w' ∧ Below w.heap.size w w' := by
 obtain ⟨P, hP⟩ : ∃ P, P = cutL 46 s.data.toList := ⟨_, rfl⟩
 have hPne : P ≠ [] := by rw [hP]; exact cutL_ne _ _
 obtain ⟨k, hk⟩ : ∃ k, P.length = k + 1 := ⟨P.length - 1, by have := List.length_pos_iff.2 hPne; omega⟩
 have hk600 : k ≤ 1048577 := by
  have := cutL_len_le 46 s.data.toList
  have hl : s.data.toList.length = s.size := by simp
  rw [← hP] at this; omega
 have CS : Hid (Calls Tryz.prog 97 #[.string s, .int .u8 46] w fun e w' => ∃ g c, e = .returned (.slice (some ⟨g, 0, none⟩) (k + 1) c) ∧ w.heap.size ≤ g ∧ k + 1 ≤ c ∧ StrsAt g P w' ∧ Below w.heap.size w w') := by
  refine (l1Cut s 46 w hs).mono ?_
  rintro e w' ⟨v, rfl, hO, hB⟩
  rw [← hP] at hO
  obtain ⟨g, c, rfl, hg, hc, hS⟩ := ownS_strs hO hPne
  exact ⟨g, c, by rw [hk], hg, by omega, hS, hB⟩
 have HK : Hid (k = 0 ∨ P[k]? ≠ some [] → partsL s.data.toList = P) := by
  intro h
  rw [hP]
  refine partsL_keep _ ?_
  rw [← hP, hk]
  rcases h with h | h
  ·left; omega
  ·right; simpa using h
 have HD : Hid (1 ≤ k → P[k]? = some [] → partsL s.data.toList = P.dropLast) := by
  intro h1 h2
  rw [hP]
  refine partsL_drop _ ?_ ?_
  ·rw [← hP, hk]; omega
  ·rw [← hP, hk]; simpa using h2
 have HL : Hid (P.length = k + 1) := hk
 clear hP hk hPne
 have hk1 : (k : Int) + 1 - 1 = (k : Int) := by omega
 by_cases h0 : k = 0
 ·have HP : Hid (partsL s.data.toList = P) := HK.out (.inl h0)
  subst h0
  go_enter Tryz.func75, Tryz.ntmps75
  go_wp2_with fail
  refine CS.out.mono ?_
  rintro e w1 ⟨g, c, rfl, hg, hc, hS, hB⟩
  go_wp2
  go_ret
  exact ⟨g, c, by rw [HP.out, HL.out]; rfl, hg, by rw [HP.out]; exact hS, hB⟩
 ·have h0i : (1 : Int) < (k : Int) + 1 := by omega
  go_enter Tryz.func75, Tryz.ntmps75
  go_wp2_with fail
  refine CS.out.mono ?_
  rintro e w1 ⟨g, c, rfl, hg, hgc, hS, hB⟩
  have hgci : (k : Int) + 1 ≤ (c : Int) := by omega
  have hgci2 : (k : Int) ≤ (c : Int) := by omega
  have hc := hS.cell k (by rw [HL.out]; omega)
  by_cases hz : P[k]? = some []
  ·have HP : Hid (partsL s.data.toList = P.dropLast) := HD.out (by omega) hz
   have hz2 : P[k]'(by rw [HL.out]; omega) = [] := by
    rw [List.getElem?_eq_getElem (by rw [HL.out]; omega)] at hz; exact Option.some.inj hz
   rw [hz2] at hc
   have hc2 : w1.cell? ⟨g, k, none⟩ = some (.string ⟨#[]⟩) := hc
   clear hc
   go_wp2
   go_ret
   exact ⟨g, c, by rw [HP.out, List.length_dropLast, HL.out]; rfl, hg, by rw [HP.out]; exact hS.less, hB⟩
  ·have HP : Hid (partsL s.data.toList = P) := HK.out (.inr hz)
   obtain ⟨z, hzz, hzn⟩ : ∃ z : ByteArray, w1.cell? ⟨g, k, none⟩ = some (.string z) ∧ z.toList ≠ [] := by
    refine ⟨_, hc, ?_⟩
    rw [ByteArray.toList_eq, mk_data]
    intro e
    apply hz
    rw [List.getElem?_eq_getElem (by rw [HL.out]; omega), e]
   have hne1 : (z.toList == []) = false := beq_eq_false_iff_ne.2 hzn
   have hne2 : z.toList.isEmpty = false := List.isEmpty_eq_false_iff.2 hzn
   clear hc hz
   go_wp2
   go_ret
   exact ⟨g, c, by rw [HP.out, HL.out]; rfl, hg, by rw [HP.out]; exact hS, hB⟩
end Go.Proofs.YtfcbjdooijhibaaGreatDoor
end
section
namespace Go.Proofs.YtfcbjdooijhibaaGreatDoor
open Go.RowKit Go.Shelf
theorem l1In_yes (n lo hi : Int) (w : World) (h : lo ≤ n ∧ n ≤ hi) : Calls Tryz.prog 96 #[.int .i64 n, .int .i64 lo, .int .i64 hi] w fun e w' => e = .returned (.bool true) ∧ w' = w := by
 obtain ⟨h1, h2⟩ := h
 go_enter Tryz.func96, Tryz.ntmps96
 go_wp2
 go_ret
 exact ⟨rfl, rfl⟩
theorem l1In_no (n lo hi : Int) (w : World) (h : ¬ (lo ≤ n ∧ n ≤ hi)) : Calls Tryz.prog 96 #[.int .i64 n, .int .i64 lo, .int .i64 hi] w fun e w' => e = .returned (.bool false) ∧ w' = w := by
 rcases (show n < lo ∨ (lo ≤ n ∧ hi < n) from by omega) with h1 | ⟨h1, h2⟩
 all_goals
  clear h
  go_enter Tryz.func96, Tryz.ntmps96
  go_wp2
  go_ret
  exact ⟨by first | rfl | exact ret_bool (decide_eq_false (by omega)), rfl⟩
end Go.Proofs.YtfcbjdooijhibaaGreatDoor
end
section
namespace Go.Proofs.YtfcbjdooijhibaaGreatDoor
open Go.RowKit Go.Shelf
def portS (l : List UInt8) (own : Int) : Int := if l = [] then -1 else if 0 ≤ digsV 10 l ∧ digsV 10 l ≤ 65535 then (if digsV 10 l = own then -1 else digsV 10 l) else -2
theorem hex_fig (c : UInt8) (h : figB c = true) : hexV c = (c.toNat : Int) - 48 := by
 have key : ∀ n : _root_.Fin 256, figB (UInt8.ofNat n.val) = true → hexV (UInt8.ofNat n.val) = ((UInt8.ofNat n.val).toNat : Int) - 48 := by decide
 have := key ⟨c.toNat, c.toNat_lt⟩
 simp at this
 exact this h
theorem hex_nofig (c : UInt8) (h : figB c = false) : hexV c < 0 ∨ 10 ≤ hexV c := by
 have key : ∀ n : _root_.Fin 256, figB (UInt8.ofNat n.val) = false → (hexV (UInt8.ofNat n.val) < 0 ∨ 10 ≤ hexV (UInt8.ofNat n.val)) := by decide
 have := key ⟨c.toNat, c.toNat_lt⟩
 simp at this
 exact this h
theorem digs_mono (l : List UInt8) : ∀ (m k : Int), 0 ≤ m → figsL l = true → digs 10 m l = some k → m ≤ k := by
 induction l with
 | nil => intro m k h0 _ h; simp [digs] at h; omega
 | cons c r ih =>
  intro m k h0 hf h
  have hc : figB c = true := by unfold figsL at hf; simp at hf; exact hf.1
  have hr : figsL r = true := by unfold figsL at hf ⊢; simp at hf ⊢; exact hf.2
  have hx := hex_fig c hc
  have hb : 48 ≤ c.toNat := by unfold figB at hc; exact (of_decide_eq_true hc).1
  by_cases hd : hexV c < 0 ∨ 10 ≤ hexV c ∨ 4294967295 < m
  ·rw [digs_no _ _ _ _ hd] at h; cases h
  ·rw [digs_yes _ _ _ _ hd] at h
   have := ih (m * 10 + hexV c) k (by omega) hr h
   omega
theorem port_digs (l : List UInt8) : ∀ (m : Int), 0 ≤ m → m ≤ 65535 → figsL l = true → (∀ n, portN m l = some n → digs 10 m l = some n) ∧ (portN m l = none → ∀ k, digs 10 m l = some k → 65535 < k) := by
 induction l with
 | nil => intro m h0 h1 _; simp [portN, digs]
 | cons c r ih =>
  intro m h0 h1 hf
  have hc : figB c = true := by unfold figsL at hf; simp at hf; exact hf.1
  have hr : figsL r = true := by unfold figsL at hf ⊢; simp at hf ⊢; exact hf.2
  have hx := hex_fig c hc
  have hb : 48 ≤ c.toNat ∧ c.toNat ≤ 57 := by unfold figB at hc; exact of_decide_eq_true hc
  have hd : ¬ (hexV c < 0 ∨ 10 ≤ hexV c ∨ 4294967295 < m) := by omega
  rw [digs_yes _ _ _ _ hd, hx]
  unfold portN
  by_cases hbig : 65535 < m * 10 + ((c.toNat : Int) - 48)
  ·rw [if_pos hbig]
   refine ⟨(fun n h => absurd h (by simp)), (fun _ k hk => ?_)⟩
   have := digs_mono r _ k (by omega) hr hk
   omega
  ·rw [if_neg hbig]
   exact ih _ (by omega) (by omega) hr
theorem digs_nofig (l : List UInt8) : ∀ (m : Int), figsL l = false → digs 10 m l = none := by
 induction l with
 | nil => intro m h; cases h
 | cons c r ih =>
  intro m hf
  by_cases hd : hexV c < 0 ∨ 10 ≤ hexV c ∨ 4294967295 < m
  ·exact digs_no _ _ _ _ hd
  ·rw [digs_yes _ _ _ _ hd]
   apply ih
   have hc : figB c = true := by
    cases h : figB c with
    | true => rfl
    | false => exfalso; have := hex_nofig c h; omega
   unfold figsL at hf ⊢
   rw [List.all_cons, hc, Bool.true_and] at hf
   exact hf
theorem port_both (l : List UInt8) (own : Int) (hown : own ≤ 65535) : (portB l own = true ∧ portV l own = portS l own ∧ portS l own ≠ -2) ∨ (portB l own = false ∧ portS l own = -2) := by
 by_cases he : l = []
 ·subst he
  obtain ⟨e1, e2⟩ := portL_empty own
  left
  refine ⟨e2, ?_, ?_⟩
  ·rw [e1]; rfl
  ·show (-1 : Int) ≠ -2; decide
 ·cases hf : figsL l with
  | false =>
   right
   refine ⟨(portL_nofig l own hf).2, ?_⟩
   have : digsV 10 l = -1 := by unfold digsV; rw [digs_nofig l 0 hf]; rfl
   unfold portS
   rw [if_neg he, this, if_neg (by omega)]
  | true =>
   obtain ⟨p1, p2⟩ := port_digs l 0 (by decide) (by decide) hf
   cases hp : portN 0 l with
   | none =>
    right
    refine ⟨(portL_none l own hf he hp).2, ?_⟩
    unfold portS
    rw [if_neg he, if_neg]
    rintro ⟨h1, h2⟩
    unfold digsV at h1 h2
    cases hd : digs 10 0 l with
    | none => rw [hd] at h1; revert h1; decide
    | some k =>
     rw [hd] at h2
     have := p2 hp k hd
     have h3 : k ≤ 65535 := h2
     omega
   | some n =>
    have hr := portN_le l 0 n (by decide) (by decide) (figs_low l hf) hp
    have hd : digsV 10 l = n := by unfold digsV; rw [p1 n hp]; rfl
    left
    by_cases ho : n = own
    ·subst ho
     obtain ⟨e1, e2⟩ := portL_own l n hf he hp
     refine ⟨e2, ?_, ?_⟩
     ·rw [e1]; unfold portS; rw [if_neg he, hd, if_pos hr, if_pos rfl]
     ·unfold portS; rw [if_neg he, hd, if_pos hr, if_pos rfl]; decide
    ·obtain ⟨e1, e2⟩ := portL_some l own n hf he hp ho
     have e3 : portS l own = n := by unfold portS; rw [if_neg he, hd, if_pos hr, if_neg ho]
     refine ⟨e2, by rw [e1, e3], ?_⟩
     rw [e3]; omega
theorem l3Port (l : List UInt8) (own : Int) (w : World) (hl : l.length ≤ 1000) :
  Calls Tryz.prog 136 #[.string (mk l), .int .i64 own] w fun e w' => e = .returned (.int .i64 (portS l own)) ∧ w' = w := by
 by_cases he : l = []
 ·subst he
  have HE : Hid (portS [] own = -1) := rfl
  have hmk : mk [] = ⟨#[]⟩ := rfl
  rw [hmk]
  go_enter Tryz.func136, Tryz.ntmps136
  go_wp2
  go_ret
  rw [HE.out]
  exact ⟨rfl, rfl⟩
 ·obtain ⟨s, hs⟩ : ∃ s, s = mk l := ⟨_, rfl⟩
  obtain ⟨hb1, hb2⟩ := text_full s (by rw [hs, mk_data]; exact he)
  obtain ⟨n, hn⟩ : ∃ n, n = digsV 10 l := ⟨_, rfl⟩
  have CD : Hid (∀ W, Calls Tryz.prog 146 #[.string s, .int .i64 10] W fun e w' => e = .returned (.int .i64 n) ∧ w' = W) := fun W => by rw [hn, hs]; exact l2Digits (mk l) 10 W (by rw [mk_size]; omega) (by omega)
  have HP : Hid (portS l own = if 0 ≤ n ∧ n ≤ 65535 then (if n = own then -1 else n) else -2) := by show _ = _; unfold portS; rw [if_neg he, hn]
  rw [← hs]
  clear hs hn he
  by_cases hin : 0 ≤ n ∧ n ≤ 65535
  ·have CI : Hid (∀ W, Calls Tryz.prog 96 #[.int .i64 n, .int .i64 0, .int .i64 65535] W fun e w' => e = .returned (.bool true) ∧ w' = W) := fun W => l1In_yes n 0 65535 W hin
   rw [if_pos hin] at HP
   clear hin
   by_cases ho : n = own
   ·subst ho
    have HR : Hid (portS l n = -1) := by show _ = _; rw [HP.out, if_pos rfl]
    clear HP
    go_enter Tryz.func136, Tryz.ntmps136
    go_wp2_with fail
    refine (CD.out _).mono ?_
    rintro e W1 ⟨rfl, hW1⟩
    have hW1' := hW1.symm
    subst hW1'
    go_wp2_with fail
    refine (CI.out _).mono ?_
    rintro e W2 ⟨rfl, hW2⟩
    have hW2' := hW2.symm
    subst hW2'
    go_wp2
    go_ret
    rw [HR.out]
    exact ⟨rfl, rfl⟩
   ·have ho' : (n == own) = false := beq_eq_false_iff_ne.2 ho
    have HR : Hid (portS l own = n) := by show _ = _; rw [HP.out, if_neg ho]
    clear HP ho
    go_enter Tryz.func136, Tryz.ntmps136
    go_wp2_with fail
    refine (CD.out _).mono ?_
    rintro e W1 ⟨rfl, hW1⟩
    have hW1' := hW1.symm
    subst hW1'
    go_wp2_with fail
    refine (CI.out _).mono ?_
    rintro e W2 ⟨rfl, hW2⟩
    have hW2' := hW2.symm
    subst hW2'
    go_wp2
    go_ret
    rw [HR.out]
    exact ⟨rfl, rfl⟩
  ·have CI : Hid (∀ W, Calls Tryz.prog 96 #[.int .i64 n, .int .i64 0, .int .i64 65535] W fun e w' => e = .returned (.bool false) ∧ w' = W) := fun W => l1In_no n 0 65535 W hin
   have HR : Hid (portS l own = -2) := by show _ = _; rw [HP.out, if_neg hin]
   clear HP hin
   go_enter Tryz.func136, Tryz.ntmps136
   go_wp2_with fail
   refine (CD.out _).mono ?_
   rintro e W1 ⟨rfl, hW1⟩
   have hW1' := hW1.symm
   subst hW1'
   go_wp2_with fail
   refine (CI.out _).mono ?_
   rintro e W2 ⟨rfl, hW2⟩
   have hW2' := hW2.symm
   subst hW2'
   go_wp2
   go_ret
   rw [HR.out]
   exact ⟨rfl, rfl⟩
end Go.Proofs.YtfcbjdooijhibaaGreatDoor
end
