/- spec.l3Tail, spec.l3Who. -/
import Derived.Test.YtnfhajhdpdidlaaGreatDoorB25
set_option linter.unusedVariables false
set_option linter.unusedSimpArgs false
set_option maxHeartbeats 4000000
set_option maxRecDepth 100000
section
namespace Go.Proofs.YtnfhajhdpdidlaaGreatDoor
open Go.RowKit Go.Shelf
def tail1 (p : P) (l : List UInt8) : P := if (upL [35] l).length < l.length then { p with hf := true, fr := wrT 3 (l.drop ((upL [35] l).length + 1)) } else p
def tail2 (p : P) (m : List UInt8) : P := if m = [] then p else { p with hq := true, qu := wrT 2 m.tail }
def tailS (p : P) (l : List UInt8) : P := tail2 (tail1 p l) (upL [35] l)
theorem up_take (S l : List UInt8) : l.take (upL S l).length = upL S l := by
 have hp : upL S l <+: l := by unfold upL; exact List.takeWhile_prefix _
 exact (List.prefix_iff_eq_take.1 hp).symm
theorem l3Tail (p : P) (a : Option Addr) (n c : Nat) (l : List UInt8) (w : World) (hl : l.length ≤ 1000) :
  Calls Tryz.prog 138 #[.agg (p.cells (.slice a n c)), .string (mk l)] w fun e w' => e = .returned (.agg ((tailS p l).cells (.slice a n c))) ∧ Below w.heap.size w w' := by
 have H0 : Hid (BX w p (.slice a n c) ((w.alloc (.cells (p.cells (.slice a n c)) 31)).alloc (.cells zeroC 31))) := BX.start w p (.slice a n c)
 unfold P.cells zeroC at H0
 obtain ⟨s, hs⟩ : ∃ s, s = mk l := ⟨_, rfl⟩
 have hss : s.size = l.length := by rw [hs, mk_size]
 obtain ⟨k, hk⟩ : ∃ k, k = (upL [35] l).length := ⟨_, rfl⟩
 have hkl : k ≤ l.length := by rw [hk]; exact upL_le _ _
 have CA : Hid (∀ W, Calls Tryz.prog 136 #[.string s, .string ⟨#[35]⟩] W fun e w' => e = .returned (.int .i64 (k : Int)) ∧ Below W.heap.size W w') := fun W => by rw [hk, hs]; exact atC [35] l W (by omega) (by decide)
 obtain ⟨m, hm⟩ : ∃ m, m = upL [35] l := ⟨_, rfl⟩
 obtain ⟨sm, hsm⟩ : ∃ sm, sm = mk m := ⟨_, rfl⟩
 have hx1 : s.extract 0 k = sm := by rw [hs, hsm, ext_takeM l k hkl, hk, up_take, hm]
 have HTS : Hid (tailS p l = tail2 (tail1 p l) m) := by show _ = _; rw [hm]; rfl
 have hml : m.length ≤ 1000 := by rw [hm]; have := upL_le [35] l; omega
 obtain ⟨sd, hsd⟩ : ∃ sd, sd = mk (l.drop (k + 1)) := ⟨_, rfl⟩
 obtain ⟨wd, hwd⟩ : ∃ wd, wd = wrT 3 (l.drop (k + 1)) := ⟨_, rfl⟩
 have hx2 : s.extract (k + 1) s.size = sd := by rw [hs, hsd]; exact ext_dropM l (k + 1)
 have HT1 : Hid (tail1 p l = if k < s.size then { p with hf := true, fr := wd } else p) := by show _ = _; rw [hwd, hss, hk]; rfl
 have CE : Hid (∀ W, Calls Tryz.prog 137 #[.int .i64 3, .string sd] W fun e w' => e = .returned (.string wd) ∧ Below W.heap.size W w') := fun W => by rw [hsd, hwd]; exact encC 3 _ W (by rw [List.length_drop]; omega)
 obtain ⟨mt, hmt⟩ : ∃ mt, mt = mk m.tail := ⟨_, rfl⟩
 obtain ⟨wt, hwt⟩ : ∃ wt, wt = wrT 2 m.tail := ⟨_, rfl⟩
 have CQ : Hid (∀ W, Calls Tryz.prog 137 #[.int .i64 2, .string mt] W fun e w' => e = .returned (.string wt) ∧ Below W.heap.size W w') := fun W => by rw [hmt, hwt]; exact encC 2 _ W (by rw [List.length_tail]; omega)
 have hx3 : sm.extract 1 sm.size = mt := by rw [hsm, ext_dropM, hmt, List.drop_one]
 have hm0c : (m = [] ∧ sm = ⟨#[]⟩) ∨ (m ≠ [] ∧ 1 ≤ sm.size ∧ (sm.toList == []) = false ∧ sm.toList.isEmpty = false) := by
  by_cases h : m = []
  ·left; exact ⟨h, by rw [hsm, h]; rfl⟩
  ·right
   have := text_full (mk m) (by rw [mk_data]; exact h)
   refine ⟨h, ?_, by rw [hsm]; exact this.1, by rw [hsm]; exact this.2⟩
   rw [hsm, mk_size]; exact List.length_pos_iff.2 h
 have hsz : s.size ≤ 1000 := by omega
 have hks : k ≤ s.size := by omega
 have HT2 : Hid (∀ r, tail2 r m = if m = [] then r else { r with hq := true, qu := wt }) := by intro r; rw [hwt]; rfl
 rw [← hs]
 clear hk hm hmt hwt hwd hsd hsm hs hss hkl
 unfold P.cells
 go_enter Tryz.func138, Tryz.ntmps138
 go_wp2_with fail
 refine (CA.out _).mono ?_
 rintro e W1 ⟨rfl, d1⟩
 have HX1 : Hid (BX w p (.slice a n c) W1) := H0.out.later d1
 clear d1 H0 CA
 by_cases hkk : k < s.size
 ·have hki : (k : Int) < (s.size : Int) := by omega
  have HT1' : Hid (tail1 p l = { p with hf := true, fr := wd }) := by show _ = _; rw [HT1.out, if_pos hkk]
  have c11 : W1.cell? ⟨w.heap.size, 11, none⟩ = some (.bool p.hf) := HX1.out.cells.2.2.2.2.2.2.2.2.2.2.2.1
  have f11 : W1.frozen? ⟨w.heap.size, 11, none⟩ = false := HX1.out.bx.free 11
  have HX2 : Hid (BX w { p with hf := true } (.slice a n c) (W1.setCell ⟨w.heap.size, 11, none⟩ (.bool true))) := HX1.out.set 11 _ rfl
  clear HX1 HT1
  go_wp2_with fail
  refine (CE.out _).mono ?_
  rintro e W3 ⟨rfl, d3⟩
  have HX3 : Hid (BX w { p with hf := true } (.slice a n c) W3) := HX2.out.later d3
  have c12 : W3.cell? ⟨w.heap.size, 12, none⟩ = some (.string p.fr) := HX3.out.cells.2.2.2.2.2.2.2.2.2.2.2.2
  have f12 : W3.frozen? ⟨w.heap.size, 12, none⟩ = false := HX3.out.bx.free 12
  obtain ⟨p1, hp1⟩ : ∃ p1, p1 = { p with hf := true, fr := wd } := ⟨_, rfl⟩
  have HXC0 : Hid (BX w p1 (.slice a n c) (W3.setCell ⟨w.heap.size, 12, none⟩ (.string wd))) := by rw [hp1]; exact HX3.out.set 12 _ rfl
  rw [← hp1] at HT1'
  clear d3 HX2 HX3 CE c11 f11 hp1 hx2
  obtain ⟨W4, hW4⟩ : ∃ W4, W4 = W3.setCell ⟨w.heap.size, 12, none⟩ (.string wd) := ⟨_, rfl⟩
  have HXC : Hid (BX w p1 (.slice a n c) (W3.setCell ⟨w.heap.size, 12, none⟩ (.string wd))) := HXC0.out
  clear HXC0 hW4
  rcases hm0c with ⟨hm0, hmt0⟩ | ⟨hm0, hmz, hb1, hb2⟩
  ·have HDUM : True := trivial
   obtain ⟨q, hq⟩ : ∃ q, q = p1 := ⟨_, rfl⟩
   have HX : Hid (BX w q (.slice a n c) (W3.setCell ⟨w.heap.size, 12, none⟩ (.string wd))) := by rw [hq]; exact HXC.out
   have HQ : Hid (tailS p l = q) := by show _ = _; rw [HTS.out, HT1'.out, HT2.out, if_pos hm0, hq]
   clear hq HXC HT1' HTS HT2 CQ hm0 hx3 HDUM
   obtain ⟨c0, c1, c2, c3, c4, c5, c6, c7, c8, c9, c10, c11, c12⟩ := HX.out.cells
   obtain ⟨z0, z1, z2, z3, z4, z5, z6, z7, z8, z9, z10, z11, z12⟩ := HX.out.zeros
   obtain ⟨y0, y1, y2, y3, y4, y5, y6, y7, y8, y9, y10, y11, y12⟩ := HX.out.free
   go_wp2
   obtain ⟨hf1, hf2, hf3⟩ := HX.out.fin (.string q.sc) (.string q.us) (.string q.pw) (.int .i64 q.hk) (.string q.hn) (.int .i64 q.ha) (.int .i64 q.po) (.slice a n c) (.string q.op) (.bool q.hq) (.string q.qu) (.bool q.hf) (.string q.fr)
   have HRB : Hid (Blk (w.heap.size + 1) #[(.string q.sc), (.string q.us), (.string q.pw), (.int .i64 q.hk), (.string q.hn), (.int .i64 q.ha), (.int .i64 q.po), (.slice a n c), (.string q.op), (.bool q.hq), (.string q.qu), (.bool q.hf), (.string q.fr)] 31 ((((((((((((((W3.setCell ⟨w.heap.size, 12, none⟩ (.string wd)).setCell ⟨w.heap.size + 1, 0, none⟩ (.string q.sc)).setCell ⟨w.heap.size + 1, 1, none⟩ (.string q.us)).setCell ⟨w.heap.size + 1, 2, none⟩ (.string q.pw)).setCell ⟨w.heap.size + 1, 3, none⟩ (.int .i64 q.hk)).setCell ⟨w.heap.size + 1, 4, none⟩ (.string q.hn)).setCell ⟨w.heap.size + 1, 5, none⟩ (.int .i64 q.ha)).setCell ⟨w.heap.size + 1, 6, none⟩ (.int .i64 q.po)).setCell ⟨w.heap.size + 1, 7, none⟩ (.slice a n c)).setCell ⟨w.heap.size + 1, 8, none⟩ (.string q.op)).setCell ⟨w.heap.size + 1, 9, none⟩ (.bool q.hq)).setCell ⟨w.heap.size + 1, 10, none⟩ (.string q.qu)).setCell ⟨w.heap.size + 1, 11, none⟩ (.bool q.hf)).setCell ⟨w.heap.size + 1, 12, none⟩ (.string q.fr))) := hf1
   have HBB : Hid (Below w.heap.size w ((((((((((((((W3.setCell ⟨w.heap.size, 12, none⟩ (.string wd)).setCell ⟨w.heap.size + 1, 0, none⟩ (.string q.sc)).setCell ⟨w.heap.size + 1, 1, none⟩ (.string q.us)).setCell ⟨w.heap.size + 1, 2, none⟩ (.string q.pw)).setCell ⟨w.heap.size + 1, 3, none⟩ (.int .i64 q.hk)).setCell ⟨w.heap.size + 1, 4, none⟩ (.string q.hn)).setCell ⟨w.heap.size + 1, 5, none⟩ (.int .i64 q.ha)).setCell ⟨w.heap.size + 1, 6, none⟩ (.int .i64 q.po)).setCell ⟨w.heap.size + 1, 7, none⟩ (.slice a n c)).setCell ⟨w.heap.size + 1, 8, none⟩ (.string q.op)).setCell ⟨w.heap.size + 1, 9, none⟩ (.bool q.hq)).setCell ⟨w.heap.size + 1, 10, none⟩ (.string q.qu)).setCell ⟨w.heap.size + 1, 11, none⟩ (.bool q.hf)).setCell ⟨w.heap.size + 1, 12, none⟩ (.string q.fr))) := hf2
   have HGG : Hid ((W3.setCell ⟨w.heap.size, 12, none⟩ (.string wd)).grownBy ((((((((((((((W3.setCell ⟨w.heap.size, 12, none⟩ (.string wd)).setCell ⟨w.heap.size + 1, 0, none⟩ (.string q.sc)).setCell ⟨w.heap.size + 1, 1, none⟩ (.string q.us)).setCell ⟨w.heap.size + 1, 2, none⟩ (.string q.pw)).setCell ⟨w.heap.size + 1, 3, none⟩ (.int .i64 q.hk)).setCell ⟨w.heap.size + 1, 4, none⟩ (.string q.hn)).setCell ⟨w.heap.size + 1, 5, none⟩ (.int .i64 q.ha)).setCell ⟨w.heap.size + 1, 6, none⟩ (.int .i64 q.po)).setCell ⟨w.heap.size + 1, 7, none⟩ (.slice a n c)).setCell ⟨w.heap.size + 1, 8, none⟩ (.string q.op)).setCell ⟨w.heap.size + 1, 9, none⟩ (.bool q.hq)).setCell ⟨w.heap.size + 1, 10, none⟩ (.string q.qu)).setCell ⟨w.heap.size + 1, 11, none⟩ (.bool q.hf)).setCell ⟨w.heap.size + 1, 12, none⟩ (.string q.fr)) (some (w.heap.size + 1))) := hf3
   clear hf1 hf2 hf3
   generalize ((((((((((((((W3.setCell ⟨w.heap.size, 12, none⟩ (.string wd)).setCell ⟨w.heap.size + 1, 0, none⟩ (.string q.sc)).setCell ⟨w.heap.size + 1, 1, none⟩ (.string q.us)).setCell ⟨w.heap.size + 1, 2, none⟩ (.string q.pw)).setCell ⟨w.heap.size + 1, 3, none⟩ (.int .i64 q.hk)).setCell ⟨w.heap.size + 1, 4, none⟩ (.string q.hn)).setCell ⟨w.heap.size + 1, 5, none⟩ (.int .i64 q.ha)).setCell ⟨w.heap.size + 1, 6, none⟩ (.int .i64 q.po)).setCell ⟨w.heap.size + 1, 7, none⟩ (.slice a n c)).setCell ⟨w.heap.size + 1, 8, none⟩ (.string q.op)).setCell ⟨w.heap.size + 1, 9, none⟩ (.bool q.hq)).setCell ⟨w.heap.size + 1, 10, none⟩ (.string q.qu)).setCell ⟨w.heap.size + 1, 11, none⟩ (.bool q.hf)).setCell ⟨w.heap.size + 1, 12, none⟩ (.string q.fr)) = W9 at *
   clear c0 c1 c2 c3 c4 c5 c6 c7 c8 c9 c10 c11 c12 z0 z1 z2 z3 z4 z5 z6 z7 z8 z9 z10 z11 z12 y0 y1 y2 y3 y4 y5 y6 y7 y8 y9 y10 y11 y12
   have z0 : W9.cell? ⟨w.heap.size + 1, 0, none⟩ = some (.string q.sc) := HRB.out.cell 0
   have z1 : W9.cell? ⟨w.heap.size + 1, 1, none⟩ = some (.string q.us) := HRB.out.cell 1
   have z2 : W9.cell? ⟨w.heap.size + 1, 2, none⟩ = some (.string q.pw) := HRB.out.cell 2
   have z3 : W9.cell? ⟨w.heap.size + 1, 3, none⟩ = some (.int .i64 q.hk) := HRB.out.cell 3
   have z4 : W9.cell? ⟨w.heap.size + 1, 4, none⟩ = some (.string q.hn) := HRB.out.cell 4
   have z5 : W9.cell? ⟨w.heap.size + 1, 5, none⟩ = some (.int .i64 q.ha) := HRB.out.cell 5
   have z6 : W9.cell? ⟨w.heap.size + 1, 6, none⟩ = some (.int .i64 q.po) := HRB.out.cell 6
   have z7 : W9.cell? ⟨w.heap.size + 1, 7, none⟩ = some (.slice a n c) := HRB.out.cell 7
   have z8 : W9.cell? ⟨w.heap.size + 1, 8, none⟩ = some (.string q.op) := HRB.out.cell 8
   have z9 : W9.cell? ⟨w.heap.size + 1, 9, none⟩ = some (.bool q.hq) := HRB.out.cell 9
   have z10 : W9.cell? ⟨w.heap.size + 1, 10, none⟩ = some (.string q.qu) := HRB.out.cell 10
   have z11 : W9.cell? ⟨w.heap.size + 1, 11, none⟩ = some (.bool q.hf) := HRB.out.cell 11
   have z12 : W9.cell? ⟨w.heap.size + 1, 12, none⟩ = some (.string q.fr) := HRB.out.cell 12
   refine bodyPost_ret (v := .agg #[(.string q.sc), (.string q.us), (.string q.pw), (.int .i64 q.hk), (.string q.hn), (.int .i64 q.ha), (.int .i64 q.po), (.slice a n c), (.string q.op), (.bool q.hq), (.string q.qu), (.bool q.hf), (.string q.fr)]) (by simp [results, Tryz.results138, go_sem, z0, z1, z2, z3, z4, z5, z6, z7, z8, z9, z10, z11, z12]) rfl ?_
   exact ⟨by rw [HQ.out], HBB.out⟩
  ·have hmi : (1 : Int) ≤ (sm.size : Int) := by omega
   have c9 : (W3.setCell ⟨w.heap.size, 12, none⟩ (.string wd)).cell? ⟨w.heap.size, 9, none⟩ = some (.bool (p1).hq) := HXC.out.cells.2.2.2.2.2.2.2.2.2.1
   have f9 : (W3.setCell ⟨w.heap.size, 12, none⟩ (.string wd)).frozen? ⟨w.heap.size, 9, none⟩ = false := HXC.out.bx.free 9
   have HXD : Hid (BX w ({ p1 with hq := true }) (.slice a n c) ((W3.setCell ⟨w.heap.size, 12, none⟩ (.string wd)).setCell ⟨w.heap.size, 9, none⟩ (.bool true))) := HXC.out.set 9 _ rfl
   have HQ : Hid (tailS p l = { p1 with hq := true, qu := wt }) := by show _ = _; rw [HTS.out, HT1'.out, HT2.out, if_neg hm0]
   clear HXC HT1' HTS HT2 hm0
   go_wp2_with fail
   refine (CQ.out _).mono ?_
   rintro e W5 ⟨rfl, d5⟩
   have HXE : Hid (BX w ({ p1 with hq := true }) (.slice a n c) W5) := HXD.out.later d5
   clear d5 HXD CQ c9 f9
   obtain ⟨q, hq⟩ : ∃ q, q = { p1 with hq := true, qu := wt } := ⟨_, rfl⟩
   have d10 : W5.cell? ⟨w.heap.size, 10, none⟩ = some (.string (p1).qu) := HXE.out.cells.2.2.2.2.2.2.2.2.2.2.1
   have f10 : W5.frozen? ⟨w.heap.size, 10, none⟩ = false := HXE.out.bx.free 10
   have HX : Hid (BX w q (.slice a n c) (W5.setCell ⟨w.heap.size, 10, none⟩ (.string wt))) := by rw [hq]; exact HXE.out.set 10 _ rfl
   have HQ2 : Hid (tailS p l = q) := by rw [hq]; exact HQ.out
   clear hq HXE HQ hx3 hmz hmi hb1 hb2
   obtain ⟨c0, c1, c2, c3, c4, c5, c6, c7, c8, c9, c10, c11, c12⟩ := HX.out.cells
   obtain ⟨z0, z1, z2, z3, z4, z5, z6, z7, z8, z9, z10, z11, z12⟩ := HX.out.zeros
   obtain ⟨y0, y1, y2, y3, y4, y5, y6, y7, y8, y9, y10, y11, y12⟩ := HX.out.free
   go_wp2
   obtain ⟨hf1, hf2, hf3⟩ := HX.out.fin (.string q.sc) (.string q.us) (.string q.pw) (.int .i64 q.hk) (.string q.hn) (.int .i64 q.ha) (.int .i64 q.po) (.slice a n c) (.string q.op) (.bool q.hq) (.string q.qu) (.bool q.hf) (.string q.fr)
   have HRB : Hid (Blk (w.heap.size + 1) #[(.string q.sc), (.string q.us), (.string q.pw), (.int .i64 q.hk), (.string q.hn), (.int .i64 q.ha), (.int .i64 q.po), (.slice a n c), (.string q.op), (.bool q.hq), (.string q.qu), (.bool q.hf), (.string q.fr)] 31 ((((((((((((((W5.setCell ⟨w.heap.size, 10, none⟩ (.string wt)).setCell ⟨w.heap.size + 1, 0, none⟩ (.string q.sc)).setCell ⟨w.heap.size + 1, 1, none⟩ (.string q.us)).setCell ⟨w.heap.size + 1, 2, none⟩ (.string q.pw)).setCell ⟨w.heap.size + 1, 3, none⟩ (.int .i64 q.hk)).setCell ⟨w.heap.size + 1, 4, none⟩ (.string q.hn)).setCell ⟨w.heap.size + 1, 5, none⟩ (.int .i64 q.ha)).setCell ⟨w.heap.size + 1, 6, none⟩ (.int .i64 q.po)).setCell ⟨w.heap.size + 1, 7, none⟩ (.slice a n c)).setCell ⟨w.heap.size + 1, 8, none⟩ (.string q.op)).setCell ⟨w.heap.size + 1, 9, none⟩ (.bool q.hq)).setCell ⟨w.heap.size + 1, 10, none⟩ (.string q.qu)).setCell ⟨w.heap.size + 1, 11, none⟩ (.bool q.hf)).setCell ⟨w.heap.size + 1, 12, none⟩ (.string q.fr))) := hf1
   have HBB : Hid (Below w.heap.size w ((((((((((((((W5.setCell ⟨w.heap.size, 10, none⟩ (.string wt)).setCell ⟨w.heap.size + 1, 0, none⟩ (.string q.sc)).setCell ⟨w.heap.size + 1, 1, none⟩ (.string q.us)).setCell ⟨w.heap.size + 1, 2, none⟩ (.string q.pw)).setCell ⟨w.heap.size + 1, 3, none⟩ (.int .i64 q.hk)).setCell ⟨w.heap.size + 1, 4, none⟩ (.string q.hn)).setCell ⟨w.heap.size + 1, 5, none⟩ (.int .i64 q.ha)).setCell ⟨w.heap.size + 1, 6, none⟩ (.int .i64 q.po)).setCell ⟨w.heap.size + 1, 7, none⟩ (.slice a n c)).setCell ⟨w.heap.size + 1, 8, none⟩ (.string q.op)).setCell ⟨w.heap.size + 1, 9, none⟩ (.bool q.hq)).setCell ⟨w.heap.size + 1, 10, none⟩ (.string q.qu)).setCell ⟨w.heap.size + 1, 11, none⟩ (.bool q.hf)).setCell ⟨w.heap.size + 1, 12, none⟩ (.string q.fr))) := hf2
   have HGG : Hid ((W5.setCell ⟨w.heap.size, 10, none⟩ (.string wt)).grownBy ((((((((((((((W5.setCell ⟨w.heap.size, 10, none⟩ (.string wt)).setCell ⟨w.heap.size + 1, 0, none⟩ (.string q.sc)).setCell ⟨w.heap.size + 1, 1, none⟩ (.string q.us)).setCell ⟨w.heap.size + 1, 2, none⟩ (.string q.pw)).setCell ⟨w.heap.size + 1, 3, none⟩ (.int .i64 q.hk)).setCell ⟨w.heap.size + 1, 4, none⟩ (.string q.hn)).setCell ⟨w.heap.size + 1, 5, none⟩ (.int .i64 q.ha)).setCell ⟨w.heap.size + 1, 6, none⟩ (.int .i64 q.po)).setCell ⟨w.heap.size + 1, 7, none⟩ (.slice a n c)).setCell ⟨w.heap.size + 1, 8, none⟩ (.string q.op)).setCell ⟨w.heap.size + 1, 9, none⟩ (.bool q.hq)).setCell ⟨w.heap.size + 1, 10, none⟩ (.string q.qu)).setCell ⟨w.heap.size + 1, 11, none⟩ (.bool q.hf)).setCell ⟨w.heap.size + 1, 12, none⟩ (.string q.fr)) (some (w.heap.size + 1))) := hf3
   clear hf1 hf2 hf3
   generalize ((((((((((((((W5.setCell ⟨w.heap.size, 10, none⟩ (.string wt)).setCell ⟨w.heap.size + 1, 0, none⟩ (.string q.sc)).setCell ⟨w.heap.size + 1, 1, none⟩ (.string q.us)).setCell ⟨w.heap.size + 1, 2, none⟩ (.string q.pw)).setCell ⟨w.heap.size + 1, 3, none⟩ (.int .i64 q.hk)).setCell ⟨w.heap.size + 1, 4, none⟩ (.string q.hn)).setCell ⟨w.heap.size + 1, 5, none⟩ (.int .i64 q.ha)).setCell ⟨w.heap.size + 1, 6, none⟩ (.int .i64 q.po)).setCell ⟨w.heap.size + 1, 7, none⟩ (.slice a n c)).setCell ⟨w.heap.size + 1, 8, none⟩ (.string q.op)).setCell ⟨w.heap.size + 1, 9, none⟩ (.bool q.hq)).setCell ⟨w.heap.size + 1, 10, none⟩ (.string q.qu)).setCell ⟨w.heap.size + 1, 11, none⟩ (.bool q.hf)).setCell ⟨w.heap.size + 1, 12, none⟩ (.string q.fr)) = W9 at *
   clear c0 c1 c2 c3 c4 c5 c6 c7 c8 c9 c10 c11 c12 z0 z1 z2 z3 z4 z5 z6 z7 z8 z9 z10 z11 z12 y0 y1 y2 y3 y4 y5 y6 y7 y8 y9 y10 y11 y12
   have z0 : W9.cell? ⟨w.heap.size + 1, 0, none⟩ = some (.string q.sc) := HRB.out.cell 0
   have z1 : W9.cell? ⟨w.heap.size + 1, 1, none⟩ = some (.string q.us) := HRB.out.cell 1
   have z2 : W9.cell? ⟨w.heap.size + 1, 2, none⟩ = some (.string q.pw) := HRB.out.cell 2
   have z3 : W9.cell? ⟨w.heap.size + 1, 3, none⟩ = some (.int .i64 q.hk) := HRB.out.cell 3
   have z4 : W9.cell? ⟨w.heap.size + 1, 4, none⟩ = some (.string q.hn) := HRB.out.cell 4
   have z5 : W9.cell? ⟨w.heap.size + 1, 5, none⟩ = some (.int .i64 q.ha) := HRB.out.cell 5
   have z6 : W9.cell? ⟨w.heap.size + 1, 6, none⟩ = some (.int .i64 q.po) := HRB.out.cell 6
   have z7 : W9.cell? ⟨w.heap.size + 1, 7, none⟩ = some (.slice a n c) := HRB.out.cell 7
   have z8 : W9.cell? ⟨w.heap.size + 1, 8, none⟩ = some (.string q.op) := HRB.out.cell 8
   have z9 : W9.cell? ⟨w.heap.size + 1, 9, none⟩ = some (.bool q.hq) := HRB.out.cell 9
   have z10 : W9.cell? ⟨w.heap.size + 1, 10, none⟩ = some (.string q.qu) := HRB.out.cell 10
   have z11 : W9.cell? ⟨w.heap.size + 1, 11, none⟩ = some (.bool q.hf) := HRB.out.cell 11
   have z12 : W9.cell? ⟨w.heap.size + 1, 12, none⟩ = some (.string q.fr) := HRB.out.cell 12
   refine bodyPost_ret (v := .agg #[(.string q.sc), (.string q.us), (.string q.pw), (.int .i64 q.hk), (.string q.hn), (.int .i64 q.ha), (.int .i64 q.po), (.slice a n c), (.string q.op), (.bool q.hq), (.string q.qu), (.bool q.hf), (.string q.fr)]) (by simp [results, Tryz.results138, go_sem, z0, z1, z2, z3, z4, z5, z6, z7, z8, z9, z10, z11, z12]) rfl ?_
   exact ⟨by rw [HQ2.out], HBB.out⟩
 ·have hki : ¬ ((k : Int) < (s.size : Int)) := by omega
  have HT1' : Hid (tail1 p l = p) := by show _ = _; rw [HT1.out, if_neg hkk]
  have HXC : Hid (BX w p (.slice a n c) W1) := HX1.out
  clear HX1 HT1 hx2 CE
  rcases hm0c with ⟨hm0, hmt0⟩ | ⟨hm0, hmz, hb1, hb2⟩
  ·have HDUM : True := trivial
   obtain ⟨q, hq⟩ : ∃ q, q = p := ⟨_, rfl⟩
   have HX : Hid (BX w q (.slice a n c) W1) := by rw [hq]; exact HXC.out
   have HQ : Hid (tailS p l = q) := by show _ = _; rw [HTS.out, HT1'.out, HT2.out, if_pos hm0, hq]
   clear hq HXC HT1' HTS HT2 CQ hm0 hx3 HDUM
   obtain ⟨c0, c1, c2, c3, c4, c5, c6, c7, c8, c9, c10, c11, c12⟩ := HX.out.cells
   obtain ⟨z0, z1, z2, z3, z4, z5, z6, z7, z8, z9, z10, z11, z12⟩ := HX.out.zeros
   obtain ⟨y0, y1, y2, y3, y4, y5, y6, y7, y8, y9, y10, y11, y12⟩ := HX.out.free
   go_wp2
   obtain ⟨hf1, hf2, hf3⟩ := HX.out.fin (.string q.sc) (.string q.us) (.string q.pw) (.int .i64 q.hk) (.string q.hn) (.int .i64 q.ha) (.int .i64 q.po) (.slice a n c) (.string q.op) (.bool q.hq) (.string q.qu) (.bool q.hf) (.string q.fr)
   have HRB : Hid (Blk (w.heap.size + 1) #[(.string q.sc), (.string q.us), (.string q.pw), (.int .i64 q.hk), (.string q.hn), (.int .i64 q.ha), (.int .i64 q.po), (.slice a n c), (.string q.op), (.bool q.hq), (.string q.qu), (.bool q.hf), (.string q.fr)] 31 (((((((((((((W1.setCell ⟨w.heap.size + 1, 0, none⟩ (.string q.sc)).setCell ⟨w.heap.size + 1, 1, none⟩ (.string q.us)).setCell ⟨w.heap.size + 1, 2, none⟩ (.string q.pw)).setCell ⟨w.heap.size + 1, 3, none⟩ (.int .i64 q.hk)).setCell ⟨w.heap.size + 1, 4, none⟩ (.string q.hn)).setCell ⟨w.heap.size + 1, 5, none⟩ (.int .i64 q.ha)).setCell ⟨w.heap.size + 1, 6, none⟩ (.int .i64 q.po)).setCell ⟨w.heap.size + 1, 7, none⟩ (.slice a n c)).setCell ⟨w.heap.size + 1, 8, none⟩ (.string q.op)).setCell ⟨w.heap.size + 1, 9, none⟩ (.bool q.hq)).setCell ⟨w.heap.size + 1, 10, none⟩ (.string q.qu)).setCell ⟨w.heap.size + 1, 11, none⟩ (.bool q.hf)).setCell ⟨w.heap.size + 1, 12, none⟩ (.string q.fr))) := hf1
   have HBB : Hid (Below w.heap.size w (((((((((((((W1.setCell ⟨w.heap.size + 1, 0, none⟩ (.string q.sc)).setCell ⟨w.heap.size + 1, 1, none⟩ (.string q.us)).setCell ⟨w.heap.size + 1, 2, none⟩ (.string q.pw)).setCell ⟨w.heap.size + 1, 3, none⟩ (.int .i64 q.hk)).setCell ⟨w.heap.size + 1, 4, none⟩ (.string q.hn)).setCell ⟨w.heap.size + 1, 5, none⟩ (.int .i64 q.ha)).setCell ⟨w.heap.size + 1, 6, none⟩ (.int .i64 q.po)).setCell ⟨w.heap.size + 1, 7, none⟩ (.slice a n c)).setCell ⟨w.heap.size + 1, 8, none⟩ (.string q.op)).setCell ⟨w.heap.size + 1, 9, none⟩ (.bool q.hq)).setCell ⟨w.heap.size + 1, 10, none⟩ (.string q.qu)).setCell ⟨w.heap.size + 1, 11, none⟩ (.bool q.hf)).setCell ⟨w.heap.size + 1, 12, none⟩ (.string q.fr))) := hf2
   have HGG : Hid (W1.grownBy (((((((((((((W1.setCell ⟨w.heap.size + 1, 0, none⟩ (.string q.sc)).setCell ⟨w.heap.size + 1, 1, none⟩ (.string q.us)).setCell ⟨w.heap.size + 1, 2, none⟩ (.string q.pw)).setCell ⟨w.heap.size + 1, 3, none⟩ (.int .i64 q.hk)).setCell ⟨w.heap.size + 1, 4, none⟩ (.string q.hn)).setCell ⟨w.heap.size + 1, 5, none⟩ (.int .i64 q.ha)).setCell ⟨w.heap.size + 1, 6, none⟩ (.int .i64 q.po)).setCell ⟨w.heap.size + 1, 7, none⟩ (.slice a n c)).setCell ⟨w.heap.size + 1, 8, none⟩ (.string q.op)).setCell ⟨w.heap.size + 1, 9, none⟩ (.bool q.hq)).setCell ⟨w.heap.size + 1, 10, none⟩ (.string q.qu)).setCell ⟨w.heap.size + 1, 11, none⟩ (.bool q.hf)).setCell ⟨w.heap.size + 1, 12, none⟩ (.string q.fr)) (some (w.heap.size + 1))) := hf3
   clear hf1 hf2 hf3
   generalize (((((((((((((W1.setCell ⟨w.heap.size + 1, 0, none⟩ (.string q.sc)).setCell ⟨w.heap.size + 1, 1, none⟩ (.string q.us)).setCell ⟨w.heap.size + 1, 2, none⟩ (.string q.pw)).setCell ⟨w.heap.size + 1, 3, none⟩ (.int .i64 q.hk)).setCell ⟨w.heap.size + 1, 4, none⟩ (.string q.hn)).setCell ⟨w.heap.size + 1, 5, none⟩ (.int .i64 q.ha)).setCell ⟨w.heap.size + 1, 6, none⟩ (.int .i64 q.po)).setCell ⟨w.heap.size + 1, 7, none⟩ (.slice a n c)).setCell ⟨w.heap.size + 1, 8, none⟩ (.string q.op)).setCell ⟨w.heap.size + 1, 9, none⟩ (.bool q.hq)).setCell ⟨w.heap.size + 1, 10, none⟩ (.string q.qu)).setCell ⟨w.heap.size + 1, 11, none⟩ (.bool q.hf)).setCell ⟨w.heap.size + 1, 12, none⟩ (.string q.fr)) = W9 at *
   clear c0 c1 c2 c3 c4 c5 c6 c7 c8 c9 c10 c11 c12 z0 z1 z2 z3 z4 z5 z6 z7 z8 z9 z10 z11 z12 y0 y1 y2 y3 y4 y5 y6 y7 y8 y9 y10 y11 y12
   have z0 : W9.cell? ⟨w.heap.size + 1, 0, none⟩ = some (.string q.sc) := HRB.out.cell 0
   have z1 : W9.cell? ⟨w.heap.size + 1, 1, none⟩ = some (.string q.us) := HRB.out.cell 1
   have z2 : W9.cell? ⟨w.heap.size + 1, 2, none⟩ = some (.string q.pw) := HRB.out.cell 2
   have z3 : W9.cell? ⟨w.heap.size + 1, 3, none⟩ = some (.int .i64 q.hk) := HRB.out.cell 3
   have z4 : W9.cell? ⟨w.heap.size + 1, 4, none⟩ = some (.string q.hn) := HRB.out.cell 4
   have z5 : W9.cell? ⟨w.heap.size + 1, 5, none⟩ = some (.int .i64 q.ha) := HRB.out.cell 5
   have z6 : W9.cell? ⟨w.heap.size + 1, 6, none⟩ = some (.int .i64 q.po) := HRB.out.cell 6
   have z7 : W9.cell? ⟨w.heap.size + 1, 7, none⟩ = some (.slice a n c) := HRB.out.cell 7
   have z8 : W9.cell? ⟨w.heap.size + 1, 8, none⟩ = some (.string q.op) := HRB.out.cell 8
   have z9 : W9.cell? ⟨w.heap.size + 1, 9, none⟩ = some (.bool q.hq) := HRB.out.cell 9
   have z10 : W9.cell? ⟨w.heap.size + 1, 10, none⟩ = some (.string q.qu) := HRB.out.cell 10
   have z11 : W9.cell? ⟨w.heap.size + 1, 11, none⟩ = some (.bool q.hf) := HRB.out.cell 11
   have z12 : W9.cell? ⟨w.heap.size + 1, 12, none⟩ = some (.string q.fr) := HRB.out.cell 12
   refine bodyPost_ret (v := .agg #[(.string q.sc), (.string q.us), (.string q.pw), (.int .i64 q.hk), (.string q.hn), (.int .i64 q.ha), (.int .i64 q.po), (.slice a n c), (.string q.op), (.bool q.hq), (.string q.qu), (.bool q.hf), (.string q.fr)]) (by simp [results, Tryz.results138, go_sem, z0, z1, z2, z3, z4, z5, z6, z7, z8, z9, z10, z11, z12]) rfl ?_
   exact ⟨by rw [HQ.out], HBB.out⟩
  ·have hmi : (1 : Int) ≤ (sm.size : Int) := by omega
   have c9 : W1.cell? ⟨w.heap.size, 9, none⟩ = some (.bool (p).hq) := HXC.out.cells.2.2.2.2.2.2.2.2.2.1
   have f9 : W1.frozen? ⟨w.heap.size, 9, none⟩ = false := HXC.out.bx.free 9
   have HXD : Hid (BX w ({ p with hq := true }) (.slice a n c) (W1.setCell ⟨w.heap.size, 9, none⟩ (.bool true))) := HXC.out.set 9 _ rfl
   have HQ : Hid (tailS p l = { p with hq := true, qu := wt }) := by show _ = _; rw [HTS.out, HT1'.out, HT2.out, if_neg hm0]
   clear HXC HT1' HTS HT2 hm0
   go_wp2_with fail
   refine (CQ.out _).mono ?_
   rintro e W5 ⟨rfl, d5⟩
   have HXE : Hid (BX w ({ p with hq := true }) (.slice a n c) W5) := HXD.out.later d5
   clear d5 HXD CQ c9 f9
   obtain ⟨q, hq⟩ : ∃ q, q = { p with hq := true, qu := wt } := ⟨_, rfl⟩
   have d10 : W5.cell? ⟨w.heap.size, 10, none⟩ = some (.string (p).qu) := HXE.out.cells.2.2.2.2.2.2.2.2.2.2.1
   have f10 : W5.frozen? ⟨w.heap.size, 10, none⟩ = false := HXE.out.bx.free 10
   have HX : Hid (BX w q (.slice a n c) (W5.setCell ⟨w.heap.size, 10, none⟩ (.string wt))) := by rw [hq]; exact HXE.out.set 10 _ rfl
   have HQ2 : Hid (tailS p l = q) := by rw [hq]; exact HQ.out
   clear hq HXE HQ hx3 hmz hmi hb1 hb2
   obtain ⟨c0, c1, c2, c3, c4, c5, c6, c7, c8, c9, c10, c11, c12⟩ := HX.out.cells
   obtain ⟨z0, z1, z2, z3, z4, z5, z6, z7, z8, z9, z10, z11, z12⟩ := HX.out.zeros
   obtain ⟨y0, y1, y2, y3, y4, y5, y6, y7, y8, y9, y10, y11, y12⟩ := HX.out.free
   go_wp2
   obtain ⟨hf1, hf2, hf3⟩ := HX.out.fin (.string q.sc) (.string q.us) (.string q.pw) (.int .i64 q.hk) (.string q.hn) (.int .i64 q.ha) (.int .i64 q.po) (.slice a n c) (.string q.op) (.bool q.hq) (.string q.qu) (.bool q.hf) (.string q.fr)
   have HRB : Hid (Blk (w.heap.size + 1) #[(.string q.sc), (.string q.us), (.string q.pw), (.int .i64 q.hk), (.string q.hn), (.int .i64 q.ha), (.int .i64 q.po), (.slice a n c), (.string q.op), (.bool q.hq), (.string q.qu), (.bool q.hf), (.string q.fr)] 31 ((((((((((((((W5.setCell ⟨w.heap.size, 10, none⟩ (.string wt)).setCell ⟨w.heap.size + 1, 0, none⟩ (.string q.sc)).setCell ⟨w.heap.size + 1, 1, none⟩ (.string q.us)).setCell ⟨w.heap.size + 1, 2, none⟩ (.string q.pw)).setCell ⟨w.heap.size + 1, 3, none⟩ (.int .i64 q.hk)).setCell ⟨w.heap.size + 1, 4, none⟩ (.string q.hn)).setCell ⟨w.heap.size + 1, 5, none⟩ (.int .i64 q.ha)).setCell ⟨w.heap.size + 1, 6, none⟩ (.int .i64 q.po)).setCell ⟨w.heap.size + 1, 7, none⟩ (.slice a n c)).setCell ⟨w.heap.size + 1, 8, none⟩ (.string q.op)).setCell ⟨w.heap.size + 1, 9, none⟩ (.bool q.hq)).setCell ⟨w.heap.size + 1, 10, none⟩ (.string q.qu)).setCell ⟨w.heap.size + 1, 11, none⟩ (.bool q.hf)).setCell ⟨w.heap.size + 1, 12, none⟩ (.string q.fr))) := hf1
   have HBB : Hid (Below w.heap.size w ((((((((((((((W5.setCell ⟨w.heap.size, 10, none⟩ (.string wt)).setCell ⟨w.heap.size + 1, 0, none⟩ (.string q.sc)).setCell ⟨w.heap.size + 1, 1, none⟩ (.string q.us)).setCell ⟨w.heap.size + 1, 2, none⟩ (.string q.pw)).setCell ⟨w.heap.size + 1, 3, none⟩ (.int .i64 q.hk)).setCell ⟨w.heap.size + 1, 4, none⟩ (.string q.hn)).setCell ⟨w.heap.size + 1, 5, none⟩ (.int .i64 q.ha)).setCell ⟨w.heap.size + 1, 6, none⟩ (.int .i64 q.po)).setCell ⟨w.heap.size + 1, 7, none⟩ (.slice a n c)).setCell ⟨w.heap.size + 1, 8, none⟩ (.string q.op)).setCell ⟨w.heap.size + 1, 9, none⟩ (.bool q.hq)).setCell ⟨w.heap.size + 1, 10, none⟩ (.string q.qu)).setCell ⟨w.heap.size + 1, 11, none⟩ (.bool q.hf)).setCell ⟨w.heap.size + 1, 12, none⟩ (.string q.fr))) := hf2
   have HGG : Hid ((W5.setCell ⟨w.heap.size, 10, none⟩ (.string wt)).grownBy ((((((((((((((W5.setCell ⟨w.heap.size, 10, none⟩ (.string wt)).setCell ⟨w.heap.size + 1, 0, none⟩ (.string q.sc)).setCell ⟨w.heap.size + 1, 1, none⟩ (.string q.us)).setCell ⟨w.heap.size + 1, 2, none⟩ (.string q.pw)).setCell ⟨w.heap.size + 1, 3, none⟩ (.int .i64 q.hk)).setCell ⟨w.heap.size + 1, 4, none⟩ (.string q.hn)).setCell ⟨w.heap.size + 1, 5, none⟩ (.int .i64 q.ha)).setCell ⟨w.heap.size + 1, 6, none⟩ (.int .i64 q.po)).setCell ⟨w.heap.size + 1, 7, none⟩ (.slice a n c)).setCell ⟨w.heap.size + 1, 8, none⟩ (.string q.op)).setCell ⟨w.heap.size + 1, 9, none⟩ (.bool q.hq)).setCell ⟨w.heap.size + 1, 10, none⟩ (.string q.qu)).setCell ⟨w.heap.size + 1, 11, none⟩ (.bool q.hf)).setCell ⟨w.heap.size + 1, 12, none⟩ (.string q.fr)) (some (w.heap.size + 1))) := hf3
   clear hf1 hf2 hf3
   generalize ((((((((((((((W5.setCell ⟨w.heap.size, 10, none⟩ (.string wt)).setCell ⟨w.heap.size + 1, 0, none⟩ (.string q.sc)).setCell ⟨w.heap.size + 1, 1, none⟩ (.string q.us)).setCell ⟨w.heap.size + 1, 2, none⟩ (.string q.pw)).setCell ⟨w.heap.size + 1, 3, none⟩ (.int .i64 q.hk)).setCell ⟨w.heap.size + 1, 4, none⟩ (.string q.hn)).setCell ⟨w.heap.size + 1, 5, none⟩ (.int .i64 q.ha)).setCell ⟨w.heap.size + 1, 6, none⟩ (.int .i64 q.po)).setCell ⟨w.heap.size + 1, 7, none⟩ (.slice a n c)).setCell ⟨w.heap.size + 1, 8, none⟩ (.string q.op)).setCell ⟨w.heap.size + 1, 9, none⟩ (.bool q.hq)).setCell ⟨w.heap.size + 1, 10, none⟩ (.string q.qu)).setCell ⟨w.heap.size + 1, 11, none⟩ (.bool q.hf)).setCell ⟨w.heap.size + 1, 12, none⟩ (.string q.fr)) = W9 at *
   clear c0 c1 c2 c3 c4 c5 c6 c7 c8 c9 c10 c11 c12 z0 z1 z2 z3 z4 z5 z6 z7 z8 z9 z10 z11 z12 y0 y1 y2 y3 y4 y5 y6 y7 y8 y9 y10 y11 y12
   have z0 : W9.cell? ⟨w.heap.size + 1, 0, none⟩ = some (.string q.sc) := HRB.out.cell 0
   have z1 : W9.cell? ⟨w.heap.size + 1, 1, none⟩ = some (.string q.us) := HRB.out.cell 1
   have z2 : W9.cell? ⟨w.heap.size + 1, 2, none⟩ = some (.string q.pw) := HRB.out.cell 2
   have z3 : W9.cell? ⟨w.heap.size + 1, 3, none⟩ = some (.int .i64 q.hk) := HRB.out.cell 3
   have z4 : W9.cell? ⟨w.heap.size + 1, 4, none⟩ = some (.string q.hn) := HRB.out.cell 4
   have z5 : W9.cell? ⟨w.heap.size + 1, 5, none⟩ = some (.int .i64 q.ha) := HRB.out.cell 5
   have z6 : W9.cell? ⟨w.heap.size + 1, 6, none⟩ = some (.int .i64 q.po) := HRB.out.cell 6
   have z7 : W9.cell? ⟨w.heap.size + 1, 7, none⟩ = some (.slice a n c) := HRB.out.cell 7
   have z8 : W9.cell? ⟨w.heap.size + 1, 8, none⟩ = some (.string q.op) := HRB.out.cell 8
   have z9 : W9.cell? ⟨w.heap.size + 1, 9, none⟩ = some (.bool q.hq) := HRB.out.cell 9
   have z10 : W9.cell? ⟨w.heap.size + 1, 10, none⟩ = some (.string q.qu) := HRB.out.cell 10
   have z11 : W9.cell? ⟨w.heap.size + 1, 11, none⟩ = some (.bool q.hf) := HRB.out.cell 11
   have z12 : W9.cell? ⟨w.heap.size + 1, 12, none⟩ = some (.string q.fr) := HRB.out.cell 12
   refine bodyPost_ret (v := .agg #[(.string q.sc), (.string q.us), (.string q.pw), (.int .i64 q.hk), (.string q.hn), (.int .i64 q.ha), (.int .i64 q.po), (.slice a n c), (.string q.op), (.bool q.hq), (.string q.qu), (.bool q.hf), (.string q.fr)]) (by simp [results, Tryz.results138, go_sem, z0, z1, z2, z3, z4, z5, z6, z7, z8, z9, z10, z11, z12]) rfl ?_
   exact ⟨by rw [HQ2.out], HBB.out⟩
def whoS (p : P) (l : List UInt8) : P := if (upL [58] l).length < l.length then { p with us := wrT 4 (upL [58] l), pw := wrT 4 (l.drop ((upL [58] l).length + 1)) } else { p with us := wrT 4 (upL [58] l) }
theorem l3Who (p : P) (a : Option Addr) (n c : Nat) (l : List UInt8) (w : World) (hl : l.length ≤ 1000) :
  Calls Tryz.prog 185 #[.agg (p.cells (.slice a n c)), .string (mk l)] w fun e w' => e = .returned (.agg ((whoS p l).cells (.slice a n c))) ∧ Below w.heap.size w w' := by
 have H0 : Hid (BX w p (.slice a n c) ((w.alloc (.cells (p.cells (.slice a n c)) 31)).alloc (.cells zeroC 31))) := BX.start w p (.slice a n c)
 unfold P.cells zeroC at H0
 obtain ⟨s, hs⟩ : ∃ s, s = mk l := ⟨_, rfl⟩
 have hss : s.size = l.length := by rw [hs, mk_size]
 obtain ⟨k, hk⟩ : ∃ k, k = (upL [58] l).length := ⟨_, rfl⟩
 have hkl : k ≤ l.length := by rw [hk]; exact upL_le _ _
 have CA : Hid (∀ W, Calls Tryz.prog 136 #[.string s, .string ⟨#[58]⟩] W fun e w' => e = .returned (.int .i64 (k : Int)) ∧ Below W.heap.size W w') := fun W => by rw [hk, hs]; exact atC [58] l W (by omega) (by decide)
 obtain ⟨sm, hsm⟩ : ∃ sm, sm = mk (upL [58] l) := ⟨_, rfl⟩
 have hx1 : s.extract 0 k = sm := by rw [hs, hsm, ext_takeM l k hkl, hk, up_take]
 obtain ⟨wu, hwu⟩ : ∃ wu, wu = wrT 4 (upL [58] l) := ⟨_, rfl⟩
 obtain ⟨sd, hsd⟩ : ∃ sd, sd = mk (l.drop (k + 1)) := ⟨_, rfl⟩
 obtain ⟨wd, hwd⟩ : ∃ wd, wd = wrT 4 (l.drop (k + 1)) := ⟨_, rfl⟩
 have hx2 : s.extract (k + 1) s.size = sd := by rw [hs, hsd]; exact ext_dropM l (k + 1)
 have CE : Hid (∀ W, Calls Tryz.prog 137 #[.int .i64 4, .string sm] W fun e w' => e = .returned (.string wu) ∧ Below W.heap.size W w') := fun W => by rw [hsm, hwu]; exact encC 4 _ W (by have := upL_le [58] l; omega)
 have CQ : Hid (∀ W, Calls Tryz.prog 137 #[.int .i64 4, .string sd] W fun e w' => e = .returned (.string wd) ∧ Below W.heap.size W w') := fun W => by rw [hsd, hwd]; exact encC 4 _ W (by rw [List.length_drop]; omega)
 have HW : Hid (whoS p l = if k < s.size then { p with us := wu, pw := wd } else { p with us := wu }) := by show _ = _; rw [hwd, hwu, hss, hk]; rfl
 have hsz : s.size ≤ 1000 := by omega
 have hks : k ≤ s.size := by omega
 rw [← hs]
 clear hk hwu hwd hsd hsm hs hss hkl
 unfold P.cells
 go_enter Tryz.func185, Tryz.ntmps185
 go_wp2_with fail
 refine (CA.out _).mono ?_
 rintro e W1 ⟨rfl, d1⟩
 have HX1 : Hid (BX w p (.slice a n c) W1) := H0.out.later d1
 clear d1 H0 CA
 go_wp2_with fail
 refine (CE.out _).mono ?_
 rintro e W2 ⟨rfl, d2⟩
 have HX2 : Hid (BX w p (.slice a n c) W2) := HX1.out.later d2
 have d1' : W2.cell? ⟨w.heap.size, 1, none⟩ = some (.string p.us) := HX2.out.cells.2.1
 have f1' : W2.frozen? ⟨w.heap.size, 1, none⟩ = false := HX2.out.bx.free 1
 have HX3 : Hid (BX w { p with us := wu } (.slice a n c) (W2.setCell ⟨w.heap.size, 1, none⟩ (.string wu))) := HX2.out.set 1 _ rfl
 clear d2 HX1 HX2 CE
 by_cases hkk : k < s.size
 ·have hki : (k : Int) < (s.size : Int) := by omega
  have HWW : Hid (whoS p l = { p with us := wu, pw := wd }) := by show _ = _; rw [HW.out, if_pos hkk]
  clear HW
  go_wp2_with fail
  refine (CQ.out _).mono ?_
  rintro e W4 ⟨rfl, d4⟩
  have HX4 : Hid (BX w { p with us := wu } (.slice a n c) W4) := HX3.out.later d4
  have d2' : W4.cell? ⟨w.heap.size, 2, none⟩ = some (.string p.pw) := HX4.out.cells.2.2.1
  have f2' : W4.frozen? ⟨w.heap.size, 2, none⟩ = false := HX4.out.bx.free 2
  obtain ⟨q, hq⟩ : ∃ q, q = { p with us := wu, pw := wd } := ⟨_, rfl⟩
  have HX : Hid (BX w q (.slice a n c) (W4.setCell ⟨w.heap.size, 2, none⟩ (.string wd))) := by rw [hq]; exact HX4.out.set 2 _ rfl
  have HQ : Hid (whoS p l = q) := by rw [hq]; exact HWW.out
  clear hq HX4 HX3 d4 CQ HWW d1' f1'
  obtain ⟨c0, c1, c2, c3, c4, c5, c6, c7, c8, c9, c10, c11, c12⟩ := HX.out.cells
  obtain ⟨z0, z1, z2, z3, z4, z5, z6, z7, z8, z9, z10, z11, z12⟩ := HX.out.zeros
  obtain ⟨y0, y1, y2, y3, y4, y5, y6, y7, y8, y9, y10, y11, y12⟩ := HX.out.free
  go_wp2
  obtain ⟨hf1, hf2, hf3⟩ := HX.out.fin (.string q.sc) (.string q.us) (.string q.pw) (.int .i64 q.hk) (.string q.hn) (.int .i64 q.ha) (.int .i64 q.po) (.slice a n c) (.string q.op) (.bool q.hq) (.string q.qu) (.bool q.hf) (.string q.fr)
  have HRB : Hid (Blk (w.heap.size + 1) #[(.string q.sc), (.string q.us), (.string q.pw), (.int .i64 q.hk), (.string q.hn), (.int .i64 q.ha), (.int .i64 q.po), (.slice a n c), (.string q.op), (.bool q.hq), (.string q.qu), (.bool q.hf), (.string q.fr)] 31 ((((((((((((((W4.setCell ⟨w.heap.size, 2, none⟩ (.string wd)).setCell ⟨w.heap.size + 1, 0, none⟩ (.string q.sc)).setCell ⟨w.heap.size + 1, 1, none⟩ (.string q.us)).setCell ⟨w.heap.size + 1, 2, none⟩ (.string q.pw)).setCell ⟨w.heap.size + 1, 3, none⟩ (.int .i64 q.hk)).setCell ⟨w.heap.size + 1, 4, none⟩ (.string q.hn)).setCell ⟨w.heap.size + 1, 5, none⟩ (.int .i64 q.ha)).setCell ⟨w.heap.size + 1, 6, none⟩ (.int .i64 q.po)).setCell ⟨w.heap.size + 1, 7, none⟩ (.slice a n c)).setCell ⟨w.heap.size + 1, 8, none⟩ (.string q.op)).setCell ⟨w.heap.size + 1, 9, none⟩ (.bool q.hq)).setCell ⟨w.heap.size + 1, 10, none⟩ (.string q.qu)).setCell ⟨w.heap.size + 1, 11, none⟩ (.bool q.hf)).setCell ⟨w.heap.size + 1, 12, none⟩ (.string q.fr))) := hf1
  have HBB : Hid (Below w.heap.size w ((((((((((((((W4.setCell ⟨w.heap.size, 2, none⟩ (.string wd)).setCell ⟨w.heap.size + 1, 0, none⟩ (.string q.sc)).setCell ⟨w.heap.size + 1, 1, none⟩ (.string q.us)).setCell ⟨w.heap.size + 1, 2, none⟩ (.string q.pw)).setCell ⟨w.heap.size + 1, 3, none⟩ (.int .i64 q.hk)).setCell ⟨w.heap.size + 1, 4, none⟩ (.string q.hn)).setCell ⟨w.heap.size + 1, 5, none⟩ (.int .i64 q.ha)).setCell ⟨w.heap.size + 1, 6, none⟩ (.int .i64 q.po)).setCell ⟨w.heap.size + 1, 7, none⟩ (.slice a n c)).setCell ⟨w.heap.size + 1, 8, none⟩ (.string q.op)).setCell ⟨w.heap.size + 1, 9, none⟩ (.bool q.hq)).setCell ⟨w.heap.size + 1, 10, none⟩ (.string q.qu)).setCell ⟨w.heap.size + 1, 11, none⟩ (.bool q.hf)).setCell ⟨w.heap.size + 1, 12, none⟩ (.string q.fr))) := hf2
  have HGG : Hid ((W4.setCell ⟨w.heap.size, 2, none⟩ (.string wd)).grownBy ((((((((((((((W4.setCell ⟨w.heap.size, 2, none⟩ (.string wd)).setCell ⟨w.heap.size + 1, 0, none⟩ (.string q.sc)).setCell ⟨w.heap.size + 1, 1, none⟩ (.string q.us)).setCell ⟨w.heap.size + 1, 2, none⟩ (.string q.pw)).setCell ⟨w.heap.size + 1, 3, none⟩ (.int .i64 q.hk)).setCell ⟨w.heap.size + 1, 4, none⟩ (.string q.hn)).setCell ⟨w.heap.size + 1, 5, none⟩ (.int .i64 q.ha)).setCell ⟨w.heap.size + 1, 6, none⟩ (.int .i64 q.po)).setCell ⟨w.heap.size + 1, 7, none⟩ (.slice a n c)).setCell ⟨w.heap.size + 1, 8, none⟩ (.string q.op)).setCell ⟨w.heap.size + 1, 9, none⟩ (.bool q.hq)).setCell ⟨w.heap.size + 1, 10, none⟩ (.string q.qu)).setCell ⟨w.heap.size + 1, 11, none⟩ (.bool q.hf)).setCell ⟨w.heap.size + 1, 12, none⟩ (.string q.fr)) (some (w.heap.size + 1))) := hf3
  clear hf1 hf2 hf3
  generalize ((((((((((((((W4.setCell ⟨w.heap.size, 2, none⟩ (.string wd)).setCell ⟨w.heap.size + 1, 0, none⟩ (.string q.sc)).setCell ⟨w.heap.size + 1, 1, none⟩ (.string q.us)).setCell ⟨w.heap.size + 1, 2, none⟩ (.string q.pw)).setCell ⟨w.heap.size + 1, 3, none⟩ (.int .i64 q.hk)).setCell ⟨w.heap.size + 1, 4, none⟩ (.string q.hn)).setCell ⟨w.heap.size + 1, 5, none⟩ (.int .i64 q.ha)).setCell ⟨w.heap.size + 1, 6, none⟩ (.int .i64 q.po)).setCell ⟨w.heap.size + 1, 7, none⟩ (.slice a n c)).setCell ⟨w.heap.size + 1, 8, none⟩ (.string q.op)).setCell ⟨w.heap.size + 1, 9, none⟩ (.bool q.hq)).setCell ⟨w.heap.size + 1, 10, none⟩ (.string q.qu)).setCell ⟨w.heap.size + 1, 11, none⟩ (.bool q.hf)).setCell ⟨w.heap.size + 1, 12, none⟩ (.string q.fr)) = W9 at *
  clear c0 c1 c2 c3 c4 c5 c6 c7 c8 c9 c10 c11 c12 z0 z1 z2 z3 z4 z5 z6 z7 z8 z9 z10 z11 z12 y0 y1 y2 y3 y4 y5 y6 y7 y8 y9 y10 y11 y12
  have z0 : W9.cell? ⟨w.heap.size + 1, 0, none⟩ = some (.string q.sc) := HRB.out.cell 0
  have z1 : W9.cell? ⟨w.heap.size + 1, 1, none⟩ = some (.string q.us) := HRB.out.cell 1
  have z2 : W9.cell? ⟨w.heap.size + 1, 2, none⟩ = some (.string q.pw) := HRB.out.cell 2
  have z3 : W9.cell? ⟨w.heap.size + 1, 3, none⟩ = some (.int .i64 q.hk) := HRB.out.cell 3
  have z4 : W9.cell? ⟨w.heap.size + 1, 4, none⟩ = some (.string q.hn) := HRB.out.cell 4
  have z5 : W9.cell? ⟨w.heap.size + 1, 5, none⟩ = some (.int .i64 q.ha) := HRB.out.cell 5
  have z6 : W9.cell? ⟨w.heap.size + 1, 6, none⟩ = some (.int .i64 q.po) := HRB.out.cell 6
  have z7 : W9.cell? ⟨w.heap.size + 1, 7, none⟩ = some (.slice a n c) := HRB.out.cell 7
  have z8 : W9.cell? ⟨w.heap.size + 1, 8, none⟩ = some (.string q.op) := HRB.out.cell 8
  have z9 : W9.cell? ⟨w.heap.size + 1, 9, none⟩ = some (.bool q.hq) := HRB.out.cell 9
  have z10 : W9.cell? ⟨w.heap.size + 1, 10, none⟩ = some (.string q.qu) := HRB.out.cell 10
  have z11 : W9.cell? ⟨w.heap.size + 1, 11, none⟩ = some (.bool q.hf) := HRB.out.cell 11
  have z12 : W9.cell? ⟨w.heap.size + 1, 12, none⟩ = some (.string q.fr) := HRB.out.cell 12
  refine bodyPost_ret (v := .agg #[(.string q.sc), (.string q.us), (.string q.pw), (.int .i64 q.hk), (.string q.hn), (.int .i64 q.ha), (.int .i64 q.po), (.slice a n c), (.string q.op), (.bool q.hq), (.string q.qu), (.bool q.hf), (.string q.fr)]) (by simp [results, Tryz.results185, go_sem, z0, z1, z2, z3, z4, z5, z6, z7, z8, z9, z10, z11, z12]) rfl ?_
  exact ⟨by rw [HQ.out], HBB.out⟩
 ·have hki : ¬ ((k : Int) < (s.size : Int)) := by omega
  obtain ⟨q, hq⟩ : ∃ q, q = { p with us := wu } := ⟨_, rfl⟩
  have HX : Hid (BX w q (.slice a n c) (W2.setCell ⟨w.heap.size, 1, none⟩ (.string wu))) := by rw [hq]; exact HX3.out
  have HQ : Hid (whoS p l = q) := by show _ = _; rw [HW.out, if_neg hkk, hq]
  clear hq HX3 CQ HW
  obtain ⟨c0, c1, c2, c3, c4, c5, c6, c7, c8, c9, c10, c11, c12⟩ := HX.out.cells
  obtain ⟨z0, z1, z2, z3, z4, z5, z6, z7, z8, z9, z10, z11, z12⟩ := HX.out.zeros
  obtain ⟨y0, y1, y2, y3, y4, y5, y6, y7, y8, y9, y10, y11, y12⟩ := HX.out.free
  go_wp2
  obtain ⟨hf1, hf2, hf3⟩ := HX.out.fin (.string q.sc) (.string q.us) (.string q.pw) (.int .i64 q.hk) (.string q.hn) (.int .i64 q.ha) (.int .i64 q.po) (.slice a n c) (.string q.op) (.bool q.hq) (.string q.qu) (.bool q.hf) (.string q.fr)
  have HRB : Hid (Blk (w.heap.size + 1) #[(.string q.sc), (.string q.us), (.string q.pw), (.int .i64 q.hk), (.string q.hn), (.int .i64 q.ha), (.int .i64 q.po), (.slice a n c), (.string q.op), (.bool q.hq), (.string q.qu), (.bool q.hf), (.string q.fr)] 31 ((((((((((((((W2.setCell ⟨w.heap.size, 1, none⟩ (.string wu)).setCell ⟨w.heap.size + 1, 0, none⟩ (.string q.sc)).setCell ⟨w.heap.size + 1, 1, none⟩ (.string q.us)).setCell ⟨w.heap.size + 1, 2, none⟩ (.string q.pw)).setCell ⟨w.heap.size + 1, 3, none⟩ (.int .i64 q.hk)).setCell ⟨w.heap.size + 1, 4, none⟩ (.string q.hn)).setCell ⟨w.heap.size + 1, 5, none⟩ (.int .i64 q.ha)).setCell ⟨w.heap.size + 1, 6, none⟩ (.int .i64 q.po)).setCell ⟨w.heap.size + 1, 7, none⟩ (.slice a n c)).setCell ⟨w.heap.size + 1, 8, none⟩ (.string q.op)).setCell ⟨w.heap.size + 1, 9, none⟩ (.bool q.hq)).setCell ⟨w.heap.size + 1, 10, none⟩ (.string q.qu)).setCell ⟨w.heap.size + 1, 11, none⟩ (.bool q.hf)).setCell ⟨w.heap.size + 1, 12, none⟩ (.string q.fr))) := hf1
  have HBB : Hid (Below w.heap.size w ((((((((((((((W2.setCell ⟨w.heap.size, 1, none⟩ (.string wu)).setCell ⟨w.heap.size + 1, 0, none⟩ (.string q.sc)).setCell ⟨w.heap.size + 1, 1, none⟩ (.string q.us)).setCell ⟨w.heap.size + 1, 2, none⟩ (.string q.pw)).setCell ⟨w.heap.size + 1, 3, none⟩ (.int .i64 q.hk)).setCell ⟨w.heap.size + 1, 4, none⟩ (.string q.hn)).setCell ⟨w.heap.size + 1, 5, none⟩ (.int .i64 q.ha)).setCell ⟨w.heap.size + 1, 6, none⟩ (.int .i64 q.po)).setCell ⟨w.heap.size + 1, 7, none⟩ (.slice a n c)).setCell ⟨w.heap.size + 1, 8, none⟩ (.string q.op)).setCell ⟨w.heap.size + 1, 9, none⟩ (.bool q.hq)).setCell ⟨w.heap.size + 1, 10, none⟩ (.string q.qu)).setCell ⟨w.heap.size + 1, 11, none⟩ (.bool q.hf)).setCell ⟨w.heap.size + 1, 12, none⟩ (.string q.fr))) := hf2
  have HGG : Hid ((W2.setCell ⟨w.heap.size, 1, none⟩ (.string wu)).grownBy ((((((((((((((W2.setCell ⟨w.heap.size, 1, none⟩ (.string wu)).setCell ⟨w.heap.size + 1, 0, none⟩ (.string q.sc)).setCell ⟨w.heap.size + 1, 1, none⟩ (.string q.us)).setCell ⟨w.heap.size + 1, 2, none⟩ (.string q.pw)).setCell ⟨w.heap.size + 1, 3, none⟩ (.int .i64 q.hk)).setCell ⟨w.heap.size + 1, 4, none⟩ (.string q.hn)).setCell ⟨w.heap.size + 1, 5, none⟩ (.int .i64 q.ha)).setCell ⟨w.heap.size + 1, 6, none⟩ (.int .i64 q.po)).setCell ⟨w.heap.size + 1, 7, none⟩ (.slice a n c)).setCell ⟨w.heap.size + 1, 8, none⟩ (.string q.op)).setCell ⟨w.heap.size + 1, 9, none⟩ (.bool q.hq)).setCell ⟨w.heap.size + 1, 10, none⟩ (.string q.qu)).setCell ⟨w.heap.size + 1, 11, none⟩ (.bool q.hf)).setCell ⟨w.heap.size + 1, 12, none⟩ (.string q.fr)) (some (w.heap.size + 1))) := hf3
  clear hf1 hf2 hf3
  generalize ((((((((((((((W2.setCell ⟨w.heap.size, 1, none⟩ (.string wu)).setCell ⟨w.heap.size + 1, 0, none⟩ (.string q.sc)).setCell ⟨w.heap.size + 1, 1, none⟩ (.string q.us)).setCell ⟨w.heap.size + 1, 2, none⟩ (.string q.pw)).setCell ⟨w.heap.size + 1, 3, none⟩ (.int .i64 q.hk)).setCell ⟨w.heap.size + 1, 4, none⟩ (.string q.hn)).setCell ⟨w.heap.size + 1, 5, none⟩ (.int .i64 q.ha)).setCell ⟨w.heap.size + 1, 6, none⟩ (.int .i64 q.po)).setCell ⟨w.heap.size + 1, 7, none⟩ (.slice a n c)).setCell ⟨w.heap.size + 1, 8, none⟩ (.string q.op)).setCell ⟨w.heap.size + 1, 9, none⟩ (.bool q.hq)).setCell ⟨w.heap.size + 1, 10, none⟩ (.string q.qu)).setCell ⟨w.heap.size + 1, 11, none⟩ (.bool q.hf)).setCell ⟨w.heap.size + 1, 12, none⟩ (.string q.fr)) = W9 at *
  clear c0 c1 c2 c3 c4 c5 c6 c7 c8 c9 c10 c11 c12 z0 z1 z2 z3 z4 z5 z6 z7 z8 z9 z10 z11 z12 y0 y1 y2 y3 y4 y5 y6 y7 y8 y9 y10 y11 y12
  have z0 : W9.cell? ⟨w.heap.size + 1, 0, none⟩ = some (.string q.sc) := HRB.out.cell 0
  have z1 : W9.cell? ⟨w.heap.size + 1, 1, none⟩ = some (.string q.us) := HRB.out.cell 1
  have z2 : W9.cell? ⟨w.heap.size + 1, 2, none⟩ = some (.string q.pw) := HRB.out.cell 2
  have z3 : W9.cell? ⟨w.heap.size + 1, 3, none⟩ = some (.int .i64 q.hk) := HRB.out.cell 3
  have z4 : W9.cell? ⟨w.heap.size + 1, 4, none⟩ = some (.string q.hn) := HRB.out.cell 4
  have z5 : W9.cell? ⟨w.heap.size + 1, 5, none⟩ = some (.int .i64 q.ha) := HRB.out.cell 5
  have z6 : W9.cell? ⟨w.heap.size + 1, 6, none⟩ = some (.int .i64 q.po) := HRB.out.cell 6
  have z7 : W9.cell? ⟨w.heap.size + 1, 7, none⟩ = some (.slice a n c) := HRB.out.cell 7
  have z8 : W9.cell? ⟨w.heap.size + 1, 8, none⟩ = some (.string q.op) := HRB.out.cell 8
  have z9 : W9.cell? ⟨w.heap.size + 1, 9, none⟩ = some (.bool q.hq) := HRB.out.cell 9
  have z10 : W9.cell? ⟨w.heap.size + 1, 10, none⟩ = some (.string q.qu) := HRB.out.cell 10
  have z11 : W9.cell? ⟨w.heap.size + 1, 11, none⟩ = some (.bool q.hf) := HRB.out.cell 11
  have z12 : W9.cell? ⟨w.heap.size + 1, 12, none⟩ = some (.string q.fr) := HRB.out.cell 12
  refine bodyPost_ret (v := .agg #[(.string q.sc), (.string q.us), (.string q.pw), (.int .i64 q.hk), (.string q.hn), (.int .i64 q.ha), (.int .i64 q.po), (.slice a n c), (.string q.op), (.bool q.hq), (.string q.qu), (.bool q.hf), (.string q.fr)]) (by simp [results, Tryz.results185, go_sem, z0, z1, z2, z3, z4, z5, z6, z7, z8, z9, z10, z11, z12]) rfl ?_
  exact ⟨by rw [HQ.out], HBB.out⟩
end Go.Proofs.YtnfhajhdpdidlaaGreatDoor
end
