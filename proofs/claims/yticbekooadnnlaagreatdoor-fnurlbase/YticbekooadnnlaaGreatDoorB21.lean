/- spec.l3Tail, spec.l3Who. spec.l1Cut and l2Parts: the pieces of a text, the parts of a host's text. spec.l1In: whether a number lies between two. spec.l3Port. spec.l2Name: whether a text is a host's name. -/
import Derived.Test.YticbekooadnnlaaGreatDoorB20
import Derived.Test.YticbekooadnnlaaGreatDoorB07
import Derived.Test.YticbekooadnnlaaGreatDoorB05
section
set_option linter.unusedVariables false
set_option linter.unusedSimpArgs false
namespace Go.Proofs.YticbekooadnnlaaGreatDoor
open Go.RowKit Go.Shelf

def tail1 (p : P) (l : List UInt8) : P := if (upL [35] l).length < l.length then { p with hf := true, fr := wrT 3 (l.drop ((upL [35] l).length + 1)) } else p
def tail2 (p : P) (m : List UInt8) : P := if m = [] then p else { p with hq := true, qu := wrT 2 m.tail }
/-- What l3Tail answers. -/
def tailS (p : P) (l : List UInt8) : P := tail2 (tail1 p l) (upL [35] l)
theorem up_take (S l : List UInt8) : l.take (upL S l).length = upL S l := by
  have hp : upL S l <+: l := by unfold upL; exact List.takeWhile_prefix _
  exact (List.prefix_iff_eq_take.1 hp).symm
set_option maxHeartbeats 4000000 in
set_option maxRecDepth 100000 in
theorem l3Tail (p : P) (a : Option Addr) (n c : Nat) (l : List UInt8) (w : World) (hl : l.length ≤ 1000) :
    Calls Tryz.prog 80 #[.agg (p.cells (.slice a n c)), .string (mk l)] w fun e w' => e = .returned (.agg ((tailS p l).cells (.slice a n c))) ∧ Below w.heap.size w w' := by
  have H0 : Hid (BX w p (.slice a n c) ((w.alloc (.cells (p.cells (.slice a n c)) 27)).alloc (.cells zeroC 27))) := BX.start w p (.slice a n c)
  unfold P.cells zeroC at H0
  obtain ⟨s, hs⟩ : ∃ s, s = mk l := ⟨_, rfl⟩
  have hss : s.size = l.length := by rw [hs, mk_size]
  obtain ⟨k, hk⟩ : ∃ k, k = (upL [35] l).length := ⟨_, rfl⟩
  have hkl : k ≤ l.length := by rw [hk]; exact upL_le _ _
  have CA : Hid (∀ W, Calls Tryz.prog 78 #[.string s, .string ⟨#[35]⟩] W fun e w' => e = .returned (.int .i64 (k : Int)) ∧ Below W.heap.size W w') := fun W => by rw [hk, hs]; exact atC [35] l W (by omega) (by decide)
  obtain ⟨m, hm⟩ : ∃ m, m = upL [35] l := ⟨_, rfl⟩
  obtain ⟨sm, hsm⟩ : ∃ sm, sm = mk m := ⟨_, rfl⟩
  have hx1 : s.extract 0 k = sm := by rw [hs, hsm, ext_takeM l k hkl, hk, up_take, hm]
  have HTS : Hid (tailS p l = tail2 (tail1 p l) m) := by show _ = _; rw [hm]; rfl
  have hml : m.length ≤ 1000 := by rw [hm]; have := upL_le [35] l; omega
  obtain ⟨sd, hsd⟩ : ∃ sd, sd = mk (l.drop (k + 1)) := ⟨_, rfl⟩
  obtain ⟨wd, hwd⟩ : ∃ wd, wd = wrT 3 (l.drop (k + 1)) := ⟨_, rfl⟩
  have hx2 : s.extract (k + 1) s.size = sd := by rw [hs, hsd]; exact ext_dropM l (k + 1)
  have HT1 : Hid (tail1 p l = if k < s.size then { p with hf := true, fr := wd } else p) := by show _ = _; rw [hwd, hss, hk]; rfl
  have CE : Hid (∀ W, Calls Tryz.prog 79 #[.int .i64 3, .string sd] W fun e w' => e = .returned (.string wd) ∧ Below W.heap.size W w') := fun W => by rw [hsd, hwd]; exact encC 3 _ W (by rw [List.length_drop]; omega)
  obtain ⟨mt, hmt⟩ : ∃ mt, mt = mk m.tail := ⟨_, rfl⟩
  obtain ⟨wt, hwt⟩ : ∃ wt, wt = wrT 2 m.tail := ⟨_, rfl⟩
  have CQ : Hid (∀ W, Calls Tryz.prog 79 #[.int .i64 2, .string mt] W fun e w' => e = .returned (.string wt) ∧ Below W.heap.size W w') := fun W => by rw [hmt, hwt]; exact encC 2 _ W (by rw [List.length_tail]; omega)
  have hx3 : sm.extract 1 sm.size = mt := by rw [hsm, ext_dropM, hmt, List.drop_one]
  have hm0c : (m = [] ∧ sm = ⟨#[]⟩) ∨ (m ≠ [] ∧ 1 ≤ sm.size ∧ (sm.toList == []) = false ∧ sm.toList.isEmpty = false) := by
    by_cases h : m = []
    · left; exact ⟨h, by rw [hsm, h]; rfl⟩
    · right
      have := text_full (mk m) (by rw [mk_data]; exact h)
      refine ⟨h, ?_, by rw [hsm]; exact this.1, by rw [hsm]; exact this.2⟩
      rw [hsm, mk_size]; exact List.length_pos_iff.2 h
  have hsz : s.size ≤ 1000 := by omega
  have hks : k ≤ s.size := by omega
  have HT2 : Hid (∀ r, tail2 r m = if m = [] then r else { r with hq := true, qu := wt }) := by intro r; rw [hwt]; rfl
  rw [← hs]
  clear hk hm hmt hwt hwd hsd hsm hs hss hkl
  unfold P.cells
  go_enter Tryz.func80, Tryz.ntmps80
  go_wp2_with fail
  refine (CA.out _).mono ?_
  rintro e W1 ⟨rfl, d1⟩
  have HX1 : Hid (BX w p (.slice a n c) W1) := H0.out.later d1
  clear d1 H0 CA
  by_cases hkk : k < s.size
  · have hki : (k : Int) < (s.size : Int) := by omega
    have HT1' : Hid (tail1 p l = { p with hf := true, fr := wd }) := by show _ = _; rw [HT1.out, if_pos hkk]
    have c11 : W1.cell? ⟨w.heap.size, 11, none⟩ = some (.bool p.hf) := HX1.out.cells.2.2.2.2.2.2.2.2.2.2.2.1
    have f11 : W1.frozen? ⟨w.heap.size, 11, none⟩ = false := HX1.out.bx.free 11
    have HX2 : Hid (BX w { p with hf := true } (.slice a n c) (W1.setCell ⟨w.heap.size, 11, none⟩ (.bool true))) := HX1.out.set 11 _ rfl
    clear HX1 HT1
    go_wp2_with fail
    refine (CE.out _).mono ?_
    rintro e W3 ⟨rfl, d3⟩
    have HX3 : Hid (BX w { p with hf := true } (.slice a n c) W3) := HX2.out.later d3
    have c12 : W3.cell? ⟨w.heap.size, 12, none⟩ = some (.string p.fr) := HX3.out.cells.2.2.2.2.2.2.2.2.2.2.2.2
    have f12 : W3.frozen? ⟨w.heap.size, 12, none⟩ = false := HX3.out.bx.free 12
    obtain ⟨p1, hp1⟩ : ∃ p1, p1 = { p with hf := true, fr := wd } := ⟨_, rfl⟩
    have HXC0 : Hid (BX w p1 (.slice a n c) (W3.setCell ⟨w.heap.size, 12, none⟩ (.string wd))) := by rw [hp1]; exact HX3.out.set 12 _ rfl
    rw [← hp1] at HT1'
    clear d3 HX2 HX3 CE c11 f11 hp1 hx2
    obtain ⟨W4, hW4⟩ : ∃ W4, W4 = W3.setCell ⟨w.heap.size, 12, none⟩ (.string wd) := ⟨_, rfl⟩
    have HXC : Hid (BX w p1 (.slice a n c) (W3.setCell ⟨w.heap.size, 12, none⟩ (.string wd))) := HXC0.out
    clear HXC0 hW4
    rcases hm0c with ⟨hm0, hmt0⟩ | ⟨hm0, hmz, hb1, hb2⟩
    · have HDUM : True := trivial
      obtain ⟨q, hq⟩ : ∃ q, q = p1 := ⟨_, rfl⟩
      have HX : Hid (BX w q (.slice a n c) (W3.setCell ⟨w.heap.size, 12, none⟩ (.string wd))) := by rw [hq]; exact HXC.out
      have HQ : Hid (tailS p l = q) := by show _ = _; rw [HTS.out, HT1'.out, HT2.out, if_pos hm0, hq]
      clear hq HXC HT1' HTS HT2 CQ hm0 hx3 HDUM
      obtain ⟨c0, c1, c2, c3, c4, c5, c6, c7, c8, c9, c10, c11, c12⟩ := HX.out.cells
      obtain ⟨z0, z1, z2, z3, z4, z5, z6, z7, z8, z9, z10, z11, z12⟩ := HX.out.zeros
      obtain ⟨y0, y1, y2, y3, y4, y5, y6, y7, y8, y9, y10, y11, y12⟩ := HX.out.free
      go_wp2
      obtain ⟨hf1, hf2, hf3⟩ := HX.out.fin (.string q.sc) (.string q.us) (.string q.pw) (.int .i64 q.hk) (.string q.hn) (.int .i64 q.ha) (.int .i64 q.po) (.slice a n c) (.string q.op) (.bool q.hq) (.string q.qu) (.bool q.hf) (.string q.fr)
      have HRB : Hid (Blk (w.heap.size + 1) #[(.string q.sc), (.string q.us), (.string q.pw), (.int .i64 q.hk), (.string q.hn), (.int .i64 q.ha), (.int .i64 q.po), (.slice a n c), (.string q.op), (.bool q.hq), (.string q.qu), (.bool q.hf), (.string q.fr)] 27 ((((((((((((((W3.setCell ⟨w.heap.size, 12, none⟩ (.string wd)).setCell ⟨w.heap.size + 1, 0, none⟩ (.string q.sc)).setCell ⟨w.heap.size + 1, 1, none⟩ (.string q.us)).setCell ⟨w.heap.size + 1, 2, none⟩ (.string q.pw)).setCell ⟨w.heap.size + 1, 3, none⟩ (.int .i64 q.hk)).setCell ⟨w.heap.size + 1, 4, none⟩ (.string q.hn)).setCell ⟨w.heap.size + 1, 5, none⟩ (.int .i64 q.ha)).setCell ⟨w.heap.size + 1, 6, none⟩ (.int .i64 q.po)).setCell ⟨w.heap.size + 1, 7, none⟩ (.slice a n c)).setCell ⟨w.heap.size + 1, 8, none⟩ (.string q.op)).setCell ⟨w.heap.size + 1, 9, none⟩ (.bool q.hq)).setCell ⟨w.heap.size + 1, 10, none⟩ (.string q.qu)).setCell ⟨w.heap.size + 1, 11, none⟩ (.bool q.hf)).setCell ⟨w.heap.size + 1, 12, none⟩ (.string q.fr))) := hf1
      have HBB : Hid (Below w.heap.size w ((((((((((((((W3.setCell ⟨w.heap.size, 12, none⟩ (.string wd)).setCell ⟨w.heap.size + 1, 0, none⟩ (.string q.sc)).setCell ⟨w.heap.size + 1, 1, none⟩ (.string q.us)).setCell ⟨w.heap.size + 1, 2, none⟩ (.string q.pw)).setCell ⟨w.heap.size + 1, 3, none⟩ (.int .i64 q.hk)).setCell ⟨w.heap.size + 1, 4, none⟩ (.string q.hn)).setCell ⟨w.heap.size + 1, 5, none⟩ (.int .i64 q.ha)).setCell ⟨w.heap.size + 1, 6, none⟩ (.int .i64 q.po)).setCell ⟨w.heap.size + 1, 7, none⟩ (.slice a n c)).setCell ⟨w.heap.size + 1, 8, none⟩ (.string q.op)).setCell ⟨w.heap.size + 1, 9, none⟩ (.bool q.hq)).setCell ⟨w.heap.size + 1, 10, none⟩ (.string q.qu)).setCell ⟨w.heap.size + 1, 11, none⟩ (.bool q.hf)).setCell ⟨w.heap.size + 1, 12, none⟩ (.string q.fr))) := hf2
      have HGG : Hid ((W3.setCell ⟨w.heap.size, 12, none⟩ (.string wd)).grownBy ((((((((((((((W3.setCell ⟨w.heap.size, 12, none⟩ (.string wd)).setCell ⟨w.heap.size + 1, 0, none⟩ (.string q.sc)).setCell ⟨w.heap.size + 1, 1, none⟩ (.string q.us)).setCell ⟨w.heap.size + 1, 2, none⟩ (.string q.pw)).setCell ⟨w.heap.size + 1, 3, none⟩ (.int .i64 q.hk)).setCell ⟨w.heap.size + 1, 4, none⟩ (.string q.hn)).setCell ⟨w.heap.size + 1, 5, none⟩ (.int .i64 q.ha)).setCell ⟨w.heap.size + 1, 6, none⟩ (.int .i64 q.po)).setCell ⟨w.heap.size + 1, 7, none⟩ (.slice a n c)).setCell ⟨w.heap.size + 1, 8, none⟩ (.string q.op)).setCell ⟨w.heap.size + 1, 9, none⟩ (.bool q.hq)).setCell ⟨w.heap.size + 1, 10, none⟩ (.string q.qu)).setCell ⟨w.heap.size + 1, 11, none⟩ (.bool q.hf)).setCell ⟨w.heap.size + 1, 12, none⟩ (.string q.fr)) (some (w.heap.size + 1))) := hf3
      clear hf1 hf2 hf3
      generalize ((((((((((((((W3.setCell ⟨w.heap.size, 12, none⟩ (.string wd)).setCell ⟨w.heap.size + 1, 0, none⟩ (.string q.sc)).setCell ⟨w.heap.size + 1, 1, none⟩ (.string q.us)).setCell ⟨w.heap.size + 1, 2, none⟩ (.string q.pw)).setCell ⟨w.heap.size + 1, 3, none⟩ (.int .i64 q.hk)).setCell ⟨w.heap.size + 1, 4, none⟩ (.string q.hn)).setCell ⟨w.heap.size + 1, 5, none⟩ (.int .i64 q.ha)).setCell ⟨w.heap.size + 1, 6, none⟩ (.int .i64 q.po)).setCell ⟨w.heap.size + 1, 7, none⟩ (.slice a n c)).setCell ⟨w.heap.size + 1, 8, none⟩ (.string q.op)).setCell ⟨w.heap.size + 1, 9, none⟩ (.bool q.hq)).setCell ⟨w.heap.size + 1, 10, none⟩ (.string q.qu)).setCell ⟨w.heap.size + 1, 11, none⟩ (.bool q.hf)).setCell ⟨w.heap.size + 1, 12, none⟩ (.string q.fr)) = W9 at *
      clear c0 c1 c2 c3 c4 c5 c6 c7 c8 c9 c10 c11 c12 z0 z1 z2 z3 z4 z5 z6 z7 z8 z9 z10 z11 z12 y0 y1 y2 y3 y4 y5 y6 y7 y8 y9 y10 y11 y12
      have z0 : W9.cell? ⟨w.heap.size + 1, 0, none⟩ = some (.string q.sc) := HRB.out.cell 0
      have z1 : W9.cell? ⟨w.heap.size + 1, 1, none⟩ = some (.string q.us) := HRB.out.cell 1
      have z2 : W9.cell? ⟨w.heap.size + 1, 2, none⟩ = some (.string q.pw) := HRB.out.cell 2
      have z3 : W9.cell? ⟨w.heap.size + 1, 3, none⟩ = some (.int .i64 q.hk) := HRB.out.cell 3
      have z4 : W9.cell? ⟨w.heap.size + 1, 4, none⟩ = some (.string q.hn) := HRB.out.cell 4
      have z5 : W9.cell? ⟨w.heap.size + 1, 5, none⟩ = some (.int .i64 q.ha) := HRB.out.cell 5
      have z6 : W9.cell? ⟨w.heap.size + 1, 6, none⟩ = some (.int .i64 q.po) := HRB.out.cell 6
      have z7 : W9.cell? ⟨w.heap.size + 1, 7, none⟩ = some (.slice a n c) := HRB.out.cell 7
      have z8 : W9.cell? ⟨w.heap.size + 1, 8, none⟩ = some (.string q.op) := HRB.out.cell 8
      have z9 : W9.cell? ⟨w.heap.size + 1, 9, none⟩ = some (.bool q.hq) := HRB.out.cell 9
      have z10 : W9.cell? ⟨w.heap.size + 1, 10, none⟩ = some (.string q.qu) := HRB.out.cell 10
      have z11 : W9.cell? ⟨w.heap.size + 1, 11, none⟩ = some (.bool q.hf) := HRB.out.cell 11
      have z12 : W9.cell? ⟨w.heap.size + 1, 12, none⟩ = some (.string q.fr) := HRB.out.cell 12
      refine bodyPost_ret (v := .agg #[(.string q.sc), (.string q.us), (.string q.pw), (.int .i64 q.hk), (.string q.hn), (.int .i64 q.ha), (.int .i64 q.po), (.slice a n c), (.string q.op), (.bool q.hq), (.string q.qu), (.bool q.hf), (.string q.fr)]) (by simp [results, Tryz.results80, go_sem, z0, z1, z2, z3, z4, z5, z6, z7, z8, z9, z10, z11, z12]) rfl ?_
      exact ⟨by rw [HQ.out], HBB.out⟩
    · have hmi : (1 : Int) ≤ (sm.size : Int) := by omega
      have c9 : (W3.setCell ⟨w.heap.size, 12, none⟩ (.string wd)).cell? ⟨w.heap.size, 9, none⟩ = some (.bool (p1).hq) := HXC.out.cells.2.2.2.2.2.2.2.2.2.1
      have f9 : (W3.setCell ⟨w.heap.size, 12, none⟩ (.string wd)).frozen? ⟨w.heap.size, 9, none⟩ = false := HXC.out.bx.free 9
      have HXD : Hid (BX w ({ p1 with hq := true }) (.slice a n c) ((W3.setCell ⟨w.heap.size, 12, none⟩ (.string wd)).setCell ⟨w.heap.size, 9, none⟩ (.bool true))) := HXC.out.set 9 _ rfl
      have HQ : Hid (tailS p l = { p1 with hq := true, qu := wt }) := by show _ = _; rw [HTS.out, HT1'.out, HT2.out, if_neg hm0]
      clear HXC HT1' HTS HT2 hm0
      go_wp2_with fail
      refine (CQ.out _).mono ?_
      rintro e W5 ⟨rfl, d5⟩
      have HXE : Hid (BX w ({ p1 with hq := true }) (.slice a n c) W5) := HXD.out.later d5
      clear d5 HXD CQ c9 f9
      obtain ⟨q, hq⟩ : ∃ q, q = { p1 with hq := true, qu := wt } := ⟨_, rfl⟩
      have d10 : W5.cell? ⟨w.heap.size, 10, none⟩ = some (.string (p1).qu) := HXE.out.cells.2.2.2.2.2.2.2.2.2.2.1
      have f10 : W5.frozen? ⟨w.heap.size, 10, none⟩ = false := HXE.out.bx.free 10
      have HX : Hid (BX w q (.slice a n c) (W5.setCell ⟨w.heap.size, 10, none⟩ (.string wt))) := by rw [hq]; exact HXE.out.set 10 _ rfl
      have HQ2 : Hid (tailS p l = q) := by rw [hq]; exact HQ.out
      clear hq HXE HQ hx3 hmz hmi hb1 hb2
      obtain ⟨c0, c1, c2, c3, c4, c5, c6, c7, c8, c9, c10, c11, c12⟩ := HX.out.cells
      obtain ⟨z0, z1, z2, z3, z4, z5, z6, z7, z8, z9, z10, z11, z12⟩ := HX.out.zeros
      obtain ⟨y0, y1, y2, y3, y4, y5, y6, y7, y8, y9, y10, y11, y12⟩ := HX.out.free
      go_wp2
      obtain ⟨hf1, hf2, hf3⟩ := HX.out.fin (.string q.sc) (.string q.us) (.string q.pw) (.int .i64 q.hk) (.string q.hn) (.int .i64 q.ha) (.int .i64 q.po) (.slice a n c) (.string q.op) (.bool q.hq) (.string q.qu) (.bool q.hf) (.string q.fr)
      have HRB : Hid (Blk (w.heap.size + 1) #[(.string q.sc), (.string q.us), (.string q.pw), (.int .i64 q.hk), (.string q.hn), (.int .i64 q.ha), (.int .i64 q.po), (.slice a n c), (.string q.op), (.bool q.hq), (.string q.qu), (.bool q.hf), (.string q.fr)] 27 ((((((((((((((W5.setCell ⟨w.heap.size, 10, none⟩ (.string wt)).setCell ⟨w.heap.size + 1, 0, none⟩ (.string q.sc)).setCell ⟨w.heap.size + 1, 1, none⟩ (.string q.us)).setCell ⟨w.heap.size + 1, 2, none⟩ (.string q.pw)).setCell ⟨w.heap.size + 1, 3, none⟩ (.int .i64 q.hk)).setCell ⟨w.heap.size + 1, 4, none⟩ (.string q.hn)).setCell ⟨w.heap.size + 1, 5, none⟩ (.int .i64 q.ha)).setCell ⟨w.heap.size + 1, 6, none⟩ (.int .i64 q.po)).setCell ⟨w.heap.size + 1, 7, none⟩ (.slice a n c)).setCell ⟨w.heap.size + 1, 8, none⟩ (.string q.op)).setCell ⟨w.heap.size + 1, 9, none⟩ (.bool q.hq)).setCell ⟨w.heap.size + 1, 10, none⟩ (.string q.qu)).setCell ⟨w.heap.size + 1, 11, none⟩ (.bool q.hf)).setCell ⟨w.heap.size + 1, 12, none⟩ (.string q.fr))) := hf1
      have HBB : Hid (Below w.heap.size w ((((((((((((((W5.setCell ⟨w.heap.size, 10, none⟩ (.string wt)).setCell ⟨w.heap.size + 1, 0, none⟩ (.string q.sc)).setCell ⟨w.heap.size + 1, 1, none⟩ (.string q.us)).setCell ⟨w.heap.size + 1, 2, none⟩ (.string q.pw)).setCell ⟨w.heap.size + 1, 3, none⟩ (.int .i64 q.hk)).setCell ⟨w.heap.size + 1, 4, none⟩ (.string q.hn)).setCell ⟨w.heap.size + 1, 5, none⟩ (.int .i64 q.ha)).setCell ⟨w.heap.size + 1, 6, none⟩ (.int .i64 q.po)).setCell ⟨w.heap.size + 1, 7, none⟩ (.slice a n c)).setCell ⟨w.heap.size + 1, 8, none⟩ (.string q.op)).setCell ⟨w.heap.size + 1, 9, none⟩ (.bool q.hq)).setCell ⟨w.heap.size + 1, 10, none⟩ (.string q.qu)).setCell ⟨w.heap.size + 1, 11, none⟩ (.bool q.hf)).setCell ⟨w.heap.size + 1, 12, none⟩ (.string q.fr))) := hf2
      have HGG : Hid ((W5.setCell ⟨w.heap.size, 10, none⟩ (.string wt)).grownBy ((((((((((((((W5.setCell ⟨w.heap.size, 10, none⟩ (.string wt)).setCell ⟨w.heap.size + 1, 0, none⟩ (.string q.sc)).setCell ⟨w.heap.size + 1, 1, none⟩ (.string q.us)).setCell ⟨w.heap.size + 1, 2, none⟩ (.string q.pw)).setCell ⟨w.heap.size + 1, 3, none⟩ (.int .i64 q.hk)).setCell ⟨w.heap.size + 1, 4, none⟩ (.string q.hn)).setCell ⟨w.heap.size + 1, 5, none⟩ (.int .i64 q.ha)).setCell ⟨w.heap.size + 1, 6, none⟩ (.int .i64 q.po)).setCell ⟨w.heap.size + 1, 7, none⟩ (.slice a n c)).setCell ⟨w.heap.size + 1, 8, none⟩ (.string q.op)).setCell ⟨w.heap.size + 1, 9, none⟩ (.bool q.hq)).setCell ⟨w.heap.size + 1, 10, none⟩ (.string q.qu)).setCell ⟨w.heap.size + 1, 11, none⟩ (.bool q.hf)).setCell ⟨w.heap.size + 1, 12, none⟩ (.string q.fr)) (some (w.heap.size + 1))) := hf3
      clear hf1 hf2 hf3
      generalize ((((((((((((((W5.setCell ⟨w.heap.size, 10, none⟩ (.string wt)).setCell ⟨w.heap.size + 1, 0, none⟩ (.string q.sc)).setCell ⟨w.heap.size + 1, 1, none⟩ (.string q.us)).setCell ⟨w.heap.size + 1, 2, none⟩ (.string q.pw)).setCell ⟨w.heap.size + 1, 3, none⟩ (.int .i64 q.hk)).setCell ⟨w.heap.size + 1, 4, none⟩ (.string q.hn)).setCell ⟨w.heap.size + 1, 5, none⟩ (.int .i64 q.ha)).setCell ⟨w.heap.size + 1, 6, none⟩ (.int .i64 q.po)).setCell ⟨w.heap.size + 1, 7, none⟩ (.slice a n c)).setCell ⟨w.heap.size + 1, 8, none⟩ (.string q.op)).setCell ⟨w.heap.size + 1, 9, none⟩ (.bool q.hq)).setCell ⟨w.heap.size + 1, 10, none⟩ (.string q.qu)).setCell ⟨w.heap.size + 1, 11, none⟩ (.bool q.hf)).setCell ⟨w.heap.size + 1, 12, none⟩ (.string q.fr)) = W9 at *
      clear c0 c1 c2 c3 c4 c5 c6 c7 c8 c9 c10 c11 c12 z0 z1 z2 z3 z4 z5 z6 z7 z8 z9 z10 z11 z12 y0 y1 y2 y3 y4 y5 y6 y7 y8 y9 y10 y11 y12
      have z0 : W9.cell? ⟨w.heap.size + 1, 0, none⟩ = some (.string q.sc) := HRB.out.cell 0
      have z1 : W9.cell? ⟨w.heap.size + 1, 1, none⟩ = some (.string q.us) := HRB.out.cell 1
      have z2 : W9.cell? ⟨w.heap.size + 1, 2, none⟩ = some (.string q.pw) := HRB.out.cell 2
      have z3 : W9.cell? ⟨w.heap.size + 1, 3, none⟩ = some (.int .i64 q.hk) := HRB.out.cell 3
      have z4 : W9.cell? ⟨w.heap.size + 1, 4, none⟩ = some (.string q.hn) := HRB.out.cell 4
      have z5 : W9.cell? ⟨w.heap.size + 1, 5, none⟩ = some (.int .i64 q.ha) := HRB.out.cell 5
      have z6 : W9.cell? ⟨w.heap.size + 1, 6, none⟩ = some (.int .i64 q.po) := HRB.out.cell 6
      have z7 : W9.cell? ⟨w.heap.size + 1, 7, none⟩ = some (.slice a n c) := HRB.out.cell 7
      have z8 : W9.cell? ⟨w.heap.size + 1, 8, none⟩ = some (.string q.op) := HRB.out.cell 8
      have z9 : W9.cell? ⟨w.heap.size + 1, 9, none⟩ = some (.bool q.hq) := HRB.out.cell 9
      have z10 : W9.cell? ⟨w.heap.size + 1, 10, none⟩ = some (.string q.qu) := HRB.out.cell 10
      have z11 : W9.cell? ⟨w.heap.size + 1, 11, none⟩ = some (.bool q.hf) := HRB.out.cell 11
      have z12 : W9.cell? ⟨w.heap.size + 1, 12, none⟩ = some (.string q.fr) := HRB.out.cell 12
      refine bodyPost_ret (v := .agg #[(.string q.sc), (.string q.us), (.string q.pw), (.int .i64 q.hk), (.string q.hn), (.int .i64 q.ha), (.int .i64 q.po), (.slice a n c), (.string q.op), (.bool q.hq), (.string q.qu), (.bool q.hf), (.string q.fr)]) (by simp [results, Tryz.results80, go_sem, z0, z1, z2, z3, z4, z5, z6, z7, z8, z9, z10, z11, z12]) rfl ?_
      exact ⟨by rw [HQ2.out], HBB.out⟩
  · have hki : ¬ ((k : Int) < (s.size : Int)) := by omega
    have HT1' : Hid (tail1 p l = p) := by show _ = _; rw [HT1.out, if_neg hkk]
    have HXC : Hid (BX w p (.slice a n c) W1) := HX1.out
    clear HX1 HT1 hx2 CE
    rcases hm0c with ⟨hm0, hmt0⟩ | ⟨hm0, hmz, hb1, hb2⟩
    · have HDUM : True := trivial
      obtain ⟨q, hq⟩ : ∃ q, q = p := ⟨_, rfl⟩
      have HX : Hid (BX w q (.slice a n c) W1) := by rw [hq]; exact HXC.out
      have HQ : Hid (tailS p l = q) := by show _ = _; rw [HTS.out, HT1'.out, HT2.out, if_pos hm0, hq]
      clear hq HXC HT1' HTS HT2 CQ hm0 hx3 HDUM
      obtain ⟨c0, c1, c2, c3, c4, c5, c6, c7, c8, c9, c10, c11, c12⟩ := HX.out.cells
      obtain ⟨z0, z1, z2, z3, z4, z5, z6, z7, z8, z9, z10, z11, z12⟩ := HX.out.zeros
      obtain ⟨y0, y1, y2, y3, y4, y5, y6, y7, y8, y9, y10, y11, y12⟩ := HX.out.free
      go_wp2
      obtain ⟨hf1, hf2, hf3⟩ := HX.out.fin (.string q.sc) (.string q.us) (.string q.pw) (.int .i64 q.hk) (.string q.hn) (.int .i64 q.ha) (.int .i64 q.po) (.slice a n c) (.string q.op) (.bool q.hq) (.string q.qu) (.bool q.hf) (.string q.fr)
      have HRB : Hid (Blk (w.heap.size + 1) #[(.string q.sc), (.string q.us), (.string q.pw), (.int .i64 q.hk), (.string q.hn), (.int .i64 q.ha), (.int .i64 q.po), (.slice a n c), (.string q.op), (.bool q.hq), (.string q.qu), (.bool q.hf), (.string q.fr)] 27 (((((((((((((W1.setCell ⟨w.heap.size + 1, 0, none⟩ (.string q.sc)).setCell ⟨w.heap.size + 1, 1, none⟩ (.string q.us)).setCell ⟨w.heap.size + 1, 2, none⟩ (.string q.pw)).setCell ⟨w.heap.size + 1, 3, none⟩ (.int .i64 q.hk)).setCell ⟨w.heap.size + 1, 4, none⟩ (.string q.hn)).setCell ⟨w.heap.size + 1, 5, none⟩ (.int .i64 q.ha)).setCell ⟨w.heap.size + 1, 6, none⟩ (.int .i64 q.po)).setCell ⟨w.heap.size + 1, 7, none⟩ (.slice a n c)).setCell ⟨w.heap.size + 1, 8, none⟩ (.string q.op)).setCell ⟨w.heap.size + 1, 9, none⟩ (.bool q.hq)).setCell ⟨w.heap.size + 1, 10, none⟩ (.string q.qu)).setCell ⟨w.heap.size + 1, 11, none⟩ (.bool q.hf)).setCell ⟨w.heap.size + 1, 12, none⟩ (.string q.fr))) := hf1
      have HBB : Hid (Below w.heap.size w (((((((((((((W1.setCell ⟨w.heap.size + 1, 0, none⟩ (.string q.sc)).setCell ⟨w.heap.size + 1, 1, none⟩ (.string q.us)).setCell ⟨w.heap.size + 1, 2, none⟩ (.string q.pw)).setCell ⟨w.heap.size + 1, 3, none⟩ (.int .i64 q.hk)).setCell ⟨w.heap.size + 1, 4, none⟩ (.string q.hn)).setCell ⟨w.heap.size + 1, 5, none⟩ (.int .i64 q.ha)).setCell ⟨w.heap.size + 1, 6, none⟩ (.int .i64 q.po)).setCell ⟨w.heap.size + 1, 7, none⟩ (.slice a n c)).setCell ⟨w.heap.size + 1, 8, none⟩ (.string q.op)).setCell ⟨w.heap.size + 1, 9, none⟩ (.bool q.hq)).setCell ⟨w.heap.size + 1, 10, none⟩ (.string q.qu)).setCell ⟨w.heap.size + 1, 11, none⟩ (.bool q.hf)).setCell ⟨w.heap.size + 1, 12, none⟩ (.string q.fr))) := hf2
      have HGG : Hid (W1.grownBy (((((((((((((W1.setCell ⟨w.heap.size + 1, 0, none⟩ (.string q.sc)).setCell ⟨w.heap.size + 1, 1, none⟩ (.string q.us)).setCell ⟨w.heap.size + 1, 2, none⟩ (.string q.pw)).setCell ⟨w.heap.size + 1, 3, none⟩ (.int .i64 q.hk)).setCell ⟨w.heap.size + 1, 4, none⟩ (.string q.hn)).setCell ⟨w.heap.size + 1, 5, none⟩ (.int .i64 q.ha)).setCell ⟨w.heap.size + 1, 6, none⟩ (.int .i64 q.po)).setCell ⟨w.heap.size + 1, 7, none⟩ (.slice a n c)).setCell ⟨w.heap.size + 1, 8, none⟩ (.string q.op)).setCell ⟨w.heap.size + 1, 9, none⟩ (.bool q.hq)).setCell ⟨w.heap.size + 1, 10, none⟩ (.string q.qu)).setCell ⟨w.heap.size + 1, 11, none⟩ (.bool q.hf)).setCell ⟨w.heap.size + 1, 12, none⟩ (.string q.fr)) (some (w.heap.size + 1))) := hf3
      clear hf1 hf2 hf3
      generalize (((((((((((((W1.setCell ⟨w.heap.size + 1, 0, none⟩ (.string q.sc)).setCell ⟨w.heap.size + 1, 1, none⟩ (.string q.us)).setCell ⟨w.heap.size + 1, 2, none⟩ (.string q.pw)).setCell ⟨w.heap.size + 1, 3, none⟩ (.int .i64 q.hk)).setCell ⟨w.heap.size + 1, 4, none⟩ (.string q.hn)).setCell ⟨w.heap.size + 1, 5, none⟩ (.int .i64 q.ha)).setCell ⟨w.heap.size + 1, 6, none⟩ (.int .i64 q.po)).setCell ⟨w.heap.size + 1, 7, none⟩ (.slice a n c)).setCell ⟨w.heap.size + 1, 8, none⟩ (.string q.op)).setCell ⟨w.heap.size + 1, 9, none⟩ (.bool q.hq)).setCell ⟨w.heap.size + 1, 10, none⟩ (.string q.qu)).setCell ⟨w.heap.size + 1, 11, none⟩ (.bool q.hf)).setCell ⟨w.heap.size + 1, 12, none⟩ (.string q.fr)) = W9 at *
      clear c0 c1 c2 c3 c4 c5 c6 c7 c8 c9 c10 c11 c12 z0 z1 z2 z3 z4 z5 z6 z7 z8 z9 z10 z11 z12 y0 y1 y2 y3 y4 y5 y6 y7 y8 y9 y10 y11 y12
      have z0 : W9.cell? ⟨w.heap.size + 1, 0, none⟩ = some (.string q.sc) := HRB.out.cell 0
      have z1 : W9.cell? ⟨w.heap.size + 1, 1, none⟩ = some (.string q.us) := HRB.out.cell 1
      have z2 : W9.cell? ⟨w.heap.size + 1, 2, none⟩ = some (.string q.pw) := HRB.out.cell 2
      have z3 : W9.cell? ⟨w.heap.size + 1, 3, none⟩ = some (.int .i64 q.hk) := HRB.out.cell 3
      have z4 : W9.cell? ⟨w.heap.size + 1, 4, none⟩ = some (.string q.hn) := HRB.out.cell 4
      have z5 : W9.cell? ⟨w.heap.size + 1, 5, none⟩ = some (.int .i64 q.ha) := HRB.out.cell 5
      have z6 : W9.cell? ⟨w.heap.size + 1, 6, none⟩ = some (.int .i64 q.po) := HRB.out.cell 6
      have z7 : W9.cell? ⟨w.heap.size + 1, 7, none⟩ = some (.slice a n c) := HRB.out.cell 7
      have z8 : W9.cell? ⟨w.heap.size + 1, 8, none⟩ = some (.string q.op) := HRB.out.cell 8
      have z9 : W9.cell? ⟨w.heap.size + 1, 9, none⟩ = some (.bool q.hq) := HRB.out.cell 9
      have z10 : W9.cell? ⟨w.heap.size + 1, 10, none⟩ = some (.string q.qu) := HRB.out.cell 10
      have z11 : W9.cell? ⟨w.heap.size + 1, 11, none⟩ = some (.bool q.hf) := HRB.out.cell 11
      have z12 : W9.cell? ⟨w.heap.size + 1, 12, none⟩ = some (.string q.fr) := HRB.out.cell 12
      refine bodyPost_ret (v := .agg #[(.string q.sc), (.string q.us), (.string q.pw), (.int .i64 q.hk), (.string q.hn), (.int .i64 q.ha), (.int .i64 q.po), (.slice a n c), (.string q.op), (.bool q.hq), (.string q.qu), (.bool q.hf), (.string q.fr)]) (by simp [results, Tryz.results80, go_sem, z0, z1, z2, z3, z4, z5, z6, z7, z8, z9, z10, z11, z12]) rfl ?_
      exact ⟨by rw [HQ.out], HBB.out⟩
    · have hmi : (1 : Int) ≤ (sm.size : Int) := by omega
      have c9 : W1.cell? ⟨w.heap.size, 9, none⟩ = some (.bool (p).hq) := HXC.out.cells.2.2.2.2.2.2.2.2.2.1
      have f9 : W1.frozen? ⟨w.heap.size, 9, none⟩ = false := HXC.out.bx.free 9
      have HXD : Hid (BX w ({ p with hq := true }) (.slice a n c) (W1.setCell ⟨w.heap.size, 9, none⟩ (.bool true))) := HXC.out.set 9 _ rfl
      have HQ : Hid (tailS p l = { p with hq := true, qu := wt }) := by show _ = _; rw [HTS.out, HT1'.out, HT2.out, if_neg hm0]
      clear HXC HT1' HTS HT2 hm0
      go_wp2_with fail
      refine (CQ.out _).mono ?_
      rintro e W5 ⟨rfl, d5⟩
      have HXE : Hid (BX w ({ p with hq := true }) (.slice a n c) W5) := HXD.out.later d5
      clear d5 HXD CQ c9 f9
      obtain ⟨q, hq⟩ : ∃ q, q = { p with hq := true, qu := wt } := ⟨_, rfl⟩
      have d10 : W5.cell? ⟨w.heap.size, 10, none⟩ = some (.string (p).qu) := HXE.out.cells.2.2.2.2.2.2.2.2.2.2.1
      have f10 : W5.frozen? ⟨w.heap.size, 10, none⟩ = false := HXE.out.bx.free 10
      have HX : Hid (BX w q (.slice a n c) (W5.setCell ⟨w.heap.size, 10, none⟩ (.string wt))) := by rw [hq]; exact HXE.out.set 10 _ rfl
      have HQ2 : Hid (tailS p l = q) := by rw [hq]; exact HQ.out
      clear hq HXE HQ hx3 hmz hmi hb1 hb2
      obtain ⟨c0, c1, c2, c3, c4, c5, c6, c7, c8, c9, c10, c11, c12⟩ := HX.out.cells
      obtain ⟨z0, z1, z2, z3, z4, z5, z6, z7, z8, z9, z10, z11, z12⟩ := HX.out.zeros
      obtain ⟨y0, y1, y2, y3, y4, y5, y6, y7, y8, y9, y10, y11, y12⟩ := HX.out.free
      go_wp2
      obtain ⟨hf1, hf2, hf3⟩ := HX.out.fin (.string q.sc) (.string q.us) (.string q.pw) (.int .i64 q.hk) (.string q.hn) (.int .i64 q.ha) (.int .i64 q.po) (.slice a n c) (.string q.op) (.bool q.hq) (.string q.qu) (.bool q.hf) (.string q.fr)
      have HRB : Hid (Blk (w.heap.size + 1) #[(.string q.sc), (.string q.us), (.string q.pw), (.int .i64 q.hk), (.string q.hn), (.int .i64 q.ha), (.int .i64 q.po), (.slice a n c), (.string q.op), (.bool q.hq), (.string q.qu), (.bool q.hf), (.string q.fr)] 27 ((((((((((((((W5.setCell ⟨w.heap.size, 10, none⟩ (.string wt)).setCell ⟨w.heap.size + 1, 0, none⟩ (.string q.sc)).setCell ⟨w.heap.size + 1, 1, none⟩ (.string q.us)).setCell ⟨w.heap.size + 1, 2, none⟩ (.string q.pw)).setCell ⟨w.heap.size + 1, 3, none⟩ (.int .i64 q.hk)).setCell ⟨w.heap.size + 1, 4, none⟩ (.string q.hn)).setCell ⟨w.heap.size + 1, 5, none⟩ (.int .i64 q.ha)).setCell ⟨w.heap.size + 1, 6, none⟩ (.int .i64 q.po)).setCell ⟨w.heap.size + 1, 7, none⟩ (.slice a n c)).setCell ⟨w.heap.size + 1, 8, none⟩ (.string q.op)).setCell ⟨w.heap.size + 1, 9, none⟩ (.bool q.hq)).setCell ⟨w.heap.size + 1, 10, none⟩ (.string q.qu)).setCell ⟨w.heap.size + 1, 11, none⟩ (.bool q.hf)).setCell ⟨w.heap.size + 1, 12, none⟩ (.string q.fr))) := hf1
      have HBB : Hid (Below w.heap.size w ((((((((((((((W5.setCell ⟨w.heap.size, 10, none⟩ (.string wt)).setCell ⟨w.heap.size + 1, 0, none⟩ (.string q.sc)).setCell ⟨w.heap.size + 1, 1, none⟩ (.string q.us)).setCell ⟨w.heap.size + 1, 2, none⟩ (.string q.pw)).setCell ⟨w.heap.size + 1, 3, none⟩ (.int .i64 q.hk)).setCell ⟨w.heap.size + 1, 4, none⟩ (.string q.hn)).setCell ⟨w.heap.size + 1, 5, none⟩ (.int .i64 q.ha)).setCell ⟨w.heap.size + 1, 6, none⟩ (.int .i64 q.po)).setCell ⟨w.heap.size + 1, 7, none⟩ (.slice a n c)).setCell ⟨w.heap.size + 1, 8, none⟩ (.string q.op)).setCell ⟨w.heap.size + 1, 9, none⟩ (.bool q.hq)).setCell ⟨w.heap.size + 1, 10, none⟩ (.string q.qu)).setCell ⟨w.heap.size + 1, 11, none⟩ (.bool q.hf)).setCell ⟨w.heap.size + 1, 12, none⟩ (.string q.fr))) := hf2
      have HGG : Hid ((W5.setCell ⟨w.heap.size, 10, none⟩ (.string wt)).grownBy ((((((((((((((W5.setCell ⟨w.heap.size, 10, none⟩ (.string wt)).setCell ⟨w.heap.size + 1, 0, none⟩ (.string q.sc)).setCell ⟨w.heap.size + 1, 1, none⟩ (.string q.us)).setCell ⟨w.heap.size + 1, 2, none⟩ (.string q.pw)).setCell ⟨w.heap.size + 1, 3, none⟩ (.int .i64 q.hk)).setCell ⟨w.heap.size + 1, 4, none⟩ (.string q.hn)).setCell ⟨w.heap.size + 1, 5, none⟩ (.int .i64 q.ha)).setCell ⟨w.heap.size + 1, 6, none⟩ (.int .i64 q.po)).setCell ⟨w.heap.size + 1, 7, none⟩ (.slice a n c)).setCell ⟨w.heap.size + 1, 8, none⟩ (.string q.op)).setCell ⟨w.heap.size + 1, 9, none⟩ (.bool q.hq)).setCell ⟨w.heap.size + 1, 10, none⟩ (.string q.qu)).setCell ⟨w.heap.size + 1, 11, none⟩ (.bool q.hf)).setCell ⟨w.heap.size + 1, 12, none⟩ (.string q.fr)) (some (w.heap.size + 1))) := hf3
      clear hf1 hf2 hf3
      generalize ((((((((((((((W5.setCell ⟨w.heap.size, 10, none⟩ (.string wt)).setCell ⟨w.heap.size + 1, 0, none⟩ (.string q.sc)).setCell ⟨w.heap.size + 1, 1, none⟩ (.string q.us)).setCell ⟨w.heap.size + 1, 2, none⟩ (.string q.pw)).setCell ⟨w.heap.size + 1, 3, none⟩ (.int .i64 q.hk)).setCell ⟨w.heap.size + 1, 4, none⟩ (.string q.hn)).setCell ⟨w.heap.size + 1, 5, none⟩ (.int .i64 q.ha)).setCell ⟨w.heap.size + 1, 6, none⟩ (.int .i64 q.po)).setCell ⟨w.heap.size + 1, 7, none⟩ (.slice a n c)).setCell ⟨w.heap.size + 1, 8, none⟩ (.string q.op)).setCell ⟨w.heap.size + 1, 9, none⟩ (.bool q.hq)).setCell ⟨w.heap.size + 1, 10, none⟩ (.string q.qu)).setCell ⟨w.heap.size + 1, 11, none⟩ (.bool q.hf)).setCell ⟨w.heap.size + 1, 12, none⟩ (.string q.fr)) = W9 at *
      clear c0 c1 c2 c3 c4 c5 c6 c7 c8 c9 c10 c11 c12 z0 z1 z2 z3 z4 z5 z6 z7 z8 z9 z10 z11 z12 y0 y1 y2 y3 y4 y5 y6 y7 y8 y9 y10 y11 y12
      have z0 : W9.cell? ⟨w.heap.size + 1, 0, none⟩ = some (.string q.sc) := HRB.out.cell 0
      have z1 : W9.cell? ⟨w.heap.size + 1, 1, none⟩ = some (.string q.us) := HRB.out.cell 1
      have z2 : W9.cell? ⟨w.heap.size + 1, 2, none⟩ = some (.string q.pw) := HRB.out.cell 2
      have z3 : W9.cell? ⟨w.heap.size + 1, 3, none⟩ = some (.int .i64 q.hk) := HRB.out.cell 3
      have z4 : W9.cell? ⟨w.heap.size + 1, 4, none⟩ = some (.string q.hn) := HRB.out.cell 4
      have z5 : W9.cell? ⟨w.heap.size + 1, 5, none⟩ = some (.int .i64 q.ha) := HRB.out.cell 5
      have z6 : W9.cell? ⟨w.heap.size + 1, 6, none⟩ = some (.int .i64 q.po) := HRB.out.cell 6
      have z7 : W9.cell? ⟨w.heap.size + 1, 7, none⟩ = some (.slice a n c) := HRB.out.cell 7
      have z8 : W9.cell? ⟨w.heap.size + 1, 8, none⟩ = some (.string q.op) := HRB.out.cell 8
      have z9 : W9.cell? ⟨w.heap.size + 1, 9, none⟩ = some (.bool q.hq) := HRB.out.cell 9
      have z10 : W9.cell? ⟨w.heap.size + 1, 10, none⟩ = some (.string q.qu) := HRB.out.cell 10
      have z11 : W9.cell? ⟨w.heap.size + 1, 11, none⟩ = some (.bool q.hf) := HRB.out.cell 11
      have z12 : W9.cell? ⟨w.heap.size + 1, 12, none⟩ = some (.string q.fr) := HRB.out.cell 12
      refine bodyPost_ret (v := .agg #[(.string q.sc), (.string q.us), (.string q.pw), (.int .i64 q.hk), (.string q.hn), (.int .i64 q.ha), (.int .i64 q.po), (.slice a n c), (.string q.op), (.bool q.hq), (.string q.qu), (.bool q.hf), (.string q.fr)]) (by simp [results, Tryz.results80, go_sem, z0, z1, z2, z3, z4, z5, z6, z7, z8, z9, z10, z11, z12]) rfl ?_
      exact ⟨by rw [HQ2.out], HBB.out⟩
/-- What l3Who answers. -/
def whoS (p : P) (l : List UInt8) : P := if (upL [58] l).length < l.length then { p with us := wrT 4 (upL [58] l), pw := wrT 4 (l.drop ((upL [58] l).length + 1)) } else { p with us := wrT 4 (upL [58] l) }
set_option maxHeartbeats 4000000 in
set_option maxRecDepth 100000 in
theorem l3Who (p : P) (a : Option Addr) (n c : Nat) (l : List UInt8) (w : World) (hl : l.length ≤ 1000) :
    Calls Tryz.prog 126 #[.agg (p.cells (.slice a n c)), .string (mk l)] w fun e w' => e = .returned (.agg ((whoS p l).cells (.slice a n c))) ∧ Below w.heap.size w w' := by
  have H0 : Hid (BX w p (.slice a n c) ((w.alloc (.cells (p.cells (.slice a n c)) 27)).alloc (.cells zeroC 27))) := BX.start w p (.slice a n c)
  unfold P.cells zeroC at H0
  obtain ⟨s, hs⟩ : ∃ s, s = mk l := ⟨_, rfl⟩
  have hss : s.size = l.length := by rw [hs, mk_size]
  obtain ⟨k, hk⟩ : ∃ k, k = (upL [58] l).length := ⟨_, rfl⟩
  have hkl : k ≤ l.length := by rw [hk]; exact upL_le _ _
  have CA : Hid (∀ W, Calls Tryz.prog 78 #[.string s, .string ⟨#[58]⟩] W fun e w' => e = .returned (.int .i64 (k : Int)) ∧ Below W.heap.size W w') := fun W => by rw [hk, hs]; exact atC [58] l W (by omega) (by decide)
  obtain ⟨sm, hsm⟩ : ∃ sm, sm = mk (upL [58] l) := ⟨_, rfl⟩
  have hx1 : s.extract 0 k = sm := by rw [hs, hsm, ext_takeM l k hkl, hk, up_take]
  obtain ⟨wu, hwu⟩ : ∃ wu, wu = wrT 4 (upL [58] l) := ⟨_, rfl⟩
  obtain ⟨sd, hsd⟩ : ∃ sd, sd = mk (l.drop (k + 1)) := ⟨_, rfl⟩
  obtain ⟨wd, hwd⟩ : ∃ wd, wd = wrT 4 (l.drop (k + 1)) := ⟨_, rfl⟩
  have hx2 : s.extract (k + 1) s.size = sd := by rw [hs, hsd]; exact ext_dropM l (k + 1)
  have CE : Hid (∀ W, Calls Tryz.prog 79 #[.int .i64 4, .string sm] W fun e w' => e = .returned (.string wu) ∧ Below W.heap.size W w') := fun W => by rw [hsm, hwu]; exact encC 4 _ W (by have := upL_le [58] l; omega)
  have CQ : Hid (∀ W, Calls Tryz.prog 79 #[.int .i64 4, .string sd] W fun e w' => e = .returned (.string wd) ∧ Below W.heap.size W w') := fun W => by rw [hsd, hwd]; exact encC 4 _ W (by rw [List.length_drop]; omega)
  have HW : Hid (whoS p l = if k < s.size then { p with us := wu, pw := wd } else { p with us := wu }) := by show _ = _; rw [hwd, hwu, hss, hk]; rfl
  have hsz : s.size ≤ 1000 := by omega
  have hks : k ≤ s.size := by omega
  rw [← hs]
  clear hk hwu hwd hsd hsm hs hss hkl
  unfold P.cells
  go_enter Tryz.func126, Tryz.ntmps126
  go_wp2_with fail
  refine (CA.out _).mono ?_
  rintro e W1 ⟨rfl, d1⟩
  have HX1 : Hid (BX w p (.slice a n c) W1) := H0.out.later d1
  clear d1 H0 CA
  go_wp2_with fail
  refine (CE.out _).mono ?_
  rintro e W2 ⟨rfl, d2⟩
  have HX2 : Hid (BX w p (.slice a n c) W2) := HX1.out.later d2
  have d1' : W2.cell? ⟨w.heap.size, 1, none⟩ = some (.string p.us) := HX2.out.cells.2.1
  have f1' : W2.frozen? ⟨w.heap.size, 1, none⟩ = false := HX2.out.bx.free 1
  have HX3 : Hid (BX w { p with us := wu } (.slice a n c) (W2.setCell ⟨w.heap.size, 1, none⟩ (.string wu))) := HX2.out.set 1 _ rfl
  clear d2 HX1 HX2 CE
  by_cases hkk : k < s.size
  · have hki : (k : Int) < (s.size : Int) := by omega
    have HWW : Hid (whoS p l = { p with us := wu, pw := wd }) := by show _ = _; rw [HW.out, if_pos hkk]
    clear HW
    go_wp2_with fail
    refine (CQ.out _).mono ?_
    rintro e W4 ⟨rfl, d4⟩
    have HX4 : Hid (BX w { p with us := wu } (.slice a n c) W4) := HX3.out.later d4
    have d2' : W4.cell? ⟨w.heap.size, 2, none⟩ = some (.string p.pw) := HX4.out.cells.2.2.1
    have f2' : W4.frozen? ⟨w.heap.size, 2, none⟩ = false := HX4.out.bx.free 2
    obtain ⟨q, hq⟩ : ∃ q, q = { p with us := wu, pw := wd } := ⟨_, rfl⟩
    have HX : Hid (BX w q (.slice a n c) (W4.setCell ⟨w.heap.size, 2, none⟩ (.string wd))) := by rw [hq]; exact HX4.out.set 2 _ rfl
    have HQ : Hid (whoS p l = q) := by rw [hq]; exact HWW.out
    clear hq HX4 HX3 d4 CQ HWW d1' f1'
    obtain ⟨c0, c1, c2, c3, c4, c5, c6, c7, c8, c9, c10, c11, c12⟩ := HX.out.cells
    obtain ⟨z0, z1, z2, z3, z4, z5, z6, z7, z8, z9, z10, z11, z12⟩ := HX.out.zeros
    obtain ⟨y0, y1, y2, y3, y4, y5, y6, y7, y8, y9, y10, y11, y12⟩ := HX.out.free
    go_wp2
    obtain ⟨hf1, hf2, hf3⟩ := HX.out.fin (.string q.sc) (.string q.us) (.string q.pw) (.int .i64 q.hk) (.string q.hn) (.int .i64 q.ha) (.int .i64 q.po) (.slice a n c) (.string q.op) (.bool q.hq) (.string q.qu) (.bool q.hf) (.string q.fr)
    have HRB : Hid (Blk (w.heap.size + 1) #[(.string q.sc), (.string q.us), (.string q.pw), (.int .i64 q.hk), (.string q.hn), (.int .i64 q.ha), (.int .i64 q.po), (.slice a n c), (.string q.op), (.bool q.hq), (.string q.qu), (.bool q.hf), (.string q.fr)] 27 ((((((((((((((W4.setCell ⟨w.heap.size, 2, none⟩ (.string wd)).setCell ⟨w.heap.size + 1, 0, none⟩ (.string q.sc)).setCell ⟨w.heap.size + 1, 1, none⟩ (.string q.us)).setCell ⟨w.heap.size + 1, 2, none⟩ (.string q.pw)).setCell ⟨w.heap.size + 1, 3, none⟩ (.int .i64 q.hk)).setCell ⟨w.heap.size + 1, 4, none⟩ (.string q.hn)).setCell ⟨w.heap.size + 1, 5, none⟩ (.int .i64 q.ha)).setCell ⟨w.heap.size + 1, 6, none⟩ (.int .i64 q.po)).setCell ⟨w.heap.size + 1, 7, none⟩ (.slice a n c)).setCell ⟨w.heap.size + 1, 8, none⟩ (.string q.op)).setCell ⟨w.heap.size + 1, 9, none⟩ (.bool q.hq)).setCell ⟨w.heap.size + 1, 10, none⟩ (.string q.qu)).setCell ⟨w.heap.size + 1, 11, none⟩ (.bool q.hf)).setCell ⟨w.heap.size + 1, 12, none⟩ (.string q.fr))) := hf1
    have HBB : Hid (Below w.heap.size w ((((((((((((((W4.setCell ⟨w.heap.size, 2, none⟩ (.string wd)).setCell ⟨w.heap.size + 1, 0, none⟩ (.string q.sc)).setCell ⟨w.heap.size + 1, 1, none⟩ (.string q.us)).setCell ⟨w.heap.size + 1, 2, none⟩ (.string q.pw)).setCell ⟨w.heap.size + 1, 3, none⟩ (.int .i64 q.hk)).setCell ⟨w.heap.size + 1, 4, none⟩ (.string q.hn)).setCell ⟨w.heap.size + 1, 5, none⟩ (.int .i64 q.ha)).setCell ⟨w.heap.size + 1, 6, none⟩ (.int .i64 q.po)).setCell ⟨w.heap.size + 1, 7, none⟩ (.slice a n c)).setCell ⟨w.heap.size + 1, 8, none⟩ (.string q.op)).setCell ⟨w.heap.size + 1, 9, none⟩ (.bool q.hq)).setCell ⟨w.heap.size + 1, 10, none⟩ (.string q.qu)).setCell ⟨w.heap.size + 1, 11, none⟩ (.bool q.hf)).setCell ⟨w.heap.size + 1, 12, none⟩ (.string q.fr))) := hf2
    have HGG : Hid ((W4.setCell ⟨w.heap.size, 2, none⟩ (.string wd)).grownBy ((((((((((((((W4.setCell ⟨w.heap.size, 2, none⟩ (.string wd)).setCell ⟨w.heap.size + 1, 0, none⟩ (.string q.sc)).setCell ⟨w.heap.size + 1, 1, none⟩ (.string q.us)).setCell ⟨w.heap.size + 1, 2, none⟩ (.string q.pw)).setCell ⟨w.heap.size + 1, 3, none⟩ (.int .i64 q.hk)).setCell ⟨w.heap.size + 1, 4, none⟩ (.string q.hn)).setCell ⟨w.heap.size + 1, 5, none⟩ (.int .i64 q.ha)).setCell ⟨w.heap.size + 1, 6, none⟩ (.int .i64 q.po)).setCell ⟨w.heap.size + 1, 7, none⟩ (.slice a n c)).setCell ⟨w.heap.size + 1, 8, none⟩ (.string q.op)).setCell ⟨w.heap.size + 1, 9, none⟩ (.bool q.hq)).setCell ⟨w.heap.size + 1, 10, none⟩ (.string q.qu)).setCell ⟨w.heap.size + 1, 11, none⟩ (.bool q.hf)).setCell ⟨w.heap.size + 1, 12, none⟩ (.string q.fr)) (some (w.heap.size + 1))) := hf3
    clear hf1 hf2 hf3
    generalize ((((((((((((((W4.setCell ⟨w.heap.size, 2, none⟩ (.string wd)).setCell ⟨w.heap.size + 1, 0, none⟩ (.string q.sc)).setCell ⟨w.heap.size + 1, 1, none⟩ (.string q.us)).setCell ⟨w.heap.size + 1, 2, none⟩ (.string q.pw)).setCell ⟨w.heap.size + 1, 3, none⟩ (.int .i64 q.hk)).setCell ⟨w.heap.size + 1, 4, none⟩ (.string q.hn)).setCell ⟨w.heap.size + 1, 5, none⟩ (.int .i64 q.ha)).setCell ⟨w.heap.size + 1, 6, none⟩ (.int .i64 q.po)).setCell ⟨w.heap.size + 1, 7, none⟩ (.slice a n c)).setCell ⟨w.heap.size + 1, 8, none⟩ (.string q.op)).setCell ⟨w.heap.size + 1, 9, none⟩ (.bool q.hq)).setCell ⟨w.heap.size + 1, 10, none⟩ (.string q.qu)).setCell ⟨w.heap.size + 1, 11, none⟩ (.bool q.hf)).setCell ⟨w.heap.size + 1, 12, none⟩ (.string q.fr)) = W9 at *
    clear c0 c1 c2 c3 c4 c5 c6 c7 c8 c9 c10 c11 c12 z0 z1 z2 z3 z4 z5 z6 z7 z8 z9 z10 z11 z12 y0 y1 y2 y3 y4 y5 y6 y7 y8 y9 y10 y11 y12
    have z0 : W9.cell? ⟨w.heap.size + 1, 0, none⟩ = some (.string q.sc) := HRB.out.cell 0
    have z1 : W9.cell? ⟨w.heap.size + 1, 1, none⟩ = some (.string q.us) := HRB.out.cell 1
    have z2 : W9.cell? ⟨w.heap.size + 1, 2, none⟩ = some (.string q.pw) := HRB.out.cell 2
    have z3 : W9.cell? ⟨w.heap.size + 1, 3, none⟩ = some (.int .i64 q.hk) := HRB.out.cell 3
    have z4 : W9.cell? ⟨w.heap.size + 1, 4, none⟩ = some (.string q.hn) := HRB.out.cell 4
    have z5 : W9.cell? ⟨w.heap.size + 1, 5, none⟩ = some (.int .i64 q.ha) := HRB.out.cell 5
    have z6 : W9.cell? ⟨w.heap.size + 1, 6, none⟩ = some (.int .i64 q.po) := HRB.out.cell 6
    have z7 : W9.cell? ⟨w.heap.size + 1, 7, none⟩ = some (.slice a n c) := HRB.out.cell 7
    have z8 : W9.cell? ⟨w.heap.size + 1, 8, none⟩ = some (.string q.op) := HRB.out.cell 8
    have z9 : W9.cell? ⟨w.heap.size + 1, 9, none⟩ = some (.bool q.hq) := HRB.out.cell 9
    have z10 : W9.cell? ⟨w.heap.size + 1, 10, none⟩ = some (.string q.qu) := HRB.out.cell 10
    have z11 : W9.cell? ⟨w.heap.size + 1, 11, none⟩ = some (.bool q.hf) := HRB.out.cell 11
    have z12 : W9.cell? ⟨w.heap.size + 1, 12, none⟩ = some (.string q.fr) := HRB.out.cell 12
    refine bodyPost_ret (v := .agg #[(.string q.sc), (.string q.us), (.string q.pw), (.int .i64 q.hk), (.string q.hn), (.int .i64 q.ha), (.int .i64 q.po), (.slice a n c), (.string q.op), (.bool q.hq), (.string q.qu), (.bool q.hf), (.string q.fr)]) (by simp [results, Tryz.results126, go_sem, z0, z1, z2, z3, z4, z5, z6, z7, z8, z9, z10, z11, z12]) rfl ?_
    exact ⟨by rw [HQ.out], HBB.out⟩
  · have hki : ¬ ((k : Int) < (s.size : Int)) := by omega
    obtain ⟨q, hq⟩ : ∃ q, q = { p with us := wu } := ⟨_, rfl⟩
    have HX : Hid (BX w q (.slice a n c) (W2.setCell ⟨w.heap.size, 1, none⟩ (.string wu))) := by rw [hq]; exact HX3.out
    have HQ : Hid (whoS p l = q) := by show _ = _; rw [HW.out, if_neg hkk, hq]
    clear hq HX3 CQ HW
    obtain ⟨c0, c1, c2, c3, c4, c5, c6, c7, c8, c9, c10, c11, c12⟩ := HX.out.cells
    obtain ⟨z0, z1, z2, z3, z4, z5, z6, z7, z8, z9, z10, z11, z12⟩ := HX.out.zeros
    obtain ⟨y0, y1, y2, y3, y4, y5, y6, y7, y8, y9, y10, y11, y12⟩ := HX.out.free
    go_wp2
    obtain ⟨hf1, hf2, hf3⟩ := HX.out.fin (.string q.sc) (.string q.us) (.string q.pw) (.int .i64 q.hk) (.string q.hn) (.int .i64 q.ha) (.int .i64 q.po) (.slice a n c) (.string q.op) (.bool q.hq) (.string q.qu) (.bool q.hf) (.string q.fr)
    have HRB : Hid (Blk (w.heap.size + 1) #[(.string q.sc), (.string q.us), (.string q.pw), (.int .i64 q.hk), (.string q.hn), (.int .i64 q.ha), (.int .i64 q.po), (.slice a n c), (.string q.op), (.bool q.hq), (.string q.qu), (.bool q.hf), (.string q.fr)] 27 ((((((((((((((W2.setCell ⟨w.heap.size, 1, none⟩ (.string wu)).setCell ⟨w.heap.size + 1, 0, none⟩ (.string q.sc)).setCell ⟨w.heap.size + 1, 1, none⟩ (.string q.us)).setCell ⟨w.heap.size + 1, 2, none⟩ (.string q.pw)).setCell ⟨w.heap.size + 1, 3, none⟩ (.int .i64 q.hk)).setCell ⟨w.heap.size + 1, 4, none⟩ (.string q.hn)).setCell ⟨w.heap.size + 1, 5, none⟩ (.int .i64 q.ha)).setCell ⟨w.heap.size + 1, 6, none⟩ (.int .i64 q.po)).setCell ⟨w.heap.size + 1, 7, none⟩ (.slice a n c)).setCell ⟨w.heap.size + 1, 8, none⟩ (.string q.op)).setCell ⟨w.heap.size + 1, 9, none⟩ (.bool q.hq)).setCell ⟨w.heap.size + 1, 10, none⟩ (.string q.qu)).setCell ⟨w.heap.size + 1, 11, none⟩ (.bool q.hf)).setCell ⟨w.heap.size + 1, 12, none⟩ (.string q.fr))) := hf1
    have HBB : Hid (Below w.heap.size w ((((((((((((((W2.setCell ⟨w.heap.size, 1, none⟩ (.string wu)).setCell ⟨w.heap.size + 1, 0, none⟩ (.string q.sc)).setCell ⟨w.heap.size + 1, 1, none⟩ (.string q.us)).setCell ⟨w.heap.size + 1, 2, none⟩ (.string q.pw)).setCell ⟨w.heap.size + 1, 3, none⟩ (.int .i64 q.hk)).setCell ⟨w.heap.size + 1, 4, none⟩ (.string q.hn)).setCell ⟨w.heap.size + 1, 5, none⟩ (.int .i64 q.ha)).setCell ⟨w.heap.size + 1, 6, none⟩ (.int .i64 q.po)).setCell ⟨w.heap.size + 1, 7, none⟩ (.slice a n c)).setCell ⟨w.heap.size + 1, 8, none⟩ (.string q.op)).setCell ⟨w.heap.size + 1, 9, none⟩ (.bool q.hq)).setCell ⟨w.heap.size + 1, 10, none⟩ (.string q.qu)).setCell ⟨w.heap.size + 1, 11, none⟩ (.bool q.hf)).setCell ⟨w.heap.size + 1, 12, none⟩ (.string q.fr))) := hf2
    have HGG : Hid ((W2.setCell ⟨w.heap.size, 1, none⟩ (.string wu)).grownBy ((((((((((((((W2.setCell ⟨w.heap.size, 1, none⟩ (.string wu)).setCell ⟨w.heap.size + 1, 0, none⟩ (.string q.sc)).setCell ⟨w.heap.size + 1, 1, none⟩ (.string q.us)).setCell ⟨w.heap.size + 1, 2, none⟩ (.string q.pw)).setCell ⟨w.heap.size + 1, 3, none⟩ (.int .i64 q.hk)).setCell ⟨w.heap.size + 1, 4, none⟩ (.string q.hn)).setCell ⟨w.heap.size + 1, 5, none⟩ (.int .i64 q.ha)).setCell ⟨w.heap.size + 1, 6, none⟩ (.int .i64 q.po)).setCell ⟨w.heap.size + 1, 7, none⟩ (.slice a n c)).setCell ⟨w.heap.size + 1, 8, none⟩ (.string q.op)).setCell ⟨w.heap.size + 1, 9, none⟩ (.bool q.hq)).setCell ⟨w.heap.size + 1, 10, none⟩ (.string q.qu)).setCell ⟨w.heap.size + 1, 11, none⟩ (.bool q.hf)).setCell ⟨w.heap.size + 1, 12, none⟩ (.string q.fr)) (some (w.heap.size + 1))) := hf3
    clear hf1 hf2 hf3
    generalize ((((((((((((((W2.setCell ⟨w.heap.size, 1, none⟩ (.string wu)).setCell ⟨w.heap.size + 1, 0, none⟩ (.string q.sc)).setCell ⟨w.heap.size + 1, 1, none⟩ (.string q.us)).setCell ⟨w.heap.size + 1, 2, none⟩ (.string q.pw)).setCell ⟨w.heap.size + 1, 3, none⟩ (.int .i64 q.hk)).setCell ⟨w.heap.size + 1, 4, none⟩ (.string q.hn)).setCell ⟨w.heap.size + 1, 5, none⟩ (.int .i64 q.ha)).setCell ⟨w.heap.size + 1, 6, none⟩ (.int .i64 q.po)).setCell ⟨w.heap.size + 1, 7, none⟩ (.slice a n c)).setCell ⟨w.heap.size + 1, 8, none⟩ (.string q.op)).setCell ⟨w.heap.size + 1, 9, none⟩ (.bool q.hq)).setCell ⟨w.heap.size + 1, 10, none⟩ (.string q.qu)).setCell ⟨w.heap.size + 1, 11, none⟩ (.bool q.hf)).setCell ⟨w.heap.size + 1, 12, none⟩ (.string q.fr)) = W9 at *
    clear c0 c1 c2 c3 c4 c5 c6 c7 c8 c9 c10 c11 c12 z0 z1 z2 z3 z4 z5 z6 z7 z8 z9 z10 z11 z12 y0 y1 y2 y3 y4 y5 y6 y7 y8 y9 y10 y11 y12
    have z0 : W9.cell? ⟨w.heap.size + 1, 0, none⟩ = some (.string q.sc) := HRB.out.cell 0
    have z1 : W9.cell? ⟨w.heap.size + 1, 1, none⟩ = some (.string q.us) := HRB.out.cell 1
    have z2 : W9.cell? ⟨w.heap.size + 1, 2, none⟩ = some (.string q.pw) := HRB.out.cell 2
    have z3 : W9.cell? ⟨w.heap.size + 1, 3, none⟩ = some (.int .i64 q.hk) := HRB.out.cell 3
    have z4 : W9.cell? ⟨w.heap.size + 1, 4, none⟩ = some (.string q.hn) := HRB.out.cell 4
    have z5 : W9.cell? ⟨w.heap.size + 1, 5, none⟩ = some (.int .i64 q.ha) := HRB.out.cell 5
    have z6 : W9.cell? ⟨w.heap.size + 1, 6, none⟩ = some (.int .i64 q.po) := HRB.out.cell 6
    have z7 : W9.cell? ⟨w.heap.size + 1, 7, none⟩ = some (.slice a n c) := HRB.out.cell 7
    have z8 : W9.cell? ⟨w.heap.size + 1, 8, none⟩ = some (.string q.op) := HRB.out.cell 8
    have z9 : W9.cell? ⟨w.heap.size + 1, 9, none⟩ = some (.bool q.hq) := HRB.out.cell 9
    have z10 : W9.cell? ⟨w.heap.size + 1, 10, none⟩ = some (.string q.qu) := HRB.out.cell 10
    have z11 : W9.cell? ⟨w.heap.size + 1, 11, none⟩ = some (.bool q.hf) := HRB.out.cell 11
    have z12 : W9.cell? ⟨w.heap.size + 1, 12, none⟩ = some (.string q.fr) := HRB.out.cell 12
    refine bodyPost_ret (v := .agg #[(.string q.sc), (.string q.us), (.string q.pw), (.int .i64 q.hk), (.string q.hn), (.int .i64 q.ha), (.int .i64 q.po), (.slice a n c), (.string q.op), (.bool q.hq), (.string q.qu), (.bool q.hf), (.string q.fr)]) (by simp [results, Tryz.results126, go_sem, z0, z1, z2, z3, z4, z5, z6, z7, z8, z9, z10, z11, z12]) rfl ?_
    exact ⟨by rw [HQ.out], HBB.out⟩
end Go.Proofs.YticbekooadnnlaaGreatDoor
end

section
set_option linter.unusedVariables false
namespace Go.Proofs.YticbekooadnnlaaGreatDoor
open Go.RowKit Go.Shelf

set_option maxHeartbeats 2000000 in
set_option maxRecDepth 100000 in
theorem l2Parts (s : ByteArray) (w : World) (hs : s.size ≤ 1048576) :
    Calls Tryz.prog 131 #[.string s] w fun e w' => ∃ g c, e = .returned (.slice (some ⟨g, 0, none⟩) (partsL s.data.toList).length c) ∧ w.heap.size ≤ g ∧ StrsAt g (partsL s.data.toList) w' ∧ Below w.heap.size w w' := by
  obtain ⟨P, hP⟩ : ∃ P, P = cutL 46 s.data.toList := ⟨_, rfl⟩
  have hPne : P ≠ [] := by rw [hP]; exact cutL_ne _ _
  obtain ⟨k, hk⟩ : ∃ k, P.length = k + 1 := ⟨P.length - 1, by have := List.length_pos_iff.2 hPne; omega⟩
  have hk600 : k ≤ 1048577 := by
    have := cutL_len_le 46 s.data.toList
    have hl : s.data.toList.length = s.size := by simp
    rw [← hP] at this; omega
  have CS : Hid (Calls Tryz.prog 133 #[.string s, .int .u8 46] w fun e w' => ∃ g c, e = .returned (.slice (some ⟨g, 0, none⟩) (k + 1) c) ∧ w.heap.size ≤ g ∧ k + 1 ≤ c ∧ StrsAt g P w' ∧ Below w.heap.size w w') := by
    refine (l1Cut s 46 w hs).mono ?_
    rintro e w' ⟨v, rfl, hO, hB⟩
    rw [← hP] at hO
    obtain ⟨g, c, rfl, hg, hc, hS⟩ := ownS_strs hO hPne
    exact ⟨g, c, by rw [hk], hg, by omega, hS, hB⟩
  have HK : Hid (k = 0 ∨ P[k]? ≠ some [] → partsL s.data.toList = P) := by
    intro h
    rw [hP]
    refine partsL_keep _ ?_
    rw [← hP, hk]
    rcases h with h | h
    · left; omega
    · right; simpa using h
  have HD : Hid (1 ≤ k → P[k]? = some [] → partsL s.data.toList = P.dropLast) := by
    intro h1 h2
    rw [hP]
    refine partsL_drop _ ?_ ?_
    · rw [← hP, hk]; omega
    · rw [← hP, hk]; simpa using h2
  have HL : Hid (P.length = k + 1) := hk
  clear hP hk hPne
  have hk1 : (k : Int) + 1 - 1 = (k : Int) := by omega
  by_cases h0 : k = 0
  · have HP : Hid (partsL s.data.toList = P) := HK.out (.inl h0)
    subst h0
    go_enter Tryz.func131, Tryz.ntmps131
    go_wp2_with fail
    refine CS.out.mono ?_
    rintro e w1 ⟨g, c, rfl, hg, hc, hS, hB⟩
    go_wp2
    go_ret
    exact ⟨g, c, by rw [HP.out, HL.out]; rfl, hg, by rw [HP.out]; exact hS, hB⟩
  · have h0i : (1 : Int) < (k : Int) + 1 := by omega
    go_enter Tryz.func131, Tryz.ntmps131
    go_wp2_with fail
    refine CS.out.mono ?_
    rintro e w1 ⟨g, c, rfl, hg, hgc, hS, hB⟩
    have hgci : (k : Int) + 1 ≤ (c : Int) := by omega
    have hgci2 : (k : Int) ≤ (c : Int) := by omega
    have hc := hS.cell k (by rw [HL.out]; omega)
    by_cases hz : P[k]? = some []
    · have HP : Hid (partsL s.data.toList = P.dropLast) := HD.out (by omega) hz
      have hz2 : P[k]'(by rw [HL.out]; omega) = [] := by
        rw [List.getElem?_eq_getElem (by rw [HL.out]; omega)] at hz; exact Option.some.inj hz
      rw [hz2] at hc
      have hc2 : w1.cell? ⟨g, k, none⟩ = some (.string ⟨#[]⟩) := hc
      clear hc
      go_wp2
      go_ret
      exact ⟨g, c, by rw [HP.out, List.length_dropLast, HL.out]; rfl, hg, by rw [HP.out]; exact hS.less, hB⟩
    · have HP : Hid (partsL s.data.toList = P) := HK.out (.inr hz)
      obtain ⟨z, hzz, hzn⟩ : ∃ z : ByteArray, w1.cell? ⟨g, k, none⟩ = some (.string z) ∧ z.toList ≠ [] := by
        refine ⟨_, hc, ?_⟩
        rw [ByteArray.toList_eq, mk_data]
        intro e
        apply hz
        rw [List.getElem?_eq_getElem (by rw [HL.out]; omega), e]
      have hne1 : (z.toList == []) = false := beq_eq_false_iff_ne.2 hzn
      have hne2 : z.toList.isEmpty = false := List.isEmpty_eq_false_iff.2 hzn
      clear hc hz
      go_wp2
      go_ret
      exact ⟨g, c, by rw [HP.out, HL.out]; rfl, hg, by rw [HP.out]; exact hS, hB⟩
end Go.Proofs.YticbekooadnnlaaGreatDoor
end

section
set_option linter.unusedVariables false
namespace Go.Proofs.YticbekooadnnlaaGreatDoor
open Go.RowKit Go.Shelf

set_option maxHeartbeats 1000000 in
theorem l1In_yes (n lo hi : Int) (w : World) (h : lo ≤ n ∧ n ≤ hi) : Calls Tryz.prog 125 #[.int .i64 n, .int .i64 lo, .int .i64 hi] w fun e w' => e = .returned (.bool true) ∧ w' = w := by
  obtain ⟨h1, h2⟩ := h
  go_enter Tryz.func125, Tryz.ntmps125
  go_wp2
  go_ret
  exact ⟨rfl, rfl⟩
set_option maxHeartbeats 1000000 in
theorem l1In_no (n lo hi : Int) (w : World) (h : ¬ (lo ≤ n ∧ n ≤ hi)) : Calls Tryz.prog 125 #[.int .i64 n, .int .i64 lo, .int .i64 hi] w fun e w' => e = .returned (.bool false) ∧ w' = w := by
  rcases (show n < lo ∨ (lo ≤ n ∧ hi < n) from by omega) with h1 | ⟨h1, h2⟩
  all_goals
    clear h
    go_enter Tryz.func125, Tryz.ntmps125
    go_wp2
    go_ret
    exact ⟨by first | rfl | exact ret_bool (decide_eq_false (by omega)), rfl⟩
end Go.Proofs.YticbekooadnnlaaGreatDoor
end

section
set_option linter.unusedVariables false
set_option linter.unusedSimpArgs false
namespace Go.Proofs.YticbekooadnnlaaGreatDoor
open Go.RowKit Go.Shelf

/-- What l3Port answers. -/
def portS (l : List UInt8) (own : Int) : Int := if l = [] then -1 else if 0 ≤ digsV 10 l ∧ digsV 10 l ≤ 65535 then (if digsV 10 l = own then -1 else digsV 10 l) else -2
set_option maxRecDepth 100000 in
theorem hex_fig (c : UInt8) (h : figB c = true) : hexV c = (c.toNat : Int) - 48 := by
  have key : ∀ n : _root_.Fin 256, figB (UInt8.ofNat n.val) = true → hexV (UInt8.ofNat n.val) = ((UInt8.ofNat n.val).toNat : Int) - 48 := by decide
  have := key ⟨c.toNat, c.toNat_lt⟩
  simp at this
  exact this h
set_option maxRecDepth 100000 in
theorem hex_nofig (c : UInt8) (h : figB c = false) : hexV c < 0 ∨ 10 ≤ hexV c := by
  have key : ∀ n : _root_.Fin 256, figB (UInt8.ofNat n.val) = false → (hexV (UInt8.ofNat n.val) < 0 ∨ 10 ≤ hexV (UInt8.ofNat n.val)) := by decide
  have := key ⟨c.toNat, c.toNat_lt⟩
  simp at this
  exact this h
theorem digs_mono (l : List UInt8) : ∀ (m k : Int), 0 ≤ m → figsL l = true → digs 10 m l = some k → m ≤ k := by
  induction l with
  | nil => intro m k h0 _ h; simp [digs] at h; omega
  | cons c r ih =>
    intro m k h0 hf h
    have hc : figB c = true := by unfold figsL at hf; simp at hf; exact hf.1
    have hr : figsL r = true := by unfold figsL at hf ⊢; simp at hf ⊢; exact hf.2
    have hx := hex_fig c hc
    have hb : 48 ≤ c.toNat := by unfold figB at hc; exact (of_decide_eq_true hc).1
    by_cases hd : hexV c < 0 ∨ 10 ≤ hexV c ∨ 4294967295 < m
    · rw [digs_no _ _ _ _ hd] at h; cases h
    · rw [digs_yes _ _ _ _ hd] at h
      have := ih (m * 10 + hexV c) k (by omega) hr h
      omega
theorem port_digs (l : List UInt8) : ∀ (m : Int), 0 ≤ m → m ≤ 65535 → figsL l = true → (∀ n, portN m l = some n → digs 10 m l = some n) ∧ (portN m l = none → ∀ k, digs 10 m l = some k → 65535 < k) := by
  induction l with
  | nil => intro m h0 h1 _; simp [portN, digs]
  | cons c r ih =>
    intro m h0 h1 hf
    have hc : figB c = true := by unfold figsL at hf; simp at hf; exact hf.1
    have hr : figsL r = true := by unfold figsL at hf ⊢; simp at hf ⊢; exact hf.2
    have hx := hex_fig c hc
    have hb : 48 ≤ c.toNat ∧ c.toNat ≤ 57 := by unfold figB at hc; exact of_decide_eq_true hc
    have hd : ¬ (hexV c < 0 ∨ 10 ≤ hexV c ∨ 4294967295 < m) := by omega
    rw [digs_yes _ _ _ _ hd, hx]
    unfold portN
    by_cases hbig : 65535 < m * 10 + ((c.toNat : Int) - 48)
    · rw [if_pos hbig]
      refine ⟨(fun n h => absurd h (by simp)), (fun _ k hk => ?_)⟩
      have := digs_mono r _ k (by omega) hr hk
      omega
    · rw [if_neg hbig]
      exact ih _ (by omega) (by omega) hr
theorem digs_nofig (l : List UInt8) : ∀ (m : Int), figsL l = false → digs 10 m l = none := by
  induction l with
  | nil => intro m h; cases h
  | cons c r ih =>
    intro m hf
    by_cases hd : hexV c < 0 ∨ 10 ≤ hexV c ∨ 4294967295 < m
    · exact digs_no _ _ _ _ hd
    · rw [digs_yes _ _ _ _ hd]
      apply ih
      have hc : figB c = true := by
        cases h : figB c with
        | true => rfl
        | false => exfalso; have := hex_nofig c h; omega
      unfold figsL at hf ⊢
      rw [List.all_cons, hc, Bool.true_and] at hf
      exact hf
theorem port_both (l : List UInt8) (own : Int) (hown : own ≤ 65535) : (portB l own = true ∧ portV l own = portS l own ∧ portS l own ≠ -2) ∨ (portB l own = false ∧ portS l own = -2) := by
  by_cases he : l = []
  · subst he
    obtain ⟨e1, e2⟩ := portL_empty own
    left
    refine ⟨e2, ?_, ?_⟩
    · rw [e1]; rfl
    · show (-1 : Int) ≠ -2; decide
  · cases hf : figsL l with
    | false =>
      right
      refine ⟨(portL_nofig l own hf).2, ?_⟩
      have : digsV 10 l = -1 := by unfold digsV; rw [digs_nofig l 0 hf]; rfl
      unfold portS
      rw [if_neg he, this, if_neg (by omega)]
    | true =>
      obtain ⟨p1, p2⟩ := port_digs l 0 (by decide) (by decide) hf
      cases hp : portN 0 l with
      | none =>
        right
        refine ⟨(portL_none l own hf he hp).2, ?_⟩
        unfold portS
        rw [if_neg he, if_neg]
        rintro ⟨h1, h2⟩
        unfold digsV at h1 h2
        cases hd : digs 10 0 l with
        | none => rw [hd] at h1; revert h1; decide
        | some k =>
          rw [hd] at h2
          have := p2 hp k hd
          have h3 : k ≤ 65535 := h2
          omega
      | some n =>
        have hr := portN_le l 0 n (by decide) (by decide) (figs_low l hf) hp
        have hd : digsV 10 l = n := by unfold digsV; rw [p1 n hp]; rfl
        left
        by_cases ho : n = own
        · subst ho
          obtain ⟨e1, e2⟩ := portL_own l n hf he hp
          refine ⟨e2, ?_, ?_⟩
          · rw [e1]; unfold portS; rw [if_neg he, hd, if_pos hr, if_pos rfl]
          · unfold portS; rw [if_neg he, hd, if_pos hr, if_pos rfl]; decide
        · obtain ⟨e1, e2⟩ := portL_some l own n hf he hp ho
          have e3 : portS l own = n := by unfold portS; rw [if_neg he, hd, if_pos hr, if_neg ho]
          refine ⟨e2, by rw [e1, e3], ?_⟩
          rw [e3]; omega
set_option maxHeartbeats 2000000 in
set_option maxRecDepth 100000 in
theorem l3Port (l : List UInt8) (own : Int) (w : World) (hl : l.length ≤ 1000) :
    Calls Tryz.prog 127 #[.string (mk l), .int .i64 own] w fun e w' => e = .returned (.int .i64 (portS l own)) ∧ w' = w := by
  by_cases he : l = []
  · subst he
    have HE : Hid (portS [] own = -1) := rfl
    have hmk : mk [] = ⟨#[]⟩ := rfl
    rw [hmk]
    go_enter Tryz.func127, Tryz.ntmps127
    go_wp2
    go_ret
    rw [HE.out]
    exact ⟨rfl, rfl⟩
  · obtain ⟨s, hs⟩ : ∃ s, s = mk l := ⟨_, rfl⟩
    obtain ⟨hb1, hb2⟩ := text_full s (by rw [hs, mk_data]; exact he)
    obtain ⟨n, hn⟩ : ∃ n, n = digsV 10 l := ⟨_, rfl⟩
    have CD : Hid (∀ W, Calls Tryz.prog 152 #[.string s, .int .i64 10] W fun e w' => e = .returned (.int .i64 n) ∧ w' = W) := fun W => by rw [hn, hs]; exact l2Digits (mk l) 10 W (by rw [mk_size]; omega) (by omega)
    have HP : Hid (portS l own = if 0 ≤ n ∧ n ≤ 65535 then (if n = own then -1 else n) else -2) := by show _ = _; unfold portS; rw [if_neg he, hn]
    rw [← hs]
    clear hs hn he
    by_cases hin : 0 ≤ n ∧ n ≤ 65535
    · have CI : Hid (∀ W, Calls Tryz.prog 125 #[.int .i64 n, .int .i64 0, .int .i64 65535] W fun e w' => e = .returned (.bool true) ∧ w' = W) := fun W => l1In_yes n 0 65535 W hin
      rw [if_pos hin] at HP
      clear hin
      by_cases ho : n = own
      · subst ho
        have HR : Hid (portS l n = -1) := by show _ = _; rw [HP.out, if_pos rfl]
        clear HP
        go_enter Tryz.func127, Tryz.ntmps127
        go_wp2_with fail
        refine (CD.out _).mono ?_
        rintro e W1 ⟨rfl, hW1⟩
        have hW1' := hW1.symm
        subst hW1'
        go_wp2_with fail
        refine (CI.out _).mono ?_
        rintro e W2 ⟨rfl, hW2⟩
        have hW2' := hW2.symm
        subst hW2'
        go_wp2
        go_ret
        rw [HR.out]
        exact ⟨rfl, rfl⟩
      · have ho' : (n == own) = false := beq_eq_false_iff_ne.2 ho
        have HR : Hid (portS l own = n) := by show _ = _; rw [HP.out, if_neg ho]
        clear HP ho
        go_enter Tryz.func127, Tryz.ntmps127
        go_wp2_with fail
        refine (CD.out _).mono ?_
        rintro e W1 ⟨rfl, hW1⟩
        have hW1' := hW1.symm
        subst hW1'
        go_wp2_with fail
        refine (CI.out _).mono ?_
        rintro e W2 ⟨rfl, hW2⟩
        have hW2' := hW2.symm
        subst hW2'
        go_wp2
        go_ret
        rw [HR.out]
        exact ⟨rfl, rfl⟩
    · have CI : Hid (∀ W, Calls Tryz.prog 125 #[.int .i64 n, .int .i64 0, .int .i64 65535] W fun e w' => e = .returned (.bool false) ∧ w' = W) := fun W => l1In_no n 0 65535 W hin
      have HR : Hid (portS l own = -2) := by show _ = _; rw [HP.out, if_neg hin]
      clear HP hin
      go_enter Tryz.func127, Tryz.ntmps127
      go_wp2_with fail
      refine (CD.out _).mono ?_
      rintro e W1 ⟨rfl, hW1⟩
      have hW1' := hW1.symm
      subst hW1'
      go_wp2_with fail
      refine (CI.out _).mono ?_
      rintro e W2 ⟨rfl, hW2⟩
      have hW2' := hW2.symm
      subst hW2'
      go_wp2
      go_ret
      rw [HR.out]
      exact ⟨rfl, rfl⟩
end Go.Proofs.YticbekooadnnlaaGreatDoor
end

section
set_option linter.unusedVariables false
namespace Go.Proofs.YticbekooadnnlaaGreatDoor
open Go.RowKit Go.Shelf

theorem nm_cases (c : UInt8) :
    ((97 : Int) ≤ (c.toNat : Int) ∧ (c.toNat : Int) ≤ 122 ∧ nmB c = true) ∨ ((48 : Int) ≤ (c.toNat : Int) ∧ (c.toNat : Int) ≤ 57 ∧ nmB c = true) ∨ ((c.toNat : Int) = 45 ∧ nmB c = true) ∨ ((c.toNat : Int) = 95 ∧ nmB c = true) ∨
    (((c.toNat : Int) < 48 ∧ (c.toNat : Int) ≠ 45) ∧ nmB c = false) ∨ (((57 : Int) < (c.toNat : Int) ∧ (c.toNat : Int) < 97 ∧ (c.toNat : Int) ≠ 95) ∧ nmB c = false) ∨ ((122 : Int) < (c.toNat : Int) ∧ nmB c = false) := by
  have hb := u8_lt c
  have e45 : (c == 45) = decide ((c.toNat : Int) = 45) := by
    by_cases h : c = 45
    · subst h; rfl
    · have : c.toNat ≠ 45 := fun e => h (UInt8.toNat_inj.1 (by simpa using e))
      rw [beq_eq_false_iff_ne.2 h]; exact (decide_eq_false (by omega)).symm
  have e95 : (c == 95) = decide ((c.toNat : Int) = 95) := by
    by_cases h : c = 95
    · subst h; rfl
    · have : c.toNat ≠ 95 := fun e => h (UInt8.toNat_inj.1 (by simpa using e))
      rw [beq_eq_false_iff_ne.2 h]; exact (decide_eq_false (by omega)).symm
  have E : nmB c = decide ((97 ≤ c.toNat ∧ c.toNat ≤ 122) ∨ (48 ≤ c.toNat ∧ c.toNat ≤ 57) ∨ (c.toNat : Int) = 45 ∨ (c.toNat : Int) = 95) := by
    unfold nmB smallB figB; rw [e45, e95]
    simp only [Bool.decide_or, Bool.or_assoc]
  by_cases h : (97 ≤ c.toNat ∧ c.toNat ≤ 122) ∨ (48 ≤ c.toNat ∧ c.toNat ≤ 57) ∨ (c.toNat : Int) = 45 ∨ (c.toNat : Int) = 95
  · have : nmB c = true := by rw [E]; exact decide_eq_true h
    rw [this]; simp only [and_true]; omega
  · have : nmB c = false := by rw [E]; exact decide_eq_false h
    rw [this]; simp only [and_true]; omega

theorem mk_get (l : List UInt8) (k : Nat) (h : k < (mk l).size) : (mk l)[k] = l[k]'(by rw [mk_size] at h; exact h) := by
  simp [mk, ByteArray.getElem_eq_getElem_data]

/-- The pieces ahead of i are as a name asks. -/
def GoodTo (P : List (List UInt8)) (i : Nat) : Prop := ∀ j (hj : j < P.length), j < i → ((j + 1 < P.length ∨ j = 0) → P[j] ≠ []) ∧ ∀ c ∈ P[j], nmB c = true
theorem good_next {P : List (List UInt8)} {i : Nat} (hi : i < P.length) (h : GoodTo P i) (h1 : (i + 1 < P.length ∨ i = 0) → P[i] ≠ []) (h2 : ∀ c ∈ P[i], nmB c = true) : GoodTo P (i + 1) := by
  intro j hj hji
  by_cases e : j = i
  · subst e; exact ⟨h1, h2⟩
  · exact h j hj (by omega)

theorem name_good (l : List UInt8) (h : GoodTo (cutL 46 l) (cutL 46 l).length) : nameL l = decide (1 ≤ l.length ∧ l.length ≤ 60) := by
  by_cases hl : 1 ≤ l.length ∧ l.length ≤ 60
  · rw [decide_eq_true hl]
    refine nameL_yes l hl ?_ (parts_good l (fun i hi hb => (h i hi hi).1 hb))
    intro c hc
    rcases cutL_cover l c hc with e | ⟨p, hp, hcp⟩
    · exact .inr e
    · obtain ⟨j, hj, e⟩ := List.getElem_of_mem hp
      exact .inl ((h j hj hj).2 c (by rw [e]; exact hcp))
  · rw [decide_eq_false hl]; exact nameL_len l hl

set_option maxHeartbeats 4000000 in
set_option maxRecDepth 100000 in
theorem l2Name (s : ByteArray) (w : World) (hs : s.size ≤ 1048576) :
    Calls Tryz.prog 107 #[.string s] w fun e w' => e = .returned (.bool (nameL s.data.toList)) ∧ Below w.heap.size w w' := by
  have hl : s.data.toList.length = s.size := by simp
  obtain ⟨P, hP⟩ : ∃ P, P = cutL 46 s.data.toList := ⟨_, rfl⟩
  have hPne : P ≠ [] := by rw [hP]; exact cutL_ne _ _
  have hll := cutL_len_le 46 s.data.toList
  rw [← hP] at hll
  obtain ⟨n, hn⟩ : ∃ n, n = P.length := ⟨_, rfl⟩
  have HN : Hid (n = P.length) := hn
  have hn9 : n ≤ 1048577 := by omega
  have CS : Hid (Calls Tryz.prog 133 #[.string s, .int .u8 46] w fun e w' => ∃ g c, e = .returned (.slice (some ⟨g, 0, none⟩) n c) ∧ n ≤ c ∧ StrsAt g P w' ∧ Below w.heap.size w w') := by
    refine (l1Cut s 46 w hs).mono ?_
    rintro e w' ⟨v, rfl, hO, hB⟩
    rw [← hP] at hO
    obtain ⟨g, c, rfl, hg, hc, hS⟩ := ownS_strs hO hPne
    exact ⟨g, c, by rw [hn], by omega, hS, hB⟩
  have HBAD : Hid (∀ i (hi : i < P.length), P[i] = [] → (i + 1 < P.length ∨ i = 0) → nameL s.data.toList = false) := by
    intro i hi h hb
    subst hP
    exact nameL_empty _ (parts_bad _ i hi h hb)
  have HBYTE : Hid (∀ i (hi : i < P.length), ∀ c ∈ P[i], nmB c = false → nameL s.data.toList = false) := by
    intro i hi c hc h
    subst hP
    have := cutL_byte s.data.toList _ (List.getElem_mem hi) c hc
    exact nameL_byte _ c this.1 h this.2
  have HGOOD : Hid (GoodTo P n → nameL s.data.toList = decide (1 ≤ s.size ∧ s.size ≤ 60)) := by
    intro h
    subst hn hP
    have := name_good _ h
    rw [hl] at this; exact this
  have HQL : Hid (∀ i (hi : i < P.length), P[i].length ≤ s.size) := by
    intro i hi
    have := cutL_mem_le 46 s.data.toList P[i] (by rw [← hP]; exact List.getElem_mem hi)
    omega
  clear hP hPne hll hn
  go_enter Tryz.func107, Tryz.ntmps107
  go_wp2_with fail
  refine CS.out.mono ?_
  rintro e w1 ⟨g, cc, rfl, hcc, hS, hB⟩
  have HB : Hid (Below w.heap.size w w1) := hB
  have HS : Hid (StrsAt g P w1) := hS
  clear hB hS
  go_wp2
  go_loop [4] (fun i => ∃ k : Nat, k ≤ n ∧ i = .int .i64 k ∧ Hid (GoodTo P k)) (fun i => n - (intOf i).toNat)
  case atStart => exact ⟨0, Nat.zero_le _, rfl, fun j hj h => absurd h (by omega)⟩
  case round =>
    obtain ⟨i, hi, rfl, HA⟩ := hrel
    by_cases hp : i < n
    · have hii : (i : Int) < (n : Int) := by omega
      have hn1 : ((n : Int) - 1) = ((n - 1 : Nat) : Int) := by omega
      have hiP : i < P.length := by rw [← HN.out]; exact hp
      have hc0 := HS.out.cell i hiP
      have HQ : Hid (∀ k (hk : k < (mk P[i]).size), (mk P[i])[k] ∈ P[i]) := fun k hk => by rw [mk_get]; exact List.getElem_mem _
      have hq9 := HQL.out i hiP
      have HBY : Hid (∀ c ∈ P[i], nmB c = false → nameL s.data.toList = false) := HBYTE.out i hiP
      have HALL : Hid ((∀ k (hk : k < (mk P[i]).size), nmB (mk P[i])[k] = true) → ∀ c ∈ P[i], nmB c = true) := by
        intro h c hc
        obtain ⟨j, hj, e⟩ := List.getElem_of_mem hc
        have := h j (by rw [mk_size]; exact hj)
        rw [mk_get, e] at this; exact this
      have HNX : Hid (((i + 1 < n ∨ i = 0) → P[i] ≠ []) → (∀ c ∈ P[i], nmB c = true) → GoodTo P (i + 1)) := fun a b => good_next hiP HA.out (by rw [← HN.out]; exact a) b
      have HZL : Hid (P[i] = [] → (i + 1 < n ∨ i = 0) → nameL s.data.toList = false) := fun a b => HBAD.out i hiP a (by rw [← HN.out]; exact b)
      have hzs : (mk P[i]).size = P[i].length := mk_size _
      have HZE : Hid ((mk P[i]).toList = P[i]) := by show _ = _; rw [ByteArray.toList_eq, mk_data]
      obtain ⟨q, hq⟩ : ∃ q, q = P[i] := ⟨_, rfl⟩
      rw [← hq] at hc0 HQ hq9 HBY HALL HNX HZL hzs HZE
      clear hq
      obtain ⟨z, hz⟩ : ∃ z, z = mk q := ⟨_, rfl⟩
      rw [← hz] at hc0 HQ HALL hzs HZE
      have HZ1 : Hid (q = [] → z = ⟨#[]⟩) := by intro h; rw [hz, h]; rfl
      clear hz
      have hz9 : z.size ≤ 1048576 := by omega
      have HIN : Hid (((i + 1 < n ∨ i = 0) → q ≠ []) → ∀ (W : World), True) := fun _ _ => trivial
      by_cases hbad : q = [] ∧ (i + 1 < n ∨ i = 0)
      · have HF : Hid (nameL s.data.toList = false) := HZL.out hbad.1 hbad.2
        have he := HZ1.out hbad.1
        subst he
        rcases (show i + 1 < n ∨ (¬ i + 1 < n ∧ i = 0) from by omega) with h1 | ⟨h1, h0⟩
        · have h1i : (i : Int) < (n : Int) - 1 := by omega
          clear hbad
          go_wp2
          go_ret
          exact ⟨by rw [HF.out]; rfl, HB.out⟩
        · have h1i : ¬ ((i : Int) < (n : Int) - 1) := by omega
          have h0e : ((i : Int) == 0) = true := by simp [h0]
          clear hbad h0
          go_wp2
          go_ret
          exact ⟨by rw [HF.out]; rfl, HB.out⟩
      · have hnb : (i + 1 < n ∨ i = 0) → q ≠ [] := fun a b => hbad ⟨b, a⟩
        have HNX2 : Hid ((∀ k (hk : k < z.size), nmB z[k] = true) → GoodTo P (i + 1)) := fun h => HNX.out hnb (HALL.out h)
        have HFALSE : Hid (∀ k (hk : k < z.size), nmB z[k] = false → nameL s.data.toList = false) := fun k hk h => HBY.out _ (HQ.out k hk) h
        have LOOP : True := trivial
        by_cases hz0 : z.size = 0
        · have hq0 : q = [] := List.length_eq_zero_iff.1 (by omega)
          have he := HZ1.out hq0
          have h1 : ¬ (i + 1 < n ∨ i = 0) := fun h => hnb h hq0
          have h1i : ¬ ((i : Int) < (n : Int) - 1) := by omega
          have h0e : ((i : Int) == 0) = false := by rw [beq_eq_false_iff_ne]; omega
          have HG : Hid (GoodTo P (i + 1)) := HNX2.out (fun k hk => absurd hk (by omega))
          subst he
          clear hbad hnb h1 hq0
          go_wp2
          go_loop [5] (fun j => j = .int .i64 0) (fun j => 1)
          case atStart => rfl
          case round =>
            obtain rfl := hrel
            go_wp2
            go_round
            case rel => exact ⟨i + 1, by omega, by go_num, HG⟩
            case measure => simp [intOf]; omega
        · have hzn : z.toList ≠ [] := by rw [ByteArray.toList_eq]; exact list_ne z hz0
          have hne1 : (z.toList == []) = false := beq_eq_false_iff_ne.2 hzn
          have hne2 : z.toList.isEmpty = false := List.isEmpty_eq_false_iff.2 hzn
          clear hbad hnb
          go_wp2
          go_loop [5] (fun j => ∃ k : Nat, k ≤ z.size ∧ j = .int .i64 k ∧ Hid (∀ k' (hk : k' < z.size), k' < k → nmB z[k'] = true)) (fun j => z.size - (intOf j).toNat)
          case atStart => exact ⟨0, Nat.zero_le _, rfl, fun j hj h => absurd h (by omega)⟩
          case round =>
            obtain ⟨k, hk, rfl, HK⟩ := hrel
            by_cases hkz : k < z.size
            · have hkzi : (k : Int) < (z.size : Int) := by omega
              have hb := u8_lt z[k]
              rcases nm_cases z[k] with ⟨a1, a2, a3⟩ | ⟨a1, a2, a3⟩ | ⟨a1, a3⟩ | ⟨a1, a3⟩ | ⟨⟨a1, a2⟩, a3⟩ | ⟨⟨a1, a2, a4⟩, a3⟩ | ⟨a1, a3⟩
              rotate_left
              · have b1 : ((z[k]).toNat : Int) < 97 := by omega
                have HK2 : Hid (∀ k' (hk : k' < z.size), k' < k + 1 → nmB z[k'] = true) := by
                  intro j hj h
                  by_cases hjk : j = k
                  · subst hjk; exact a3
                  · exact HK.out j hj (by omega)
                clear a3
                go_wp2
                all_goals go_round
                case rel => exact ⟨k + 1, by omega, by go_num, HK2⟩
                case measure => simp [intOf]; omega
              · have b1 : ((z[k]).toNat : Int) < 97 := by omega
                have b2 : ((z[k]).toNat : Int) < 48 := by omega
                have b3 : (((z[k]).toNat : Int) == 45) = true := by simp [a1]
                have b4 : (((z[k]).toNat : Int) != 45) = false := by simp [a1]
                have HK2 : Hid (∀ k' (hk : k' < z.size), k' < k + 1 → nmB z[k'] = true) := by
                  intro j hj h
                  by_cases hjk : j = k
                  · subst hjk; exact a3
                  · exact HK.out j hj (by omega)
                clear a3
                go_wp2
                all_goals go_round
                case rel => exact ⟨k + 1, by omega, by go_num, HK2⟩
                case measure => simp [intOf]; omega
              · have b1 : ((z[k]).toNat : Int) < 97 := by omega
                have b2 : ¬ ((z[k]).toNat : Int) < 48 := by omega
                have b5 : (57 : Int) < ((z[k]).toNat : Int) := by omega
                have b3 : (((z[k]).toNat : Int) == 95) = true := by simp [a1]
                have b4 : (((z[k]).toNat : Int) != 95) = false := by simp [a1]
                have b6 : (((z[k]).toNat : Int) == 45) = false := by simp [a1]
                have b7 : (((z[k]).toNat : Int) != 45) = true := by simp [a1]
                have HK2 : Hid (∀ k' (hk : k' < z.size), k' < k + 1 → nmB z[k'] = true) := by
                  intro j hj h
                  by_cases hjk : j = k
                  · subst hjk; exact a3
                  · exact HK.out j hj (by omega)
                clear a3
                go_wp2
                all_goals go_round
                case rel => exact ⟨k + 1, by omega, by go_num, HK2⟩
                case measure => simp [intOf]; omega
              rotate_right
              iterate 1
                · have HK2 : Hid (∀ k' (hk : k' < z.size), k' < k + 1 → nmB z[k'] = true) := by
                    intro j hj h
                    by_cases hjk : j = k
                    · subst hjk; exact a3
                    · exact HK.out j hj (by omega)
                  clear a3
                  go_wp2
                  go_round
                  case rel => exact ⟨k + 1, by omega, by go_num, HK2⟩
                  case measure => simp [intOf]; omega
              iterate 3
                · have HF : Hid (nameL s.data.toList = false) := HFALSE.out k hkz a3
                  have b4 : (((z[k]).toNat : Int) != 95) = true := by rw [bne_iff_ne]; omega
                  have b7 : (((z[k]).toNat : Int) != 45) = true := by rw [bne_iff_ne]; omega
                  clear a3
                  go_wp2
                  go_ret
                  exact ⟨by rw [HF.out]; rfl, HB.out⟩
            · have hkk : k = z.size := by omega
              have hkzi : ¬ ((k : Int) < (z.size : Int)) := by omega
              have HG : Hid (GoodTo P (i + 1)) := HNX2.out (fun j hj => HK.out j hj (by omega))
              go_wp2
              go_round
              case rel => exact ⟨i + 1, by omega, by go_num, HG⟩
              case measure => simp [intOf]; omega
    · have hkk : i = n := by omega
      have hni : ¬ ((i : Int) < (n : Int)) := by omega
      have HF : Hid (nameL s.data.toList = decide (1 ≤ s.size ∧ s.size ≤ 60)) := HGOOD.out (by rw [← hkk]; exact HA.out)
      by_cases h6 : 1 ≤ s.size ∧ s.size ≤ 60
      · go_wp2_with (go_at_call 125; refine (l1In_yes _ _ _ _ (by omega)).mono ?_; rintro e W1 ⟨rfl, hW⟩; have hW2 := hW.symm; subst hW2)
        go_ret
        exact ⟨by rw [HF.out, decide_eq_true h6]; rfl, HB.out⟩
      · go_wp2_with (go_at_call 125; refine (l1In_no _ _ _ _ (by omega)).mono ?_; rintro e W1 ⟨rfl, hW⟩; have hW2 := hW.symm; subst hW2)
        go_ret
        exact ⟨by rw [HF.out, decide_eq_false h6]; rfl, HB.out⟩
end Go.Proofs.YticbekooadnnlaaGreatDoor
end
