/- spec.l3Hosted. -/
import Derived.Test.YtnfhajhdpdidlaaGreatDoorB31
set_option linter.unusedVariables false
set_option linter.unusedSimpArgs false
set_option maxHeartbeats 4000000
set_option maxRecDepth 100000
section
namespace Go.Proofs.YtnfhajhdpdidlaaGreatDoor
open Go.RowKit Go.Shelf
def hoA (l : List UInt8) : List UInt8 := upL [47, 92, 63, 35] l
def hoR (l : List UInt8) : List UInt8 := l.drop (hoA l).length
def hoQ (p : P) (l : List UInt8) : P := { auS p (hoA l) with ps := pathL (upL [63, 35] (hoR l)) }
def hoS (p : P) (l : List UInt8) : Option P := if auB p (hoA l) = true then some (tailS (hoQ p l) ((hoR l).drop (upL [63, 35] (hoR l)).length)) else none
theorem tail_ps (p : P) (l : List UInt8) : (tailS p l).ps = p.ps := by
 unfold tailS tail2 tail1
 (repeat' split) <;> rfl
theorem l3Hosted (p : P) (a : Option Addr) (n c : Nat) (l : List UInt8) (w : World) (hl : l.length ≤ 1000) :
  Calls Tryz.prog 139 #[.agg (p.cells (.slice a n c)), .string (mk l)] w fun e w' => ∃ v, e = .returned (.tuple #[.agg (((hoS p l).getD P.zero).cells v), .bool (hoS p l).isSome]) ∧ OwnS w.heap.size v ((hoS p l).getD P.zero).ps w' ∧ Below w.heap.size w w' := by
 have H0 : Hid (BX w p (.slice a n c) ((w.alloc (.cells (p.cells (.slice a n c)) 31)).alloc (.cells zeroC 31))) := BX.start w p (.slice a n c)
 unfold P.cells zeroC at H0
 obtain ⟨s, hs⟩ : ∃ s, s = mk l := ⟨_, rfl⟩
 have hss : s.size = l.length := by rw [hs, mk_size]
 have hsz : s.size ≤ 1000 := by omega
 obtain ⟨k, hk⟩ : ∃ k, k = (hoA l).length := ⟨_, rfl⟩
 have hkl : k ≤ l.length := by rw [hk]; exact upL_le _ _
 have hks : k ≤ s.size := by omega
 have CA : Hid (∀ W, Calls Tryz.prog 136 #[.string s, .string ⟨#[47, 92, 63, 35]⟩] W fun e w' => e = .returned (.int .i64 (k : Int)) ∧ Below W.heap.size W w') := fun W => by rw [hk, hs]; exact atC [47, 92, 63, 35] l W (by omega) (by decide)
 obtain ⟨s1, hs1⟩ : ∃ s1, s1 = mk (hoA l) := ⟨_, rfl⟩
 have hsl1 : ∀ W : World, (Instr.slice 9 (.string s) none (some (.int .i64 (k : Int))) none).run Tryz.prog W = .ok (.string s1) W := fun W => by
  have := slice_to s k W hks
  rw [this, hs1, hs, ext_takeM l k hkl, hk]
  unfold hoA
  rw [up_take]
 obtain ⟨r, hr⟩ : ∃ r, r = mk (hoR l) := ⟨_, rfl⟩
 have hx0 : s.extract k s.size = r := by rw [hs, hr, ext_dropM, hk]; rfl
 have hrs : r.size = (hoR l).length := by rw [hr, mk_size]
 have hrl : (hoR l).length ≤ 1000 := by unfold hoR; rw [List.length_drop]; omega
 have hrz : r.size ≤ 1000 := by omega
 obtain ⟨m, hm⟩ : ∃ m, m = (upL [63, 35] (hoR l)).length := ⟨_, rfl⟩
 have hmr : m ≤ r.size := by rw [hm, hrs]; exact upL_le _ _
 have CB : Hid (∀ W, Calls Tryz.prog 136 #[.string r, .string ⟨#[63, 35]⟩] W fun e w' => e = .returned (.int .i64 (m : Int)) ∧ Below W.heap.size W w') := fun W => by rw [hm, hr]; exact atC [63, 35] (hoR l) W (by omega) (by decide)
 obtain ⟨s2, hs2⟩ : ∃ s2, s2 = mk (upL [63, 35] (hoR l)) := ⟨_, rfl⟩
 have hx1 : r.extract 0 m = s2 := by rw [hr, hs2, ext_takeM _ m (by omega), hm, up_take]
 obtain ⟨ps, hps⟩ : ∃ ps, ps = pathL (upL [63, 35] (hoR l)) := ⟨_, rfl⟩
 have CP : Hid (∀ W, Calls Tryz.prog 162 #[.string s2] W fun e w' => ∃ v, e = .returned v ∧ OwnS W.heap.size v ps w' ∧ Below W.heap.size W w') := fun W => by rw [hs2, hps]; exact specPathGet _ W (by rw [mk_size]; have := upL_le [63, 35] (hoR l); omega)
 obtain ⟨s3, hs3⟩ : ∃ s3, s3 = mk ((hoR l).drop m) := ⟨_, rfl⟩
 have hsl3 : ∀ W : World, (Instr.slice 9 (.string r) (some (.int .i64 (m : Int))) none none).run Tryz.prog W = .ok (.string s3) W := fun W => by
  have := slice_from r m W hmr
  rw [this, hs3, hr, ext_dropM]
 obtain ⟨q1, hq1⟩ : ∃ q1, q1 = auS p (hoA l) := ⟨_, rfl⟩
 obtain ⟨ok, hok⟩ : ∃ ok, ok = auB p (hoA l) := ⟨_, rfl⟩
 have CAU : Hid (∀ W, Calls Tryz.prog 161 #[.agg #[(.string p.sc), (.string p.us), (.string p.pw), (.int .i64 p.hk), (.string p.hn), (.int .i64 p.ha), (.int .i64 p.po), (.slice a n c), (.string p.op), (.bool p.hq), (.string p.qu), (.bool p.hf), (.string p.fr)], .string s1] W fun e w' => e = .returned (.tuple #[.agg #[(.string q1.sc), (.string q1.us), (.string q1.pw), (.int .i64 q1.hk), (.string q1.hn), (.int .i64 q1.ha), (.int .i64 q1.po), (.slice a n c), (.string q1.op), (.bool q1.hq), (.string q1.qu), (.bool q1.hf), (.string q1.fr)], .bool ok]) ∧ Below W.heap.size W w') := fun W => by rw [hs1, hq1, hok]; exact l3Authority p a n c (hoA l) W (by have := upL_le [47, 92, 63, 35] l; unfold hoA; omega)
 obtain ⟨q, hq⟩ : ∃ q, q = tailS { q1 with ps := ps } ((hoR l).drop m) := ⟨_, rfl⟩
 have hqp : q.ps = ps := by rw [hq, tail_ps]
 have CT : Hid (∀ (a' : Option Addr) (n' c' : Nat) (W : World), Calls Tryz.prog 138 #[.agg #[(.string q1.sc), (.string q1.us), (.string q1.pw), (.int .i64 q1.hk), (.string q1.hn), (.int .i64 q1.ha), (.int .i64 q1.po), (.slice a' n' c'), (.string q1.op), (.bool q1.hq), (.string q1.qu), (.bool q1.hf), (.string q1.fr)], .string s3] W fun e w' => e = .returned (.agg #[(.string q.sc), (.string q.us), (.string q.pw), (.int .i64 q.hk), (.string q.hn), (.int .i64 q.ha), (.int .i64 q.po), (.slice a' n' c'), (.string q.op), (.bool q.hq), (.string q.qu), (.bool q.hf), (.string q.fr)]) ∧ Below W.heap.size W w') := fun a' n' c' W => by rw [hs3, hq]; exact l3Tail { q1 with ps := ps } a' n' c' _ W (by rw [List.length_drop]; omega)
 have HY : Hid (ok = true → hoS p l = some q) := by
  intro h
  unfold hoS
  rw [← hok, if_pos h, hq]
  unfold hoQ
  rw [← hq1, ← hps, ← hm]
 have HN : Hid (ok = false → hoS p l = none) := by
  intro h
  unfold hoS
  rw [← hok, if_neg (by rw [h]; decide)]
 have HQP : Hid (q.ps = ps) := hqp
 have CW2 : Hid (∀ W W1, BX w p (.slice a n c) W → Below W.drew.heap.size W.drew W1 → (W1.cell? ⟨w.heap.size, 0, none⟩ = some (.string p.sc) ∧ W1.cell? ⟨w.heap.size, 1, none⟩ = some (.string p.us) ∧ W1.cell? ⟨w.heap.size, 2, none⟩ = some (.string p.pw) ∧ W1.cell? ⟨w.heap.size, 3, none⟩ = some (.int .i64 p.hk) ∧ W1.cell? ⟨w.heap.size, 4, none⟩ = some (.string p.hn) ∧ W1.cell? ⟨w.heap.size, 5, none⟩ = some (.int .i64 p.ha) ∧ W1.cell? ⟨w.heap.size, 6, none⟩ = some (.int .i64 p.po) ∧ W1.cell? ⟨w.heap.size, 7, none⟩ = some (.slice a n c) ∧ W1.cell? ⟨w.heap.size, 8, none⟩ = some (.string p.op) ∧ W1.cell? ⟨w.heap.size, 9, none⟩ = some (.bool p.hq) ∧ W1.cell? ⟨w.heap.size, 10, none⟩ = some (.string p.qu) ∧ W1.cell? ⟨w.heap.size, 11, none⟩ = some (.bool p.hf) ∧ W1.cell? ⟨w.heap.size, 12, none⟩ = some (.string p.fr)) ∧ (W1.frozen? ⟨w.heap.size, 0, none⟩ = false ∧ W1.frozen? ⟨w.heap.size, 1, none⟩ = false ∧ W1.frozen? ⟨w.heap.size, 2, none⟩ = false ∧ W1.frozen? ⟨w.heap.size, 3, none⟩ = false ∧ W1.frozen? ⟨w.heap.size, 4, none⟩ = false ∧ W1.frozen? ⟨w.heap.size, 5, none⟩ = false ∧ W1.frozen? ⟨w.heap.size, 6, none⟩ = false ∧ W1.frozen? ⟨w.heap.size, 7, none⟩ = false ∧ W1.frozen? ⟨w.heap.size, 8, none⟩ = false ∧ W1.frozen? ⟨w.heap.size, 9, none⟩ = false ∧ W1.frozen? ⟨w.heap.size, 10, none⟩ = false ∧ W1.frozen? ⟨w.heap.size, 11, none⟩ = false ∧ W1.frozen? ⟨w.heap.size, 12, none⟩ = false) ∧ BX w q1 (.slice a n c) ((((((((((((((W1.setCell ⟨w.heap.size, 0, none⟩ (.string q1.sc)).setCell ⟨w.heap.size, 1, none⟩ (.string q1.us)).setCell ⟨w.heap.size, 2, none⟩ (.string q1.pw)).setCell ⟨w.heap.size, 3, none⟩ (.int .i64 q1.hk)).setCell ⟨w.heap.size, 4, none⟩ (.string q1.hn)).setCell ⟨w.heap.size, 5, none⟩ (.int .i64 q1.ha)).setCell ⟨w.heap.size, 6, none⟩ (.int .i64 q1.po)).setCell ⟨w.heap.size, 7, none⟩ (.slice a n c)).setCell ⟨w.heap.size, 8, none⟩ (.string q1.op)).setCell ⟨w.heap.size, 9, none⟩ (.bool q1.hq)).setCell ⟨w.heap.size, 10, none⟩ (.string q1.qu)).setCell ⟨w.heap.size, 11, none⟩ (.bool q1.hf)).setCell ⟨w.heap.size, 12, none⟩ (.string q1.fr)))) := by
  intro W W1 hB d
  have h1 : BX w p (.slice a n c) W1 := BX.later (W := W.drew) ⟨hB.bx, hB.rs, hB.bw.drew⟩ d
  exact ⟨h1.cells, h1.frb, h1.box q1 _⟩
 rw [← hs]
 clear hs hss hk hkl hs1 hr hrs hrl hm hs2 hps hs3 hq1 hok hq hqp
 unfold P.cells
 go_enter Tryz.func139, Tryz.ntmps139
 go_wp2_with fail
 refine (CA.out _).mono ?_
 rintro e W0 ⟨rfl, d0⟩
 have HX0 : Hid (BX w p (.slice a n c) W0) := H0.out.later d0
 obtain ⟨c0, c1, c2, c3, c4, c5, c6, c7, c8, c9, c10, c11, c12⟩ := HX0.out.cells
 clear d0 H0 CA
 go_wp2
 go_region_with (go_at_call 161; refine (CAU.out _).mono ?_; rintro e W1 ⟨rfl, d1⟩; obtain ⟨⟨b0, b1, b2, b3, b4, b5, b6, b7, b8, b9, b10, b11, b12⟩, ⟨e0, e1, e2, e3, e4, e5, e6, e7, e8, e9, e10, e11, e12⟩, hX1⟩ := CW2.out W0 W1 HX0.out d1)
 generalize ((((((((((((((W1.setCell ⟨w.heap.size, 0, none⟩ (.string q1.sc)).setCell ⟨w.heap.size, 1, none⟩ (.string q1.us)).setCell ⟨w.heap.size, 2, none⟩ (.string q1.pw)).setCell ⟨w.heap.size, 3, none⟩ (.int .i64 q1.hk)).setCell ⟨w.heap.size, 4, none⟩ (.string q1.hn)).setCell ⟨w.heap.size, 5, none⟩ (.int .i64 q1.ha)).setCell ⟨w.heap.size, 6, none⟩ (.int .i64 q1.po)).setCell ⟨w.heap.size, 7, none⟩ (.slice a n c)).setCell ⟨w.heap.size, 8, none⟩ (.string q1.op)).setCell ⟨w.heap.size, 9, none⟩ (.bool q1.hq)).setCell ⟨w.heap.size, 10, none⟩ (.string q1.qu)).setCell ⟨w.heap.size, 11, none⟩ (.bool q1.hf)).setCell ⟨w.heap.size, 12, none⟩ (.string q1.fr))) = V1 at *
 have HX1 : Hid (BX w q1 (.slice a n c) V1) := hX1
 clear hX1 d1 CAU CW2 hsl1 c0 c1 c2 c3 c4 c5 c6 c7 c8 c9 c10 c11 c12 b0 b1 b2 b3 b4 b5 b6 b7 b8 b9 b10 b11 b12 e0 e1 e2 e3 e4 e5 e6 e7 e8 e9 e10 e11 e12 HX0
 cases ok with
 | false =>
  have HO : Hid (hoS p l = none) := HN.out rfl
  obtain ⟨z0, z1, z2, z3, z4, z5, z6, z7, z8, z9, z10, z11, z12⟩ := HX1.out.zeros
  obtain ⟨y0, y1, y2, y3, y4, y5, y6, y7, y8, y9, y10, y11, y12⟩ := HX1.out.free
  clear HY HN CB CP CT
  go_wp2
  obtain ⟨hf1, hf2, hf3⟩ := HX1.out.fin (.string ⟨#[]⟩) (.string ⟨#[]⟩) (.string ⟨#[]⟩) (.int .i64 0) (.string ⟨#[]⟩) (.int .i64 0) (.int .i64 0) (.slice none 0 0) (.string ⟨#[]⟩) (.bool false) (.string ⟨#[]⟩) (.bool false) (.string ⟨#[]⟩)
  have HRB : Hid (Blk (w.heap.size + 1) #[(.string ⟨#[]⟩), (.string ⟨#[]⟩), (.string ⟨#[]⟩), (.int .i64 0), (.string ⟨#[]⟩), (.int .i64 0), (.int .i64 0), (.slice none 0 0), (.string ⟨#[]⟩), (.bool false), (.string ⟨#[]⟩), (.bool false), (.string ⟨#[]⟩)] 31 ((((((((((((((V1.setCell ⟨w.heap.size + 1, 0, none⟩ (.string ⟨#[]⟩)).setCell ⟨w.heap.size + 1, 1, none⟩ (.string ⟨#[]⟩)).setCell ⟨w.heap.size + 1, 2, none⟩ (.string ⟨#[]⟩)).setCell ⟨w.heap.size + 1, 3, none⟩ (.int .i64 0)).setCell ⟨w.heap.size + 1, 4, none⟩ (.string ⟨#[]⟩)).setCell ⟨w.heap.size + 1, 5, none⟩ (.int .i64 0)).setCell ⟨w.heap.size + 1, 6, none⟩ (.int .i64 0)).setCell ⟨w.heap.size + 1, 7, none⟩ (.slice none 0 0)).setCell ⟨w.heap.size + 1, 8, none⟩ (.string ⟨#[]⟩)).setCell ⟨w.heap.size + 1, 9, none⟩ (.bool false)).setCell ⟨w.heap.size + 1, 10, none⟩ (.string ⟨#[]⟩)).setCell ⟨w.heap.size + 1, 11, none⟩ (.bool false)).setCell ⟨w.heap.size + 1, 12, none⟩ (.string ⟨#[]⟩)))) := hf1
  have HBB : Hid (Below w.heap.size w ((((((((((((((V1.setCell ⟨w.heap.size + 1, 0, none⟩ (.string ⟨#[]⟩)).setCell ⟨w.heap.size + 1, 1, none⟩ (.string ⟨#[]⟩)).setCell ⟨w.heap.size + 1, 2, none⟩ (.string ⟨#[]⟩)).setCell ⟨w.heap.size + 1, 3, none⟩ (.int .i64 0)).setCell ⟨w.heap.size + 1, 4, none⟩ (.string ⟨#[]⟩)).setCell ⟨w.heap.size + 1, 5, none⟩ (.int .i64 0)).setCell ⟨w.heap.size + 1, 6, none⟩ (.int .i64 0)).setCell ⟨w.heap.size + 1, 7, none⟩ (.slice none 0 0)).setCell ⟨w.heap.size + 1, 8, none⟩ (.string ⟨#[]⟩)).setCell ⟨w.heap.size + 1, 9, none⟩ (.bool false)).setCell ⟨w.heap.size + 1, 10, none⟩ (.string ⟨#[]⟩)).setCell ⟨w.heap.size + 1, 11, none⟩ (.bool false)).setCell ⟨w.heap.size + 1, 12, none⟩ (.string ⟨#[]⟩)))) := hf2
  clear hf1 hf2 hf3
  generalize ((((((((((((((V1.setCell ⟨w.heap.size + 1, 0, none⟩ (.string ⟨#[]⟩)).setCell ⟨w.heap.size + 1, 1, none⟩ (.string ⟨#[]⟩)).setCell ⟨w.heap.size + 1, 2, none⟩ (.string ⟨#[]⟩)).setCell ⟨w.heap.size + 1, 3, none⟩ (.int .i64 0)).setCell ⟨w.heap.size + 1, 4, none⟩ (.string ⟨#[]⟩)).setCell ⟨w.heap.size + 1, 5, none⟩ (.int .i64 0)).setCell ⟨w.heap.size + 1, 6, none⟩ (.int .i64 0)).setCell ⟨w.heap.size + 1, 7, none⟩ (.slice none 0 0)).setCell ⟨w.heap.size + 1, 8, none⟩ (.string ⟨#[]⟩)).setCell ⟨w.heap.size + 1, 9, none⟩ (.bool false)).setCell ⟨w.heap.size + 1, 10, none⟩ (.string ⟨#[]⟩)).setCell ⟨w.heap.size + 1, 11, none⟩ (.bool false)).setCell ⟨w.heap.size + 1, 12, none⟩ (.string ⟨#[]⟩))) = W9 at *
  clear z0 z1 z2 z3 z4 z5 z6 z7 z8 z9 z10 z11 z12 y0 y1 y2 y3 y4 y5 y6 y7 y8 y9 y10 y11 y12
  have z0 : W9.cell? ⟨w.heap.size + 1, 0, none⟩ = some (.string ⟨#[]⟩) := HRB.out.cell 0
  have z1 : W9.cell? ⟨w.heap.size + 1, 1, none⟩ = some (.string ⟨#[]⟩) := HRB.out.cell 1
  have z2 : W9.cell? ⟨w.heap.size + 1, 2, none⟩ = some (.string ⟨#[]⟩) := HRB.out.cell 2
  have z3 : W9.cell? ⟨w.heap.size + 1, 3, none⟩ = some (.int .i64 0) := HRB.out.cell 3
  have z4 : W9.cell? ⟨w.heap.size + 1, 4, none⟩ = some (.string ⟨#[]⟩) := HRB.out.cell 4
  have z5 : W9.cell? ⟨w.heap.size + 1, 5, none⟩ = some (.int .i64 0) := HRB.out.cell 5
  have z6 : W9.cell? ⟨w.heap.size + 1, 6, none⟩ = some (.int .i64 0) := HRB.out.cell 6
  have z7 : W9.cell? ⟨w.heap.size + 1, 7, none⟩ = some (.slice none 0 0) := HRB.out.cell 7
  have z8 : W9.cell? ⟨w.heap.size + 1, 8, none⟩ = some (.string ⟨#[]⟩) := HRB.out.cell 8
  have z9 : W9.cell? ⟨w.heap.size + 1, 9, none⟩ = some (.bool false) := HRB.out.cell 9
  have z10 : W9.cell? ⟨w.heap.size + 1, 10, none⟩ = some (.string ⟨#[]⟩) := HRB.out.cell 10
  have z11 : W9.cell? ⟨w.heap.size + 1, 11, none⟩ = some (.bool false) := HRB.out.cell 11
  have z12 : W9.cell? ⟨w.heap.size + 1, 12, none⟩ = some (.string ⟨#[]⟩) := HRB.out.cell 12
  refine bodyPost_ret (v := .tuple #[.agg #[(.string ⟨#[]⟩), (.string ⟨#[]⟩), (.string ⟨#[]⟩), (.int .i64 0), (.string ⟨#[]⟩), (.int .i64 0), (.int .i64 0), (.slice none 0 0), (.string ⟨#[]⟩), (.bool false), (.string ⟨#[]⟩), (.bool false), (.string ⟨#[]⟩)], .bool false]) (by simp [results, Tryz.results139, go_sem, z0, z1, z2, z3, z4, z5, z6, z7, z8, z9, z10, z11, z12]) rfl ?_
  exact ⟨.slice none 0 0, by rw [HO.out]; rfl, by rw [HO.out]; exact ownS_nil _ _, HBB.out⟩
 | true =>
  have HO : Hid (hoS p l = some q) := HY.out rfl
  clear HY HN
  go_wp2_with fail
  refine (CB.out _).mono ?_
  rintro e W2 ⟨rfl, d2⟩
  have HX2 : Hid (BX w q1 (.slice a n c) W2) := HX1.out.later d2
  clear d2 HX1 CB
  go_wp2_with fail
  refine (CP.out _).mono ?_
  rintro e W3 ⟨v3, rfl, hO3, d3⟩
  have hX3 : BX w q1 (.slice a n c) W3 := HX2.out.later d3
  have hlt2 : w.heap.size + 1 < W2.heap.size := HX2.out.rs.lt
  obtain ⟨a', c', hv3, _⟩ := hO3.shape
  obtain ⟨n', hn'⟩ : ∃ n', n' = ps.length := ⟨_, rfl⟩
  rw [← hn'] at hv3
  have HOW : Hid (OwnS W2.heap.size (.slice a' n' c') ps W3) := by rw [← hv3]; exact hO3
  subst hv3
  have c7 : W3.cell? ⟨w.heap.size, 7, none⟩ = some (.slice a n c) := hX3.cells.2.2.2.2.2.2.2.1
  have f7 := hX3.bx.free 7
  have HX4 : Hid (BX w q1 (.slice a' n' c') (W3.setCell ⟨w.heap.size, 7, none⟩ (.slice a' n' c'))) := hX3.set 7 _ rfl
  have HOW4 : Hid (OwnS W2.heap.size (.slice a' n' c') ps (W3.setCell ⟨w.heap.size, 7, none⟩ (.slice a' n' c'))) := HOW.out.keptG (grown_set W3 _ _ _) (by omega)
  clear hX3 d3 HX2 CP hO3 hn'
  go_wp2
  generalize W3.setCell ⟨w.heap.size, 7, none⟩ (.slice a' n' c') = V4 at *
  clear c7 f7 HOW
  obtain ⟨c0, c1, c2, c3, c4, c5, c6, c7, c8, c9, c10, c11, c12⟩ := HX4.out.cells
  have CW3 : Hid (∀ W1, Below V4.drew.heap.size V4.drew W1 → (W1.cell? ⟨w.heap.size + 1, 0, none⟩ = some (.string ⟨#[]⟩) ∧ W1.cell? ⟨w.heap.size + 1, 1, none⟩ = some (.string ⟨#[]⟩) ∧ W1.cell? ⟨w.heap.size + 1, 2, none⟩ = some (.string ⟨#[]⟩) ∧ W1.cell? ⟨w.heap.size + 1, 3, none⟩ = some (.int .i64 0) ∧ W1.cell? ⟨w.heap.size + 1, 4, none⟩ = some (.string ⟨#[]⟩) ∧ W1.cell? ⟨w.heap.size + 1, 5, none⟩ = some (.int .i64 0) ∧ W1.cell? ⟨w.heap.size + 1, 6, none⟩ = some (.int .i64 0) ∧ W1.cell? ⟨w.heap.size + 1, 7, none⟩ = some (.slice none 0 0) ∧ W1.cell? ⟨w.heap.size + 1, 8, none⟩ = some (.string ⟨#[]⟩) ∧ W1.cell? ⟨w.heap.size + 1, 9, none⟩ = some (.bool false) ∧ W1.cell? ⟨w.heap.size + 1, 10, none⟩ = some (.string ⟨#[]⟩) ∧ W1.cell? ⟨w.heap.size + 1, 11, none⟩ = some (.bool false) ∧ W1.cell? ⟨w.heap.size + 1, 12, none⟩ = some (.string ⟨#[]⟩)) ∧ (W1.frozen? ⟨w.heap.size + 1, 0, none⟩ = false ∧ W1.frozen? ⟨w.heap.size + 1, 1, none⟩ = false ∧ W1.frozen? ⟨w.heap.size + 1, 2, none⟩ = false ∧ W1.frozen? ⟨w.heap.size + 1, 3, none⟩ = false ∧ W1.frozen? ⟨w.heap.size + 1, 4, none⟩ = false ∧ W1.frozen? ⟨w.heap.size + 1, 5, none⟩ = false ∧ W1.frozen? ⟨w.heap.size + 1, 6, none⟩ = false ∧ W1.frozen? ⟨w.heap.size + 1, 7, none⟩ = false ∧ W1.frozen? ⟨w.heap.size + 1, 8, none⟩ = false ∧ W1.frozen? ⟨w.heap.size + 1, 9, none⟩ = false ∧ W1.frozen? ⟨w.heap.size + 1, 10, none⟩ = false ∧ W1.frozen? ⟨w.heap.size + 1, 11, none⟩ = false ∧ W1.frozen? ⟨w.heap.size + 1, 12, none⟩ = false) ∧ Blk (w.heap.size + 1) #[(.string q.sc), (.string q.us), (.string q.pw), (.int .i64 q.hk), (.string q.hn), (.int .i64 q.ha), (.int .i64 q.po), (.slice a' n' c'), (.string q.op), (.bool q.hq), (.string q.qu), (.bool q.hf), (.string q.fr)] 31 ((((((((((((((W1.setCell ⟨w.heap.size + 1, 0, none⟩ (.string q.sc)).setCell ⟨w.heap.size + 1, 1, none⟩ (.string q.us)).setCell ⟨w.heap.size + 1, 2, none⟩ (.string q.pw)).setCell ⟨w.heap.size + 1, 3, none⟩ (.int .i64 q.hk)).setCell ⟨w.heap.size + 1, 4, none⟩ (.string q.hn)).setCell ⟨w.heap.size + 1, 5, none⟩ (.int .i64 q.ha)).setCell ⟨w.heap.size + 1, 6, none⟩ (.int .i64 q.po)).setCell ⟨w.heap.size + 1, 7, none⟩ (.slice a' n' c')).setCell ⟨w.heap.size + 1, 8, none⟩ (.string q.op)).setCell ⟨w.heap.size + 1, 9, none⟩ (.bool q.hq)).setCell ⟨w.heap.size + 1, 10, none⟩ (.string q.qu)).setCell ⟨w.heap.size + 1, 11, none⟩ (.bool q.hf)).setCell ⟨w.heap.size + 1, 12, none⟩ (.string q.fr))) ∧ Below w.heap.size w ((((((((((((((W1.setCell ⟨w.heap.size + 1, 0, none⟩ (.string q.sc)).setCell ⟨w.heap.size + 1, 1, none⟩ (.string q.us)).setCell ⟨w.heap.size + 1, 2, none⟩ (.string q.pw)).setCell ⟨w.heap.size + 1, 3, none⟩ (.int .i64 q.hk)).setCell ⟨w.heap.size + 1, 4, none⟩ (.string q.hn)).setCell ⟨w.heap.size + 1, 5, none⟩ (.int .i64 q.ha)).setCell ⟨w.heap.size + 1, 6, none⟩ (.int .i64 q.po)).setCell ⟨w.heap.size + 1, 7, none⟩ (.slice a' n' c')).setCell ⟨w.heap.size + 1, 8, none⟩ (.string q.op)).setCell ⟨w.heap.size + 1, 9, none⟩ (.bool q.hq)).setCell ⟨w.heap.size + 1, 10, none⟩ (.string q.qu)).setCell ⟨w.heap.size + 1, 11, none⟩ (.bool q.hf)).setCell ⟨w.heap.size + 1, 12, none⟩ (.string q.fr))) ∧ OwnS w.heap.size (.slice a' n' c') ps ((((((((((((((W1.setCell ⟨w.heap.size + 1, 0, none⟩ (.string q.sc)).setCell ⟨w.heap.size + 1, 1, none⟩ (.string q.us)).setCell ⟨w.heap.size + 1, 2, none⟩ (.string q.pw)).setCell ⟨w.heap.size + 1, 3, none⟩ (.int .i64 q.hk)).setCell ⟨w.heap.size + 1, 4, none⟩ (.string q.hn)).setCell ⟨w.heap.size + 1, 5, none⟩ (.int .i64 q.ha)).setCell ⟨w.heap.size + 1, 6, none⟩ (.int .i64 q.po)).setCell ⟨w.heap.size + 1, 7, none⟩ (.slice a' n' c')).setCell ⟨w.heap.size + 1, 8, none⟩ (.string q.op)).setCell ⟨w.heap.size + 1, 9, none⟩ (.bool q.hq)).setCell ⟨w.heap.size + 1, 10, none⟩ (.string q.qu)).setCell ⟨w.heap.size + 1, 11, none⟩ (.bool q.hf)).setCell ⟨w.heap.size + 1, 12, none⟩ (.string q.fr)))) := by
   intro W1 d
   have h1 : BX w q1 (.slice a' n' c') W1 := BX.later (W := V4.drew) ⟨HX4.out.bx, HX4.out.rs, HX4.out.bw.drew⟩ d
   obtain ⟨hf1, hf2, hf3⟩ := h1.fin (.string q.sc) (.string q.us) (.string q.pw) (.int .i64 q.hk) (.string q.hn) (.int .i64 q.ha) (.int .i64 q.po) (.slice a' n' c') (.string q.op) (.bool q.hq) (.string q.qu) (.bool q.hf) (.string q.fr)
   have ho1 : OwnS W2.heap.size (.slice a' n' c') ps W1 := OwnS.later (w := V4.drew) HOW4.out d
   exact ⟨h1.zeros, h1.free, hf1, hf2, (ho1.keptG hf3 hlt2).base (by omega)⟩
  clear HX4 HOW4
  go_region_with (go_at_call 138; refine (CT.out a' n' c' _).mono ?_; rintro e W5 ⟨rfl, d5⟩; obtain ⟨⟨z0, z1, z2, z3, z4, z5, z6, z7, z8, z9, z10, z11, z12⟩, ⟨y0, y1, y2, y3, y4, y5, y6, y7, y8, y9, y10, y11, y12⟩, hf1, hf2, hf3⟩ := CW3.out W5 d5)
  go_wp2
  have HRB : Hid (Blk (w.heap.size + 1) #[(.string q.sc), (.string q.us), (.string q.pw), (.int .i64 q.hk), (.string q.hn), (.int .i64 q.ha), (.int .i64 q.po), (.slice a' n' c'), (.string q.op), (.bool q.hq), (.string q.qu), (.bool q.hf), (.string q.fr)] 31 ((((((((((((((W5.setCell ⟨w.heap.size + 1, 0, none⟩ (.string q.sc)).setCell ⟨w.heap.size + 1, 1, none⟩ (.string q.us)).setCell ⟨w.heap.size + 1, 2, none⟩ (.string q.pw)).setCell ⟨w.heap.size + 1, 3, none⟩ (.int .i64 q.hk)).setCell ⟨w.heap.size + 1, 4, none⟩ (.string q.hn)).setCell ⟨w.heap.size + 1, 5, none⟩ (.int .i64 q.ha)).setCell ⟨w.heap.size + 1, 6, none⟩ (.int .i64 q.po)).setCell ⟨w.heap.size + 1, 7, none⟩ (.slice a' n' c')).setCell ⟨w.heap.size + 1, 8, none⟩ (.string q.op)).setCell ⟨w.heap.size + 1, 9, none⟩ (.bool q.hq)).setCell ⟨w.heap.size + 1, 10, none⟩ (.string q.qu)).setCell ⟨w.heap.size + 1, 11, none⟩ (.bool q.hf)).setCell ⟨w.heap.size + 1, 12, none⟩ (.string q.fr)))) := hf1
  have HBB : Hid (Below w.heap.size w ((((((((((((((W5.setCell ⟨w.heap.size + 1, 0, none⟩ (.string q.sc)).setCell ⟨w.heap.size + 1, 1, none⟩ (.string q.us)).setCell ⟨w.heap.size + 1, 2, none⟩ (.string q.pw)).setCell ⟨w.heap.size + 1, 3, none⟩ (.int .i64 q.hk)).setCell ⟨w.heap.size + 1, 4, none⟩ (.string q.hn)).setCell ⟨w.heap.size + 1, 5, none⟩ (.int .i64 q.ha)).setCell ⟨w.heap.size + 1, 6, none⟩ (.int .i64 q.po)).setCell ⟨w.heap.size + 1, 7, none⟩ (.slice a' n' c')).setCell ⟨w.heap.size + 1, 8, none⟩ (.string q.op)).setCell ⟨w.heap.size + 1, 9, none⟩ (.bool q.hq)).setCell ⟨w.heap.size + 1, 10, none⟩ (.string q.qu)).setCell ⟨w.heap.size + 1, 11, none⟩ (.bool q.hf)).setCell ⟨w.heap.size + 1, 12, none⟩ (.string q.fr)))) := hf2
  have HOO : Hid (OwnS w.heap.size (.slice a' n' c') ps ((((((((((((((W5.setCell ⟨w.heap.size + 1, 0, none⟩ (.string q.sc)).setCell ⟨w.heap.size + 1, 1, none⟩ (.string q.us)).setCell ⟨w.heap.size + 1, 2, none⟩ (.string q.pw)).setCell ⟨w.heap.size + 1, 3, none⟩ (.int .i64 q.hk)).setCell ⟨w.heap.size + 1, 4, none⟩ (.string q.hn)).setCell ⟨w.heap.size + 1, 5, none⟩ (.int .i64 q.ha)).setCell ⟨w.heap.size + 1, 6, none⟩ (.int .i64 q.po)).setCell ⟨w.heap.size + 1, 7, none⟩ (.slice a' n' c')).setCell ⟨w.heap.size + 1, 8, none⟩ (.string q.op)).setCell ⟨w.heap.size + 1, 9, none⟩ (.bool q.hq)).setCell ⟨w.heap.size + 1, 10, none⟩ (.string q.qu)).setCell ⟨w.heap.size + 1, 11, none⟩ (.bool q.hf)).setCell ⟨w.heap.size + 1, 12, none⟩ (.string q.fr)))) := hf3
  clear hf1 hf2 hf3 d5 CW3
  generalize ((((((((((((((W5.setCell ⟨w.heap.size + 1, 0, none⟩ (.string q.sc)).setCell ⟨w.heap.size + 1, 1, none⟩ (.string q.us)).setCell ⟨w.heap.size + 1, 2, none⟩ (.string q.pw)).setCell ⟨w.heap.size + 1, 3, none⟩ (.int .i64 q.hk)).setCell ⟨w.heap.size + 1, 4, none⟩ (.string q.hn)).setCell ⟨w.heap.size + 1, 5, none⟩ (.int .i64 q.ha)).setCell ⟨w.heap.size + 1, 6, none⟩ (.int .i64 q.po)).setCell ⟨w.heap.size + 1, 7, none⟩ (.slice a' n' c')).setCell ⟨w.heap.size + 1, 8, none⟩ (.string q.op)).setCell ⟨w.heap.size + 1, 9, none⟩ (.bool q.hq)).setCell ⟨w.heap.size + 1, 10, none⟩ (.string q.qu)).setCell ⟨w.heap.size + 1, 11, none⟩ (.bool q.hf)).setCell ⟨w.heap.size + 1, 12, none⟩ (.string q.fr))) = W9 at *
  clear z0 z1 z2 z3 z4 z5 z6 z7 z8 z9 z10 z11 z12 y0 y1 y2 y3 y4 y5 y6 y7 y8 y9 y10 y11 y12 c0 c1 c2 c3 c4 c5 c6 c7 c8 c9 c10 c11 c12
  have z0 : W9.cell? ⟨w.heap.size + 1, 0, none⟩ = some (.string q.sc) := HRB.out.cell 0
  have z1 : W9.cell? ⟨w.heap.size + 1, 1, none⟩ = some (.string q.us) := HRB.out.cell 1
  have z2 : W9.cell? ⟨w.heap.size + 1, 2, none⟩ = some (.string q.pw) := HRB.out.cell 2
  have z3 : W9.cell? ⟨w.heap.size + 1, 3, none⟩ = some (.int .i64 q.hk) := HRB.out.cell 3
  have z4 : W9.cell? ⟨w.heap.size + 1, 4, none⟩ = some (.string q.hn) := HRB.out.cell 4
  have z5 : W9.cell? ⟨w.heap.size + 1, 5, none⟩ = some (.int .i64 q.ha) := HRB.out.cell 5
  have z6 : W9.cell? ⟨w.heap.size + 1, 6, none⟩ = some (.int .i64 q.po) := HRB.out.cell 6
  have z7 : W9.cell? ⟨w.heap.size + 1, 7, none⟩ = some (.slice a' n' c') := HRB.out.cell 7
  have z8 : W9.cell? ⟨w.heap.size + 1, 8, none⟩ = some (.string q.op) := HRB.out.cell 8
  have z9 : W9.cell? ⟨w.heap.size + 1, 9, none⟩ = some (.bool q.hq) := HRB.out.cell 9
  have z10 : W9.cell? ⟨w.heap.size + 1, 10, none⟩ = some (.string q.qu) := HRB.out.cell 10
  have z11 : W9.cell? ⟨w.heap.size + 1, 11, none⟩ = some (.bool q.hf) := HRB.out.cell 11
  have z12 : W9.cell? ⟨w.heap.size + 1, 12, none⟩ = some (.string q.fr) := HRB.out.cell 12
  refine bodyPost_ret (v := .tuple #[.agg #[(.string q.sc), (.string q.us), (.string q.pw), (.int .i64 q.hk), (.string q.hn), (.int .i64 q.ha), (.int .i64 q.po), (.slice a' n' c'), (.string q.op), (.bool q.hq), (.string q.qu), (.bool q.hf), (.string q.fr)], .bool true]) (by simp [results, Tryz.results139, go_sem, z0, z1, z2, z3, z4, z5, z6, z7, z8, z9, z10, z11, z12]) rfl ?_
  exact ⟨.slice a' n' c', by rw [HO.out]; rfl, by rw [HO.out]; show OwnS _ _ q.ps _; rw [HQP.out]; exact HOO.out, HBB.out⟩
end Go.Proofs.YtnfhajhdpdidlaaGreatDoor
end
