/- spec.l3Read. spec.HostOk: whether a host is ok. spec.HostPut of an address and of no host. -/
import Derived.Test.YtnfhajhdpdidlaaGreatDoorB32
import Derived.Test.YtnfhajhdpdidlaaGreatDoorB11
import Derived.Test.YtnfhajhdpdidlaaGreatDoorB27
import Derived.Test.YtnfhajhdpdidlaaGreatDoorB12
set_option linter.unusedVariables false
set_option linter.unusedSimpArgs false
set_option maxHeartbeats 4000000
set_option maxRecDepth 100000
section
namespace Go.Proofs.YtnfhajhdpdidlaaGreatDoor
open Go.RowKit Go.Shelf
structure BY (w : World) (p : P) (v : Value) (W : World) : Prop where
 make ::
 bx : Blk (w.heap.size + 1) (p.cells v) 31 W
 rs : Blk w.heap.size zeroC 31 W
 bw : Below w.heap.size w W
theorem BY.later {w W W' : World} {p : P} {v : Value} (h : BY w p v W) (b : Below W.heap.size W W') : BY w p v W' :=
 ⟨h.bx.below b h.bx.lt, h.rs.below b h.rs.lt, h.bw.trans (b.mono h.bw.size)⟩
theorem BY.cells {w W : World} {q : P} {v : Value} (h : BY w q v W) :
  W.cell? ⟨w.heap.size + 1, 0, none⟩ = some (.string q.sc) ∧ W.cell? ⟨w.heap.size + 1, 1, none⟩ = some (.string q.us) ∧ W.cell? ⟨w.heap.size + 1, 2, none⟩ = some (.string q.pw) ∧ W.cell? ⟨w.heap.size + 1, 3, none⟩ = some (.int .i64 q.hk) ∧ W.cell? ⟨w.heap.size + 1, 4, none⟩ = some (.string q.hn) ∧ W.cell? ⟨w.heap.size + 1, 5, none⟩ = some (.int .i64 q.ha) ∧ W.cell? ⟨w.heap.size + 1, 6, none⟩ = some (.int .i64 q.po) ∧ W.cell? ⟨w.heap.size + 1, 7, none⟩ = some v ∧ W.cell? ⟨w.heap.size + 1, 8, none⟩ = some (.string q.op) ∧ W.cell? ⟨w.heap.size + 1, 9, none⟩ = some (.bool q.hq) ∧ W.cell? ⟨w.heap.size + 1, 10, none⟩ = some (.string q.qu) ∧ W.cell? ⟨w.heap.size + 1, 11, none⟩ = some (.bool q.hf) ∧ W.cell? ⟨w.heap.size + 1, 12, none⟩ = some (.string q.fr) :=
 ⟨h.bx.cell 0, h.bx.cell 1, h.bx.cell 2, h.bx.cell 3, h.bx.cell 4, h.bx.cell 5, h.bx.cell 6, h.bx.cell 7, h.bx.cell 8, h.bx.cell 9, h.bx.cell 10, h.bx.cell 11, h.bx.cell 12⟩
theorem BY.zeros {w W : World} {q : P} {v : Value} (h : BY w q v W) :
  W.cell? ⟨w.heap.size, 0, none⟩ = some (.string ⟨#[]⟩) ∧ W.cell? ⟨w.heap.size, 1, none⟩ = some (.string ⟨#[]⟩) ∧ W.cell? ⟨w.heap.size, 2, none⟩ = some (.string ⟨#[]⟩) ∧ W.cell? ⟨w.heap.size, 3, none⟩ = some (.int .i64 0) ∧ W.cell? ⟨w.heap.size, 4, none⟩ = some (.string ⟨#[]⟩) ∧ W.cell? ⟨w.heap.size, 5, none⟩ = some (.int .i64 0) ∧ W.cell? ⟨w.heap.size, 6, none⟩ = some (.int .i64 0) ∧ W.cell? ⟨w.heap.size, 7, none⟩ = some (.slice none 0 0) ∧ W.cell? ⟨w.heap.size, 8, none⟩ = some (.string ⟨#[]⟩) ∧ W.cell? ⟨w.heap.size, 9, none⟩ = some (.bool false) ∧ W.cell? ⟨w.heap.size, 10, none⟩ = some (.string ⟨#[]⟩) ∧ W.cell? ⟨w.heap.size, 11, none⟩ = some (.bool false) ∧ W.cell? ⟨w.heap.size, 12, none⟩ = some (.string ⟨#[]⟩) :=
 ⟨h.rs.cell 0, h.rs.cell 1, h.rs.cell 2, h.rs.cell 3, h.rs.cell 4, h.rs.cell 5, h.rs.cell 6, h.rs.cell 7, h.rs.cell 8, h.rs.cell 9, h.rs.cell 10, h.rs.cell 11, h.rs.cell 12⟩
theorem BY.free {w W : World} {q : P} {v : Value} (h : BY w q v W) :
  W.frozen? ⟨w.heap.size, 0, none⟩ = false ∧ W.frozen? ⟨w.heap.size, 1, none⟩ = false ∧ W.frozen? ⟨w.heap.size, 2, none⟩ = false ∧ W.frozen? ⟨w.heap.size, 3, none⟩ = false ∧ W.frozen? ⟨w.heap.size, 4, none⟩ = false ∧ W.frozen? ⟨w.heap.size, 5, none⟩ = false ∧ W.frozen? ⟨w.heap.size, 6, none⟩ = false ∧ W.frozen? ⟨w.heap.size, 7, none⟩ = false ∧ W.frozen? ⟨w.heap.size, 8, none⟩ = false ∧ W.frozen? ⟨w.heap.size, 9, none⟩ = false ∧ W.frozen? ⟨w.heap.size, 10, none⟩ = false ∧ W.frozen? ⟨w.heap.size, 11, none⟩ = false ∧ W.frozen? ⟨w.heap.size, 12, none⟩ = false :=
 ⟨h.rs.free 0, h.rs.free 1, h.rs.free 2, h.rs.free 3, h.rs.free 4, h.rs.free 5, h.rs.free 6, h.rs.free 7, h.rs.free 8, h.rs.free 9, h.rs.free 10, h.rs.free 11, h.rs.free 12⟩
theorem BY.fin {w W : World} {p : P} {v : Value} (h : BY w p v W) (v0 v1 v2 v3 v4 v5 v6 v7 v8 v9 v10 v11 v12 : Value) :
  Blk w.heap.size #[v0, v1, v2, v3, v4, v5, v6, v7, v8, v9, v10, v11, v12] 31 ((((((((((((((W.setCell ⟨w.heap.size, 0, none⟩ v0).setCell ⟨w.heap.size, 1, none⟩ v1).setCell ⟨w.heap.size, 2, none⟩ v2).setCell ⟨w.heap.size, 3, none⟩ v3).setCell ⟨w.heap.size, 4, none⟩ v4).setCell ⟨w.heap.size, 5, none⟩ v5).setCell ⟨w.heap.size, 6, none⟩ v6).setCell ⟨w.heap.size, 7, none⟩ v7).setCell ⟨w.heap.size, 8, none⟩ v8).setCell ⟨w.heap.size, 9, none⟩ v9).setCell ⟨w.heap.size, 10, none⟩ v10).setCell ⟨w.heap.size, 11, none⟩ v11).setCell ⟨w.heap.size, 12, none⟩ v12)) ∧ Below w.heap.size w ((((((((((((((W.setCell ⟨w.heap.size, 0, none⟩ v0).setCell ⟨w.heap.size, 1, none⟩ v1).setCell ⟨w.heap.size, 2, none⟩ v2).setCell ⟨w.heap.size, 3, none⟩ v3).setCell ⟨w.heap.size, 4, none⟩ v4).setCell ⟨w.heap.size, 5, none⟩ v5).setCell ⟨w.heap.size, 6, none⟩ v6).setCell ⟨w.heap.size, 7, none⟩ v7).setCell ⟨w.heap.size, 8, none⟩ v8).setCell ⟨w.heap.size, 9, none⟩ v9).setCell ⟨w.heap.size, 10, none⟩ v10).setCell ⟨w.heap.size, 11, none⟩ v11).setCell ⟨w.heap.size, 12, none⟩ v12)) ∧ W.grownBy ((((((((((((((W.setCell ⟨w.heap.size, 0, none⟩ v0).setCell ⟨w.heap.size, 1, none⟩ v1).setCell ⟨w.heap.size, 2, none⟩ v2).setCell ⟨w.heap.size, 3, none⟩ v3).setCell ⟨w.heap.size, 4, none⟩ v4).setCell ⟨w.heap.size, 5, none⟩ v5).setCell ⟨w.heap.size, 6, none⟩ v6).setCell ⟨w.heap.size, 7, none⟩ v7).setCell ⟨w.heap.size, 8, none⟩ v8).setCell ⟨w.heap.size, 9, none⟩ v9).setCell ⟨w.heap.size, 10, none⟩ v10).setCell ⟨w.heap.size, 11, none⟩ v11).setCell ⟨w.heap.size, 12, none⟩ v12)) (some w.heap.size) :=
 ⟨Blk.put13 h.rs _ _ _ _ _ _ _ _ _ _ _ _ _, below_put13 h.bw (Nat.le_refl _) _ _ _ _ _ _ _ _ _ _ _ _ _, grown13 _ _ _ _ _ _ _ _ _ _ _ _ _ _ _⟩
def reP (sc : ByteArray) : P := { P.zero with sc := sc, po := -1 }
def reS (sc : ByteArray) (l : List UInt8) : Option P := if ownZ sc < 0 then some (tailS { reP sc with op := wrT 5 (upL [63, 35] l) } (l.drop (upL [63, 35] l).length)) else hoS (reP sc) (l.dropWhile (among [47, 92]))
theorem l3Read (sc : ByteArray) (l : List UInt8) (w : World) (hl : l.length ≤ 1000) :
  Calls Tryz.prog 112 #[.string sc, .string (mk l)] w fun e w' => ∃ v, e = .returned (.tuple #[.agg (((reS sc l).getD P.zero).cells v), .bool (reS sc l).isSome]) ∧ OwnS w.heap.size v ((reS sc l).getD P.zero).ps w' ∧ Below w.heap.size w w' := by
 have H0 : Hid (BY w (reP sc) (.slice none 0 0) ((w.alloc (.cells #[(.string ⟨#[]⟩), (.string ⟨#[]⟩), (.string ⟨#[]⟩), (.int .i64 0), (.string ⟨#[]⟩), (.int .i64 0), (.int .i64 0), (.slice none 0 0), (.string ⟨#[]⟩), (.bool false), (.string ⟨#[]⟩), (.bool false), (.string ⟨#[]⟩)] 31)).alloc (.cells #[(.string sc), (.string ⟨#[]⟩), (.string ⟨#[]⟩), (.int .i64 0), (.string ⟨#[]⟩), (.int .i64 0), (.int .i64 (-1)), (.slice none 0 0), (.string ⟨#[]⟩), (.bool false), (.string ⟨#[]⟩), (.bool false), (.string ⟨#[]⟩)] 31))) := by
  refine ⟨?_, Blk.alloc (Blk.new w _ _) _, ((Below.refl _ w).alloc (Nat.le_refl _) _).alloc (by simp) _⟩
  have := Blk.new (w.alloc (.cells #[(.string ⟨#[]⟩), (.string ⟨#[]⟩), (.string ⟨#[]⟩), (.int .i64 0), (.string ⟨#[]⟩), (.int .i64 0), (.int .i64 0), (.slice none 0 0), (.string ⟨#[]⟩), (.bool false), (.string ⟨#[]⟩), (.bool false), (.string ⟨#[]⟩)] 31)) #[(.string sc), (.string ⟨#[]⟩), (.string ⟨#[]⟩), (.int .i64 0), (.string ⟨#[]⟩), (.int .i64 0), (.int .i64 (-1)), (.slice none 0 0), (.string ⟨#[]⟩), (.bool false), (.string ⟨#[]⟩), (.bool false), (.string ⟨#[]⟩)] 31
  rw [show (w.alloc (Obj.cells #[(.string ⟨#[]⟩), (.string ⟨#[]⟩), (.string ⟨#[]⟩), (.int .i64 0), (.string ⟨#[]⟩), (.int .i64 0), (.int .i64 0), (.slice none 0 0), (.string ⟨#[]⟩), (.bool false), (.string ⟨#[]⟩), (.bool false), (.string ⟨#[]⟩)] 31)).heap.size = w.heap.size + 1 by simp] at this
  exact this
 obtain ⟨s, hs⟩ : ∃ s, s = mk l := ⟨_, rfl⟩
 have hss : s.size = l.length := by rw [hs, mk_size]
 have hsz : s.size ≤ 1000 := by omega
 have HS : Hid (s = mk l) := hs
 obtain ⟨own, hown⟩ : ∃ o, o = ownZ sc := ⟨_, rfl⟩
 have COW : Hid (∀ W, Calls Tryz.prog 62 #[.string sc] W fun e w' => e = .returned (.int .i64 own) ∧ w' = W) := fun W => by rw [hown]; exact l3Own sc W
 rw [← hs]
 by_cases ho : own < 0
 ·obtain ⟨k, hk⟩ : ∃ k, k = (upL [63, 35] l).length := ⟨_, rfl⟩
  have hkl : k ≤ l.length := by rw [hk]; exact upL_le _ _
  have hks : k ≤ s.size := by omega
  have CA : Hid (∀ W, Calls Tryz.prog 136 #[.string s, .string ⟨#[63, 35]⟩] W fun e w' => e = .returned (.int .i64 (k : Int)) ∧ Below W.heap.size W w') := fun W => by rw [hk, hs]; exact atC [63, 35] l W (by omega) (by decide)
  obtain ⟨s1, hs1⟩ : ∃ s1, s1 = mk (upL [63, 35] l) := ⟨_, rfl⟩
  obtain ⟨wo, hwo⟩ : ∃ wo, wo = wrT 5 (upL [63, 35] l) := ⟨_, rfl⟩
  have hx1 : s.extract 0 k = s1 := by rw [hs, hs1, ext_takeM l k hkl, hk, up_take]
  have CE : Hid (∀ W, Calls Tryz.prog 137 #[.int .i64 5, .string s1] W fun e w' => e = .returned (.string wo) ∧ Below W.heap.size W w') := fun W => by rw [hs1, hwo]; exact encC 5 _ W (by have := upL_le [63, 35] l; omega)
  obtain ⟨s3, hs3⟩ : ∃ s3, s3 = mk (l.drop k) := ⟨_, rfl⟩
  have hsl3 : ∀ W : World, (Instr.slice 9 (.string s) (some (.int .i64 (k : Int))) none none).run Tryz.prog W = .ok (.string s3) W := fun W => by
   have := slice_from s k W hks
   rw [this, hs3, hs, ext_dropM]
  obtain ⟨q1, hq1⟩ : ∃ q1, q1 = { reP sc with op := wo } := ⟨_, rfl⟩
  obtain ⟨q, hq⟩ : ∃ q, q = tailS q1 (l.drop k) := ⟨_, rfl⟩
  have HQP : Hid (q.ps = []) := by show _ = _; rw [hq, tail_ps, hq1]; rfl
  have CT : Hid (∀ (W : World), Calls Tryz.prog 138 #[.agg #[(.string q1.sc), (.string q1.us), (.string q1.pw), (.int .i64 q1.hk), (.string q1.hn), (.int .i64 q1.ha), (.int .i64 q1.po), (.slice none 0 0), (.string q1.op), (.bool q1.hq), (.string q1.qu), (.bool q1.hf), (.string q1.fr)], .string s3] W fun e w' => e = .returned (.agg #[(.string q.sc), (.string q.us), (.string q.pw), (.int .i64 q.hk), (.string q.hn), (.int .i64 q.ha), (.int .i64 q.po), (.slice none 0 0), (.string q.op), (.bool q.hq), (.string q.qu), (.bool q.hf), (.string q.fr)]) ∧ Below W.heap.size W w') := fun W => by rw [hs3, hq]; exact l3Tail q1 none 0 0 _ W (by rw [List.length_drop]; omega)
  have HO : Hid (reS sc l = some q) := by
   show _ = _
   unfold reS
   rw [← hown, if_pos ho, hq, hq1, hwo, hk]
  have HQ1 : Hid (q1 = { reP sc with op := wo }) := hq1
  clear hs hss hk hkl hs1 hwo hs3 hq1 hq hown HS
  go_enter Tryz.func112, Tryz.ntmps112
  go_wp2_with fail
  refine (COW.out _).mono ?_
  rintro e W0 ⟨rfl, hW0⟩
  have HX0 : Hid (BY w (reP sc) (.slice none 0 0) W0) := by rw [hW0]; exact H0.out
  clear H0 COW hW0
  go_wp2_with fail
  refine (CA.out _).mono ?_
  rintro e W1 ⟨rfl, d1⟩
  have HX1 : Hid (BY w (reP sc) (.slice none 0 0) W1) := HX0.out.later d1
  clear d1 HX0 CA
  go_wp2_with fail
  refine (CE.out _).mono ?_
  rintro e W2 ⟨rfl, d2⟩
  have hX2 : BY w (reP sc) (.slice none 0 0) W2 := HX1.out.later d2
  have c8 : W2.cell? ⟨w.heap.size + 1, 8, none⟩ = some (.string ⟨#[]⟩) := hX2.cells.2.2.2.2.2.2.2.2.1
  have f8 := hX2.bx.free 8
  have HX3 : Hid (BY w q1 (.slice none 0 0) (W2.setCell ⟨w.heap.size + 1, 8, none⟩ (.string wo))) := by
   rw [HQ1.out]
   refine ⟨?_, hX2.rs.other _ _ _ (by omega), hX2.bw.setCell (p := ⟨w.heap.size + 1, 8, none⟩) (Nat.le_succ _) _⟩
   have := Blk.set hX2.bx 8 (.string wo)
   exact this
  clear hX2 d2 HX1 CE HQ1
  go_wp2
  generalize W2.setCell ⟨w.heap.size + 1, 8, none⟩ (.string wo) = V3 at *
  clear c8 f8
  obtain ⟨c0, c1, c2, c3, c4, c5, c6, c7, c8, c9, c10, c11, c12⟩ := HX3.out.cells
  have CW3 : Hid (∀ W1, Below V3.drew.heap.size V3.drew W1 → (W1.cell? ⟨w.heap.size, 0, none⟩ = some (.string ⟨#[]⟩) ∧ W1.cell? ⟨w.heap.size, 1, none⟩ = some (.string ⟨#[]⟩) ∧ W1.cell? ⟨w.heap.size, 2, none⟩ = some (.string ⟨#[]⟩) ∧ W1.cell? ⟨w.heap.size, 3, none⟩ = some (.int .i64 0) ∧ W1.cell? ⟨w.heap.size, 4, none⟩ = some (.string ⟨#[]⟩) ∧ W1.cell? ⟨w.heap.size, 5, none⟩ = some (.int .i64 0) ∧ W1.cell? ⟨w.heap.size, 6, none⟩ = some (.int .i64 0) ∧ W1.cell? ⟨w.heap.size, 7, none⟩ = some (.slice none 0 0) ∧ W1.cell? ⟨w.heap.size, 8, none⟩ = some (.string ⟨#[]⟩) ∧ W1.cell? ⟨w.heap.size, 9, none⟩ = some (.bool false) ∧ W1.cell? ⟨w.heap.size, 10, none⟩ = some (.string ⟨#[]⟩) ∧ W1.cell? ⟨w.heap.size, 11, none⟩ = some (.bool false) ∧ W1.cell? ⟨w.heap.size, 12, none⟩ = some (.string ⟨#[]⟩)) ∧ (W1.frozen? ⟨w.heap.size, 0, none⟩ = false ∧ W1.frozen? ⟨w.heap.size, 1, none⟩ = false ∧ W1.frozen? ⟨w.heap.size, 2, none⟩ = false ∧ W1.frozen? ⟨w.heap.size, 3, none⟩ = false ∧ W1.frozen? ⟨w.heap.size, 4, none⟩ = false ∧ W1.frozen? ⟨w.heap.size, 5, none⟩ = false ∧ W1.frozen? ⟨w.heap.size, 6, none⟩ = false ∧ W1.frozen? ⟨w.heap.size, 7, none⟩ = false ∧ W1.frozen? ⟨w.heap.size, 8, none⟩ = false ∧ W1.frozen? ⟨w.heap.size, 9, none⟩ = false ∧ W1.frozen? ⟨w.heap.size, 10, none⟩ = false ∧ W1.frozen? ⟨w.heap.size, 11, none⟩ = false ∧ W1.frozen? ⟨w.heap.size, 12, none⟩ = false) ∧ Blk w.heap.size #[(.string q.sc), (.string q.us), (.string q.pw), (.int .i64 q.hk), (.string q.hn), (.int .i64 q.ha), (.int .i64 q.po), (.slice none 0 0), (.string q.op), (.bool q.hq), (.string q.qu), (.bool q.hf), (.string q.fr)] 31 ((((((((((((((W1.setCell ⟨w.heap.size, 0, none⟩ (.string q.sc)).setCell ⟨w.heap.size, 1, none⟩ (.string q.us)).setCell ⟨w.heap.size, 2, none⟩ (.string q.pw)).setCell ⟨w.heap.size, 3, none⟩ (.int .i64 q.hk)).setCell ⟨w.heap.size, 4, none⟩ (.string q.hn)).setCell ⟨w.heap.size, 5, none⟩ (.int .i64 q.ha)).setCell ⟨w.heap.size, 6, none⟩ (.int .i64 q.po)).setCell ⟨w.heap.size, 7, none⟩ (.slice none 0 0)).setCell ⟨w.heap.size, 8, none⟩ (.string q.op)).setCell ⟨w.heap.size, 9, none⟩ (.bool q.hq)).setCell ⟨w.heap.size, 10, none⟩ (.string q.qu)).setCell ⟨w.heap.size, 11, none⟩ (.bool q.hf)).setCell ⟨w.heap.size, 12, none⟩ (.string q.fr))) ∧ Below w.heap.size w ((((((((((((((W1.setCell ⟨w.heap.size, 0, none⟩ (.string q.sc)).setCell ⟨w.heap.size, 1, none⟩ (.string q.us)).setCell ⟨w.heap.size, 2, none⟩ (.string q.pw)).setCell ⟨w.heap.size, 3, none⟩ (.int .i64 q.hk)).setCell ⟨w.heap.size, 4, none⟩ (.string q.hn)).setCell ⟨w.heap.size, 5, none⟩ (.int .i64 q.ha)).setCell ⟨w.heap.size, 6, none⟩ (.int .i64 q.po)).setCell ⟨w.heap.size, 7, none⟩ (.slice none 0 0)).setCell ⟨w.heap.size, 8, none⟩ (.string q.op)).setCell ⟨w.heap.size, 9, none⟩ (.bool q.hq)).setCell ⟨w.heap.size, 10, none⟩ (.string q.qu)).setCell ⟨w.heap.size, 11, none⟩ (.bool q.hf)).setCell ⟨w.heap.size, 12, none⟩ (.string q.fr)))) := by
   intro W1 d
   have h1 : BY w q1 (.slice none 0 0) W1 := BY.later (W := V3.drew) ⟨HX3.out.bx, HX3.out.rs, HX3.out.bw.drew⟩ d
   obtain ⟨hf1, hf2, hf3⟩ := h1.fin (.string q.sc) (.string q.us) (.string q.pw) (.int .i64 q.hk) (.string q.hn) (.int .i64 q.ha) (.int .i64 q.po) (.slice none 0 0) (.string q.op) (.bool q.hq) (.string q.qu) (.bool q.hf) (.string q.fr)
   exact ⟨h1.zeros, h1.free, hf1, hf2⟩
  clear HX3
  go_region_with (go_at_call 138; refine (CT.out _).mono ?_; rintro e W5 ⟨rfl, d5⟩; obtain ⟨⟨z0, z1, z2, z3, z4, z5, z6, z7, z8, z9, z10, z11, z12⟩, ⟨y0, y1, y2, y3, y4, y5, y6, y7, y8, y9, y10, y11, y12⟩, hf1, hf2⟩ := CW3.out W5 d5)
  go_wp2
  have HRB : Hid (Blk w.heap.size #[(.string q.sc), (.string q.us), (.string q.pw), (.int .i64 q.hk), (.string q.hn), (.int .i64 q.ha), (.int .i64 q.po), (.slice none 0 0), (.string q.op), (.bool q.hq), (.string q.qu), (.bool q.hf), (.string q.fr)] 31 ((((((((((((((W5.setCell ⟨w.heap.size, 0, none⟩ (.string q.sc)).setCell ⟨w.heap.size, 1, none⟩ (.string q.us)).setCell ⟨w.heap.size, 2, none⟩ (.string q.pw)).setCell ⟨w.heap.size, 3, none⟩ (.int .i64 q.hk)).setCell ⟨w.heap.size, 4, none⟩ (.string q.hn)).setCell ⟨w.heap.size, 5, none⟩ (.int .i64 q.ha)).setCell ⟨w.heap.size, 6, none⟩ (.int .i64 q.po)).setCell ⟨w.heap.size, 7, none⟩ (.slice none 0 0)).setCell ⟨w.heap.size, 8, none⟩ (.string q.op)).setCell ⟨w.heap.size, 9, none⟩ (.bool q.hq)).setCell ⟨w.heap.size, 10, none⟩ (.string q.qu)).setCell ⟨w.heap.size, 11, none⟩ (.bool q.hf)).setCell ⟨w.heap.size, 12, none⟩ (.string q.fr)))) := hf1
  have HBB : Hid (Below w.heap.size w ((((((((((((((W5.setCell ⟨w.heap.size, 0, none⟩ (.string q.sc)).setCell ⟨w.heap.size, 1, none⟩ (.string q.us)).setCell ⟨w.heap.size, 2, none⟩ (.string q.pw)).setCell ⟨w.heap.size, 3, none⟩ (.int .i64 q.hk)).setCell ⟨w.heap.size, 4, none⟩ (.string q.hn)).setCell ⟨w.heap.size, 5, none⟩ (.int .i64 q.ha)).setCell ⟨w.heap.size, 6, none⟩ (.int .i64 q.po)).setCell ⟨w.heap.size, 7, none⟩ (.slice none 0 0)).setCell ⟨w.heap.size, 8, none⟩ (.string q.op)).setCell ⟨w.heap.size, 9, none⟩ (.bool q.hq)).setCell ⟨w.heap.size, 10, none⟩ (.string q.qu)).setCell ⟨w.heap.size, 11, none⟩ (.bool q.hf)).setCell ⟨w.heap.size, 12, none⟩ (.string q.fr)))) := hf2
  clear hf1 hf2 d5 CW3
  generalize ((((((((((((((W5.setCell ⟨w.heap.size, 0, none⟩ (.string q.sc)).setCell ⟨w.heap.size, 1, none⟩ (.string q.us)).setCell ⟨w.heap.size, 2, none⟩ (.string q.pw)).setCell ⟨w.heap.size, 3, none⟩ (.int .i64 q.hk)).setCell ⟨w.heap.size, 4, none⟩ (.string q.hn)).setCell ⟨w.heap.size, 5, none⟩ (.int .i64 q.ha)).setCell ⟨w.heap.size, 6, none⟩ (.int .i64 q.po)).setCell ⟨w.heap.size, 7, none⟩ (.slice none 0 0)).setCell ⟨w.heap.size, 8, none⟩ (.string q.op)).setCell ⟨w.heap.size, 9, none⟩ (.bool q.hq)).setCell ⟨w.heap.size, 10, none⟩ (.string q.qu)).setCell ⟨w.heap.size, 11, none⟩ (.bool q.hf)).setCell ⟨w.heap.size, 12, none⟩ (.string q.fr))) = W9 at *
  clear z0 z1 z2 z3 z4 z5 z6 z7 z8 z9 z10 z11 z12 y0 y1 y2 y3 y4 y5 y6 y7 y8 y9 y10 y11 y12 c0 c1 c2 c3 c4 c5 c6 c7 c8 c9 c10 c11 c12
  have z0 : W9.cell? ⟨w.heap.size, 0, none⟩ = some (.string q.sc) := HRB.out.cell 0
  have z1 : W9.cell? ⟨w.heap.size, 1, none⟩ = some (.string q.us) := HRB.out.cell 1
  have z2 : W9.cell? ⟨w.heap.size, 2, none⟩ = some (.string q.pw) := HRB.out.cell 2
  have z3 : W9.cell? ⟨w.heap.size, 3, none⟩ = some (.int .i64 q.hk) := HRB.out.cell 3
  have z4 : W9.cell? ⟨w.heap.size, 4, none⟩ = some (.string q.hn) := HRB.out.cell 4
  have z5 : W9.cell? ⟨w.heap.size, 5, none⟩ = some (.int .i64 q.ha) := HRB.out.cell 5
  have z6 : W9.cell? ⟨w.heap.size, 6, none⟩ = some (.int .i64 q.po) := HRB.out.cell 6
  have z7 : W9.cell? ⟨w.heap.size, 7, none⟩ = some (.slice none 0 0) := HRB.out.cell 7
  have z8 : W9.cell? ⟨w.heap.size, 8, none⟩ = some (.string q.op) := HRB.out.cell 8
  have z9 : W9.cell? ⟨w.heap.size, 9, none⟩ = some (.bool q.hq) := HRB.out.cell 9
  have z10 : W9.cell? ⟨w.heap.size, 10, none⟩ = some (.string q.qu) := HRB.out.cell 10
  have z11 : W9.cell? ⟨w.heap.size, 11, none⟩ = some (.bool q.hf) := HRB.out.cell 11
  have z12 : W9.cell? ⟨w.heap.size, 12, none⟩ = some (.string q.fr) := HRB.out.cell 12
  refine bodyPost_ret (v := .tuple #[.agg #[(.string q.sc), (.string q.us), (.string q.pw), (.int .i64 q.hk), (.string q.hn), (.int .i64 q.ha), (.int .i64 q.po), (.slice none 0 0), (.string q.op), (.bool q.hq), (.string q.qu), (.bool q.hf), (.string q.fr)], .bool true]) (by simp [results, Tryz.results112, go_sem, z0, z1, z2, z3, z4, z5, z6, z7, z8, z9, z10, z11, z12]) rfl ?_
  exact ⟨.slice none 0 0, by rw [HO.out]; rfl, by rw [HO.out]; show OwnS _ _ q.ps _; rw [HQP.out]; exact ownS_nil _ _, HBB.out⟩
 ·have HO : Hid (reS sc l = hoS (reP sc) (l.dropWhile (among [47, 92]))) := by
   show _ = _
   unfold reS
   rw [← hown, if_neg ho]
  have HH : Hid (∀ m : List UInt8, m.length ≤ 1000 → ∀ W, Calls Tryz.prog 139 #[.agg #[(.string sc), (.string ⟨#[]⟩), (.string ⟨#[]⟩), (.int .i64 0), (.string ⟨#[]⟩), (.int .i64 0), (.int .i64 (-1)), (.slice none 0 0), (.string ⟨#[]⟩), (.bool false), (.string ⟨#[]⟩), (.bool false), (.string ⟨#[]⟩)], .string (mk m)] W fun e w' => ∃ v, e = .returned (.tuple #[.agg (((hoS (reP sc) m).getD P.zero).cells v), .bool (hoS (reP sc) m).isSome]) ∧ OwnS W.heap.size v ((hoS (reP sc) m).getD P.zero).ps w' ∧ Below W.heap.size W w') := fun m hm W => l3Hosted (reP sc) none 0 0 m W hm
  have hoi : ¬ (own < 0) := ho
  clear hs hown hss ho
  go_enter Tryz.func112, Tryz.ntmps112
  go_wp2_with fail
  refine (COW.out _).mono ?_
  rintro e W0 ⟨rfl, hW0⟩
  have HX0 : Hid (BY w (reP sc) (.slice none 0 0) W0) := by rw [hW0]; exact H0.out
  clear H0 COW hW0
  go_wp2
  go_loop [1] (fun v => ∃ x : ByteArray, v = .string x ∧ x.size ≤ 1000 ∧ Hid (l.dropWhile (among [47, 92]) = x.data.toList.dropWhile (among [47, 92]))) (fun v => (txtOf v).size)
  case atStart => exact ⟨s, rfl, hsz, by rw [HS.out]; rfl⟩
  case round =>
   clear HS
   obtain ⟨x, rfl, hx, HX⟩ := hrel
   by_cases h0 : 0 < x.size
   ·have h0i : (0 : Int) < (x.size : Int) := by omega
    have h1i : (1 : Int) ≤ (x.size : Int) := by omega
    have hxe : (x.extract 1 x.size).size = x.size - 1 := by rw [ByteArray.size_extract]; omega
    have HC : Hid (x.data.toList = x[0] :: x.data.toList.drop 1) := by
     show _ = _
     have := List.drop_eq_getElem_cons (l := x.data.toList) (i := 0) (by simpa using h0)
     rw [List.drop_zero] at this
     exact this
    have HGO : Hid (among [47, 92] x[0] = true → l.dropWhile (among [47, 92]) = (x.extract 1 x.size).data.toList.dropWhile (among [47, 92])) := by
     intro h
     rw [HX.out, ext_from]
     conv => lhs; rw [HC.out]
     rw [List.dropWhile_cons, if_pos h]
    by_cases h47 : x[0] = 47
    ·have hb : ((x[0].toNat : Int) == 47) = true := by rw [h47]; rfl
     have HX2 : Hid (l.dropWhile (among [47, 92]) = (x.extract 1 x.size).data.toList.dropWhile (among [47, 92])) := HGO.out (by rw [h47]; rfl)
     clear HGO HC h47
     go_wp2
     go_round
     case rel => exact ⟨_, rfl, by rw [hxe]; omega, HX2⟩
     case measure => show (x.extract 1 x.size).size < x.size; rw [hxe]; omega
    ·have hb : ((x[0].toNat : Int) == 47) = false := by
      rw [beq_eq_false_iff_ne]; intro e; exact h47 (UInt8.toNat_inj.1 (show x[0].toNat = 47 by omega))
     by_cases h92 : x[0] = 92
     ·have hb2 : ((x[0].toNat : Int) == 92) = true := by rw [h92]; rfl
      have HX2 : Hid (l.dropWhile (among [47, 92]) = (x.extract 1 x.size).data.toList.dropWhile (among [47, 92])) := HGO.out (by rw [h92]; rfl)
      clear HGO HC h47 h92
      go_wp2
      go_round
      case rel => exact ⟨_, rfl, by rw [hxe]; omega, HX2⟩
      case measure => show (x.extract 1 x.size).size < x.size; rw [hxe]; omega
     ·have hb2 : ((x[0].toNat : Int) == 92) = false := by
       rw [beq_eq_false_iff_ne]; intro e; exact h92 (UInt8.toNat_inj.1 (show x[0].toNat = 92 by omega))
      have hno : among [47, 92] x[0] = false := by unfold among; simp [h47, h92]
      have HNO : Hid (among [47, 92] x[0] = false) := hno
      clear HGO h47 h92 hno
      have HM : Hid (l.dropWhile (among [47, 92]) = x.data.toList) := by
       show _ = _
       rw [HX.out, HC.out, List.dropWhile_cons, if_neg (by rw [HNO.out]; decide)]
      obtain ⟨q, hq⟩ : ∃ q, q = (hoS (reP sc) x.data.toList).getD P.zero := ⟨_, rfl⟩
      obtain ⟨ok, hok⟩ : ∃ ok, ok = (hoS (reP sc) x.data.toList).isSome := ⟨_, rfl⟩
      have CH : Hid (∀ W, Calls Tryz.prog 139 #[.agg #[(.string sc), (.string ⟨#[]⟩), (.string ⟨#[]⟩), (.int .i64 0), (.string ⟨#[]⟩), (.int .i64 0), (.int .i64 (-1)), (.slice none 0 0), (.string ⟨#[]⟩), (.bool false), (.string ⟨#[]⟩), (.bool false), (.string ⟨#[]⟩)], .string x] W fun e w' => ∃ v, e = .returned (.tuple #[.agg (q.cells v), .bool ok]) ∧ OwnS W.heap.size v q.ps w' ∧ Below W.heap.size W w') := fun W => by
       have := HH.out x.data.toList (by simp; omega) W
       rw [mk_list, ← hq, ← hok] at this
       exact this
      have HQ : Hid ((reS sc l).getD P.zero = q) := by show _ = _; rw [HO.out, HM.out, hq]
      have HK : Hid ((reS sc l).isSome = ok) := by show _ = _; rw [HO.out, HM.out, hok]
      clear HX HH HO HM hq hok
      obtain ⟨c0, c1, c2, c3, c4, c5, c6, c7, c8, c9, c10, c11, c12⟩ : (W0.cell? ⟨w.heap.size + 1, 0, none⟩ = some (.string sc) ∧ W0.cell? ⟨w.heap.size + 1, 1, none⟩ = some (.string ⟨#[]⟩) ∧ W0.cell? ⟨w.heap.size + 1, 2, none⟩ = some (.string ⟨#[]⟩) ∧ W0.cell? ⟨w.heap.size + 1, 3, none⟩ = some (.int .i64 0) ∧ W0.cell? ⟨w.heap.size + 1, 4, none⟩ = some (.string ⟨#[]⟩) ∧ W0.cell? ⟨w.heap.size + 1, 5, none⟩ = some (.int .i64 0) ∧ W0.cell? ⟨w.heap.size + 1, 6, none⟩ = some (.int .i64 (-1)) ∧ W0.cell? ⟨w.heap.size + 1, 7, none⟩ = some (.slice none 0 0) ∧ W0.cell? ⟨w.heap.size + 1, 8, none⟩ = some (.string ⟨#[]⟩) ∧ W0.cell? ⟨w.heap.size + 1, 9, none⟩ = some (.bool false) ∧ W0.cell? ⟨w.heap.size + 1, 10, none⟩ = some (.string ⟨#[]⟩) ∧ W0.cell? ⟨w.heap.size + 1, 11, none⟩ = some (.bool false) ∧ W0.cell? ⟨w.heap.size + 1, 12, none⟩ = some (.string ⟨#[]⟩)) := HX0.out.cells
      go_wp2_with fail
      refine (CH.out _).mono ?_
      rintro e W1 ⟨v1, rfl, hO1, d1⟩
      have hX1 := HX0.out.later d1
      have hlt : w.heap.size + 1 < W0.heap.size := HX0.out.bx.lt
      obtain ⟨a', c', hv1, _⟩ := hO1.shape
      obtain ⟨n', hn'⟩ : ∃ n', n' = q.ps.length := ⟨_, rfl⟩
      rw [← hn'] at hv1
      subst hv1
      obtain ⟨hf1, hf2, hf3⟩ := hX1.fin (.string q.sc) (.string q.us) (.string q.pw) (.int .i64 q.hk) (.string q.hn) (.int .i64 q.ha) (.int .i64 q.po) (.slice a' n' c') (.string q.op) (.bool q.hq) (.string q.qu) (.bool q.hf) (.string q.fr)
      have HRB : Hid (Blk w.heap.size #[(.string q.sc), (.string q.us), (.string q.pw), (.int .i64 q.hk), (.string q.hn), (.int .i64 q.ha), (.int .i64 q.po), (.slice a' n' c'), (.string q.op), (.bool q.hq), (.string q.qu), (.bool q.hf), (.string q.fr)] 31 ((((((((((((((W1.setCell ⟨w.heap.size, 0, none⟩ (.string q.sc)).setCell ⟨w.heap.size, 1, none⟩ (.string q.us)).setCell ⟨w.heap.size, 2, none⟩ (.string q.pw)).setCell ⟨w.heap.size, 3, none⟩ (.int .i64 q.hk)).setCell ⟨w.heap.size, 4, none⟩ (.string q.hn)).setCell ⟨w.heap.size, 5, none⟩ (.int .i64 q.ha)).setCell ⟨w.heap.size, 6, none⟩ (.int .i64 q.po)).setCell ⟨w.heap.size, 7, none⟩ (.slice a' n' c')).setCell ⟨w.heap.size, 8, none⟩ (.string q.op)).setCell ⟨w.heap.size, 9, none⟩ (.bool q.hq)).setCell ⟨w.heap.size, 10, none⟩ (.string q.qu)).setCell ⟨w.heap.size, 11, none⟩ (.bool q.hf)).setCell ⟨w.heap.size, 12, none⟩ (.string q.fr)))) := hf1
      have HBB : Hid (Below w.heap.size w ((((((((((((((W1.setCell ⟨w.heap.size, 0, none⟩ (.string q.sc)).setCell ⟨w.heap.size, 1, none⟩ (.string q.us)).setCell ⟨w.heap.size, 2, none⟩ (.string q.pw)).setCell ⟨w.heap.size, 3, none⟩ (.int .i64 q.hk)).setCell ⟨w.heap.size, 4, none⟩ (.string q.hn)).setCell ⟨w.heap.size, 5, none⟩ (.int .i64 q.ha)).setCell ⟨w.heap.size, 6, none⟩ (.int .i64 q.po)).setCell ⟨w.heap.size, 7, none⟩ (.slice a' n' c')).setCell ⟨w.heap.size, 8, none⟩ (.string q.op)).setCell ⟨w.heap.size, 9, none⟩ (.bool q.hq)).setCell ⟨w.heap.size, 10, none⟩ (.string q.qu)).setCell ⟨w.heap.size, 11, none⟩ (.bool q.hf)).setCell ⟨w.heap.size, 12, none⟩ (.string q.fr)))) := hf2
      have HOO : Hid (OwnS w.heap.size (.slice a' n' c') q.ps ((((((((((((((W1.setCell ⟨w.heap.size, 0, none⟩ (.string q.sc)).setCell ⟨w.heap.size, 1, none⟩ (.string q.us)).setCell ⟨w.heap.size, 2, none⟩ (.string q.pw)).setCell ⟨w.heap.size, 3, none⟩ (.int .i64 q.hk)).setCell ⟨w.heap.size, 4, none⟩ (.string q.hn)).setCell ⟨w.heap.size, 5, none⟩ (.int .i64 q.ha)).setCell ⟨w.heap.size, 6, none⟩ (.int .i64 q.po)).setCell ⟨w.heap.size, 7, none⟩ (.slice a' n' c')).setCell ⟨w.heap.size, 8, none⟩ (.string q.op)).setCell ⟨w.heap.size, 9, none⟩ (.bool q.hq)).setCell ⟨w.heap.size, 10, none⟩ (.string q.qu)).setCell ⟨w.heap.size, 11, none⟩ (.bool q.hf)).setCell ⟨w.heap.size, 12, none⟩ (.string q.fr)))) := (hO1.keptG hf3 (by omega)).base (by omega)
      clear hf1 hf2 hf3 hn'
      obtain ⟨z0, z1, z2, z3, z4, z5, z6, z7, z8, z9, z10, z11, z12⟩ := hX1.zeros
      obtain ⟨y0, y1, y2, y3, y4, y5, y6, y7, y8, y9, y10, y11, y12⟩ := hX1.free
      unfold P.cells
      clear hX1 d1 hO1 HX0 CH
      go_wp2
      generalize ((((((((((((((W1.setCell ⟨w.heap.size, 0, none⟩ (.string q.sc)).setCell ⟨w.heap.size, 1, none⟩ (.string q.us)).setCell ⟨w.heap.size, 2, none⟩ (.string q.pw)).setCell ⟨w.heap.size, 3, none⟩ (.int .i64 q.hk)).setCell ⟨w.heap.size, 4, none⟩ (.string q.hn)).setCell ⟨w.heap.size, 5, none⟩ (.int .i64 q.ha)).setCell ⟨w.heap.size, 6, none⟩ (.int .i64 q.po)).setCell ⟨w.heap.size, 7, none⟩ (.slice a' n' c')).setCell ⟨w.heap.size, 8, none⟩ (.string q.op)).setCell ⟨w.heap.size, 9, none⟩ (.bool q.hq)).setCell ⟨w.heap.size, 10, none⟩ (.string q.qu)).setCell ⟨w.heap.size, 11, none⟩ (.bool q.hf)).setCell ⟨w.heap.size, 12, none⟩ (.string q.fr))) = W9 at *
      clear z0 z1 z2 z3 z4 z5 z6 z7 z8 z9 z10 z11 z12 y0 y1 y2 y3 y4 y5 y6 y7 y8 y9 y10 y11 y12 c0 c1 c2 c3 c4 c5 c6 c7 c8 c9 c10 c11 c12
      have z0 : W9.cell? ⟨w.heap.size, 0, none⟩ = some (.string q.sc) := HRB.out.cell 0
      have z1 : W9.cell? ⟨w.heap.size, 1, none⟩ = some (.string q.us) := HRB.out.cell 1
      have z2 : W9.cell? ⟨w.heap.size, 2, none⟩ = some (.string q.pw) := HRB.out.cell 2
      have z3 : W9.cell? ⟨w.heap.size, 3, none⟩ = some (.int .i64 q.hk) := HRB.out.cell 3
      have z4 : W9.cell? ⟨w.heap.size, 4, none⟩ = some (.string q.hn) := HRB.out.cell 4
      have z5 : W9.cell? ⟨w.heap.size, 5, none⟩ = some (.int .i64 q.ha) := HRB.out.cell 5
      have z6 : W9.cell? ⟨w.heap.size, 6, none⟩ = some (.int .i64 q.po) := HRB.out.cell 6
      have z7 : W9.cell? ⟨w.heap.size, 7, none⟩ = some (.slice a' n' c') := HRB.out.cell 7
      have z8 : W9.cell? ⟨w.heap.size, 8, none⟩ = some (.string q.op) := HRB.out.cell 8
      have z9 : W9.cell? ⟨w.heap.size, 9, none⟩ = some (.bool q.hq) := HRB.out.cell 9
      have z10 : W9.cell? ⟨w.heap.size, 10, none⟩ = some (.string q.qu) := HRB.out.cell 10
      have z11 : W9.cell? ⟨w.heap.size, 11, none⟩ = some (.bool q.hf) := HRB.out.cell 11
      have z12 : W9.cell? ⟨w.heap.size, 12, none⟩ = some (.string q.fr) := HRB.out.cell 12
      refine bodyPost_ret (v := .tuple #[.agg #[(.string q.sc), (.string q.us), (.string q.pw), (.int .i64 q.hk), (.string q.hn), (.int .i64 q.ha), (.int .i64 q.po), (.slice a' n' c'), (.string q.op), (.bool q.hq), (.string q.qu), (.bool q.hf), (.string q.fr)], .bool ok]) (by simp [results, Tryz.results112, go_sem, z0, z1, z2, z3, z4, z5, z6, z7, z8, z9, z10, z11, z12]) rfl ?_
      exact ⟨.slice a' n' c', by rw [HQ.out, HK.out]; rfl, by rw [HQ.out]; exact HOO.out, HBB.out⟩
   ·have h0i : ¬ ((0 : Int) < (x.size : Int)) := by omega
    have HM : Hid (l.dropWhile (among [47, 92]) = x.data.toList) := by
     show _ = _
     rw [HX.out, List.length_eq_zero_iff.1 (show x.data.toList.length = 0 by have h := tl_size x; omega)]; rfl
    obtain ⟨q, hq⟩ : ∃ q, q = (hoS (reP sc) x.data.toList).getD P.zero := ⟨_, rfl⟩
    obtain ⟨ok, hok⟩ : ∃ ok, ok = (hoS (reP sc) x.data.toList).isSome := ⟨_, rfl⟩
    have CH : Hid (∀ W, Calls Tryz.prog 139 #[.agg #[(.string sc), (.string ⟨#[]⟩), (.string ⟨#[]⟩), (.int .i64 0), (.string ⟨#[]⟩), (.int .i64 0), (.int .i64 (-1)), (.slice none 0 0), (.string ⟨#[]⟩), (.bool false), (.string ⟨#[]⟩), (.bool false), (.string ⟨#[]⟩)], .string x] W fun e w' => ∃ v, e = .returned (.tuple #[.agg (q.cells v), .bool ok]) ∧ OwnS W.heap.size v q.ps w' ∧ Below W.heap.size W w') := fun W => by
     have := HH.out x.data.toList (by simp; omega) W
     rw [mk_list, ← hq, ← hok] at this
     exact this
    have HQ : Hid ((reS sc l).getD P.zero = q) := by show _ = _; rw [HO.out, HM.out, hq]
    have HK : Hid ((reS sc l).isSome = ok) := by show _ = _; rw [HO.out, HM.out, hok]
    clear HX HH HO HM hq hok
    obtain ⟨c0, c1, c2, c3, c4, c5, c6, c7, c8, c9, c10, c11, c12⟩ : (W0.cell? ⟨w.heap.size + 1, 0, none⟩ = some (.string sc) ∧ W0.cell? ⟨w.heap.size + 1, 1, none⟩ = some (.string ⟨#[]⟩) ∧ W0.cell? ⟨w.heap.size + 1, 2, none⟩ = some (.string ⟨#[]⟩) ∧ W0.cell? ⟨w.heap.size + 1, 3, none⟩ = some (.int .i64 0) ∧ W0.cell? ⟨w.heap.size + 1, 4, none⟩ = some (.string ⟨#[]⟩) ∧ W0.cell? ⟨w.heap.size + 1, 5, none⟩ = some (.int .i64 0) ∧ W0.cell? ⟨w.heap.size + 1, 6, none⟩ = some (.int .i64 (-1)) ∧ W0.cell? ⟨w.heap.size + 1, 7, none⟩ = some (.slice none 0 0) ∧ W0.cell? ⟨w.heap.size + 1, 8, none⟩ = some (.string ⟨#[]⟩) ∧ W0.cell? ⟨w.heap.size + 1, 9, none⟩ = some (.bool false) ∧ W0.cell? ⟨w.heap.size + 1, 10, none⟩ = some (.string ⟨#[]⟩) ∧ W0.cell? ⟨w.heap.size + 1, 11, none⟩ = some (.bool false) ∧ W0.cell? ⟨w.heap.size + 1, 12, none⟩ = some (.string ⟨#[]⟩)) := HX0.out.cells
    go_wp2_with fail
    refine (CH.out _).mono ?_
    rintro e W1 ⟨v1, rfl, hO1, d1⟩
    have hX1 := HX0.out.later d1
    have hlt : w.heap.size + 1 < W0.heap.size := HX0.out.bx.lt
    obtain ⟨a', c', hv1, _⟩ := hO1.shape
    obtain ⟨n', hn'⟩ : ∃ n', n' = q.ps.length := ⟨_, rfl⟩
    rw [← hn'] at hv1
    subst hv1
    obtain ⟨hf1, hf2, hf3⟩ := hX1.fin (.string q.sc) (.string q.us) (.string q.pw) (.int .i64 q.hk) (.string q.hn) (.int .i64 q.ha) (.int .i64 q.po) (.slice a' n' c') (.string q.op) (.bool q.hq) (.string q.qu) (.bool q.hf) (.string q.fr)
    have HRB : Hid (Blk w.heap.size #[(.string q.sc), (.string q.us), (.string q.pw), (.int .i64 q.hk), (.string q.hn), (.int .i64 q.ha), (.int .i64 q.po), (.slice a' n' c'), (.string q.op), (.bool q.hq), (.string q.qu), (.bool q.hf), (.string q.fr)] 31 ((((((((((((((W1.setCell ⟨w.heap.size, 0, none⟩ (.string q.sc)).setCell ⟨w.heap.size, 1, none⟩ (.string q.us)).setCell ⟨w.heap.size, 2, none⟩ (.string q.pw)).setCell ⟨w.heap.size, 3, none⟩ (.int .i64 q.hk)).setCell ⟨w.heap.size, 4, none⟩ (.string q.hn)).setCell ⟨w.heap.size, 5, none⟩ (.int .i64 q.ha)).setCell ⟨w.heap.size, 6, none⟩ (.int .i64 q.po)).setCell ⟨w.heap.size, 7, none⟩ (.slice a' n' c')).setCell ⟨w.heap.size, 8, none⟩ (.string q.op)).setCell ⟨w.heap.size, 9, none⟩ (.bool q.hq)).setCell ⟨w.heap.size, 10, none⟩ (.string q.qu)).setCell ⟨w.heap.size, 11, none⟩ (.bool q.hf)).setCell ⟨w.heap.size, 12, none⟩ (.string q.fr)))) := hf1
    have HBB : Hid (Below w.heap.size w ((((((((((((((W1.setCell ⟨w.heap.size, 0, none⟩ (.string q.sc)).setCell ⟨w.heap.size, 1, none⟩ (.string q.us)).setCell ⟨w.heap.size, 2, none⟩ (.string q.pw)).setCell ⟨w.heap.size, 3, none⟩ (.int .i64 q.hk)).setCell ⟨w.heap.size, 4, none⟩ (.string q.hn)).setCell ⟨w.heap.size, 5, none⟩ (.int .i64 q.ha)).setCell ⟨w.heap.size, 6, none⟩ (.int .i64 q.po)).setCell ⟨w.heap.size, 7, none⟩ (.slice a' n' c')).setCell ⟨w.heap.size, 8, none⟩ (.string q.op)).setCell ⟨w.heap.size, 9, none⟩ (.bool q.hq)).setCell ⟨w.heap.size, 10, none⟩ (.string q.qu)).setCell ⟨w.heap.size, 11, none⟩ (.bool q.hf)).setCell ⟨w.heap.size, 12, none⟩ (.string q.fr)))) := hf2
    have HOO : Hid (OwnS w.heap.size (.slice a' n' c') q.ps ((((((((((((((W1.setCell ⟨w.heap.size, 0, none⟩ (.string q.sc)).setCell ⟨w.heap.size, 1, none⟩ (.string q.us)).setCell ⟨w.heap.size, 2, none⟩ (.string q.pw)).setCell ⟨w.heap.size, 3, none⟩ (.int .i64 q.hk)).setCell ⟨w.heap.size, 4, none⟩ (.string q.hn)).setCell ⟨w.heap.size, 5, none⟩ (.int .i64 q.ha)).setCell ⟨w.heap.size, 6, none⟩ (.int .i64 q.po)).setCell ⟨w.heap.size, 7, none⟩ (.slice a' n' c')).setCell ⟨w.heap.size, 8, none⟩ (.string q.op)).setCell ⟨w.heap.size, 9, none⟩ (.bool q.hq)).setCell ⟨w.heap.size, 10, none⟩ (.string q.qu)).setCell ⟨w.heap.size, 11, none⟩ (.bool q.hf)).setCell ⟨w.heap.size, 12, none⟩ (.string q.fr)))) := (hO1.keptG hf3 (by omega)).base (by omega)
    clear hf1 hf2 hf3 hn'
    obtain ⟨z0, z1, z2, z3, z4, z5, z6, z7, z8, z9, z10, z11, z12⟩ := hX1.zeros
    obtain ⟨y0, y1, y2, y3, y4, y5, y6, y7, y8, y9, y10, y11, y12⟩ := hX1.free
    unfold P.cells
    clear hX1 d1 hO1 HX0 CH
    go_wp2
    generalize ((((((((((((((W1.setCell ⟨w.heap.size, 0, none⟩ (.string q.sc)).setCell ⟨w.heap.size, 1, none⟩ (.string q.us)).setCell ⟨w.heap.size, 2, none⟩ (.string q.pw)).setCell ⟨w.heap.size, 3, none⟩ (.int .i64 q.hk)).setCell ⟨w.heap.size, 4, none⟩ (.string q.hn)).setCell ⟨w.heap.size, 5, none⟩ (.int .i64 q.ha)).setCell ⟨w.heap.size, 6, none⟩ (.int .i64 q.po)).setCell ⟨w.heap.size, 7, none⟩ (.slice a' n' c')).setCell ⟨w.heap.size, 8, none⟩ (.string q.op)).setCell ⟨w.heap.size, 9, none⟩ (.bool q.hq)).setCell ⟨w.heap.size, 10, none⟩ (.string q.qu)).setCell ⟨w.heap.size, 11, none⟩ (.bool q.hf)).setCell ⟨w.heap.size, 12, none⟩ (.string q.fr))) = W9 at *
    clear z0 z1 z2 z3 z4 z5 z6 z7 z8 z9 z10 z11 z12 y0 y1 y2 y3 y4 y5 y6 y7 y8 y9 y10 y11 y12 c0 c1 c2 c3 c4 c5 c6 c7 c8 c9 c10 c11 c12
    have z0 : W9.cell? ⟨w.heap.size, 0, none⟩ = some (.string q.sc) := HRB.out.cell 0
    have z1 : W9.cell? ⟨w.heap.size, 1, none⟩ = some (.string q.us) := HRB.out.cell 1
    have z2 : W9.cell? ⟨w.heap.size, 2, none⟩ = some (.string q.pw) := HRB.out.cell 2
    have z3 : W9.cell? ⟨w.heap.size, 3, none⟩ = some (.int .i64 q.hk) := HRB.out.cell 3
    have z4 : W9.cell? ⟨w.heap.size, 4, none⟩ = some (.string q.hn) := HRB.out.cell 4
    have z5 : W9.cell? ⟨w.heap.size, 5, none⟩ = some (.int .i64 q.ha) := HRB.out.cell 5
    have z6 : W9.cell? ⟨w.heap.size, 6, none⟩ = some (.int .i64 q.po) := HRB.out.cell 6
    have z7 : W9.cell? ⟨w.heap.size, 7, none⟩ = some (.slice a' n' c') := HRB.out.cell 7
    have z8 : W9.cell? ⟨w.heap.size, 8, none⟩ = some (.string q.op) := HRB.out.cell 8
    have z9 : W9.cell? ⟨w.heap.size, 9, none⟩ = some (.bool q.hq) := HRB.out.cell 9
    have z10 : W9.cell? ⟨w.heap.size, 10, none⟩ = some (.string q.qu) := HRB.out.cell 10
    have z11 : W9.cell? ⟨w.heap.size, 11, none⟩ = some (.bool q.hf) := HRB.out.cell 11
    have z12 : W9.cell? ⟨w.heap.size, 12, none⟩ = some (.string q.fr) := HRB.out.cell 12
    refine bodyPost_ret (v := .tuple #[.agg #[(.string q.sc), (.string q.us), (.string q.pw), (.int .i64 q.hk), (.string q.hn), (.int .i64 q.ha), (.int .i64 q.po), (.slice a' n' c'), (.string q.op), (.bool q.hq), (.string q.qu), (.bool q.hf), (.string q.fr)], .bool ok]) (by simp [results, Tryz.results112, go_sem, z0, z1, z2, z3, z4, z5, z6, z7, z8, z9, z10, z11, z12]) rfl ?_
    exact ⟨.slice a' n' c', by rw [HQ.out, HK.out]; rfl, by rw [HQ.out]; exact HOO.out, HBB.out⟩
end Go.Proofs.YtnfhajhdpdidlaaGreatDoor
end
section
namespace Go.Proofs.YtnfhajhdpdidlaaGreatDoor
open Go.RowKit Go.Shelf
def noneH (k : Int) (s : ByteArray) (a : Int) : Bool := decide (k = 0 ∧ a = 0) && s.data.toList.isEmpty
def okH (k : Int) (s : ByteArray) (a : Int) : Bool := noneH k s a || (named k s a || numbered k s a)
theorem none_no {k : Int} {s : ByteArray} {a : Int} (h : ¬ (k = 0 ∧ a = 0)) : noneH k s a = false := by unfold noneH; rw [decide_eq_false h]; rfl
theorem ok_zero {s : ByteArray} {a : Int} : okH 0 s a = (decide (a = 0) && s.data.toList.isEmpty) := by
 unfold okH; rw [named_no (by omega), numbered_no (by omega)]; unfold noneH; simp
theorem ok_one {s : ByteArray} {a : Int} : okH 1 s a = (nameL s.data.toList && !endsL s.data.toList && decide (a = 0)) := by
 unfold okH; rw [none_no (by omega), numbered_no (by omega)]; unfold named
 by_cases ha : a = 0
 ·subst ha; simp
 ·simp [ha]
theorem ok_two {s : ByteArray} {a : Int} : okH 2 s a = (decide (0 ≤ a ∧ a ≤ 4294967295) && s.data.toList.isEmpty) := by
 unfold okH; rw [none_no (by omega), named_no (by omega)]; unfold numbered; simp
theorem ok_else {k : Int} {s : ByteArray} {a : Int} (h0 : k ≠ 0) (h1 : k ≠ 1) (h2 : k ≠ 2) : okH k s a = false := by
 unfold okH; rw [none_no (by omega), named_no (by omega), numbered_no (by omega)]; rfl
theorem zero_text (s : ByteArray) (h : s.size = 0) : s = ⟨#[]⟩ := by
 have := mk_list s
 have hl : s.data.toList.length = s.size := by simp
 rw [List.length_eq_zero_iff.1 (show s.data.toList.length = 0 by omega)] at this
 exact this.symm
theorem full_text (s : ByteArray) (h : s.size ≠ 0) : (s.toList == []) = false ∧ s.toList.isEmpty = false ∧ s.data.toList.isEmpty = false := by
 have hzn : s.toList ≠ [] := by rw [ByteArray.toList_eq]; exact list_ne s h
 exact ⟨beq_eq_false_iff_ne.2 hzn, List.isEmpty_eq_false_iff.2 hzn, List.isEmpty_eq_false_iff.2 (list_ne s h)⟩
theorem specOk (k : Int) (s : ByteArray) (a : Int) (w : World) (hs : s.size ≤ 1048576) :
  Calls Tryz.prog 76 #[.agg #[.int .i64 k, .string s, .int .i64 a]] w fun e w' => e = .returned (.bool (okH k s a)) ∧ Below w.heap.size w w' := by
 by_cases hk0 : k = 0
 ·subst hk0
  have HO : Hid (okH 0 s a = (decide (a = 0) && s.data.toList.isEmpty)) := ok_zero
  by_cases hz : s.size = 0
  ·have he := zero_text s hz
   subst he
   by_cases ha : a = 0
   ·subst ha
    go_enter Tryz.func76, Tryz.ntmps76
    go_wp2
    go_ret
    exact ⟨by rw [HO.out]; rfl, (Below.refl _ w).alloc (Nat.le_refl _) _⟩
   ·have e0 : (a == 0) = false := beq_eq_false_iff_ne.2 ha
    go_enter Tryz.func76, Tryz.ntmps76
    go_wp2
    go_ret
    exact ⟨by rw [HO.out, decide_eq_false ha]; rfl, (Below.refl _ w).alloc (Nat.le_refl _) _⟩
  ·obtain ⟨f1, f2, f3⟩ := full_text s hz
   have HF : Hid (okH 0 s a = false) := by show _ = _; rw [HO.out, f3]; simp
   clear f3
   go_enter Tryz.func76, Tryz.ntmps76
   go_wp2
   go_ret
   exact ⟨by rw [HF.out]; rfl, (Below.refl _ w).alloc (Nat.le_refl _) _⟩
 ·have e0 : (k == 0) = false := beq_eq_false_iff_ne.2 hk0
  by_cases hk1 : k = 1
  ·subst hk1
   have HO : Hid (okH 1 s a = (nameL s.data.toList && !endsL s.data.toList && decide (a = 0))) := ok_one
   go_enter Tryz.func76, Tryz.ntmps76
   go_wp2_with fail
   refine (l2Name s _ hs).mono ?_
   rintro e W1 ⟨rfl, b1⟩
   have B1 : Hid (Below w.heap.size w W1) := box_below b1
   have hc1 : W1.cell? ⟨w.heap.size, 1, none⟩ = some (.string s) := box_cell b1 1
   have hc2 : W1.cell? ⟨w.heap.size, 2, none⟩ = some (.int .i64 a) := box_cell b1 2
   have hsz1 : W1.heap.size ≥ w.heap.size := B1.out.size
   clear b1
   cases hn : nameL s.data.toList with
   | false =>
    have HF : Hid (okH 1 s a = false) := by show _ = _; rw [HO.out, hn]; rfl
    go_wp2
    go_ret
    exact ⟨by rw [HF.out]; rfl, B1.out⟩
   | true =>
    have hl : s.data.toList.length = s.size := by simp
    have h60 := nameL_le _ hn
    have h60' : s.size ≤ 60 := by omega
    have h60i : (s.size : Int) ≤ 60 := by omega
    clear h60 hl
    go_wp2_with fail
    refine (l2Ends s _ (by omega)).mono ?_
    rintro e W2 ⟨rfl, b2⟩
    have hd2 : W2.cell? ⟨w.heap.size, 2, none⟩ = some (.int .i64 a) := (b2.cell (p := ⟨w.heap.size, 2, none⟩) (cell_lt hc2)).trans hc2
    have B2 : Hid (Below w.heap.size w W2) := B1.out.trans (b2.mono hsz1)
    clear b2 hc1 hc2
    cases he : endsL s.data.toList with
    | true =>
     have HF : Hid (okH 1 s a = false) := by show _ = _; rw [HO.out, hn, he]; rfl
     go_wp2
     go_ret
     exact ⟨by rw [HF.out]; rfl, B2.out⟩
    | false =>
     by_cases ha : a = 0
     ·subst ha
      have HF : Hid (okH 1 s 0 = true) := by show _ = _; rw [HO.out, hn, he]; rfl
      go_wp2
      go_ret
      exact ⟨by rw [HF.out]; rfl, B2.out⟩
     ·have e3 : (a == 0) = false := beq_eq_false_iff_ne.2 ha
      have HF : Hid (okH 1 s a = false) := by show _ = _; rw [HO.out, hn, he, decide_eq_false ha]; rfl
      go_wp2
      go_ret
      exact ⟨by rw [HF.out]; rfl, B2.out⟩
  ·have e1 : (k == 1) = false := beq_eq_false_iff_ne.2 hk1
   by_cases hk2 : k = 2
   ·subst hk2
    have HO : Hid (okH 2 s a = (decide (0 ≤ a ∧ a ≤ 4294967295) && s.data.toList.isEmpty)) := ok_two
    by_cases hz : s.size = 0
    ·have he := zero_text s hz
     subst he
     by_cases ha : 0 ≤ a ∧ a ≤ 4294967295
     ·have HF : Hid (okH 2 ⟨#[]⟩ a = true) := by show _ = _; rw [HO.out, decide_eq_true ha]; rfl
      have HA : Hid (0 ≤ a ∧ a ≤ 4294967295) := ha
      clear ha
      go_enter Tryz.func76, Tryz.ntmps76
      go_wp2_with (go_at_call 77; refine (l1In_yes _ _ _ _ HA.out).mono ?_; rintro e W1 ⟨rfl, hW⟩; have hW2 := hW.symm; subst hW2)
      go_ret
      exact ⟨by rw [HF.out]; rfl, (Below.refl _ w).alloc (Nat.le_refl _) _⟩
     ·have HF : Hid (okH 2 ⟨#[]⟩ a = false) := by show _ = _; rw [HO.out, decide_eq_false ha]; rfl
      have HA : Hid (¬ (0 ≤ a ∧ a ≤ 4294967295)) := ha
      clear ha
      go_enter Tryz.func76, Tryz.ntmps76
      go_wp2_with (go_at_call 77; refine (l1In_no _ _ _ _ HA.out).mono ?_; rintro e W1 ⟨rfl, hW⟩; have hW2 := hW.symm; subst hW2)
      go_ret
      exact ⟨by rw [HF.out]; rfl, (Below.refl _ w).alloc (Nat.le_refl _) _⟩
    ·obtain ⟨f1, f2, f3⟩ := full_text s hz
     have HF : Hid (okH 2 s a = false) := by show _ = _; rw [HO.out, f3]; simp
     clear f3
     go_enter Tryz.func76, Tryz.ntmps76
     go_wp2
     go_ret
     exact ⟨by rw [HF.out]; rfl, (Below.refl _ w).alloc (Nat.le_refl _) _⟩
   ·have e2 : (k == 2) = false := beq_eq_false_iff_ne.2 hk2
    have HF : Hid (okH k s a = false) := ok_else hk0 hk1 hk2
    go_enter Tryz.func76, Tryz.ntmps76
    go_wp2
    go_ret
    exact ⟨by rw [HF.out]; rfl, (Below.refl _ w).alloc (Nat.le_refl _) _⟩
end Go.Proofs.YtnfhajhdpdidlaaGreatDoor
end
section
namespace Go.Proofs.YtnfhajhdpdidlaaGreatDoor
open Go.RowKit Go.Shelf
theorem specPutFour (s : ByteArray) (a : Int) (w : World) (hk : okH 2 s a = true) (h0 : 0 ≤ a) (h1 : a ≤ 4294967295) (hs : s.size ≤ 1048576) :
  Calls Tryz.prog 78 #[.agg #[.int .i64 2, .string s, .int .i64 a]] w fun e w' => e = .returned (.string (mk (fourT a))) ∧ Below w.heap.size w w' := by
 have CO : Hid (∀ W, Calls Tryz.prog 76 #[.agg #[.int .i64 2, .string s, .int .i64 a]] W fun e w' => e = .returned (.bool true) ∧ Below W.heap.size W w') := fun W => by rw [← hk]; exact specOk 2 s a W hs
 have CF : Hid (∀ W, Calls Tryz.prog 109 #[.int .i64 a] W fun e w' => e = .returned (.string (mk (fourT a))) ∧ Below W.heap.size W w') := fun W => l2Four a W h0 h1
 generalize mk (fourT a) = r at *
 clear hk
 go_enter Tryz.func78, Tryz.ntmps78
 go_wp2_with fail
 refine (CO.out _).mono ?_
 rintro e W1 ⟨rfl, b1⟩
 have B1 : Below w.heap.size w W1 := box_below b1
 have c0 : W1.cell? ⟨w.heap.size, 0, none⟩ = some (.int .i64 2) := box_cell b1 0
 have c2 : W1.cell? ⟨w.heap.size, 2, none⟩ = some (.int .i64 a) := box_cell b1 2
 clear b1
 go_wp2_with fail
 refine (CF.out _).mono ?_
 rintro e W2 ⟨rfl, b2⟩
 have B2 : Below w.heap.size w W2 := B1.trans (b2.mono B1.size)
 clear b2 c0 c2
 go_wp2
 go_ret
 exact ⟨rfl, B2⟩
theorem specPutNone (w : World) :
  Calls Tryz.prog 78 #[.agg #[.int .i64 0, .string ⟨#[]⟩, .int .i64 0]] w fun e w' => e = .returned (.string (mk [])) ∧ Below w.heap.size w w' := by
 have hk : okH 0 ⟨#[]⟩ 0 = true := by rw [ok_zero]; rfl
 have CO : Hid (∀ W, Calls Tryz.prog 76 #[.agg #[.int .i64 0, .string ⟨#[]⟩, .int .i64 0]] W fun e w' => e = .returned (.bool true) ∧ Below W.heap.size W w') := fun W => by rw [← hk]; exact specOk 0 ⟨#[]⟩ 0 W (Nat.zero_le _)
 clear hk
 go_enter Tryz.func78, Tryz.ntmps78
 go_wp2_with fail
 refine (CO.out _).mono ?_
 rintro e W1 ⟨rfl, b1⟩
 have B1 : Below w.heap.size w W1 := box_below b1
 have c0 : W1.cell? ⟨w.heap.size, 0, none⟩ = some (.int .i64 0) := box_cell b1 0
 have c1 : W1.cell? ⟨w.heap.size, 1, none⟩ = some (.string ⟨#[]⟩) := box_cell b1 1
 clear b1
 go_wp2
 go_ret
 exact ⟨rfl, B1⟩
end Go.Proofs.YtnfhajhdpdidlaaGreatDoor
end
