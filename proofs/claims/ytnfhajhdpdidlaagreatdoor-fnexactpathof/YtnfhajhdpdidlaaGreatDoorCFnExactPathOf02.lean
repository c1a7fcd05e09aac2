/- laws.toUrl: an address as the laws hand it in, copied. eqStringS of two lists of the same texts. laws.eqUrl, markUrl, heldUrl. Plain facts: texts that no set changes; numbers and hosts that are written are read as themselves. -/
import Derived.Test.YtnfhajhdpdidlaaGreatDoorCFnExactPathOf01
import Derived.Test.YtnfhajhdpdidlaaGreatDoorB35
import Derived.Deep.Cut
import Derived.Test.YtnfhajhdpdidlaaGreatDoorB04
import Derived.Test.YtnfhajhdpdidlaaGreatDoorB14
import Derived.Test.YtnfhajhdpdidlaaGreatDoorB13
set_option linter.unusedVariables false
set_option linter.unusedSimpArgs false
set_option maxHeartbeats 4000000
set_option maxRecDepth 100000
section
namespace Go.Proofs.YtnfhajhdpdidlaaGreatDoor
open Go.RowKit Go.Shelf
theorem Part.own {g B : Nat} {ss : List (List UInt8)} {w : World} (h : Part g ss ss.length w) (hB : B ≤ g) (hl : ss.length ≤ 1000000000) : OwnS B (.slice (some ⟨g, 0, none⟩) ss.length ss.length) ss w := by
 obtain ⟨A, hg, hs, hc⟩ := h
 refine ⟨by simp, .inr ⟨g, ss.length, A, rfl, hB, hg, Nat.le_refl _, by unfold maxLen; omega, by omega, ?_⟩⟩
 apply List.ext_getElem?
 intro j
 rw [Nat.mul_one, List.getElem?_take]
 by_cases hj : j < ss.length
 ·rw [if_pos hj]
  have := hc j hj hj
  simp at this ⊢
  rw [this]; simp [hj]
 ·rw [if_neg hj]
  rw [List.getElem?_eq_none (by rw [List.length_map]; omega)]
theorem heap_other (w : World) (g j k : Nat) (x : Value) (h : k ≠ g) : (w.setCell ⟨g, j, none⟩ x).heap[k]? = w.heap[k]? := by
 simp [World.setCell, Array.getElem?_modify]
 intro e
 exact absurd e.symm h
theorem OwnS.other {B g n c k : Nat} {ps : List (List UInt8)} {w : World} (h : OwnS B (.slice (some ⟨g, 0, none⟩) n c) ps w) (hk : k < g) (j : Nat) (x : Value) : OwnS B (.slice (some ⟨g, 0, none⟩) n c) ps (w.setCell ⟨k, j, none⟩ x) := by
 refine ⟨h.1, ?_⟩
 rcases h.2 with ⟨h1, _⟩ | ⟨g', cap, cur, hv, hb, hg, rest⟩
 ·cases h1
 ·simp only [Value.slice.injEq, Option.some.injEq, Addr.mk.injEq, and_true, true_and] at hv
  obtain ⟨rfl, _, rfl⟩ := hv
  exact .inr ⟨g, c, cur, by simp_all, hb, (heap_other w k j g x (by omega)).trans hg, rest⟩
structure Tu (w : World) (q : P) (v : Value) (A : Array Value) (W : World) : Prop where
 make ::
 la : Blk w.heap.size (q.cells v) 26 W
 rs : Blk (w.heap.size + 1) zeroC 31 W
 ou : Blk (w.heap.size + 2) A 31 W
 bw : Below w.heap.size w W
theorem Tu.later {w W W' : World} {q : P} {v : Value} {A : Array Value} (h : Tu w q v A W) (b : Below W.heap.size W W') : Tu w q v A W' := ⟨h.la.below b h.la.lt, h.rs.below b h.rs.lt, h.ou.below b h.ou.lt, h.bw.trans (b.mono h.bw.size)⟩
theorem Tu.start (w : World) (q : P) (v : Value) (A : Array Value) : Tu w q v A (((w.alloc (.cells (q.cells v) 26)).alloc (.cells zeroC 31)).alloc (.cells A 31)) where
 la := ((Blk.new w _ _).alloc _).alloc _
 rs := by
  have := (Blk.new (w.alloc (.cells (q.cells v) 26)) zeroC 31).alloc (.cells A 31)
  rw [show (w.alloc (Obj.cells (q.cells v) 26)).heap.size = w.heap.size + 1 by simp] at this
  exact this
 ou := by
  have := Blk.new ((w.alloc (.cells (q.cells v) 26)).alloc (.cells zeroC 31)) A 31
  rw [show ((w.alloc (Obj.cells (q.cells v) 26)).alloc (Obj.cells zeroC 31)).heap.size = w.heap.size + 2 by simp] at this
  exact this
 bw := below3 w _ _ _
theorem Tu.set {w W : World} {q : P} {v : Value} {A : Array Value} (h : Tu w q v A W) (j : Nat) (x : Value) : Tu w q v (A.setIfInBounds j x) (W.setCell ⟨w.heap.size + 2, j, none⟩ x) where
 la := (heap_other W (w.heap.size + 2) j w.heap.size x (by omega)).trans h.la
 rs := (heap_other W (w.heap.size + 2) j (w.heap.size + 1) x (by omega)).trans h.rs
 ou := Blk.set h.ou j x
 bw := h.bw.setCell (p := ⟨w.heap.size + 2, j, none⟩) (by simp) _
theorem toUrl (q : P) (a : Option Addr) (n c : Nat) (w : World) (hS : StrsOf a n q.ps w) (hl : n ≤ 1048576) :
  Calls Tryz.prog 11 #[.agg (q.cells (.slice a n c))] w fun e w' => ∃ g, e = .returned (.agg (q.cells (.slice (some ⟨g, 0, none⟩) n n))) ∧ OwnS w.heap.size (.slice (some ⟨g, 0, none⟩) n n) q.ps w' ∧ Below w.heap.size w w' := by
 have CH : Hid (∀ W, Calls Tryz.prog 35 #[.agg #[.int .i64 q.hk, .string q.hn, .int .i64 q.ha]] W fun e w' => e = .returned (.agg #[.int .i64 q.hk, .string q.hn, .int .i64 q.ha]) ∧ Below W.heap.size W w') := fun W => toHost _ _ _ W
 have CS : Hid (∀ W, Below w.heap.size w W → Calls Tryz.prog 36 #[.slice a n c] W fun e w' => ∃ g, W.heap.size ≤ g ∧ e = .returned (.slice (some ⟨g, 0, none⟩) n n) ∧ OwnS w.heap.size (.slice (some ⟨g, 0, none⟩) n n) q.ps w' ∧ Below W.heap.size W w') := fun W b => by
  have hn : n = q.ps.length := hS.1
  refine (toStringP a n c q.ps W (hS.later b) (by omega)).mono fun e w' ⟨he, hp, hb⟩ => ⟨W.heap.size, Nat.le_refl _, he, ?_, hb⟩
  rw [hn]; exact hp.own b.size (by omega)
 have H0 : Hid (Tu w q (.slice a n c) #[(.string q.sc), (.string q.us), (.string q.pw), (.int .i64 0), (.string ⟨#[]⟩), (.int .i64 0), (.int .i64 0), (.slice none 0 0), (.string ⟨#[]⟩), (.bool false), (.string ⟨#[]⟩), (.bool false), (.string ⟨#[]⟩)] (((w.alloc (.cells (q.cells (.slice a n c)) 26)).alloc (.cells zeroC 31)).alloc (.cells #[(.string q.sc), (.string q.us), (.string q.pw), (.int .i64 0), (.string ⟨#[]⟩), (.int .i64 0), (.int .i64 0), (.slice none 0 0), (.string ⟨#[]⟩), (.bool false), (.string ⟨#[]⟩), (.bool false), (.string ⟨#[]⟩)] 31))) := Tu.start w q _ _
 clear hS hl
 unfold P.cells zeroC at H0
 unfold P.cells
 go_enter Tryz.func11, Tryz.ntmps11
 go_wp2_with fail
 refine (CH.out _).mono ?_
 rintro e W1 ⟨rfl, d1⟩
 have HX1 : Hid (Tu w q (.slice a n c) #[(.string q.sc), (.string q.us), (.string q.pw), (.int .i64 0), (.string ⟨#[]⟩), (.int .i64 0), (.int .i64 0), (.slice none 0 0), (.string ⟨#[]⟩), (.bool false), (.string ⟨#[]⟩), (.bool false), (.string ⟨#[]⟩)] W1) := H0.out.later d1
 clear d1 H0 CH
 have HX2 : Hid (Tu w q (.slice a n c) #[(.string q.sc), (.string q.us), (.string q.pw), (.int .i64 q.hk), (.string q.hn), (.int .i64 q.ha), (.int .i64 q.po), (.slice none 0 0), (.string ⟨#[]⟩), (.bool false), (.string ⟨#[]⟩), (.bool false), (.string ⟨#[]⟩)] ((((W1.setCell ⟨w.heap.size + 2, 3, none⟩ (.int .i64 q.hk)).setCell ⟨w.heap.size + 2, 4, none⟩ (.string q.hn)).setCell ⟨w.heap.size + 2, 5, none⟩ (.int .i64 q.ha)).setCell ⟨w.heap.size + 2, 6, none⟩ (.int .i64 q.po))) := by
  have := (((HX1.out.set 3 (.int .i64 q.hk)).set 4 (.string q.hn)).set 5 (.int .i64 q.ha)).set 6 (.int .i64 q.po)
  show Tu _ _ _ _ _
  simpa using this
 have la0 : W1.cell? ⟨w.heap.size, 0, none⟩ = some (.string q.sc) := HX1.out.la.cell 0
 have la1 : W1.cell? ⟨w.heap.size, 1, none⟩ = some (.string q.us) := HX1.out.la.cell 1
 have la2 : W1.cell? ⟨w.heap.size, 2, none⟩ = some (.string q.pw) := HX1.out.la.cell 2
 have la3 : W1.cell? ⟨w.heap.size, 3, none⟩ = some (.int .i64 q.hk) := HX1.out.la.cell 3
 have la4 : W1.cell? ⟨w.heap.size, 4, none⟩ = some (.string q.hn) := HX1.out.la.cell 4
 have la5 : W1.cell? ⟨w.heap.size, 5, none⟩ = some (.int .i64 q.ha) := HX1.out.la.cell 5
 have la6 : W1.cell? ⟨w.heap.size, 6, none⟩ = some (.int .i64 q.po) := HX1.out.la.cell 6
 have la7 : W1.cell? ⟨w.heap.size, 7, none⟩ = some (.slice a n c) := HX1.out.la.cell 7
 have la8 : W1.cell? ⟨w.heap.size, 8, none⟩ = some (.string q.op) := HX1.out.la.cell 8
 have la9 : W1.cell? ⟨w.heap.size, 9, none⟩ = some (.bool q.hq) := HX1.out.la.cell 9
 have la10 : W1.cell? ⟨w.heap.size, 10, none⟩ = some (.string q.qu) := HX1.out.la.cell 10
 have la11 : W1.cell? ⟨w.heap.size, 11, none⟩ = some (.bool q.hf) := HX1.out.la.cell 11
 have la12 : W1.cell? ⟨w.heap.size, 12, none⟩ = some (.string q.fr) := HX1.out.la.cell 12
 have ou0 : W1.cell? ⟨w.heap.size + 2, 0, none⟩ = some (.string q.sc) := HX1.out.ou.cell 0
 have ou1 : W1.cell? ⟨w.heap.size + 2, 1, none⟩ = some (.string q.us) := HX1.out.ou.cell 1
 have ou2 : W1.cell? ⟨w.heap.size + 2, 2, none⟩ = some (.string q.pw) := HX1.out.ou.cell 2
 have ou3 : W1.cell? ⟨w.heap.size + 2, 3, none⟩ = some (.int .i64 0) := HX1.out.ou.cell 3
 have ou4 : W1.cell? ⟨w.heap.size + 2, 4, none⟩ = some (.string ⟨#[]⟩) := HX1.out.ou.cell 4
 have ou5 : W1.cell? ⟨w.heap.size + 2, 5, none⟩ = some (.int .i64 0) := HX1.out.ou.cell 5
 have ou6 : W1.cell? ⟨w.heap.size + 2, 6, none⟩ = some (.int .i64 0) := HX1.out.ou.cell 6
 have ou7 : W1.cell? ⟨w.heap.size + 2, 7, none⟩ = some (.slice none 0 0) := HX1.out.ou.cell 7
 have ou8 : W1.cell? ⟨w.heap.size + 2, 8, none⟩ = some (.string ⟨#[]⟩) := HX1.out.ou.cell 8
 have ou9 : W1.cell? ⟨w.heap.size + 2, 9, none⟩ = some (.bool false) := HX1.out.ou.cell 9
 have ou10 : W1.cell? ⟨w.heap.size + 2, 10, none⟩ = some (.string ⟨#[]⟩) := HX1.out.ou.cell 10
 have ou11 : W1.cell? ⟨w.heap.size + 2, 11, none⟩ = some (.bool false) := HX1.out.ou.cell 11
 have ou12 : W1.cell? ⟨w.heap.size + 2, 12, none⟩ = some (.string ⟨#[]⟩) := HX1.out.ou.cell 12
 have fo0 := HX1.out.ou.free 0
 have fo1 := HX1.out.ou.free 1
 have fo2 := HX1.out.ou.free 2
 have fo3 := HX1.out.ou.free 3
 have fo4 := HX1.out.ou.free 4
 have fo5 := HX1.out.ou.free 5
 have fo6 := HX1.out.ou.free 6
 have fo7 := HX1.out.ou.free 7
 have fo8 := HX1.out.ou.free 8
 have fo9 := HX1.out.ou.free 9
 have fo10 := HX1.out.ou.free 10
 have fo11 := HX1.out.ou.free 11
 have fo12 := HX1.out.ou.free 12
 have s1 : w.heap.size + 2 < W1.heap.size := HX1.out.ou.lt
 clear HX1
 have HZ : Hid (((((W1.setCell ⟨w.heap.size + 2, 3, none⟩ (.int .i64 q.hk)).setCell ⟨w.heap.size + 2, 4, none⟩ (.string q.hn)).setCell ⟨w.heap.size + 2, 5, none⟩ (.int .i64 q.ha)).setCell ⟨w.heap.size + 2, 6, none⟩ (.int .i64 q.po)).heap.size = W1.heap.size) := by show _ = _; simp
 go_wp2_with fail
 refine (CS.out _ HX2.out.bw).mono ?_
 rintro e W3 ⟨g, hg, rfl, o3, d3⟩
 have hg2 : w.heap.size + 2 < g := by
  have h1 : W1.heap.size ≤ g := by rw [← HZ.out]; exact hg
  omega
 have HX3 : Hid (Tu w q (.slice a n c) #[(.string q.sc), (.string q.us), (.string q.pw), (.int .i64 q.hk), (.string q.hn), (.int .i64 q.ha), (.int .i64 q.po), (.slice none 0 0), (.string ⟨#[]⟩), (.bool false), (.string ⟨#[]⟩), (.bool false), (.string ⟨#[]⟩)] W3) := HX2.out.later d3
 have HO3 : Hid (OwnS w.heap.size (.slice (some ⟨g, 0, none⟩) n n) q.ps W3) := o3
 clear o3 d3 HX2 HZ hg CS s1 la0 ou0 fo0 la1 ou1 fo1 la2 ou2 fo2 la3 ou3 fo3 la4 ou4 fo4 la5 ou5 fo5 la6 ou6 fo6 la7 ou7 fo7 la8 ou8 fo8 la9 ou9 fo9 la10 ou10 fo10 la11 ou11 fo11 la12 ou12 fo12
 have la0 : W3.cell? ⟨w.heap.size, 0, none⟩ = some (.string q.sc) := HX3.out.la.cell 0
 have la1 : W3.cell? ⟨w.heap.size, 1, none⟩ = some (.string q.us) := HX3.out.la.cell 1
 have la2 : W3.cell? ⟨w.heap.size, 2, none⟩ = some (.string q.pw) := HX3.out.la.cell 2
 have la3 : W3.cell? ⟨w.heap.size, 3, none⟩ = some (.int .i64 q.hk) := HX3.out.la.cell 3
 have la4 : W3.cell? ⟨w.heap.size, 4, none⟩ = some (.string q.hn) := HX3.out.la.cell 4
 have la5 : W3.cell? ⟨w.heap.size, 5, none⟩ = some (.int .i64 q.ha) := HX3.out.la.cell 5
 have la6 : W3.cell? ⟨w.heap.size, 6, none⟩ = some (.int .i64 q.po) := HX3.out.la.cell 6
 have la7 : W3.cell? ⟨w.heap.size, 7, none⟩ = some (.slice a n c) := HX3.out.la.cell 7
 have la8 : W3.cell? ⟨w.heap.size, 8, none⟩ = some (.string q.op) := HX3.out.la.cell 8
 have la9 : W3.cell? ⟨w.heap.size, 9, none⟩ = some (.bool q.hq) := HX3.out.la.cell 9
 have la10 : W3.cell? ⟨w.heap.size, 10, none⟩ = some (.string q.qu) := HX3.out.la.cell 10
 have la11 : W3.cell? ⟨w.heap.size, 11, none⟩ = some (.bool q.hf) := HX3.out.la.cell 11
 have la12 : W3.cell? ⟨w.heap.size, 12, none⟩ = some (.string q.fr) := HX3.out.la.cell 12
 have fo0 := HX3.out.ou.free 0
 have fo1 := HX3.out.ou.free 1
 have fo2 := HX3.out.ou.free 2
 have fo3 := HX3.out.ou.free 3
 have fo4 := HX3.out.ou.free 4
 have fo5 := HX3.out.ou.free 5
 have fo6 := HX3.out.ou.free 6
 have fo7 := HX3.out.ou.free 7
 have fo8 := HX3.out.ou.free 8
 have fo9 := HX3.out.ou.free 9
 have fo10 := HX3.out.ou.free 10
 have fo11 := HX3.out.ou.free 11
 have fo12 := HX3.out.ou.free 12
 have ou0 : W3.cell? ⟨w.heap.size + 2, 0, none⟩ = some (.string q.sc) := HX3.out.ou.cell 0
 have ou1 : W3.cell? ⟨w.heap.size + 2, 1, none⟩ = some (.string q.us) := HX3.out.ou.cell 1
 have ou2 : W3.cell? ⟨w.heap.size + 2, 2, none⟩ = some (.string q.pw) := HX3.out.ou.cell 2
 have ou3 : W3.cell? ⟨w.heap.size + 2, 3, none⟩ = some (.int .i64 q.hk) := HX3.out.ou.cell 3
 have ou4 : W3.cell? ⟨w.heap.size + 2, 4, none⟩ = some (.string q.hn) := HX3.out.ou.cell 4
 have ou5 : W3.cell? ⟨w.heap.size + 2, 5, none⟩ = some (.int .i64 q.ha) := HX3.out.ou.cell 5
 have ou6 : W3.cell? ⟨w.heap.size + 2, 6, none⟩ = some (.int .i64 q.po) := HX3.out.ou.cell 6
 have ou7 : W3.cell? ⟨w.heap.size + 2, 7, none⟩ = some (.slice none 0 0) := HX3.out.ou.cell 7
 have ou8 : W3.cell? ⟨w.heap.size + 2, 8, none⟩ = some (.string ⟨#[]⟩) := HX3.out.ou.cell 8
 have ou9 : W3.cell? ⟨w.heap.size + 2, 9, none⟩ = some (.bool false) := HX3.out.ou.cell 9
 have ou10 : W3.cell? ⟨w.heap.size + 2, 10, none⟩ = some (.string ⟨#[]⟩) := HX3.out.ou.cell 10
 have ou11 : W3.cell? ⟨w.heap.size + 2, 11, none⟩ = some (.bool false) := HX3.out.ou.cell 11
 have ou12 : W3.cell? ⟨w.heap.size + 2, 12, none⟩ = some (.string ⟨#[]⟩) := HX3.out.ou.cell 12
 have rs0 : W3.cell? ⟨w.heap.size + 1, 0, none⟩ = some (.string ⟨#[]⟩) := HX3.out.rs.cell 0
 have rs1 : W3.cell? ⟨w.heap.size + 1, 1, none⟩ = some (.string ⟨#[]⟩) := HX3.out.rs.cell 1
 have rs2 : W3.cell? ⟨w.heap.size + 1, 2, none⟩ = some (.string ⟨#[]⟩) := HX3.out.rs.cell 2
 have rs3 : W3.cell? ⟨w.heap.size + 1, 3, none⟩ = some (.int .i64 0) := HX3.out.rs.cell 3
 have rs4 : W3.cell? ⟨w.heap.size + 1, 4, none⟩ = some (.string ⟨#[]⟩) := HX3.out.rs.cell 4
 have rs5 : W3.cell? ⟨w.heap.size + 1, 5, none⟩ = some (.int .i64 0) := HX3.out.rs.cell 5
 have rs6 : W3.cell? ⟨w.heap.size + 1, 6, none⟩ = some (.int .i64 0) := HX3.out.rs.cell 6
 have rs7 : W3.cell? ⟨w.heap.size + 1, 7, none⟩ = some (.slice none 0 0) := HX3.out.rs.cell 7
 have rs8 : W3.cell? ⟨w.heap.size + 1, 8, none⟩ = some (.string ⟨#[]⟩) := HX3.out.rs.cell 8
 have rs9 : W3.cell? ⟨w.heap.size + 1, 9, none⟩ = some (.bool false) := HX3.out.rs.cell 9
 have rs10 : W3.cell? ⟨w.heap.size + 1, 10, none⟩ = some (.string ⟨#[]⟩) := HX3.out.rs.cell 10
 have rs11 : W3.cell? ⟨w.heap.size + 1, 11, none⟩ = some (.bool false) := HX3.out.rs.cell 11
 have rs12 : W3.cell? ⟨w.heap.size + 1, 12, none⟩ = some (.string ⟨#[]⟩) := HX3.out.rs.cell 12
 have fr0 := HX3.out.rs.free 0
 have fr1 := HX3.out.rs.free 1
 have fr2 := HX3.out.rs.free 2
 have fr3 := HX3.out.rs.free 3
 have fr4 := HX3.out.rs.free 4
 have fr5 := HX3.out.rs.free 5
 have fr6 := HX3.out.rs.free 6
 have fr7 := HX3.out.rs.free 7
 have fr8 := HX3.out.rs.free 8
 have fr9 := HX3.out.rs.free 9
 have fr10 := HX3.out.rs.free 10
 have fr11 := HX3.out.rs.free 11
 have fr12 := HX3.out.rs.free 12
 have s3 : w.heap.size + 2 < W3.heap.size := HX3.out.ou.lt
 go_upto_region 13 with fail
 have HX4 : Hid (Tu w q (.slice a n c) #[(.string q.sc), (.string q.us), (.string q.pw), (.int .i64 q.hk), (.string q.hn), (.int .i64 q.ha), (.int .i64 q.po), (.slice (some ⟨g, 0, none⟩) n n), (.string q.op), (.bool q.hq), (.string q.qu), (.bool q.hf), (.string q.fr)] ((((((W3.setCell ⟨w.heap.size + 2, 7, none⟩ (.slice (some ⟨g, 0, none⟩) n n)).setCell ⟨w.heap.size + 2, 8, none⟩ (.string q.op)).setCell ⟨w.heap.size + 2, 9, none⟩ (.bool q.hq)).setCell ⟨w.heap.size + 2, 10, none⟩ (.string q.qu)).setCell ⟨w.heap.size + 2, 11, none⟩ (.bool q.hf)).setCell ⟨w.heap.size + 2, 12, none⟩ (.string q.fr))) := by
  have := (((((HX3.out.set 7 (.slice (some ⟨g, 0, none⟩) n n)).set 8 (.string q.op)).set 9 (.bool q.hq)).set 10 (.string q.qu)).set 11 (.bool q.hf)).set 12 (.string q.fr)
  show Tu _ _ _ _ _
  simpa using this
 have HO4 : Hid (OwnS w.heap.size (.slice (some ⟨g, 0, none⟩) n n) q.ps ((((((W3.setCell ⟨w.heap.size + 2, 7, none⟩ (.slice (some ⟨g, 0, none⟩) n n)).setCell ⟨w.heap.size + 2, 8, none⟩ (.string q.op)).setCell ⟨w.heap.size + 2, 9, none⟩ (.bool q.hq)).setCell ⟨w.heap.size + 2, 10, none⟩ (.string q.qu)).setCell ⟨w.heap.size + 2, 11, none⟩ (.bool q.hf)).setCell ⟨w.heap.size + 2, 12, none⟩ (.string q.fr))) := by
  show OwnS _ _ _ _
  exact (((((HO3.out.other hg2 7 _).other hg2 8 _).other hg2 9 _).other hg2 10 _).other hg2 11 _).other hg2 12 _
 clear HX3 HO3 s3 la0 ou0 fo0 rs0 fr0 la1 ou1 fo1 rs1 fr1 la2 ou2 fo2 rs2 fr2 la3 ou3 fo3 rs3 fr3 la4 ou4 fo4 rs4 fr4 la5 ou5 fo5 rs5 fr5 la6 ou6 fo6 rs6 fr6 la7 ou7 fo7 rs7 fr7 la8 ou8 fo8 rs8 fr8 la9 ou9 fo9 rs9 fr9 la10 ou10 fo10 rs10 fr10 la11 ou11 fo11 rs11 fr11 la12 ou12 fo12 rs12 fr12
 obtain ⟨W4, hW4⟩ : ∃ W, W = ((((((W3.setCell ⟨w.heap.size + 1 + 1, 7, none⟩ (.slice (some ⟨g, 0, none⟩) n n)).setCell ⟨w.heap.size + 1 + 1, 8, none⟩ (.string q.op)).setCell ⟨w.heap.size + 1 + 1, 9, none⟩ (.bool q.hq)).setCell ⟨w.heap.size + 1 + 1, 10, none⟩ (.string q.qu)).setCell ⟨w.heap.size + 1 + 1, 11, none⟩ (.bool q.hf)).setCell ⟨w.heap.size + 1 + 1, 12, none⟩ (.string q.fr)) := ⟨_, rfl⟩
 have HY4 : Hid (Tu w q (.slice a n c) #[(.string q.sc), (.string q.us), (.string q.pw), (.int .i64 q.hk), (.string q.hn), (.int .i64 q.ha), (.int .i64 q.po), (.slice (some ⟨g, 0, none⟩) n n), (.string q.op), (.bool q.hq), (.string q.qu), (.bool q.hf), (.string q.fr)] W4) := by rw [hW4]; exact HX4.out
 have HP4 : Hid (OwnS w.heap.size (.slice (some ⟨g, 0, none⟩) n n) q.ps W4) := by rw [hW4]; exact HO4.out
 rw [← hW4]
 clear HX4 HO4 hW4
 have ou0 : W4.cell? ⟨w.heap.size + 1 + 1, 0, none⟩ = some (.string q.sc) := HY4.out.ou.cell 0
 have ou1 : W4.cell? ⟨w.heap.size + 1 + 1, 1, none⟩ = some (.string q.us) := HY4.out.ou.cell 1
 have ou2 : W4.cell? ⟨w.heap.size + 1 + 1, 2, none⟩ = some (.string q.pw) := HY4.out.ou.cell 2
 have ou3 : W4.cell? ⟨w.heap.size + 1 + 1, 3, none⟩ = some (.int .i64 q.hk) := HY4.out.ou.cell 3
 have ou4 : W4.cell? ⟨w.heap.size + 1 + 1, 4, none⟩ = some (.string q.hn) := HY4.out.ou.cell 4
 have ou5 : W4.cell? ⟨w.heap.size + 1 + 1, 5, none⟩ = some (.int .i64 q.ha) := HY4.out.ou.cell 5
 have ou6 : W4.cell? ⟨w.heap.size + 1 + 1, 6, none⟩ = some (.int .i64 q.po) := HY4.out.ou.cell 6
 have ou7 : W4.cell? ⟨w.heap.size + 1 + 1, 7, none⟩ = some (.slice (some ⟨g, 0, none⟩) n n) := HY4.out.ou.cell 7
 have ou8 : W4.cell? ⟨w.heap.size + 1 + 1, 8, none⟩ = some (.string q.op) := HY4.out.ou.cell 8
 have ou9 : W4.cell? ⟨w.heap.size + 1 + 1, 9, none⟩ = some (.bool q.hq) := HY4.out.ou.cell 9
 have ou10 : W4.cell? ⟨w.heap.size + 1 + 1, 10, none⟩ = some (.string q.qu) := HY4.out.ou.cell 10
 have ou11 : W4.cell? ⟨w.heap.size + 1 + 1, 11, none⟩ = some (.bool q.hf) := HY4.out.ou.cell 11
 have ou12 : W4.cell? ⟨w.heap.size + 1 + 1, 12, none⟩ = some (.string q.fr) := HY4.out.ou.cell 12
 have rs0 : W4.cell? ⟨w.heap.size + 1, 0, none⟩ = some (.string ⟨#[]⟩) := HY4.out.rs.cell 0
 have rs1 : W4.cell? ⟨w.heap.size + 1, 1, none⟩ = some (.string ⟨#[]⟩) := HY4.out.rs.cell 1
 have rs2 : W4.cell? ⟨w.heap.size + 1, 2, none⟩ = some (.string ⟨#[]⟩) := HY4.out.rs.cell 2
 have rs3 : W4.cell? ⟨w.heap.size + 1, 3, none⟩ = some (.int .i64 0) := HY4.out.rs.cell 3
 have rs4 : W4.cell? ⟨w.heap.size + 1, 4, none⟩ = some (.string ⟨#[]⟩) := HY4.out.rs.cell 4
 have rs5 : W4.cell? ⟨w.heap.size + 1, 5, none⟩ = some (.int .i64 0) := HY4.out.rs.cell 5
 have rs6 : W4.cell? ⟨w.heap.size + 1, 6, none⟩ = some (.int .i64 0) := HY4.out.rs.cell 6
 have rs7 : W4.cell? ⟨w.heap.size + 1, 7, none⟩ = some (.slice none 0 0) := HY4.out.rs.cell 7
 have rs8 : W4.cell? ⟨w.heap.size + 1, 8, none⟩ = some (.string ⟨#[]⟩) := HY4.out.rs.cell 8
 have rs9 : W4.cell? ⟨w.heap.size + 1, 9, none⟩ = some (.bool false) := HY4.out.rs.cell 9
 have rs10 : W4.cell? ⟨w.heap.size + 1, 10, none⟩ = some (.string ⟨#[]⟩) := HY4.out.rs.cell 10
 have rs11 : W4.cell? ⟨w.heap.size + 1, 11, none⟩ = some (.bool false) := HY4.out.rs.cell 11
 have rs12 : W4.cell? ⟨w.heap.size + 1, 12, none⟩ = some (.string ⟨#[]⟩) := HY4.out.rs.cell 12
 have fr0 := HY4.out.rs.free 0
 have fr1 := HY4.out.rs.free 1
 have fr2 := HY4.out.rs.free 2
 have fr3 := HY4.out.rs.free 3
 have fr4 := HY4.out.rs.free 4
 have fr5 := HY4.out.rs.free 5
 have fr6 := HY4.out.rs.free 6
 have fr7 := HY4.out.rs.free 7
 have fr8 := HY4.out.rs.free 8
 have fr9 := HY4.out.rs.free 9
 have fr10 := HY4.out.rs.free 10
 have fr11 := HY4.out.rs.free 11
 have fr12 := HY4.out.rs.free 12
 have HFIN : Hid (OwnS w.heap.size (.slice (some ⟨g, 0, none⟩) n n) q.ps (((((((((((((W4.setCell ⟨w.heap.size + 1, 0, none⟩ (.string q.sc)).setCell ⟨w.heap.size + 1, 1, none⟩ (.string q.us)).setCell ⟨w.heap.size + 1, 2, none⟩ (.string q.pw)).setCell ⟨w.heap.size + 1, 3, none⟩ (.int .i64 q.hk)).setCell ⟨w.heap.size + 1, 4, none⟩ (.string q.hn)).setCell ⟨w.heap.size + 1, 5, none⟩ (.int .i64 q.ha)).setCell ⟨w.heap.size + 1, 6, none⟩ (.int .i64 q.po)).setCell ⟨w.heap.size + 1, 7, none⟩ (.slice (some ⟨g, 0, none⟩) n n)).setCell ⟨w.heap.size + 1, 8, none⟩ (.string q.op)).setCell ⟨w.heap.size + 1, 9, none⟩ (.bool q.hq)).setCell ⟨w.heap.size + 1, 10, none⟩ (.string q.qu)).setCell ⟨w.heap.size + 1, 11, none⟩ (.bool q.hf)).setCell ⟨w.heap.size + 1, 12, none⟩ (.string q.fr)) ∧ Below w.heap.size w (((((((((((((W4.setCell ⟨w.heap.size + 1, 0, none⟩ (.string q.sc)).setCell ⟨w.heap.size + 1, 1, none⟩ (.string q.us)).setCell ⟨w.heap.size + 1, 2, none⟩ (.string q.pw)).setCell ⟨w.heap.size + 1, 3, none⟩ (.int .i64 q.hk)).setCell ⟨w.heap.size + 1, 4, none⟩ (.string q.hn)).setCell ⟨w.heap.size + 1, 5, none⟩ (.int .i64 q.ha)).setCell ⟨w.heap.size + 1, 6, none⟩ (.int .i64 q.po)).setCell ⟨w.heap.size + 1, 7, none⟩ (.slice (some ⟨g, 0, none⟩) n n)).setCell ⟨w.heap.size + 1, 8, none⟩ (.string q.op)).setCell ⟨w.heap.size + 1, 9, none⟩ (.bool q.hq)).setCell ⟨w.heap.size + 1, 10, none⟩ (.string q.qu)).setCell ⟨w.heap.size + 1, 11, none⟩ (.bool q.hf)).setCell ⟨w.heap.size + 1, 12, none⟩ (.string q.fr))) := by
  have h1 : w.heap.size + 1 < g := by omega
  exact ⟨((((((((((((HP4.out.other h1 0 _).other h1 1 _).other h1 2 _).other h1 3 _).other h1 4 _).other h1 5 _).other h1 6 _).other h1 7 _).other h1 8 _).other h1 9 _).other h1 10 _).other h1 11 _).other h1 12 _, below_put13 HY4.out.bw (by omega) _ _ _ _ _ _ _ _ _ _ _ _ _⟩
 clear HY4 HP4
 go_wp2
 refine bodyPost_ret (v := .agg #[(.string q.sc), (.string q.us), (.string q.pw), (.int .i64 q.hk), (.string q.hn), (.int .i64 q.ha), (.int .i64 q.po), (.slice (some ⟨g, 0, none⟩) n n), (.string q.op), (.bool q.hq), (.string q.qu), (.bool q.hf), (.string q.fr)]) (by simp [results, Tryz.results11, go_sem, rs0, rs1, rs2, rs3, rs4, rs5, rs6, rs7, rs8, rs9, rs10, rs11, rs12]) rfl ⟨g, rfl, HFIN.out⟩
end Go.Proofs.YtnfhajhdpdidlaaGreatDoor
end
section
namespace Go.Proofs.YtnfhajhdpdidlaaGreatDoor
open Go.RowKit Go.Shelf
theorem eqStringS (a a' : Option Addr) (len cap len' cap' : Nat) (ss : List (List UInt8)) (w : World) (h : StrsOf a len ss w) (h' : StrsOf a' len' ss w) (hl : len ≤ 1000000000) :
  Calls Tryz.prog 40 #[.slice a len cap, .slice a' len' cap'] w fun e w' => e = .returned (.bool true) ∧ ∃ n, w' = w.drewN n := by
 have hll : len' = len := by rw [h.1, h'.1]
 subst hll
 have HLEN : Hid (len' = ss.length) := h.1
 go_enter Tryz.func40, Tryz.ntmps40
 go_wp2
 go_loopw [5] (fun i wr => ∃ k : Nat, k ≤ len' ∧ i = .int .i64 k ∧ ∃ n, wr = w.drewN n) (fun i wr => len' - (intOf i).toNat)
 case atStart => exact ⟨0, Nat.zero_le _, rfl, 0, rfl⟩
 case round =>
  obtain ⟨k, hk, rfl, n, rfl⟩ := hrel
  by_cases hp : k < len'
  ·have hki : (k : Int) < (len' : Int) := by omega
   obtain ⟨b, off, z, rfl, hz, hzm, hzs⟩ := h.at k (by have := HLEN.out; omega)
   obtain ⟨b', off', z', rfl, hz', hzm', hzs'⟩ := h'.at k (by have := HLEN.out; omega)
   have : z' = z := by rw [hzm, hzm']
   subst this
   clear hzm hzm' hzs hzs'
   go_wp2
   go_quiet (fail)
   go_wp2
   go_roundw
   case rel => exact ⟨k + 1, by omega, by go_num, _, rfl⟩
   case measure => simp [intOf]; omega
  ·have hkk : k = len' := by omega
   subst hkk
   go_wp2
   go_ret
   exact ⟨rfl, n, rfl⟩
end Go.Proofs.YtnfhajhdpdidlaaGreatDoor
end
section
namespace Go.Proofs.YtnfhajhdpdidlaaGreatDoor
open Go.RowKit Go.Shelf
theorem eqHost (k : Int) (s : ByteArray) (a : Int) (w : World) :
  Calls Tryz.prog 39 #[.agg #[.int .i64 k, .string s, .int .i64 a], .agg #[.int .i64 k, .string s, .int .i64 a]] w fun e w' => e = .returned (.bool true) ∧ Below w.heap.size w w' := by
 have HB : Hid (Below w.heap.size w ((w.alloc (.cells #[.int .i64 k, .string s, .int .i64 a] 29)).alloc (.cells #[.int .i64 k, .string s, .int .i64 a] 29))) := ((Below.refl _ w).alloc (Nat.le_refl _) _).alloc (by simp) _
 go_enter Tryz.func39, Tryz.ntmps39
 go_wp2
 go_ret
 exact ⟨rfl, HB.out⟩
structure TB (w : World) (q : P) (v v' : Value) (W : World) : Prop where
 make ::
 b1 : Blk w.heap.size (q.cells v) 31 W
 b2 : Blk (w.heap.size + 1) (q.cells v') 31 W
 bw : Below w.heap.size w W
theorem TB.start (w : World) (q : P) (v v' : Value) : TB w q v v' ((w.alloc (.cells (q.cells v) 31)).alloc (.cells (q.cells v') 31)) where
 b1 := Blk.alloc (Blk.new w _ _) _
 b2 := by
  have := Blk.new (w.alloc (.cells (q.cells v) 31)) (q.cells v') 31
  rw [show (w.alloc (Obj.cells (q.cells v) 31)).heap.size = w.heap.size + 1 by simp] at this
  exact this
 bw := ((Below.refl _ w).alloc (Nat.le_refl _) _).alloc (by simp) _
theorem TB.later {w W W' : World} {q : P} {v v' : Value} (h : TB w q v v' W) (b : Below W.heap.size W W') : TB w q v v' W' := ⟨h.b1.below b h.b1.lt, h.b2.below b h.b2.lt, h.bw.trans (b.mono h.bw.size)⟩
theorem eqUrl (q : P) (a a' : Option Addr) (c c' : Nat) (w : World) (h : StrsOf a q.ps.length q.ps w) (h' : StrsOf a' q.ps.length q.ps w) (hl : q.ps.length ≤ 1100000) :
  Calls Tryz.prog 13 #[.agg (q.cells (.slice a q.ps.length c)), .agg (q.cells (.slice a' q.ps.length c'))] w fun e w' => e = .returned (.bool true) ∧ Below w.heap.size w w' := by
 have H0 : Hid (TB w q (.slice a q.ps.length c) (.slice a' q.ps.length c') ((w.alloc (.cells (q.cells (.slice a q.ps.length c)) 31)).alloc (.cells (q.cells (.slice a' q.ps.length c')) 31))) := TB.start w q _ _
 obtain ⟨n, hn⟩ : ∃ n, n = q.ps.length := ⟨_, rfl⟩
 have CH : Hid (∀ W, Calls Tryz.prog 39 #[.agg #[.int .i64 q.hk, .string q.hn, .int .i64 q.ha], .agg #[.int .i64 q.hk, .string q.hn, .int .i64 q.ha]] W fun e w' => e = .returned (.bool true) ∧ Below W.heap.size W w') := fun W => eqHost q.hk q.hn q.ha W
 have CS : Hid (∀ W, Below w.heap.size w W → Calls Tryz.prog 40 #[.slice a n c, .slice a' n c'] W fun e w' => e = .returned (.bool true) ∧ ∃ n, w' = W.drewN n) := fun W b => by
  rw [hn]; exact eqStringS _ _ _ _ _ _ q.ps W (h.later b) (h'.later b) (by omega)
 rw [← hn] at H0 ⊢
 clear h h' hl hn
 unfold P.cells at H0 ⊢
 go_enter Tryz.func13, Tryz.ntmps13
 go_wp2_with fail
 refine (CH.out _).mono ?_
 rintro e W1 ⟨rfl, d1⟩
 have HX1 : Hid (TB w q (.slice a n c) (.slice a' n c') W1) := H0.out.later d1
 clear d1 H0 CH
 obtain ⟨k0, k1, k2, k3, k4, k5, k6, k7, k8, k9, k10, k11, k12⟩ := Blk.cells13 (q := q) HX1.out.b1
 obtain ⟨j0, j1, j2, j3, j4, j5, j6, j7, j8, j9, j10, j11, j12⟩ := Blk.cells13 (q := q) HX1.out.b2
 go_wp2_with fail
 refine (CS.out _ HX1.out.bw).mono ?_
 rintro e W2 ⟨rfl, n2, hW2⟩
 have HX2 : Hid (TB w q (.slice a n c) (.slice a' n c') W2) := by
  have e2 := hW2
  have b2 : Below W1.heap.size W1 W2 := by rw [e2]; exact below_drewN (Below.refl _ _) n2
  exact HX1.out.later b2
 clear hW2 HX1 CS k0 k1 k2 k3 k4 k5 k6 k7 k8 k9 k10 k11 k12 j0 j1 j2 j3 j4 j5 j6 j7 j8 j9 j10 j11 j12
 obtain ⟨k0, k1, k2, k3, k4, k5, k6, k7, k8, k9, k10, k11, k12⟩ := Blk.cells13 (q := q) HX2.out.b1
 obtain ⟨j0, j1, j2, j3, j4, j5, j6, j7, j8, j9, j10, j11, j12⟩ := Blk.cells13 (q := q) HX2.out.b2
 go_wp2
 go_ret
 exact ⟨rfl, HX2.out.bw⟩
end Go.Proofs.YtnfhajhdpdidlaaGreatDoor
end
section
namespace Go.Proofs.YtnfhajhdpdidlaaGreatDoor
open Go.RowKit Go.Shelf
def clo (set : Int) (l : List UInt8) : Prop := ∀ c ∈ l, isIn set c = false
theorem set_cases (set : Int) (hs : 1 ≤ set ∧ set ≤ 5) : set = 1 ∨ set = 2 ∨ set = 3 ∨ set = 4 ∨ set = 5 := by omega
theorem fig_free (set : Int) (hs : 1 ≤ set ∧ set ≤ 5) (n : Nat) (hn : n < 16) : isIn set (fig n) = false := by
 have h : ∀ n : _root_.Fin 16, isIn 1 (fig n) = false ∧ isIn 2 (fig n) = false ∧ isIn 3 (fig n) = false ∧ isIn 4 (fig n) = false ∧ isIn 5 (fig n) = false := by decide
 have := h ⟨n, hn⟩
 rcases set_cases set hs with rfl | rfl | rfl | rfl | rfl
 ·exact this.1
 ·exact this.2.1
 ·exact this.2.2.1
 ·exact this.2.2.2.1
 ·exact this.2.2.2.2
theorem pct_free (set : Int) (hs : 1 ≤ set ∧ set ≤ 5) : isIn set 37 = false := by
 rcases set_cases set hs with rfl | rfl | rfl | rfl | rfl <;> decide
theorem enc_clo (set : Int) (hs : 1 ≤ set ∧ set ≤ 5) (l : List UInt8) : clo set (enc (isIn set) l) := by
 intro c hc
 unfold enc at hc
 rw [List.mem_flatMap] at hc
 obtain ⟨d, hd, hc⟩ := hc
 have hf := fig_shr d
 by_cases h : isIn set d = true
 ·rw [encB_yes _ _ h] at hc
  simp only [List.mem_cons, List.not_mem_nil, or_false] at hc
  rcases hc with rfl | rfl | rfl
  ·exact pct_free set hs
  ·exact fig_free set hs _ hf.1
  ·exact fig_free set hs _ hf.2
 ·have h' : isIn set d = false := by simpa using h
  rw [encB_no _ _ h'] at hc
  simp only [List.mem_cons, List.not_mem_nil, or_false] at hc
  rw [hc]; exact h'
theorem clo_enc (set : Int) (l : List UInt8) (h : clo set l) : enc (isIn set) l = l := by
 induction l with
 | nil => rfl
 | cons c r ih =>
  show encB (isIn set) c ++ enc (isIn set) r = c :: r
  rw [encB_no _ _ (h c (List.mem_cons_self ..)), ih (fun d hd => h d (List.mem_cons_of_mem _ hd))]
  rfl
theorem wr_small (set : Int) (l : List UInt8) (hl : l.length ≤ 200) : (wrT set l).data.toList = enc (isIn set) l := by
 unfold wrT
 rw [encode_small set (mk l) (by rw [mk_size]; exact hl), mk_data]
theorem wr_same (set : Int) (x : ByteArray) (h : clo set x.data.toList) (hl : x.data.toList.length ≤ 200) : wrT set x.data.toList = x := by
 have e := wr_small set x.data.toList hl
 rw [clo_enc set _ h] at e
 rw [← mk_list (wrT set x.data.toList), e, mk_list]
theorem wr_clo (set : Int) (hs : 1 ≤ set ∧ set ≤ 5) (l : List UInt8) (hl : l.length ≤ 200) : clo set (wrT set l).data.toList := by
 rw [wr_small set l hl]; exact enc_clo set hs l
theorem clo_ne {set : Int} {l : List UInt8} (h : clo set l) (b : UInt8) (hb : isIn set b = true) : ∀ c ∈ l, c ≠ b := by
 intro c hc e
 rw [e] at hc
 rw [h b hc] at hb
 cases hb
theorem clo_vis {set : Int} (hs : 1 ≤ set ∧ set ≤ 5) {l : List UInt8} (h : clo set l) : ∀ c ∈ l, 33 ≤ c.toNat := by
 intro c hc
 have h0 := h c hc
 have h32 : isIn set 32 = true := by rcases set_cases set hs with rfl | rfl | rfl | rfl | rfl <;> decide
 have hne := clo_ne h 32 h32 c hc
 unfold isIn at h0
 simp only [Bool.or_eq_false_iff, decide_eq_false_iff_not] at h0
 have : c.toNat ≠ 32 := fun e => hne (UInt8.toNat_inj.1 e)
 omega
theorem clo_nil (set : Int) : clo set [] := fun c hc => by cases hc
theorem dw_none (m : List UInt8) (h : ∀ c ∈ m, low32 c = false) : m.dropWhile low32 = m := by
 cases m with
 | nil => rfl
 | cons c r => rw [List.dropWhile_cons, if_neg (by rw [h c (List.mem_cons_self ..)]; decide)]
theorem trim_vis (l : List UInt8) (h : ∀ c ∈ l, 33 ≤ c.toNat) : trimL l = l := by
 have hl : ∀ c ∈ l, low32 c = false := fun c hc => by have := h c hc; unfold low32; simp; omega
 have hm : midL l = l := by
  unfold midL
  rw [dw_none l hl, dw_none l.reverse (fun c hc => hl c (List.mem_reverse.1 hc)), List.reverse_reverse]
 unfold trimL
 rw [hm]
 unfold dropT
 refine List.filter_eq_self.2 (fun c hc => ?_)
 have h1 := h c hc
 unfold stays
 have n1 : c ≠ 13 := fun e => by rw [e] at h1; revert h1; decide
 have n2 : c ≠ 10 := fun e => by rw [e] at h1; revert h1; decide
 have n3 : c ≠ 9 := fun e => by rw [e] at h1; revert h1; decide
 simp [n1, n2, n3]
theorem dd_small (u : Nat) (h : u < 10) : Lib.decDigits u = [UInt8.ofNat (48 + u)] := Lib.decDigits_one h
theorem dd_great (u : Nat) (h : ¬ u < 10) : Lib.decDigits u = Lib.decDigits (u / 10) ++ [UInt8.ofNat (48 + u % 10)] := by rw [Lib.decDigits, dif_neg h]
theorem ofNat48 (d : Nat) (h : d < 10) : (UInt8.ofNat (48 + d)).toNat = 48 + d := by
 rw [UInt8.toNat_ofNat_of_lt' (by show 48 + d < 256; omega)]
theorem dd_fig (u : Nat) : ∀ c ∈ Lib.decDigits u, 48 ≤ c.toNat ∧ c.toNat ≤ 57 := by
 induction u using Nat.strongRecOn with
 | _ u ih =>
  by_cases h : u < 10
  ·rw [dd_small u h]
   intro c hc
   simp only [List.mem_cons, List.not_mem_nil, or_false] at hc
   rw [hc, ofNat48 u h]; omega
  ·rw [dd_great u h]
   intro c hc
   rcases List.mem_append.1 hc with hc | hc
   ·exact ih (u / 10) (by omega) c hc
   ·simp only [List.mem_cons, List.not_mem_nil, or_false] at hc
    rw [hc, ofNat48 (u % 10) (by omega)]; omega
theorem dd_ne (u : Nat) : Lib.decDigits u ≠ [] := by
 by_cases h : u < 10
 ·rw [dd_small u h]; simp
 ·rw [dd_great u h]; simp
theorem portN_cons (n : Int) (c : UInt8) (r : List UInt8) : portN n (c :: r) = if 65535 < n * 10 + ((c.toNat : Int) - 48) then none else portN (n * 10 + ((c.toNat : Int) - 48)) r := rfl
theorem portN_app (l r : List UInt8) (n : Int) : portN n (l ++ r) = (portN n l).bind fun m => portN m r := by
 induction l generalizing n with
 | nil => rfl
 | cons c l ih =>
  rw [List.cons_append, portN_cons, portN_cons]
  split
  ·rfl
  ·exact ih _
theorem dd_port (u : Nat) (h : u ≤ 65535) : portN 0 (Lib.decDigits u) = some (u : Int) := by
 induction u using Nat.strongRecOn with
 | _ u ih =>
  by_cases h1 : u < 10
  ·rw [dd_small u h1]
   unfold portN
   rw [ofNat48 u h1, if_neg (by omega)]
   unfold portN
   congr 1
   omega
  ·rw [dd_great u h1, portN_app, ih (u / 10) (by omega) (by omega)]
   show portN ((u / 10 : Nat) : Int) [UInt8.ofNat (48 + u % 10)] = _
   unfold portN
   rw [ofNat48 (u % 10) (by omega), if_neg (by omega)]
   unfold portN
   congr 1
   omega
theorem figs_dd (u : Nat) : figsL (Lib.decDigits u) = true := by
 unfold figsL
 rw [List.all_eq_true]
 intro c hc
 have := dd_fig u c hc
 unfold figB
 simp
 omega
def dig3 (u : Nat) : List UInt8 := if u < 10 then [UInt8.ofNat (48 + u)] else if u < 100 then [UInt8.ofNat (48 + u / 10), UInt8.ofNat (48 + u % 10)] else [UInt8.ofNat (48 + u / 100), UInt8.ofNat (48 + u / 10 % 10), UInt8.ofNat (48 + u % 10)]
theorem dig3_eq (u : Nat) (h : u < 1000) : Lib.decDigits u = dig3 u := by
 unfold dig3
 by_cases h1 : u < 10
 ·rw [if_pos h1, dd_small u h1]
 ·by_cases h2 : u < 100
  ·rw [if_neg h1, if_pos h2, Lib.decDigits_two h1 h2]
  ·rw [if_neg h1, if_neg h2, dd_great u h1, Lib.decDigits_two (by omega) (by omega)]
   simp [Nat.div_div_eq_div_mul]
theorem part3 : ∀ u : _root_.Fin 256, partN (dig3 u.val) = some (u.val : Int) := by decide +kernel
theorem part_dg (v : Int) (h0 : 0 ≤ v) (h1 : v < 256) : partN (dg v) = some v := by
 unfold dg
 rw [dig3_eq _ (by omega)]
 have := part3 ⟨v.toNat, by omega⟩
 rw [this]
 congr 1
 show ((v.toNat : Nat) : Int) = v
 omega
end Go.Proofs.YtnfhajhdpdidlaaGreatDoor
end
