/- laws.toUrl: an address as the laws hand it in, copied. Plain facts: texts that no set changes; numbers and hosts that are written are read as themselves. Plain facts: a host that is written is read as itself; what is read is a host that is ok. Plain facts: an address in its normal form, written, is read as itself. -/
import Derived.Test.YtnfhajhdpdidlaaGreatDoorCFnExactUrlLess01
import Derived.Test.YtnfhajhdpdidlaaGreatDoorB35
import Derived.Deep.Cut
import Derived.Test.YtnfhajhdpdidlaaGreatDoorB14
import Derived.Test.YtnfhajhdpdidlaaGreatDoorB13
set_option linter.unusedVariables false
set_option linter.unusedSimpArgs false
set_option maxHeartbeats 4000000
set_option maxRecDepth 100000
section
namespace Go.Proofs.YtnfhajhdpdidlaaGreatDoor
open Go.RowKit Go.Shelf
theorem Part.own {g B : Nat} {ss : List (List UInt8)} {w : World} (h : Part g ss ss.length w) (hB : B ≤ g) (hl : ss.length ≤ 1000000000) : OwnS B (.slice (some ⟨g, 0, none⟩) ss.length ss.length) ss w := by
 obtain ⟨A, hg, hs, hc⟩ := h
 refine ⟨by simp, .inr ⟨g, ss.length, A, rfl, hB, hg, Nat.le_refl _, by unfold maxLen; omega, by omega, ?_⟩⟩
 apply List.ext_getElem?
 intro j
 rw [Nat.mul_one, List.getElem?_take]
 by_cases hj : j < ss.length
 ·rw [if_pos hj]
  have := hc j hj hj
  simp at this ⊢
  rw [this]; simp [hj]
 ·rw [if_neg hj]
  rw [List.getElem?_eq_none (by rw [List.length_map]; omega)]
theorem heap_other (w : World) (g j k : Nat) (x : Value) (h : k ≠ g) : (w.setCell ⟨g, j, none⟩ x).heap[k]? = w.heap[k]? := by
 simp [World.setCell, Array.getElem?_modify]
 intro e
 exact absurd e.symm h
theorem OwnS.other {B g n c k : Nat} {ps : List (List UInt8)} {w : World} (h : OwnS B (.slice (some ⟨g, 0, none⟩) n c) ps w) (hk : k < g) (j : Nat) (x : Value) : OwnS B (.slice (some ⟨g, 0, none⟩) n c) ps (w.setCell ⟨k, j, none⟩ x) := by
 refine ⟨h.1, ?_⟩
 rcases h.2 with ⟨h1, _⟩ | ⟨g', cap, cur, hv, hb, hg, rest⟩
 ·cases h1
 ·simp only [Value.slice.injEq, Option.some.injEq, Addr.mk.injEq, and_true, true_and] at hv
  obtain ⟨rfl, _, rfl⟩ := hv
  exact .inr ⟨g, c, cur, by simp_all, hb, (heap_other w k j g x (by omega)).trans hg, rest⟩
structure Tu (w : World) (q : P) (v : Value) (A : Array Value) (W : World) : Prop where
 make ::
 la : Blk w.heap.size (q.cells v) 26 W
 rs : Blk (w.heap.size + 1) zeroC 31 W
 ou : Blk (w.heap.size + 2) A 31 W
 bw : Below w.heap.size w W
theorem Tu.later {w W W' : World} {q : P} {v : Value} {A : Array Value} (h : Tu w q v A W) (b : Below W.heap.size W W') : Tu w q v A W' := ⟨h.la.below b h.la.lt, h.rs.below b h.rs.lt, h.ou.below b h.ou.lt, h.bw.trans (b.mono h.bw.size)⟩
theorem Tu.start (w : World) (q : P) (v : Value) (A : Array Value) : Tu w q v A (((w.alloc (.cells (q.cells v) 26)).alloc (.cells zeroC 31)).alloc (.cells A 31)) where
 la := ((Blk.new w _ _).alloc _).alloc _
 rs := by
  have := (Blk.new (w.alloc (.cells (q.cells v) 26)) zeroC 31).alloc (.cells A 31)
  rw [show (w.alloc (Obj.cells (q.cells v) 26)).heap.size = w.heap.size + 1 by simp] at this
  exact this
 ou := by
  have := Blk.new ((w.alloc (.cells (q.cells v) 26)).alloc (.cells zeroC 31)) A 31
  rw [show ((w.alloc (Obj.cells (q.cells v) 26)).alloc (Obj.cells zeroC 31)).heap.size = w.heap.size + 2 by simp] at this
  exact this
 bw := below3 w _ _ _
theorem Tu.set {w W : World} {q : P} {v : Value} {A : Array Value} (h : Tu w q v A W) (j : Nat) (x : Value) : Tu w q v (A.setIfInBounds j x) (W.setCell ⟨w.heap.size + 2, j, none⟩ x) where
 la := (heap_other W (w.heap.size + 2) j w.heap.size x (by omega)).trans h.la
 rs := (heap_other W (w.heap.size + 2) j (w.heap.size + 1) x (by omega)).trans h.rs
 ou := Blk.set h.ou j x
 bw := h.bw.setCell (p := ⟨w.heap.size + 2, j, none⟩) (by simp) _
theorem toUrl (q : P) (a : Option Addr) (n c : Nat) (w : World) (hS : StrsOf a n q.ps w) (hl : n ≤ 1048576) :
  Calls Tryz.prog 11 #[.agg (q.cells (.slice a n c))] w fun e w' => ∃ g, e = .returned (.agg (q.cells (.slice (some ⟨g, 0, none⟩) n n))) ∧ OwnS w.heap.size (.slice (some ⟨g, 0, none⟩) n n) q.ps w' ∧ Below w.heap.size w w' := by
 have CH : Hid (∀ W, Calls Tryz.prog 35 #[.agg #[.int .i64 q.hk, .string q.hn, .int .i64 q.ha]] W fun e w' => e = .returned (.agg #[.int .i64 q.hk, .string q.hn, .int .i64 q.ha]) ∧ Below W.heap.size W w') := fun W => toHost _ _ _ W
 have CS : Hid (∀ W, Below w.heap.size w W → Calls Tryz.prog 36 #[.slice a n c] W fun e w' => ∃ g, W.heap.size ≤ g ∧ e = .returned (.slice (some ⟨g, 0, none⟩) n n) ∧ OwnS w.heap.size (.slice (some ⟨g, 0, none⟩) n n) q.ps w' ∧ Below W.heap.size W w') := fun W b => by
  have hn : n = q.ps.length := hS.1
  refine (toStringP a n c q.ps W (hS.later b) (by omega)).mono fun e w' ⟨he, hp, hb⟩ => ⟨W.heap.size, Nat.le_refl _, he, ?_, hb⟩
  rw [hn]; exact hp.own b.size (by omega)
 have H0 : Hid (Tu w q (.slice a n c) #[(.string q.sc), (.string q.us), (.string q.pw), (.int .i64 0), (.string ⟨#[]⟩), (.int .i64 0), (.int .i64 0), (.slice none 0 0), (.string ⟨#[]⟩), (.bool false), (.string ⟨#[]⟩), (.bool false), (.string ⟨#[]⟩)] (((w.alloc (.cells (q.cells (.slice a n c)) 26)).alloc (.cells zeroC 31)).alloc (.cells #[(.string q.sc), (.string q.us), (.string q.pw), (.int .i64 0), (.string ⟨#[]⟩), (.int .i64 0), (.int .i64 0), (.slice none 0 0), (.string ⟨#[]⟩), (.bool false), (.string ⟨#[]⟩), (.bool false), (.string ⟨#[]⟩)] 31))) := Tu.start w q _ _
 clear hS hl
 unfold P.cells zeroC at H0
 unfold P.cells
 go_enter Tryz.func11, Tryz.ntmps11
 go_wp2_with fail
 refine (CH.out _).mono ?_
 rintro e W1 ⟨rfl, d1⟩
 have HX1 : Hid (Tu w q (.slice a n c) #[(.string q.sc), (.string q.us), (.string q.pw), (.int .i64 0), (.string ⟨#[]⟩), (.int .i64 0), (.int .i64 0), (.slice none 0 0), (.string ⟨#[]⟩), (.bool false), (.string ⟨#[]⟩), (.bool false), (.string ⟨#[]⟩)] W1) := H0.out.later d1
 clear d1 H0 CH
 have HX2 : Hid (Tu w q (.slice a n c) #[(.string q.sc), (.string q.us), (.string q.pw), (.int .i64 q.hk), (.string q.hn), (.int .i64 q.ha), (.int .i64 q.po), (.slice none 0 0), (.string ⟨#[]⟩), (.bool false), (.string ⟨#[]⟩), (.bool false), (.string ⟨#[]⟩)] ((((W1.setCell ⟨w.heap.size + 2, 3, none⟩ (.int .i64 q.hk)).setCell ⟨w.heap.size + 2, 4, none⟩ (.string q.hn)).setCell ⟨w.heap.size + 2, 5, none⟩ (.int .i64 q.ha)).setCell ⟨w.heap.size + 2, 6, none⟩ (.int .i64 q.po))) := by
  have := (((HX1.out.set 3 (.int .i64 q.hk)).set 4 (.string q.hn)).set 5 (.int .i64 q.ha)).set 6 (.int .i64 q.po)
  show Tu _ _ _ _ _
  simpa using this
 have la0 : W1.cell? ⟨w.heap.size, 0, none⟩ = some (.string q.sc) := HX1.out.la.cell 0
 have la1 : W1.cell? ⟨w.heap.size, 1, none⟩ = some (.string q.us) := HX1.out.la.cell 1
 have la2 : W1.cell? ⟨w.heap.size, 2, none⟩ = some (.string q.pw) := HX1.out.la.cell 2
 have la3 : W1.cell? ⟨w.heap.size, 3, none⟩ = some (.int .i64 q.hk) := HX1.out.la.cell 3
 have la4 : W1.cell? ⟨w.heap.size, 4, none⟩ = some (.string q.hn) := HX1.out.la.cell 4
 have la5 : W1.cell? ⟨w.heap.size, 5, none⟩ = some (.int .i64 q.ha) := HX1.out.la.cell 5
 have la6 : W1.cell? ⟨w.heap.size, 6, none⟩ = some (.int .i64 q.po) := HX1.out.la.cell 6
 have la7 : W1.cell? ⟨w.heap.size, 7, none⟩ = some (.slice a n c) := HX1.out.la.cell 7
 have la8 : W1.cell? ⟨w.heap.size, 8, none⟩ = some (.string q.op) := HX1.out.la.cell 8
 have la9 : W1.cell? ⟨w.heap.size, 9, none⟩ = some (.bool q.hq) := HX1.out.la.cell 9
 have la10 : W1.cell? ⟨w.heap.size, 10, none⟩ = some (.string q.qu) := HX1.out.la.cell 10
 have la11 : W1.cell? ⟨w.heap.size, 11, none⟩ = some (.bool q.hf) := HX1.out.la.cell 11
 have la12 : W1.cell? ⟨w.heap.size, 12, none⟩ = some (.string q.fr) := HX1.out.la.cell 12
 have ou0 : W1.cell? ⟨w.heap.size + 2, 0, none⟩ = some (.string q.sc) := HX1.out.ou.cell 0
 have ou1 : W1.cell? ⟨w.heap.size + 2, 1, none⟩ = some (.string q.us) := HX1.out.ou.cell 1
 have ou2 : W1.cell? ⟨w.heap.size + 2, 2, none⟩ = some (.string q.pw) := HX1.out.ou.cell 2
 have ou3 : W1.cell? ⟨w.heap.size + 2, 3, none⟩ = some (.int .i64 0) := HX1.out.ou.cell 3
 have ou4 : W1.cell? ⟨w.heap.size + 2, 4, none⟩ = some (.string ⟨#[]⟩) := HX1.out.ou.cell 4
 have ou5 : W1.cell? ⟨w.heap.size + 2, 5, none⟩ = some (.int .i64 0) := HX1.out.ou.cell 5
 have ou6 : W1.cell? ⟨w.heap.size + 2, 6, none⟩ = some (.int .i64 0) := HX1.out.ou.cell 6
 have ou7 : W1.cell? ⟨w.heap.size + 2, 7, none⟩ = some (.slice none 0 0) := HX1.out.ou.cell 7
 have ou8 : W1.cell? ⟨w.heap.size + 2, 8, none⟩ = some (.string ⟨#[]⟩) := HX1.out.ou.cell 8
 have ou9 : W1.cell? ⟨w.heap.size + 2, 9, none⟩ = some (.bool false) := HX1.out.ou.cell 9
 have ou10 : W1.cell? ⟨w.heap.size + 2, 10, none⟩ = some (.string ⟨#[]⟩) := HX1.out.ou.cell 10
 have ou11 : W1.cell? ⟨w.heap.size + 2, 11, none⟩ = some (.bool false) := HX1.out.ou.cell 11
 have ou12 : W1.cell? ⟨w.heap.size + 2, 12, none⟩ = some (.string ⟨#[]⟩) := HX1.out.ou.cell 12
 have fo0 := HX1.out.ou.free 0
 have fo1 := HX1.out.ou.free 1
 have fo2 := HX1.out.ou.free 2
 have fo3 := HX1.out.ou.free 3
 have fo4 := HX1.out.ou.free 4
 have fo5 := HX1.out.ou.free 5
 have fo6 := HX1.out.ou.free 6
 have fo7 := HX1.out.ou.free 7
 have fo8 := HX1.out.ou.free 8
 have fo9 := HX1.out.ou.free 9
 have fo10 := HX1.out.ou.free 10
 have fo11 := HX1.out.ou.free 11
 have fo12 := HX1.out.ou.free 12
 have s1 : w.heap.size + 2 < W1.heap.size := HX1.out.ou.lt
 clear HX1
 have HZ : Hid (((((W1.setCell ⟨w.heap.size + 2, 3, none⟩ (.int .i64 q.hk)).setCell ⟨w.heap.size + 2, 4, none⟩ (.string q.hn)).setCell ⟨w.heap.size + 2, 5, none⟩ (.int .i64 q.ha)).setCell ⟨w.heap.size + 2, 6, none⟩ (.int .i64 q.po)).heap.size = W1.heap.size) := by show _ = _; simp
 go_wp2_with fail
 refine (CS.out _ HX2.out.bw).mono ?_
 rintro e W3 ⟨g, hg, rfl, o3, d3⟩
 have hg2 : w.heap.size + 2 < g := by
  have h1 : W1.heap.size ≤ g := by rw [← HZ.out]; exact hg
  omega
 have HX3 : Hid (Tu w q (.slice a n c) #[(.string q.sc), (.string q.us), (.string q.pw), (.int .i64 q.hk), (.string q.hn), (.int .i64 q.ha), (.int .i64 q.po), (.slice none 0 0), (.string ⟨#[]⟩), (.bool false), (.string ⟨#[]⟩), (.bool false), (.string ⟨#[]⟩)] W3) := HX2.out.later d3
 have HO3 : Hid (OwnS w.heap.size (.slice (some ⟨g, 0, none⟩) n n) q.ps W3) := o3
 clear o3 d3 HX2 HZ hg CS s1 la0 ou0 fo0 la1 ou1 fo1 la2 ou2 fo2 la3 ou3 fo3 la4 ou4 fo4 la5 ou5 fo5 la6 ou6 fo6 la7 ou7 fo7 la8 ou8 fo8 la9 ou9 fo9 la10 ou10 fo10 la11 ou11 fo11 la12 ou12 fo12
 have la0 : W3.cell? ⟨w.heap.size, 0, none⟩ = some (.string q.sc) := HX3.out.la.cell 0
 have la1 : W3.cell? ⟨w.heap.size, 1, none⟩ = some (.string q.us) := HX3.out.la.cell 1
 have la2 : W3.cell? ⟨w.heap.size, 2, none⟩ = some (.string q.pw) := HX3.out.la.cell 2
 have la3 : W3.cell? ⟨w.heap.size, 3, none⟩ = some (.int .i64 q.hk) := HX3.out.la.cell 3
 have la4 : W3.cell? ⟨w.heap.size, 4, none⟩ = some (.string q.hn) := HX3.out.la.cell 4
 have la5 : W3.cell? ⟨w.heap.size, 5, none⟩ = some (.int .i64 q.ha) := HX3.out.la.cell 5
 have la6 : W3.cell? ⟨w.heap.size, 6, none⟩ = some (.int .i64 q.po) := HX3.out.la.cell 6
 have la7 : W3.cell? ⟨w.heap.size, 7, none⟩ = some (.slice a n c) := HX3.out.la.cell 7
 have la8 : W3.cell? ⟨w.heap.size, 8, none⟩ = some (.string q.op) := HX3.out.la.cell 8
 have la9 : W3.cell? ⟨w.heap.size, 9, none⟩ = some (.bool q.hq) := HX3.out.la.cell 9
 have la10 : W3.cell? ⟨w.heap.size, 10, none⟩ = some (.string q.qu) := HX3.out.la.cell 10
 have la11 : W3.cell? ⟨w.heap.size, 11, none⟩ = some (.bool q.hf) := HX3.out.la.cell 11
 have la12 : W3.cell? ⟨w.heap.size, 12, none⟩ = some (.string q.fr) := HX3.out.la.cell 12
 have fo0 := HX3.out.ou.free 0
 have fo1 := HX3.out.ou.free 1
 have fo2 := HX3.out.ou.free 2
 have fo3 := HX3.out.ou.free 3
 have fo4 := HX3.out.ou.free 4
 have fo5 := HX3.out.ou.free 5
 have fo6 := HX3.out.ou.free 6
 have fo7 := HX3.out.ou.free 7
 have fo8 := HX3.out.ou.free 8
 have fo9 := HX3.out.ou.free 9
 have fo10 := HX3.out.ou.free 10
 have fo11 := HX3.out.ou.free 11
 have fo12 := HX3.out.ou.free 12
 have ou0 : W3.cell? ⟨w.heap.size + 2, 0, none⟩ = some (.string q.sc) := HX3.out.ou.cell 0
 have ou1 : W3.cell? ⟨w.heap.size + 2, 1, none⟩ = some (.string q.us) := HX3.out.ou.cell 1
 have ou2 : W3.cell? ⟨w.heap.size + 2, 2, none⟩ = some (.string q.pw) := HX3.out.ou.cell 2
 have ou3 : W3.cell? ⟨w.heap.size + 2, 3, none⟩ = some (.int .i64 q.hk) := HX3.out.ou.cell 3
 have ou4 : W3.cell? ⟨w.heap.size + 2, 4, none⟩ = some (.string q.hn) := HX3.out.ou.cell 4
 have ou5 : W3.cell? ⟨w.heap.size + 2, 5, none⟩ = some (.int .i64 q.ha) := HX3.out.ou.cell 5
 have ou6 : W3.cell? ⟨w.heap.size + 2, 6, none⟩ = some (.int .i64 q.po) := HX3.out.ou.cell 6
 have ou7 : W3.cell? ⟨w.heap.size + 2, 7, none⟩ = some (.slice none 0 0) := HX3.out.ou.cell 7
 have ou8 : W3.cell? ⟨w.heap.size + 2, 8, none⟩ = some (.string ⟨#[]⟩) := HX3.out.ou.cell 8
 have ou9 : W3.cell? ⟨w.heap.size + 2, 9, none⟩ = some (.bool false) := HX3.out.ou.cell 9
 have ou10 : W3.cell? ⟨w.heap.size + 2, 10, none⟩ = some (.string ⟨#[]⟩) := HX3.out.ou.cell 10
 have ou11 : W3.cell? ⟨w.heap.size + 2, 11, none⟩ = some (.bool false) := HX3.out.ou.cell 11
 have ou12 : W3.cell? ⟨w.heap.size + 2, 12, none⟩ = some (.string ⟨#[]⟩) := HX3.out.ou.cell 12
 have rs0 : W3.cell? ⟨w.heap.size + 1, 0, none⟩ = some (.string ⟨#[]⟩) := HX3.out.rs.cell 0
 have rs1 : W3.cell? ⟨w.heap.size + 1, 1, none⟩ = some (.string ⟨#[]⟩) := HX3.out.rs.cell 1
 have rs2 : W3.cell? ⟨w.heap.size + 1, 2, none⟩ = some (.string ⟨#[]⟩) := HX3.out.rs.cell 2
 have rs3 : W3.cell? ⟨w.heap.size + 1, 3, none⟩ = some (.int .i64 0) := HX3.out.rs.cell 3
 have rs4 : W3.cell? ⟨w.heap.size + 1, 4, none⟩ = some (.string ⟨#[]⟩) := HX3.out.rs.cell 4
 have rs5 : W3.cell? ⟨w.heap.size + 1, 5, none⟩ = some (.int .i64 0) := HX3.out.rs.cell 5
 have rs6 : W3.cell? ⟨w.heap.size + 1, 6, none⟩ = some (.int .i64 0) := HX3.out.rs.cell 6
 have rs7 : W3.cell? ⟨w.heap.size + 1, 7, none⟩ = some (.slice none 0 0) := HX3.out.rs.cell 7
 have rs8 : W3.cell? ⟨w.heap.size + 1, 8, none⟩ = some (.string ⟨#[]⟩) := HX3.out.rs.cell 8
 have rs9 : W3.cell? ⟨w.heap.size + 1, 9, none⟩ = some (.bool false) := HX3.out.rs.cell 9
 have rs10 : W3.cell? ⟨w.heap.size + 1, 10, none⟩ = some (.string ⟨#[]⟩) := HX3.out.rs.cell 10
 have rs11 : W3.cell? ⟨w.heap.size + 1, 11, none⟩ = some (.bool false) := HX3.out.rs.cell 11
 have rs12 : W3.cell? ⟨w.heap.size + 1, 12, none⟩ = some (.string ⟨#[]⟩) := HX3.out.rs.cell 12
 have fr0 := HX3.out.rs.free 0
 have fr1 := HX3.out.rs.free 1
 have fr2 := HX3.out.rs.free 2
 have fr3 := HX3.out.rs.free 3
 have fr4 := HX3.out.rs.free 4
 have fr5 := HX3.out.rs.free 5
 have fr6 := HX3.out.rs.free 6
 have fr7 := HX3.out.rs.free 7
 have fr8 := HX3.out.rs.free 8
 have fr9 := HX3.out.rs.free 9
 have fr10 := HX3.out.rs.free 10
 have fr11 := HX3.out.rs.free 11
 have fr12 := HX3.out.rs.free 12
 have s3 : w.heap.size + 2 < W3.heap.size := HX3.out.ou.lt
 go_upto_region 13 with fail
 have HX4 : Hid (Tu w q (.slice a n c) #[(.string q.sc), (.string q.us), (.string q.pw), (.int .i64 q.hk), (.string q.hn), (.int .i64 q.ha), (.int .i64 q.po), (.slice (some ⟨g, 0, none⟩) n n), (.string q.op), (.bool q.hq), (.string q.qu), (.bool q.hf), (.string q.fr)] ((((((W3.setCell ⟨w.heap.size + 2, 7, none⟩ (.slice (some ⟨g, 0, none⟩) n n)).setCell ⟨w.heap.size + 2, 8, none⟩ (.string q.op)).setCell ⟨w.heap.size + 2, 9, none⟩ (.bool q.hq)).setCell ⟨w.heap.size + 2, 10, none⟩ (.string q.qu)).setCell ⟨w.heap.size + 2, 11, none⟩ (.bool q.hf)).setCell ⟨w.heap.size + 2, 12, none⟩ (.string q.fr))) := by
  have := (((((HX3.out.set 7 (.slice (some ⟨g, 0, none⟩) n n)).set 8 (.string q.op)).set 9 (.bool q.hq)).set 10 (.string q.qu)).set 11 (.bool q.hf)).set 12 (.string q.fr)
  show Tu _ _ _ _ _
  simpa using this
 have HO4 : Hid (OwnS w.heap.size (.slice (some ⟨g, 0, none⟩) n n) q.ps ((((((W3.setCell ⟨w.heap.size + 2, 7, none⟩ (.slice (some ⟨g, 0, none⟩) n n)).setCell ⟨w.heap.size + 2, 8, none⟩ (.string q.op)).setCell ⟨w.heap.size + 2, 9, none⟩ (.bool q.hq)).setCell ⟨w.heap.size + 2, 10, none⟩ (.string q.qu)).setCell ⟨w.heap.size + 2, 11, none⟩ (.bool q.hf)).setCell ⟨w.heap.size + 2, 12, none⟩ (.string q.fr))) := by
  show OwnS _ _ _ _
  exact (((((HO3.out.other hg2 7 _).other hg2 8 _).other hg2 9 _).other hg2 10 _).other hg2 11 _).other hg2 12 _
 clear HX3 HO3 s3 la0 ou0 fo0 rs0 fr0 la1 ou1 fo1 rs1 fr1 la2 ou2 fo2 rs2 fr2 la3 ou3 fo3 rs3 fr3 la4 ou4 fo4 rs4 fr4 la5 ou5 fo5 rs5 fr5 la6 ou6 fo6 rs6 fr6 la7 ou7 fo7 rs7 fr7 la8 ou8 fo8 rs8 fr8 la9 ou9 fo9 rs9 fr9 la10 ou10 fo10 rs10 fr10 la11 ou11 fo11 rs11 fr11 la12 ou12 fo12 rs12 fr12
 obtain ⟨W4, hW4⟩ : ∃ W, W = ((((((W3.setCell ⟨w.heap.size + 1 + 1, 7, none⟩ (.slice (some ⟨g, 0, none⟩) n n)).setCell ⟨w.heap.size + 1 + 1, 8, none⟩ (.string q.op)).setCell ⟨w.heap.size + 1 + 1, 9, none⟩ (.bool q.hq)).setCell ⟨w.heap.size + 1 + 1, 10, none⟩ (.string q.qu)).setCell ⟨w.heap.size + 1 + 1, 11, none⟩ (.bool q.hf)).setCell ⟨w.heap.size + 1 + 1, 12, none⟩ (.string q.fr)) := ⟨_, rfl⟩
 have HY4 : Hid (Tu w q (.slice a n c) #[(.string q.sc), (.string q.us), (.string q.pw), (.int .i64 q.hk), (.string q.hn), (.int .i64 q.ha), (.int .i64 q.po), (.slice (some ⟨g, 0, none⟩) n n), (.string q.op), (.bool q.hq), (.string q.qu), (.bool q.hf), (.string q.fr)] W4) := by rw [hW4]; exact HX4.out
 have HP4 : Hid (OwnS w.heap.size (.slice (some ⟨g, 0, none⟩) n n) q.ps W4) := by rw [hW4]; exact HO4.out
 rw [← hW4]
 clear HX4 HO4 hW4
 have ou0 : W4.cell? ⟨w.heap.size + 1 + 1, 0, none⟩ = some (.string q.sc) := HY4.out.ou.cell 0
 have ou1 : W4.cell? ⟨w.heap.size + 1 + 1, 1, none⟩ = some (.string q.us) := HY4.out.ou.cell 1
 have ou2 : W4.cell? ⟨w.heap.size + 1 + 1, 2, none⟩ = some (.string q.pw) := HY4.out.ou.cell 2
 have ou3 : W4.cell? ⟨w.heap.size + 1 + 1, 3, none⟩ = some (.int .i64 q.hk) := HY4.out.ou.cell 3
 have ou4 : W4.cell? ⟨w.heap.size + 1 + 1, 4, none⟩ = some (.string q.hn) := HY4.out.ou.cell 4
 have ou5 : W4.cell? ⟨w.heap.size + 1 + 1, 5, none⟩ = some (.int .i64 q.ha) := HY4.out.ou.cell 5
 have ou6 : W4.cell? ⟨w.heap.size + 1 + 1, 6, none⟩ = some (.int .i64 q.po) := HY4.out.ou.cell 6
 have ou7 : W4.cell? ⟨w.heap.size + 1 + 1, 7, none⟩ = some (.slice (some ⟨g, 0, none⟩) n n) := HY4.out.ou.cell 7
 have ou8 : W4.cell? ⟨w.heap.size + 1 + 1, 8, none⟩ = some (.string q.op) := HY4.out.ou.cell 8
 have ou9 : W4.cell? ⟨w.heap.size + 1 + 1, 9, none⟩ = some (.bool q.hq) := HY4.out.ou.cell 9
 have ou10 : W4.cell? ⟨w.heap.size + 1 + 1, 10, none⟩ = some (.string q.qu) := HY4.out.ou.cell 10
 have ou11 : W4.cell? ⟨w.heap.size + 1 + 1, 11, none⟩ = some (.bool q.hf) := HY4.out.ou.cell 11
 have ou12 : W4.cell? ⟨w.heap.size + 1 + 1, 12, none⟩ = some (.string q.fr) := HY4.out.ou.cell 12
 have rs0 : W4.cell? ⟨w.heap.size + 1, 0, none⟩ = some (.string ⟨#[]⟩) := HY4.out.rs.cell 0
 have rs1 : W4.cell? ⟨w.heap.size + 1, 1, none⟩ = some (.string ⟨#[]⟩) := HY4.out.rs.cell 1
 have rs2 : W4.cell? ⟨w.heap.size + 1, 2, none⟩ = some (.string ⟨#[]⟩) := HY4.out.rs.cell 2
 have rs3 : W4.cell? ⟨w.heap.size + 1, 3, none⟩ = some (.int .i64 0) := HY4.out.rs.cell 3
 have rs4 : W4.cell? ⟨w.heap.size + 1, 4, none⟩ = some (.string ⟨#[]⟩) := HY4.out.rs.cell 4
 have rs5 : W4.cell? ⟨w.heap.size + 1, 5, none⟩ = some (.int .i64 0) := HY4.out.rs.cell 5
 have rs6 : W4.cell? ⟨w.heap.size + 1, 6, none⟩ = some (.int .i64 0) := HY4.out.rs.cell 6
 have rs7 : W4.cell? ⟨w.heap.size + 1, 7, none⟩ = some (.slice none 0 0) := HY4.out.rs.cell 7
 have rs8 : W4.cell? ⟨w.heap.size + 1, 8, none⟩ = some (.string ⟨#[]⟩) := HY4.out.rs.cell 8
 have rs9 : W4.cell? ⟨w.heap.size + 1, 9, none⟩ = some (.bool false) := HY4.out.rs.cell 9
 have rs10 : W4.cell? ⟨w.heap.size + 1, 10, none⟩ = some (.string ⟨#[]⟩) := HY4.out.rs.cell 10
 have rs11 : W4.cell? ⟨w.heap.size + 1, 11, none⟩ = some (.bool false) := HY4.out.rs.cell 11
 have rs12 : W4.cell? ⟨w.heap.size + 1, 12, none⟩ = some (.string ⟨#[]⟩) := HY4.out.rs.cell 12
 have fr0 := HY4.out.rs.free 0
 have fr1 := HY4.out.rs.free 1
 have fr2 := HY4.out.rs.free 2
 have fr3 := HY4.out.rs.free 3
 have fr4 := HY4.out.rs.free 4
 have fr5 := HY4.out.rs.free 5
 have fr6 := HY4.out.rs.free 6
 have fr7 := HY4.out.rs.free 7
 have fr8 := HY4.out.rs.free 8
 have fr9 := HY4.out.rs.free 9
 have fr10 := HY4.out.rs.free 10
 have fr11 := HY4.out.rs.free 11
 have fr12 := HY4.out.rs.free 12
 have HFIN : Hid (OwnS w.heap.size (.slice (some ⟨g, 0, none⟩) n n) q.ps (((((((((((((W4.setCell ⟨w.heap.size + 1, 0, none⟩ (.string q.sc)).setCell ⟨w.heap.size + 1, 1, none⟩ (.string q.us)).setCell ⟨w.heap.size + 1, 2, none⟩ (.string q.pw)).setCell ⟨w.heap.size + 1, 3, none⟩ (.int .i64 q.hk)).setCell ⟨w.heap.size + 1, 4, none⟩ (.string q.hn)).setCell ⟨w.heap.size + 1, 5, none⟩ (.int .i64 q.ha)).setCell ⟨w.heap.size + 1, 6, none⟩ (.int .i64 q.po)).setCell ⟨w.heap.size + 1, 7, none⟩ (.slice (some ⟨g, 0, none⟩) n n)).setCell ⟨w.heap.size + 1, 8, none⟩ (.string q.op)).setCell ⟨w.heap.size + 1, 9, none⟩ (.bool q.hq)).setCell ⟨w.heap.size + 1, 10, none⟩ (.string q.qu)).setCell ⟨w.heap.size + 1, 11, none⟩ (.bool q.hf)).setCell ⟨w.heap.size + 1, 12, none⟩ (.string q.fr)) ∧ Below w.heap.size w (((((((((((((W4.setCell ⟨w.heap.size + 1, 0, none⟩ (.string q.sc)).setCell ⟨w.heap.size + 1, 1, none⟩ (.string q.us)).setCell ⟨w.heap.size + 1, 2, none⟩ (.string q.pw)).setCell ⟨w.heap.size + 1, 3, none⟩ (.int .i64 q.hk)).setCell ⟨w.heap.size + 1, 4, none⟩ (.string q.hn)).setCell ⟨w.heap.size + 1, 5, none⟩ (.int .i64 q.ha)).setCell ⟨w.heap.size + 1, 6, none⟩ (.int .i64 q.po)).setCell ⟨w.heap.size + 1, 7, none⟩ (.slice (some ⟨g, 0, none⟩) n n)).setCell ⟨w.heap.size + 1, 8, none⟩ (.string q.op)).setCell ⟨w.heap.size + 1, 9, none⟩ (.bool q.hq)).setCell ⟨w.heap.size + 1, 10, none⟩ (.string q.qu)).setCell ⟨w.heap.size + 1, 11, none⟩ (.bool q.hf)).setCell ⟨w.heap.size + 1, 12, none⟩ (.string q.fr))) := by
  have h1 : w.heap.size + 1 < g := by omega
  exact ⟨((((((((((((HP4.out.other h1 0 _).other h1 1 _).other h1 2 _).other h1 3 _).other h1 4 _).other h1 5 _).other h1 6 _).other h1 7 _).other h1 8 _).other h1 9 _).other h1 10 _).other h1 11 _).other h1 12 _, below_put13 HY4.out.bw (by omega) _ _ _ _ _ _ _ _ _ _ _ _ _⟩
 clear HY4 HP4
 go_wp2
 refine bodyPost_ret (v := .agg #[(.string q.sc), (.string q.us), (.string q.pw), (.int .i64 q.hk), (.string q.hn), (.int .i64 q.ha), (.int .i64 q.po), (.slice (some ⟨g, 0, none⟩) n n), (.string q.op), (.bool q.hq), (.string q.qu), (.bool q.hf), (.string q.fr)]) (by simp [results, Tryz.results11, go_sem, rs0, rs1, rs2, rs3, rs4, rs5, rs6, rs7, rs8, rs9, rs10, rs11, rs12]) rfl ⟨g, rfl, HFIN.out⟩
end Go.Proofs.YtnfhajhdpdidlaaGreatDoor
end
section
namespace Go.Proofs.YtnfhajhdpdidlaaGreatDoor
open Go.RowKit Go.Shelf
def clo (set : Int) (l : List UInt8) : Prop := ∀ c ∈ l, isIn set c = false
theorem set_cases (set : Int) (hs : 1 ≤ set ∧ set ≤ 5) : set = 1 ∨ set = 2 ∨ set = 3 ∨ set = 4 ∨ set = 5 := by omega
theorem fig_free (set : Int) (hs : 1 ≤ set ∧ set ≤ 5) (n : Nat) (hn : n < 16) : isIn set (fig n) = false := by
 have h : ∀ n : _root_.Fin 16, isIn 1 (fig n) = false ∧ isIn 2 (fig n) = false ∧ isIn 3 (fig n) = false ∧ isIn 4 (fig n) = false ∧ isIn 5 (fig n) = false := by decide
 have := h ⟨n, hn⟩
 rcases set_cases set hs with rfl | rfl | rfl | rfl | rfl
 ·exact this.1
 ·exact this.2.1
 ·exact this.2.2.1
 ·exact this.2.2.2.1
 ·exact this.2.2.2.2
theorem pct_free (set : Int) (hs : 1 ≤ set ∧ set ≤ 5) : isIn set 37 = false := by
 rcases set_cases set hs with rfl | rfl | rfl | rfl | rfl <;> decide
theorem enc_clo (set : Int) (hs : 1 ≤ set ∧ set ≤ 5) (l : List UInt8) : clo set (enc (isIn set) l) := by
 intro c hc
 unfold enc at hc
 rw [List.mem_flatMap] at hc
 obtain ⟨d, hd, hc⟩ := hc
 have hf := fig_shr d
 by_cases h : isIn set d = true
 ·rw [encB_yes _ _ h] at hc
  simp only [List.mem_cons, List.not_mem_nil, or_false] at hc
  rcases hc with rfl | rfl | rfl
  ·exact pct_free set hs
  ·exact fig_free set hs _ hf.1
  ·exact fig_free set hs _ hf.2
 ·have h' : isIn set d = false := by simpa using h
  rw [encB_no _ _ h'] at hc
  simp only [List.mem_cons, List.not_mem_nil, or_false] at hc
  rw [hc]; exact h'
theorem clo_enc (set : Int) (l : List UInt8) (h : clo set l) : enc (isIn set) l = l := by
 induction l with
 | nil => rfl
 | cons c r ih =>
  show encB (isIn set) c ++ enc (isIn set) r = c :: r
  rw [encB_no _ _ (h c (List.mem_cons_self ..)), ih (fun d hd => h d (List.mem_cons_of_mem _ hd))]
  rfl
theorem wr_small (set : Int) (l : List UInt8) (hl : l.length ≤ 200) : (wrT set l).data.toList = enc (isIn set) l := by
 unfold wrT
 rw [encode_small set (mk l) (by rw [mk_size]; exact hl), mk_data]
theorem wr_same (set : Int) (x : ByteArray) (h : clo set x.data.toList) (hl : x.data.toList.length ≤ 200) : wrT set x.data.toList = x := by
 have e := wr_small set x.data.toList hl
 rw [clo_enc set _ h] at e
 rw [← mk_list (wrT set x.data.toList), e, mk_list]
theorem wr_clo (set : Int) (hs : 1 ≤ set ∧ set ≤ 5) (l : List UInt8) (hl : l.length ≤ 200) : clo set (wrT set l).data.toList := by
 rw [wr_small set l hl]; exact enc_clo set hs l
theorem clo_ne {set : Int} {l : List UInt8} (h : clo set l) (b : UInt8) (hb : isIn set b = true) : ∀ c ∈ l, c ≠ b := by
 intro c hc e
 rw [e] at hc
 rw [h b hc] at hb
 cases hb
theorem clo_vis {set : Int} (hs : 1 ≤ set ∧ set ≤ 5) {l : List UInt8} (h : clo set l) : ∀ c ∈ l, 33 ≤ c.toNat := by
 intro c hc
 have h0 := h c hc
 have h32 : isIn set 32 = true := by rcases set_cases set hs with rfl | rfl | rfl | rfl | rfl <;> decide
 have hne := clo_ne h 32 h32 c hc
 unfold isIn at h0
 simp only [Bool.or_eq_false_iff, decide_eq_false_iff_not] at h0
 have : c.toNat ≠ 32 := fun e => hne (UInt8.toNat_inj.1 e)
 omega
theorem clo_nil (set : Int) : clo set [] := fun c hc => by cases hc
theorem dw_none (m : List UInt8) (h : ∀ c ∈ m, low32 c = false) : m.dropWhile low32 = m := by
 cases m with
 | nil => rfl
 | cons c r => rw [List.dropWhile_cons, if_neg (by rw [h c (List.mem_cons_self ..)]; decide)]
theorem trim_vis (l : List UInt8) (h : ∀ c ∈ l, 33 ≤ c.toNat) : trimL l = l := by
 have hl : ∀ c ∈ l, low32 c = false := fun c hc => by have := h c hc; unfold low32; simp; omega
 have hm : midL l = l := by
  unfold midL
  rw [dw_none l hl, dw_none l.reverse (fun c hc => hl c (List.mem_reverse.1 hc)), List.reverse_reverse]
 unfold trimL
 rw [hm]
 unfold dropT
 refine List.filter_eq_self.2 (fun c hc => ?_)
 have h1 := h c hc
 unfold stays
 have n1 : c ≠ 13 := fun e => by rw [e] at h1; revert h1; decide
 have n2 : c ≠ 10 := fun e => by rw [e] at h1; revert h1; decide
 have n3 : c ≠ 9 := fun e => by rw [e] at h1; revert h1; decide
 simp [n1, n2, n3]
theorem dd_small (u : Nat) (h : u < 10) : Lib.decDigits u = [UInt8.ofNat (48 + u)] := Lib.decDigits_one h
theorem dd_great (u : Nat) (h : ¬ u < 10) : Lib.decDigits u = Lib.decDigits (u / 10) ++ [UInt8.ofNat (48 + u % 10)] := by rw [Lib.decDigits, dif_neg h]
theorem ofNat48 (d : Nat) (h : d < 10) : (UInt8.ofNat (48 + d)).toNat = 48 + d := by
 rw [UInt8.toNat_ofNat_of_lt' (by show 48 + d < 256; omega)]
theorem dd_fig (u : Nat) : ∀ c ∈ Lib.decDigits u, 48 ≤ c.toNat ∧ c.toNat ≤ 57 := by
 induction u using Nat.strongRecOn with
 | _ u ih =>
  by_cases h : u < 10
  ·rw [dd_small u h]
   intro c hc
   simp only [List.mem_cons, List.not_mem_nil, or_false] at hc
   rw [hc, ofNat48 u h]; omega
  ·rw [dd_great u h]
   intro c hc
   rcases List.mem_append.1 hc with hc | hc
   ·exact ih (u / 10) (by omega) c hc
   ·simp only [List.mem_cons, List.not_mem_nil, or_false] at hc
    rw [hc, ofNat48 (u % 10) (by omega)]; omega
theorem dd_ne (u : Nat) : Lib.decDigits u ≠ [] := by
 by_cases h : u < 10
 ·rw [dd_small u h]; simp
 ·rw [dd_great u h]; simp
theorem portN_cons (n : Int) (c : UInt8) (r : List UInt8) : portN n (c :: r) = if 65535 < n * 10 + ((c.toNat : Int) - 48) then none else portN (n * 10 + ((c.toNat : Int) - 48)) r := rfl
theorem portN_app (l r : List UInt8) (n : Int) : portN n (l ++ r) = (portN n l).bind fun m => portN m r := by
 induction l generalizing n with
 | nil => rfl
 | cons c l ih =>
  rw [List.cons_append, portN_cons, portN_cons]
  split
  ·rfl
  ·exact ih _
theorem dd_port (u : Nat) (h : u ≤ 65535) : portN 0 (Lib.decDigits u) = some (u : Int) := by
 induction u using Nat.strongRecOn with
 | _ u ih =>
  by_cases h1 : u < 10
  ·rw [dd_small u h1]
   unfold portN
   rw [ofNat48 u h1, if_neg (by omega)]
   unfold portN
   congr 1
   omega
  ·rw [dd_great u h1, portN_app, ih (u / 10) (by omega) (by omega)]
   show portN ((u / 10 : Nat) : Int) [UInt8.ofNat (48 + u % 10)] = _
   unfold portN
   rw [ofNat48 (u % 10) (by omega), if_neg (by omega)]
   unfold portN
   congr 1
   omega
theorem figs_dd (u : Nat) : figsL (Lib.decDigits u) = true := by
 unfold figsL
 rw [List.all_eq_true]
 intro c hc
 have := dd_fig u c hc
 unfold figB
 simp
 omega
def dig3 (u : Nat) : List UInt8 := if u < 10 then [UInt8.ofNat (48 + u)] else if u < 100 then [UInt8.ofNat (48 + u / 10), UInt8.ofNat (48 + u % 10)] else [UInt8.ofNat (48 + u / 100), UInt8.ofNat (48 + u / 10 % 10), UInt8.ofNat (48 + u % 10)]
theorem dig3_eq (u : Nat) (h : u < 1000) : Lib.decDigits u = dig3 u := by
 unfold dig3
 by_cases h1 : u < 10
 ·rw [if_pos h1, dd_small u h1]
 ·by_cases h2 : u < 100
  ·rw [if_neg h1, if_pos h2, Lib.decDigits_two h1 h2]
  ·rw [if_neg h1, if_neg h2, dd_great u h1, Lib.decDigits_two (by omega) (by omega)]
   simp [Nat.div_div_eq_div_mul]
theorem part3 : ∀ u : _root_.Fin 256, partN (dig3 u.val) = some (u.val : Int) := by decide +kernel
theorem part_dg (v : Int) (h0 : 0 ≤ v) (h1 : v < 256) : partN (dg v) = some v := by
 unfold dg
 rw [dig3_eq _ (by omega)]
 have := part3 ⟨v.toNat, by omega⟩
 rw [this]
 congr 1
 show ((v.toNat : Nat) : Int) = v
 omega
end Go.Proofs.YtnfhajhdpdidlaaGreatDoor
end
section
namespace Go.Proofs.YtnfhajhdpdidlaaGreatDoor
open Go.RowKit Go.Shelf
def hosC (c : UInt8) : Prop := nmB c = true ∨ c = 46
theorem hosC_facts (c : UInt8) (h : hosC c) : c ≠ 37 ∧ lowB c = c ∧ 33 ≤ c.toNat ∧ c ≠ 58 ∧ c ≠ 64 ∧ c ≠ 47 ∧ c ≠ 92 ∧ c ≠ 63 ∧ c ≠ 35 := by
 have key : ∀ n : _root_.Fin 256, (nmB (UInt8.ofNat n.val) = true ∨ UInt8.ofNat n.val = 46) → UInt8.ofNat n.val ≠ 37 ∧ lowB (UInt8.ofNat n.val) = UInt8.ofNat n.val ∧ 33 ≤ (UInt8.ofNat n.val).toNat ∧ UInt8.ofNat n.val ≠ 58 ∧ UInt8.ofNat n.val ≠ 64 ∧ UInt8.ofNat n.val ≠ 47 ∧ UInt8.ofNat n.val ≠ 92 ∧ UInt8.ofNat n.val ≠ 63 ∧ UInt8.ofNat n.val ≠ 35 := by decide +kernel
 have := key ⟨c.toNat, c.toNat_lt⟩
 simp only [UInt8.ofNat_toNat] at this
 exact this h
theorem low_same (l : List UInt8) (h : ∀ c ∈ l, lowB c = c) : low l = l := by
 unfold low
 conv => rhs; rw [← List.map_id l]
 exact List.map_congr_left (fun c hc => h c hc)
theorem read_same (l : List UInt8) (h : ∀ c ∈ l, hosC c) : readL l = l := by
 unfold readL
 rw [dec_plain l (fun c hc => (hosC_facts c (h c hc)).1), low_same l (fun c hc => (hosC_facts c (h c hc)).2.1)]
theorem fig_hosC (c : UInt8) (h : 48 ≤ c.toNat ∧ c.toNat ≤ 57) : hosC c := by
 left
 unfold nmB figB
 simp
 left; left; right; exact h
theorem dg_hosC (v : Int) : ∀ c ∈ dg v, hosC c := fun c hc => fig_hosC c (dd_fig _ c hc)
theorem dg_no46 (v : Int) : ∀ c ∈ dg v, c ≠ 46 := by
 intro c hc e
 have := dd_fig _ c hc
 rw [e] at this
 revert this; decide
theorem fourT_eq (a : Int) : fourT a = dg (a / 16777216 % 256) ++ 46 :: (dg (a / 65536 % 256) ++ 46 :: (dg (a / 256 % 256) ++ 46 :: dg (a % 256))) := by
 unfold fourT pre3 pre2 pre1; simp
theorem four_cut (a : Int) : cutL 46 (fourT a) = [dg (a / 16777216 % 256), dg (a / 65536 % 256), dg (a / 256 % 256), dg (a % 256)] := by
 rw [fourT_eq, cutL_hit _ _ _ (dg_no46 _), cutL_hit _ _ _ (dg_no46 _), cutL_hit _ _ _ (dg_no46 _), cutL_none _ _ (dg_no46 _)]
theorem dg_ne (v : Int) : dg v ≠ [] := dd_ne _
theorem four_parts (a : Int) : partsL (fourT a) = [dg (a / 16777216 % 256), dg (a / 65536 % 256), dg (a / 256 % 256), dg (a % 256)] := by
 rw [partsL_keep, four_cut]
 right
 rw [four_cut]
 intro e
 simp at e
 exact dg_ne _ e
theorem four_back (a : Int) (h0 : 0 ≤ a) (h1 : a ≤ 4294967295) : fourL (fourT a) = some a := by
 unfold fourL
 rw [if_pos ⟨by have := fourT_len a; omega, by rw [four_parts]; simp⟩, four_parts]
 show fourFrom 4 0 0 _ = _
 rw [four_mid 4 0 0 _ _ _ (part_dg (a / 16777216 % 256) (by omega) (by omega)) (by decide) (by omega)]
 rw [four_mid 4 1 _ _ _ _ (part_dg (a / 65536 % 256) (by omega) (by omega)) (by decide) (by omega)]
 rw [four_mid 4 2 _ _ _ _ (part_dg (a / 256 % 256) (by omega) (by omega)) (by decide) (by omega)]
 rw [four_last 4 3 _ _ _ _ (part_dg (a % 256) (by omega) (by omega)) (by decide) (by show a % 256 < 256; omega)]
 show some _ = some a
 congr 1
 show (((0 * 256 + a / 16777216 % 256) * 256 + a / 65536 % 256) * 256 + a / 256 % 256) * 256 + a % 256 = a
 omega
theorem four_hosC (a : Int) : ∀ c ∈ fourT a, hosC c := by
 rw [fourT_eq]
 intro c hc
 simp only [List.mem_append, List.mem_cons] at hc
 rcases hc with h | h | h | h | h | h | h
 ·exact dg_hosC _ c h
 ·exact .inr h
 ·exact dg_hosC _ c h
 ·exact .inr h
 ·exact dg_hosC _ c h
 ·exact .inr h
 ·exact dg_hosC _ c h
theorem four_ends (a : Int) : endsL (fourT a) = true := by
 have hl : lastP (fourT a) = dg (a % 256) := by
  unfold lastP
  simp only [four_parts]
  rfl
 unfold endsL
 rw [hl]
 have h1 : (dg (a % 256)).isEmpty = false := List.isEmpty_eq_false_iff.2 (dg_ne _)
 have h2 : figsL (dg (a % 256)) = true := figs_dd _
 rw [h1, h2]; rfl
theorem fourFrom_range (n : Nat) (hn : n ≤ 4) : ∀ (ps : List (List UInt8)) (i : Nat) (a r : Int), i + ps.length = n → 0 ≤ a → (i < n → a < midI i) → (i = n → a ≤ 4294967295) → fourFrom n i a ps = some r → 0 ≤ r ∧ r ≤ 4294967295 := by
 intro ps
 induction ps with
 | nil =>
  intro i a r hi h0 h1 h2 h
  have : a = r := by simpa [fourFrom] using h
  have := h2 (by simpa using hi)
  omega
 | cons p ps ih =>
  intro i a r hi h0 h1 h2 h
  have hi' : i + 1 + ps.length = n := by simpa [Nat.add_assoc, Nat.add_comm 1] using hi
  have hm := h1 (by omega)
  cases hp : partN p with
  | none => rw [four_none _ _ _ _ _ hp] at h; cases h
  | some v =>
   have hv0 := partN_ge p v hp
   by_cases hl : i + 1 = n
   ·by_cases hc : v < capI i
    ·rw [four_last n i a v p ps hp hl hc] at h
     refine ih (i + 1) _ r hi' ?_ (fun x => by omega) (fun _ => ?_) h
     ·have : 0 ≤ capI i := by unfold capI; split <;> decide
      have := Int.mul_nonneg h0 this
      omega
     ·have hi3 : i = 0 ∨ i = 1 ∨ i = 2 ∨ i = 3 := by omega
      rcases hi3 with rfl | rfl | rfl | rfl <;> simp only [midI, capI] at hm hc ⊢ <;> omega
    ·rw [four_last_no n i a v p ps hp hl hc] at h; cases h
   ·by_cases hc : v < 256
    ·rw [four_mid n i a v p ps hp hl hc] at h
     refine ih (i + 1) _ r hi' (by omega) (fun x => ?_) (fun x => absurd x hl) h
     have hi3 : i = 0 ∨ i = 1 ∨ i = 2 := by omega
     rcases hi3 with rfl | rfl | rfl <;> simp only [midI] at hm ⊢ <;> omega
    ·rw [four_mid_no n i a v p ps hp hl hc] at h; cases h
theorem fourL_range (l : List UInt8) (a : Int) (h : fourL l = some a) : 0 ≤ a ∧ a ≤ 4294967295 := by
 unfold fourL at h
 split at h
 ·rename_i hc
  have hne := partsL_ne l
  exact fourFrom_range _ hc.2 (partsL l) 0 0 a (by omega) (by omega) (fun _ => by show (0 : Int) < 1; decide) (fun e => by omega) h
 ·cases h
def hostN (k : Int) (s : ByteArray) (a : Int) : Prop := named k s a = true ∨ (k = 2 ∧ s = ⟨#[]⟩ ∧ 0 ≤ a ∧ a ≤ 4294967295)
theorem host_back (k : Int) (s : ByteArray) (a : Int) (h : hostN k s a) : getOk (putT k s a) = true ∧ gk (putT k s a) = k ∧ gn (putT k s a) = s ∧ ga (putT k s a) = a ∧ putT k s a ≠ [] ∧ ∀ c ∈ putT k s a, hosC c := by
 have hlen := putT_len k s a
 rcases h with h | ⟨rfl, rfl, h0, h1⟩
 ·have e := put_named h
  unfold named at h
  simp only [Bool.and_eq_true, decide_eq_true_eq, Bool.not_eq_true'] at h
  obtain ⟨⟨⟨rfl, rfl⟩, hn⟩, he⟩ := h
  have hn' := hn
  unfold nameL at hn'
  have hn2 := of_decide_eq_true hn'
  rw [e] at hlen ⊢
  have hr : readL s.data.toList = s.data.toList := read_same _ hn2.2.2.1
  have hk : hostKind s.data.toList = 1 := by unfold hostKind; rw [if_neg (by rw [he]; decide), if_pos hn]
  refine ⟨?_, ?_, ?_, ?_, ?_, hn2.2.2.1⟩
  ·unfold getOk; rw [if_pos (by omega), hr]; unfold hostOkL; rw [hk]; decide
  ·unfold gk; rw [if_pos (by omega), hr, hk]
  ·unfold gn; rw [if_pos (by omega), hr]; unfold hostName; rw [if_neg (by rw [he]; decide), if_pos hn, mk_list]
  ·unfold ga; rw [if_pos (by omega), hr]; unfold hostAddr; rw [if_neg (by rw [he]; decide)]
  ·intro e0; rw [e0] at hn2; exact absurd hn2.1 (by decide)
 ·have h1' : named 2 ⟨#[]⟩ a = false := by unfold named; simp
  have h2' : numbered 2 ⟨#[]⟩ a = true := by unfold numbered; simp; exact ⟨h0, h1⟩
  have e : putT 2 ⟨#[]⟩ a = fourT a := put_numbered h1' h2'
  rw [e] at hlen ⊢
  have hr : readL (fourT a) = fourT a := read_same _ (four_hosC a)
  have he := four_ends a
  have hf := four_is_some _ _ (four_back a h0 h1)
  have hk : hostKind (fourT a) = 2 := by unfold hostKind; rw [if_pos he, if_pos hf.1]
  refine ⟨?_, ?_, ?_, ?_, ?_, four_hosC a⟩
  ·unfold getOk; rw [if_pos (by omega), hr]; unfold hostOkL; rw [hk]; decide
  ·unfold gk; rw [if_pos (by omega), hr, hk]
  ·unfold gn; rw [if_pos (by omega), hr]; unfold hostName; rw [if_pos he]
  ·unfold ga; rw [if_pos (by omega), hr]; unfold hostAddr; rw [if_pos he, if_pos hf.1, hf.2]
  ·rw [fourT_eq]
   intro e0
   exact absurd (congrArg List.length e0) (by simp)
theorem host_read (l : List UInt8) (h : getOk l = true) : hostN (gk l) (gn l) (ga l) := by
 unfold getOk at h
 by_cases hl : l.length ≤ 200
 ·rw [if_pos hl] at h
  unfold gk gn ga
  rw [if_pos hl, if_pos hl, if_pos hl]
  generalize readL l = t at h ⊢
  unfold hostOkL at h
  have hk := of_decide_eq_true h
  unfold hostKind at hk
  by_cases he : endsL t = true
  ·rw [if_pos he] at hk
   by_cases hf : fourOk t = true
   ·right
    unfold hostKind hostName hostAddr
    rw [if_pos he, if_pos hf, if_pos he, if_pos he, if_pos hf]
    refine ⟨rfl, rfl, ?_⟩
    cases h4 : fourL t with
    | none => rw [(four_is_none t h4).1] at hf; cases hf
    | some z => rw [(four_is_some t z h4).2]; exact fourL_range t z h4
   ·rw [if_neg hf] at hk; exact absurd rfl hk
  ·rw [if_neg he] at hk
   by_cases hn : nameL t = true
   ·left
    unfold hostKind hostName hostAddr
    rw [if_neg he, if_pos hn, if_neg he, if_pos hn, if_neg he]
    unfold named
    rw [mk_data, hn]
    have : endsL t = false := by simpa using he
    rw [this]; rfl
   ·rw [if_neg hn] at hk; exact absurd rfl hk
 ·rw [if_neg hl] at h; cases h
end Go.Proofs.YtnfhajhdpdidlaaGreatDoor
end
section
namespace Go.Proofs.YtnfhajhdpdidlaaGreatDoor
open Go.RowKit Go.Shelf
structure Nf (q : P) : Prop where
 make ::
 sch : schL q.sc.data.toList = true
 que : (q.hq = true ∧ clo 2 q.qu.data.toList) ∨ (q.hq = false ∧ q.qu = ⟨#[]⟩)
 frg : (q.hf = true ∧ clo 3 q.fr.data.toList) ∨ (q.hf = false ∧ q.fr = ⟨#[]⟩)
 main : (ownZ q.sc < 0 ∧ q.us = ⟨#[]⟩ ∧ q.pw = ⟨#[]⟩ ∧ q.hk = 0 ∧ q.hn = ⟨#[]⟩ ∧ q.ha = 0 ∧ q.po = -1 ∧ q.ps = [] ∧ clo 5 q.op.data.toList ∧ ∀ c ∈ q.op.data.toList, c ≠ 63 ∧ c ≠ 35) ∨
  (0 ≤ ownZ q.sc ∧ q.op = ⟨#[]⟩ ∧ clo 4 q.us.data.toList ∧ clo 4 q.pw.data.toList ∧ hostN q.hk q.hn q.ha ∧ (q.po = -1 ∨ (0 ≤ q.po ∧ q.po ≤ 65535 ∧ q.po ≠ ownZ q.sc)) ∧ q.ps ≠ [] ∧ ∀ p ∈ q.ps, fixP p)
theorem schB_facts (c : UInt8) (h : schB c = true) : lowB c = c ∧ 33 ≤ c.toNat ∧ c ≠ 58 := by
 have key : ∀ n : _root_.Fin 256, schB (UInt8.ofNat n.val) = true → lowB (UInt8.ofNat n.val) = UInt8.ofNat n.val ∧ 33 ≤ (UInt8.ofNat n.val).toNat ∧ UInt8.ofNat n.val ≠ 58 := by decide +kernel
 have := key ⟨c.toNat, c.toNat_lt⟩
 simp only [UInt8.ofNat_toNat] at this
 exact this h
theorem sch_bytes (l : List UInt8) (h : schL l = true) : ∀ c ∈ l, schB c = true := by
 cases l with
 | nil => intro c hc; cases hc
 | cons d r =>
  have h' : (smallB d && r.all schB) = true := h
  rw [Bool.and_eq_true, List.all_eq_true] at h'
  intro c hc
  rcases List.mem_cons.1 hc with rfl | hc
  ·unfold schB; rw [h'.1]; rfl
  ·exact h'.2 c hc
theorem fix_clo (p : List UInt8) (h : fixP p) : clo 1 p := by
 have := enc_clo 1 (by decide) p
 have e : enc (isIn 1) p = p := h.2.1
 rw [e] at this
 exact this
theorem up_tail (S a t : List UInt8) (h : ∀ d ∈ a, among S d = false) (ht : t = [] ∨ ∃ c r, t = c :: r ∧ among S c = true) : upL S (a ++ t) = a := by
 rcases ht with rfl | ⟨c, r, rfl, hc⟩
 ·rw [List.append_nil]; exact up_all S a h
 ·exact up_hit S a r c h hc
theorem frg_head (q : P) : frgL q = [] ∨ ∃ r, frgL q = 35 :: r := by
 unfold frgL; split
 ·exact .inr ⟨_, rfl⟩
 ·exact .inl rfl
theorem tail_head (q : P) : tailL q = [] ∨ ∃ c r, tailL q = c :: r ∧ (c = 63 ∨ c = 35) := by
 unfold tailL queL
 split
 ·exact .inr ⟨63, _, rfl, .inl rfl⟩
 ·rw [List.nil_append]
  rcases frg_head q with h | ⟨r, h⟩
  ·exact .inl h
  ·exact .inr ⟨35, r, h, .inr rfl⟩
theorem tail_len1 (q : P) : (q.hq = true → q.qu.data.toList.length ≤ (tailL q).length) ∧ (q.hf = true → q.fr.data.toList.length ≤ (tailL q).length) := by
 unfold tailL queL frgL
 constructor
 ·intro h; rw [if_pos h]; simp; omega
 ·intro h; rw [if_pos h]; simp; omega
theorem frag_read (p q : P) (h1 : p.hf = false) (h2 : p.fr = ⟨#[]⟩) (hf : (q.hf = true ∧ clo 3 q.fr.data.toList) ∨ (q.hf = false ∧ q.fr = ⟨#[]⟩)) (hl : q.hf = true → q.fr.data.toList.length ≤ 200) : fragP p (frgL q) = { p with hf := q.hf, fr := q.fr } := by
 rcases hf with ⟨h, hc⟩ | ⟨h, hc⟩
 ·have e : frgL q = 35 :: q.fr.data.toList := by unfold frgL; rw [if_pos h]
  unfold fragP
  rw [e, if_pos (by show passB [35] (35 :: _) = true; rfl)]
  show ({ p with hf := true, fr := wrT 3 q.fr.data.toList } : P) = _
  rw [wr_same 3 _ hc (hl h), h]
 ·have e : frgL q = [] := by unfold frgL; rw [if_neg (by rw [h]; decide)]
  unfold fragP
  rw [e, if_neg (by decide), h, hc]
  cases p; simp_all
theorem tail_read (p q : P) (h0 : p.hq = false) (h0' : p.qu = ⟨#[]⟩) (h1 : p.hf = false) (h2 : p.fr = ⟨#[]⟩) (hq : (q.hq = true ∧ clo 2 q.qu.data.toList) ∨ (q.hq = false ∧ q.qu = ⟨#[]⟩)) (hf : (q.hf = true ∧ clo 3 q.fr.data.toList) ∨ (q.hf = false ∧ q.fr = ⟨#[]⟩)) (hl : (tailL q).length ≤ 200) : queP p (tailL q) = { p with hq := q.hq, qu := q.qu, hf := q.hf, fr := q.fr } := by
 have hlq := (tail_len1 q).1
 have hlf := (tail_len1 q).2
 rcases hq with ⟨h, hc⟩ | ⟨h, hc⟩
 ·have e : tailL q = 63 :: (q.qu.data.toList ++ frgL q) := by unfold tailL queL; rw [if_pos h]; rfl
  unfold queP
  rw [e, if_pos (by show passB [63] (63 :: _) = true; rfl)]
  have hu : upL [35] (63 :: (q.qu.data.toList ++ frgL q)).tail = q.qu.data.toList := by
   show upL [35] (q.qu.data.toList ++ frgL q) = _
   refine up_tail _ _ _ (fun d hd => ?_) ?_
   ·have := clo_ne hc 35 (by decide) d hd
    rw [among_one]; simpa using this
   ·rcases frg_head q with h | ⟨r, h⟩
    ·exact .inl h
    ·exact .inr ⟨35, r, h, by decide⟩
  rw [hu, wr_same 2 _ hc (by have := hlq h; omega)]
  have hd : (63 :: (q.qu.data.toList ++ frgL q)).tail.drop q.qu.data.toList.length = frgL q := by
   show (q.qu.data.toList ++ frgL q).drop _ = _
   rw [List.drop_left]
  rw [hd]
  have := frag_read ({ p with hq := true, qu := q.qu }) q h1 h2 hf (fun x => by have := hlf x; omega)
  rw [this, h]
 ·have e : tailL q = frgL q := by unfold tailL queL; rw [if_neg (by rw [h]; decide)]; rfl
  unfold queP
  rw [e, if_neg (by rcases frg_head q with h | ⟨r, h⟩ <;> rw [h]
                    · decide
                    · show ¬ passB [63] (35 :: r) = true
                      show ¬ among [63] 35 = true
                      decide)]
  rw [frag_read _ q h1 h2 hf (fun x => by have := hlf x; omega), h, hc]
  cases p; simp_all
theorem among4 (c : UInt8) (h1 : c ≠ 47) (h2 : c ≠ 92) (h3 : c ≠ 63) (h4 : c ≠ 35) : among [47, 92, 63, 35] c = false := by unfold among; simp [h1, h2, h3, h4]
theorem among2 (c : UInt8) (h3 : c ≠ 63) (h4 : c ≠ 35) : among [63, 35] c = false := by unfold among; simp [h3, h4]
theorem amongS (c : UInt8) (h1 : c ≠ 47) (h2 : c ≠ 92) : among [47, 92] c = false := by unfold among; simp [h1, h2]
theorem us_facts {l : List UInt8} (h : clo 4 l) : ∀ c ∈ l, 33 ≤ c.toNat ∧ c ≠ 58 ∧ c ≠ 64 ∧ c ≠ 47 ∧ c ≠ 92 ∧ c ≠ 63 ∧ c ≠ 35 := fun c hc =>
 ⟨clo_vis (by decide) h c hc, clo_ne h 58 (by decide) c hc, clo_ne h 64 (by decide) c hc, clo_ne h 47 (by decide) c hc, clo_ne h 92 (by decide) c hc, clo_ne h 63 (by decide) c hc, clo_ne h 35 (by decide) c hc⟩
theorem por_facts (q : P) : ∀ c ∈ porL q, 33 ≤ c.toNat ∧ c ≠ 64 ∧ c ≠ 47 ∧ c ≠ 92 ∧ c ≠ 63 ∧ c ≠ 35 := by
 intro c hc
 unfold porL at hc
 split at hc
 ·rcases List.mem_cons.1 hc with rfl | hc
  ·decide
  ·have := hosC_facts c (dg_hosC _ c hc)
   exact ⟨this.2.2.1, this.2.2.2.2.1, this.2.2.2.2.2.1, this.2.2.2.2.2.2.1, this.2.2.2.2.2.2.2.1, this.2.2.2.2.2.2.2.2⟩
 ·cases hc
theorem aut_facts (q : P) (h1 : clo 4 q.us.data.toList) (h2 : clo 4 q.pw.data.toList) (h3 : hostN q.hk q.hn q.ha) : ∀ c ∈ autL q, 33 ≤ c.toNat ∧ c ≠ 47 ∧ c ≠ 92 ∧ c ≠ 63 ∧ c ≠ 35 := by
 intro c hc
 unfold autL at hc
 simp only [List.mem_append] at hc
 rcases hc with hc | hc | hc | hc | hc
 ·have := us_facts h1 c hc
  exact ⟨this.1, this.2.2.2⟩
 ·unfold pwL at hc
  split at hc
  ·cases hc
  ·rcases List.mem_cons.1 hc with rfl | hc
   ·decide
   ·have := us_facts h2 c hc
    exact ⟨this.1, this.2.2.2⟩
 ·unfold atL' at hc
  split at hc
  ·cases hc
  ·simp only [List.mem_cons, List.not_mem_nil, or_false] at hc
   rw [hc]; decide
 ·have := hosC_facts c ((host_back _ _ _ h3).2.2.2.2.2 c hc)
  exact ⟨this.2.2.1, this.2.2.2.2.2⟩
 ·have := por_facts q c hc
  exact ⟨this.1, this.2.2⟩
theorem put_facts (ps : List (List UInt8)) (h : ∀ p ∈ ps, fixP p) : ∀ c ∈ putL ps, 33 ≤ c.toNat ∧ c ≠ 63 ∧ c ≠ 35 := by
 intro c hc
 unfold putL at hc
 rw [List.mem_flatMap] at hc
 obtain ⟨p, hp, hc⟩ := hc
 rcases List.mem_cons.1 hc with rfl | hc
 ·decide
 ·have := fix_clo p (h p hp)
  exact ⟨clo_vis (by decide) this c hc, clo_ne this 63 (by decide) c hc, clo_ne this 35 (by decide) c hc⟩
theorem tail_vis (q : P) (hq : (q.hq = true ∧ clo 2 q.qu.data.toList) ∨ (q.hq = false ∧ q.qu = ⟨#[]⟩)) (hf : (q.hf = true ∧ clo 3 q.fr.data.toList) ∨ (q.hf = false ∧ q.fr = ⟨#[]⟩)) : ∀ c ∈ tailL q, 33 ≤ c.toNat := by
 intro c hc
 unfold tailL queL frgL at hc
 rcases List.mem_append.1 hc with hc | hc
 ·rcases hq with ⟨h, hh⟩ | ⟨h, hh⟩
  ·rw [if_pos h] at hc
   rcases List.mem_cons.1 hc with rfl | hc
   ·decide
   ·exact clo_vis (by decide) hh c hc
  ·rw [if_neg (by rw [h]; decide)] at hc; cases hc
 ·rcases hf with ⟨h, hh⟩ | ⟨h, hh⟩
  ·rw [if_pos h] at hc
   rcases List.mem_cons.1 hc with rfl | hc
   ·decide
   ·exact clo_vis (by decide) hh c hc
  ·rw [if_neg (by rw [h]; decide)] at hc; cases hc
theorem writ_vis (q : P) (h : Nf q) : ∀ c ∈ writL q, 33 ≤ c.toNat := by
 intro c hc
 unfold writL at hc
 simp only [List.mem_append] at hc
 rcases hc with hc | hc | hc | hc
 ·exact (schB_facts c (sch_bytes _ h.sch c hc)).2.1
 ·simp only [List.mem_cons, List.not_mem_nil, or_false] at hc
  rw [hc]; decide
 ·unfold mainL at hc
  rcases h.main with ⟨h0, _, _, _, _, _, _, _, hop, _⟩ | ⟨h0, _, hu, hw, hh, _, _, hp⟩
  ·rw [if_neg (by omega)] at hc
   exact clo_vis (by decide) hop c hc
  ·rw [if_pos h0] at hc
   simp only [List.mem_append, List.mem_cons, List.not_mem_nil, or_false] at hc
   rcases hc with (rfl | rfl) | hc | hc
   ·decide
   ·decide
   ·exact (aut_facts q hu hw hh c hc).1
   ·exact (put_facts q.ps hp c hc).1
 ·exact tail_vis q h.que h.frg c hc
theorem aut_read (p q : P) (hsc : p.sc = q.sc) (hus : p.us = ⟨#[]⟩) (hpw : p.pw = ⟨#[]⟩) (h1 : clo 4 q.us.data.toList) (h2 : clo 4 q.pw.data.toList) (h3 : hostN q.hk q.hn q.ha) (hpo : q.po = -1 ∨ (0 ≤ q.po ∧ q.po ≤ 65535 ∧ q.po ≠ ownZ q.sc)) (hl : (autL q).length ≤ 200) : autP p (autL q) = some { p with us := q.us, pw := q.pw, hk := q.hk, hn := q.hn, ha := q.ha, po := q.po } := by
 obtain ⟨b1, b2, b3, b4, b5, b6⟩ := host_back _ _ _ h3
 obtain ⟨H, hH⟩ : ∃ H, H = putT q.hk q.hn q.ha ++ porL q := ⟨_, rfl⟩
 have hfree : ∀ c ∈ H, c ≠ 64 := by
  intro c hc
  rw [hH] at hc
  rcases List.mem_append.1 hc with hc | hc
  ·exact (hosC_facts c (b6 c hc)).2.2.2.2.1
  ·exact (por_facts q c hc).2.1
 have hlen : q.us.data.toList.length ≤ 200 ∧ q.pw.data.toList.length ≤ 200 := by
  unfold autL at hl
  simp only [List.length_append] at hl
  refine ⟨by omega, ?_⟩
  unfold pwL at hl
  split at hl
  ·rename_i e; rw [e]; simp
  ·simp only [List.length_cons] at hl; omega
 have hup : upL [58] H = putT q.hk q.hn q.ha := by
  rw [hH]
  refine up_tail _ _ _ (fun d hd => ?_) ?_
  ·have := (hosC_facts d (b6 d hd)).2.2.2.1
   rw [among_one]; simpa using this
  ·unfold porL; split
   ·exact .inr ⟨58, _, rfl, by decide⟩
   ·exact .inl rfl
 have hbe : behind H = (porL q).tail := by
  unfold behind
  rw [hup, hH, List.drop_left]
 have hport : portB (porL q).tail (ownZ q.sc) = true ∧ portV (porL q).tail (ownZ q.sc) = q.po := by
  rcases hpo with h | ⟨h, h', h''⟩
  ·have e : porL q = [] := by unfold porL; rw [if_neg (by omega)]
   rw [e, h]
   exact ⟨(portL_empty _).2, (portL_empty _).1⟩
  ·have e : (porL q).tail = dg q.po := by unfold porL; rw [if_pos h]; rfl
   have hp : portN 0 (dg q.po) = some q.po := by
    unfold dg
    rw [dd_port _ (by omega)]
    congr 1
    omega
   rw [e]
   have := portL_some (dg q.po) (ownZ q.sc) q.po (figs_dd _) (dg_ne _) hp h''
   exact ⟨this.2, this.1⟩
 have hwho : whereL (autL q) = H ∧ whoP p (autL q) = { p with us := q.us, pw := q.pw } := by
  by_cases h0 : q.us.data.toList = [] ∧ q.pw.data.toList = []
  ·have e : autL q = H := by
    unfold autL pwL atL'
    rw [if_pos h0.2, if_pos h0, h0.1, hH]; rfl
   rw [e]
   unfold whereL whoP
   rw [at_free H hfree]
   refine ⟨rfl, ?_⟩
   rw [text_none q.us h0.1, text_none q.pw h0.2]
   cases p; simp_all
  ·have e : autL q = (q.us.data.toList ++ pwL q) ++ 64 :: H := by
    unfold autL atL'
    rw [if_neg h0, hH]; simp
   rw [e]
   unfold whereL whoP
   rw [at_split _ H hfree]
   refine ⟨rfl, ?_⟩
   have hu : upL [58] (q.us.data.toList ++ pwL q) = q.us.data.toList := by
    refine up_tail _ _ _ (fun d hd => ?_) ?_
    ·have := (us_facts h1 d hd).2.1
     rw [among_one]; simpa using this
    ·unfold pwL; split
     ·exact .inl rfl
     ·exact .inr ⟨58, _, rfl, by decide⟩
   have hb : behind (q.us.data.toList ++ pwL q) = q.pw.data.toList := by
    unfold behind
    rw [hu, List.drop_left]
    unfold pwL; split
    ·rename_i e; rw [e]; rfl
    ·rfl
   show ({ p with us := wrT 4 (upL [58] (q.us.data.toList ++ pwL q)), pw := wrT 4 (behind (q.us.data.toList ++ pwL q)) } : P) = _
   rw [hu, hb, wr_same 4 _ h1 hlen.1, wr_same 4 _ h2 hlen.2]
 unfold autP autB autQ
 rw [hwho.1, hwho.2, hup, hbe, hsc, hport.1, hport.2, b1, b2, b3, b4]
 rfl
theorem main_len (q : P) : (tailL q).length ≤ (writL q).length ∧ (0 ≤ ownZ q.sc → (autL q).length ≤ (writL q).length ∧ (putL q.ps).length ≤ (writL q).length) ∧ (ownZ q.sc < 0 → q.op.data.toList.length ≤ (writL q).length) := by
 unfold writL mainL
 refine ⟨by simp; omega, fun h => ?_, fun h => ?_⟩
 ·rw [if_pos h]; simp; omega
 ·rw [if_neg (by omega)]; simp; omega
theorem nf_sch (q : P) (h : Nf q) (hl : (writL q).length ≤ 200) : schP P.zero (writL q) = some q := by
 obtain ⟨m1, m2, m3⟩ := main_len q
 have e1 : upL [58] (writL q) = q.sc.data.toList := by
  unfold writL
  refine up_hit _ _ _ 58 (fun d hd => ?_) (by decide)
  have := (schB_facts d (sch_bytes _ h.sch d hd)).2.2
  rw [among_one]; simpa using this
 have e2 : (writL q).drop q.sc.data.toList.length = 58 :: (mainL q ++ tailL q) := by unfold writL; rw [List.drop_left]; rfl
 have e3 : (writL q).drop (q.sc.data.toList.length + 1) = mainL q ++ tailL q := by rw [← List.drop_drop, e2]; rfl
 have e4 : low q.sc.data.toList = q.sc.data.toList := low_same _ (fun c hc => (schB_facts c (sch_bytes _ h.sch c hc)).1)
 unfold schP
 rw [e1, e2, e4, mk_list, e3, if_pos ⟨rfl, h.sch⟩]
 have hth : tailL q = [] ∨ ∃ c r, tailL q = c :: r ∧ among [63, 35] c = true := by
  rcases tail_head q with h | ⟨c, r, h, hc⟩
  ·exact .inl h
  ·exact .inr ⟨c, r, h, by rcases hc with rfl | rfl <;> decide⟩
 rcases h.main with ⟨h0, g1, g2, g3, g4, g5, g6, g7, hop, hno⟩ | ⟨h0, g1, hu, hw, hh, hp, hne, hfx⟩
 ·rw [if_neg (by omega)]
  have em : mainL q = q.op.data.toList := by unfold mainL; rw [if_neg (by omega)]
  have eu : upL [63, 35] (q.op.data.toList ++ tailL q) = q.op.data.toList := up_tail _ _ _ (fun d hd => among2 d (hno d hd).1 (hno d hd).2) hth
  rw [em]
  unfold opqP
  rw [eu, List.drop_left, wr_same 5 _ hop (by have := m3 h0; omega)]
  rw [tail_read _ q rfl rfl rfl rfl h.que h.frg (by omega)]
  congr 1
  cases q
  simp_all [P.zero]
 ·rw [if_pos h0]
  have em : mainL q = 47 :: 47 :: (autL q ++ putL q.ps) := by unfold mainL; rw [if_pos h0]; rfl
  have ha := aut_facts q hu hw hh
  have hane : autL q ≠ [] := by
   unfold autL
   intro e
   simp only [List.append_eq_nil_iff] at e
   exact (host_back _ _ _ hh).2.2.2.2.1 e.2.2.2.1
  have es : (mainL q ++ tailL q).dropWhile (among [47, 92]) = autL q ++ (putL q.ps ++ tailL q) := by
   rw [em]
   obtain ⟨c, r, hcr⟩ : ∃ c r, autL q = c :: r := by
    cases hx : autL q with
    | nil => exact absurd hx hane
    | cons c r => exact ⟨c, r, rfl⟩
   have hc := ha c (by rw [hcr]; exact List.mem_cons_self ..)
   rw [List.cons_append, List.cons_append, List.dropWhile_cons, if_pos (by decide), List.dropWhile_cons, if_pos (by decide), List.append_assoc, hcr, List.cons_append, List.dropWhile_cons, if_neg (by rw [amongS c hc.2.1 hc.2.2.1]; decide)]
  obtain ⟨p0, ps, hps⟩ : ∃ p0 ps, q.ps = p0 :: ps := by
   cases hx : q.ps with
   | nil => exact absurd hx hne
   | cons p0 ps => exact ⟨p0, ps, rfl⟩
  have eh : upL [47, 92, 63, 35] (autL q ++ (putL q.ps ++ tailL q)) = autL q := by
   refine up_tail _ _ _ (fun d hd => among4 d (ha d hd).2.1 (ha d hd).2.2.1 (ha d hd).2.2.2.1 (ha d hd).2.2.2.2) (.inr ⟨47, p0 ++ putL ps ++ tailL q, ?_, by decide⟩)
   rw [hps]; simp [putL]
  have ep : upL [63, 35] (putL q.ps ++ tailL q) = putL q.ps := up_tail _ _ _ (fun d hd => among2 d (put_facts q.ps hfx d hd).2.1 (put_facts q.ps hfx d hd).2.2) hth
  unfold slaP hosP
  rw [es, eh, List.drop_left]
  have har := aut_read ({ P.zero with sc := q.sc, po := -1 }) q rfl rfl rfl hu hw hh hp (by have := (m2 h0).1; omega)
  rw [har]
  show some (patP _ _) = _
  unfold patP
  rw [ep, List.drop_left, path_put q.ps hne hfx (by have := (m2 h0).2; omega)]
  rw [tail_read _ q rfl rfl rfl rfl h.que h.frg (by omega)]
  congr 1
  cases q
  simp_all [P.zero]
theorem nf_read (q : P) (h : Nf q) (hl : (writL q).length ≤ 200) (hp : q.ps.length ≤ 12) : getO (writL q) = some q := by
 unfold getO
 rw [if_pos hl, trim_vis _ (writ_vis q h), nf_sch q h hl]
 show (if q.ps.length ≤ 12 ∧ (writL q).length ≤ 600 then some q else none) = some q
 rw [if_pos ⟨hp, by omega⟩]
end Go.Proofs.YtnfhajhdpdidlaaGreatDoor
end
