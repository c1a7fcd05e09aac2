/- laws.toUrl: an address as the laws hand it in, copied. spec.OriginOf, impl.OriginOf: the origin of an address; laws.eqOrigin. An origin as a key of a map. An address without its end; three blocks for addresses. -/
import Derived.Test.YtfcbjdooijhibaaGreatDoorCFnExactOriginSame01
import Derived.Test.YtfcbjdooijhibaaGreatDoorB32
import Derived.Deep.Cut
import Derived.Test.YtfcbjdooijhibaaGreatDoorB38
import Derived.Test.YtfcbjdooijhibaaGreatDoorB09
import Derived.Maps.OwnOps
import Derived.Maps.Views
import Derived.WideKeyEntry
import Derived.DeepKeys4
import Derived.Test.YtfcbjdooijhibaaGreatDoorB37
set_option linter.unusedVariables false
set_option linter.unusedSimpArgs false
set_option maxHeartbeats 4000000
set_option maxRecDepth 100000
section
namespace Go.Proofs.YtfcbjdooijhibaaGreatDoor
open Go.RowKit Go.Shelf
theorem Part.own {g B : Nat} {ss : List (List UInt8)} {w : World} (h : Part g ss ss.length w) (hB : B ≤ g) (hl : ss.length ≤ 1000000000) : OwnS B (.slice (some ⟨g, 0, none⟩) ss.length ss.length) ss w := by
 obtain ⟨A, hg, hs, hc⟩ := h
 refine ⟨by simp, .inr ⟨g, ss.length, A, rfl, hB, hg, Nat.le_refl _, by unfold maxLen; omega, by omega, ?_⟩⟩
 apply List.ext_getElem?
 intro j
 rw [Nat.mul_one, List.getElem?_take]
 by_cases hj : j < ss.length
 ·rw [if_pos hj]
  have := hc j hj hj
  simp at this ⊢
  rw [this]; simp [hj]
 ·rw [if_neg hj]
  rw [List.getElem?_eq_none (by rw [List.length_map]; omega)]
theorem heap_other (w : World) (g j k : Nat) (x : Value) (h : k ≠ g) : (w.setCell ⟨g, j, none⟩ x).heap[k]? = w.heap[k]? := by
 simp [World.setCell, Array.getElem?_modify]
 intro e
 exact absurd e.symm h
theorem OwnS.other {B g n c k : Nat} {ps : List (List UInt8)} {w : World} (h : OwnS B (.slice (some ⟨g, 0, none⟩) n c) ps w) (hk : k < g) (j : Nat) (x : Value) : OwnS B (.slice (some ⟨g, 0, none⟩) n c) ps (w.setCell ⟨k, j, none⟩ x) := by
 refine ⟨h.1, ?_⟩
 rcases h.2 with ⟨h1, _⟩ | ⟨g', cap, cur, hv, hb, hg, rest⟩
 ·cases h1
 ·simp only [Value.slice.injEq, Option.some.injEq, Addr.mk.injEq, and_true, true_and] at hv
  obtain ⟨rfl, _, rfl⟩ := hv
  exact .inr ⟨g, c, cur, by simp_all, hb, (heap_other w k j g x (by omega)).trans hg, rest⟩
structure Tu (w : World) (q : P) (v : Value) (A : Array Value) (W : World) : Prop where
 make ::
 la : Blk w.heap.size (q.cells v) 37 W
 rs : Blk (w.heap.size + 1) zeroC 27 W
 ou : Blk (w.heap.size + 2) A 27 W
 bw : Below w.heap.size w W
theorem Tu.later {w W W' : World} {q : P} {v : Value} {A : Array Value} (h : Tu w q v A W) (b : Below W.heap.size W W') : Tu w q v A W' := ⟨h.la.below b h.la.lt, h.rs.below b h.rs.lt, h.ou.below b h.ou.lt, h.bw.trans (b.mono h.bw.size)⟩
theorem Tu.start (w : World) (q : P) (v : Value) (A : Array Value) : Tu w q v A (((w.alloc (.cells (q.cells v) 37)).alloc (.cells zeroC 27)).alloc (.cells A 27)) where
 la := ((Blk.new w _ _).alloc _).alloc _
 rs := by
  have := (Blk.new (w.alloc (.cells (q.cells v) 37)) zeroC 27).alloc (.cells A 27)
  rw [show (w.alloc (Obj.cells (q.cells v) 37)).heap.size = w.heap.size + 1 by simp] at this
  exact this
 ou := by
  have := Blk.new ((w.alloc (.cells (q.cells v) 37)).alloc (.cells zeroC 27)) A 27
  rw [show ((w.alloc (Obj.cells (q.cells v) 37)).alloc (Obj.cells zeroC 27)).heap.size = w.heap.size + 2 by simp] at this
  exact this
 bw := below3 w _ _ _
theorem Tu.set {w W : World} {q : P} {v : Value} {A : Array Value} (h : Tu w q v A W) (j : Nat) (x : Value) : Tu w q v (A.setIfInBounds j x) (W.setCell ⟨w.heap.size + 2, j, none⟩ x) where
 la := (heap_other W (w.heap.size + 2) j w.heap.size x (by omega)).trans h.la
 rs := (heap_other W (w.heap.size + 2) j (w.heap.size + 1) x (by omega)).trans h.rs
 ou := Blk.set h.ou j x
 bw := h.bw.setCell (p := ⟨w.heap.size + 2, j, none⟩) (by simp) _
theorem toUrl (q : P) (a : Option Addr) (n c : Nat) (w : World) (hS : StrsOf a n q.ps w) (hl : n ≤ 1048576) :
  Calls Tryz.prog 18 #[.agg (q.cells (.slice a n c))] w fun e w' => ∃ g, e = .returned (.agg (q.cells (.slice (some ⟨g, 0, none⟩) n n))) ∧ OwnS w.heap.size (.slice (some ⟨g, 0, none⟩) n n) q.ps w' ∧ Below w.heap.size w w' := by
 have CH : Hid (∀ W, Calls Tryz.prog 43 #[.agg #[.int .i64 q.hk, .string q.hn, .int .i64 q.ha]] W fun e w' => e = .returned (.agg #[.int .i64 q.hk, .string q.hn, .int .i64 q.ha]) ∧ Below W.heap.size W w') := fun W => toHost _ _ _ W
 have CS : Hid (∀ W, Below w.heap.size w W → Calls Tryz.prog 44 #[.slice a n c] W fun e w' => ∃ g, W.heap.size ≤ g ∧ e = .returned (.slice (some ⟨g, 0, none⟩) n n) ∧ OwnS w.heap.size (.slice (some ⟨g, 0, none⟩) n n) q.ps w' ∧ Below W.heap.size W w') := fun W b => by
  have hn : n = q.ps.length := hS.1
  refine (toStringP a n c q.ps W (hS.later b) (by omega)).mono fun e w' ⟨he, hp, hb⟩ => ⟨W.heap.size, Nat.le_refl _, he, ?_, hb⟩
  rw [hn]; exact hp.own b.size (by omega)
 have H0 : Hid (Tu w q (.slice a n c) #[(.string q.sc), (.string q.us), (.string q.pw), (.int .i64 0), (.string ⟨#[]⟩), (.int .i64 0), (.int .i64 0), (.slice none 0 0), (.string ⟨#[]⟩), (.bool false), (.string ⟨#[]⟩), (.bool false), (.string ⟨#[]⟩)] (((w.alloc (.cells (q.cells (.slice a n c)) 37)).alloc (.cells zeroC 27)).alloc (.cells #[(.string q.sc), (.string q.us), (.string q.pw), (.int .i64 0), (.string ⟨#[]⟩), (.int .i64 0), (.int .i64 0), (.slice none 0 0), (.string ⟨#[]⟩), (.bool false), (.string ⟨#[]⟩), (.bool false), (.string ⟨#[]⟩)] 27))) := Tu.start w q _ _
 clear hS hl
 unfold P.cells zeroC at H0
 unfold P.cells
 go_enter Tryz.func18, Tryz.ntmps18
 go_wp2_with fail
 refine (CH.out _).mono ?_
 rintro e W1 ⟨rfl, d1⟩
 have HX1 : Hid (Tu w q (.slice a n c) #[(.string q.sc), (.string q.us), (.string q.pw), (.int .i64 0), (.string ⟨#[]⟩), (.int .i64 0), (.int .i64 0), (.slice none 0 0), (.string ⟨#[]⟩), (.bool false), (.string ⟨#[]⟩), (.bool false), (.string ⟨#[]⟩)] W1) := H0.out.later d1
 clear d1 H0 CH
 have HX2 : Hid (Tu w q (.slice a n c) #[(.string q.sc), (.string q.us), (.string q.pw), (.int .i64 q.hk), (.string q.hn), (.int .i64 q.ha), (.int .i64 q.po), (.slice none 0 0), (.string ⟨#[]⟩), (.bool false), (.string ⟨#[]⟩), (.bool false), (.string ⟨#[]⟩)] ((((W1.setCell ⟨w.heap.size + 2, 3, none⟩ (.int .i64 q.hk)).setCell ⟨w.heap.size + 2, 4, none⟩ (.string q.hn)).setCell ⟨w.heap.size + 2, 5, none⟩ (.int .i64 q.ha)).setCell ⟨w.heap.size + 2, 6, none⟩ (.int .i64 q.po))) := by
  have := (((HX1.out.set 3 (.int .i64 q.hk)).set 4 (.string q.hn)).set 5 (.int .i64 q.ha)).set 6 (.int .i64 q.po)
  show Tu _ _ _ _ _
  simpa using this
 have la0 : W1.cell? ⟨w.heap.size, 0, none⟩ = some (.string q.sc) := HX1.out.la.cell 0
 have la1 : W1.cell? ⟨w.heap.size, 1, none⟩ = some (.string q.us) := HX1.out.la.cell 1
 have la2 : W1.cell? ⟨w.heap.size, 2, none⟩ = some (.string q.pw) := HX1.out.la.cell 2
 have la3 : W1.cell? ⟨w.heap.size, 3, none⟩ = some (.int .i64 q.hk) := HX1.out.la.cell 3
 have la4 : W1.cell? ⟨w.heap.size, 4, none⟩ = some (.string q.hn) := HX1.out.la.cell 4
 have la5 : W1.cell? ⟨w.heap.size, 5, none⟩ = some (.int .i64 q.ha) := HX1.out.la.cell 5
 have la6 : W1.cell? ⟨w.heap.size, 6, none⟩ = some (.int .i64 q.po) := HX1.out.la.cell 6
 have la7 : W1.cell? ⟨w.heap.size, 7, none⟩ = some (.slice a n c) := HX1.out.la.cell 7
 have la8 : W1.cell? ⟨w.heap.size, 8, none⟩ = some (.string q.op) := HX1.out.la.cell 8
 have la9 : W1.cell? ⟨w.heap.size, 9, none⟩ = some (.bool q.hq) := HX1.out.la.cell 9
 have la10 : W1.cell? ⟨w.heap.size, 10, none⟩ = some (.string q.qu) := HX1.out.la.cell 10
 have la11 : W1.cell? ⟨w.heap.size, 11, none⟩ = some (.bool q.hf) := HX1.out.la.cell 11
 have la12 : W1.cell? ⟨w.heap.size, 12, none⟩ = some (.string q.fr) := HX1.out.la.cell 12
 have ou0 : W1.cell? ⟨w.heap.size + 2, 0, none⟩ = some (.string q.sc) := HX1.out.ou.cell 0
 have ou1 : W1.cell? ⟨w.heap.size + 2, 1, none⟩ = some (.string q.us) := HX1.out.ou.cell 1
 have ou2 : W1.cell? ⟨w.heap.size + 2, 2, none⟩ = some (.string q.pw) := HX1.out.ou.cell 2
 have ou3 : W1.cell? ⟨w.heap.size + 2, 3, none⟩ = some (.int .i64 0) := HX1.out.ou.cell 3
 have ou4 : W1.cell? ⟨w.heap.size + 2, 4, none⟩ = some (.string ⟨#[]⟩) := HX1.out.ou.cell 4
 have ou5 : W1.cell? ⟨w.heap.size + 2, 5, none⟩ = some (.int .i64 0) := HX1.out.ou.cell 5
 have ou6 : W1.cell? ⟨w.heap.size + 2, 6, none⟩ = some (.int .i64 0) := HX1.out.ou.cell 6
 have ou7 : W1.cell? ⟨w.heap.size + 2, 7, none⟩ = some (.slice none 0 0) := HX1.out.ou.cell 7
 have ou8 : W1.cell? ⟨w.heap.size + 2, 8, none⟩ = some (.string ⟨#[]⟩) := HX1.out.ou.cell 8
 have ou9 : W1.cell? ⟨w.heap.size + 2, 9, none⟩ = some (.bool false) := HX1.out.ou.cell 9
 have ou10 : W1.cell? ⟨w.heap.size + 2, 10, none⟩ = some (.string ⟨#[]⟩) := HX1.out.ou.cell 10
 have ou11 : W1.cell? ⟨w.heap.size + 2, 11, none⟩ = some (.bool false) := HX1.out.ou.cell 11
 have ou12 : W1.cell? ⟨w.heap.size + 2, 12, none⟩ = some (.string ⟨#[]⟩) := HX1.out.ou.cell 12
 have fo0 := HX1.out.ou.free 0
 have fo1 := HX1.out.ou.free 1
 have fo2 := HX1.out.ou.free 2
 have fo3 := HX1.out.ou.free 3
 have fo4 := HX1.out.ou.free 4
 have fo5 := HX1.out.ou.free 5
 have fo6 := HX1.out.ou.free 6
 have fo7 := HX1.out.ou.free 7
 have fo8 := HX1.out.ou.free 8
 have fo9 := HX1.out.ou.free 9
 have fo10 := HX1.out.ou.free 10
 have fo11 := HX1.out.ou.free 11
 have fo12 := HX1.out.ou.free 12
 have s1 : w.heap.size + 2 < W1.heap.size := HX1.out.ou.lt
 clear HX1
 have HZ : Hid (((((W1.setCell ⟨w.heap.size + 2, 3, none⟩ (.int .i64 q.hk)).setCell ⟨w.heap.size + 2, 4, none⟩ (.string q.hn)).setCell ⟨w.heap.size + 2, 5, none⟩ (.int .i64 q.ha)).setCell ⟨w.heap.size + 2, 6, none⟩ (.int .i64 q.po)).heap.size = W1.heap.size) := by show _ = _; simp
 go_wp2_with fail
 refine (CS.out _ HX2.out.bw).mono ?_
 rintro e W3 ⟨g, hg, rfl, o3, d3⟩
 have hg2 : w.heap.size + 2 < g := by
  have h1 : W1.heap.size ≤ g := by rw [← HZ.out]; exact hg
  omega
 have HX3 : Hid (Tu w q (.slice a n c) #[(.string q.sc), (.string q.us), (.string q.pw), (.int .i64 q.hk), (.string q.hn), (.int .i64 q.ha), (.int .i64 q.po), (.slice none 0 0), (.string ⟨#[]⟩), (.bool false), (.string ⟨#[]⟩), (.bool false), (.string ⟨#[]⟩)] W3) := HX2.out.later d3
 have HO3 : Hid (OwnS w.heap.size (.slice (some ⟨g, 0, none⟩) n n) q.ps W3) := o3
 clear o3 d3 HX2 HZ hg CS s1 la0 ou0 fo0 la1 ou1 fo1 la2 ou2 fo2 la3 ou3 fo3 la4 ou4 fo4 la5 ou5 fo5 la6 ou6 fo6 la7 ou7 fo7 la8 ou8 fo8 la9 ou9 fo9 la10 ou10 fo10 la11 ou11 fo11 la12 ou12 fo12
 have la0 : W3.cell? ⟨w.heap.size, 0, none⟩ = some (.string q.sc) := HX3.out.la.cell 0
 have la1 : W3.cell? ⟨w.heap.size, 1, none⟩ = some (.string q.us) := HX3.out.la.cell 1
 have la2 : W3.cell? ⟨w.heap.size, 2, none⟩ = some (.string q.pw) := HX3.out.la.cell 2
 have la3 : W3.cell? ⟨w.heap.size, 3, none⟩ = some (.int .i64 q.hk) := HX3.out.la.cell 3
 have la4 : W3.cell? ⟨w.heap.size, 4, none⟩ = some (.string q.hn) := HX3.out.la.cell 4
 have la5 : W3.cell? ⟨w.heap.size, 5, none⟩ = some (.int .i64 q.ha) := HX3.out.la.cell 5
 have la6 : W3.cell? ⟨w.heap.size, 6, none⟩ = some (.int .i64 q.po) := HX3.out.la.cell 6
 have la7 : W3.cell? ⟨w.heap.size, 7, none⟩ = some (.slice a n c) := HX3.out.la.cell 7
 have la8 : W3.cell? ⟨w.heap.size, 8, none⟩ = some (.string q.op) := HX3.out.la.cell 8
 have la9 : W3.cell? ⟨w.heap.size, 9, none⟩ = some (.bool q.hq) := HX3.out.la.cell 9
 have la10 : W3.cell? ⟨w.heap.size, 10, none⟩ = some (.string q.qu) := HX3.out.la.cell 10
 have la11 : W3.cell? ⟨w.heap.size, 11, none⟩ = some (.bool q.hf) := HX3.out.la.cell 11
 have la12 : W3.cell? ⟨w.heap.size, 12, none⟩ = some (.string q.fr) := HX3.out.la.cell 12
 have fo0 := HX3.out.ou.free 0
 have fo1 := HX3.out.ou.free 1
 have fo2 := HX3.out.ou.free 2
 have fo3 := HX3.out.ou.free 3
 have fo4 := HX3.out.ou.free 4
 have fo5 := HX3.out.ou.free 5
 have fo6 := HX3.out.ou.free 6
 have fo7 := HX3.out.ou.free 7
 have fo8 := HX3.out.ou.free 8
 have fo9 := HX3.out.ou.free 9
 have fo10 := HX3.out.ou.free 10
 have fo11 := HX3.out.ou.free 11
 have fo12 := HX3.out.ou.free 12
 have ou0 : W3.cell? ⟨w.heap.size + 2, 0, none⟩ = some (.string q.sc) := HX3.out.ou.cell 0
 have ou1 : W3.cell? ⟨w.heap.size + 2, 1, none⟩ = some (.string q.us) := HX3.out.ou.cell 1
 have ou2 : W3.cell? ⟨w.heap.size + 2, 2, none⟩ = some (.string q.pw) := HX3.out.ou.cell 2
 have ou3 : W3.cell? ⟨w.heap.size + 2, 3, none⟩ = some (.int .i64 q.hk) := HX3.out.ou.cell 3
 have ou4 : W3.cell? ⟨w.heap.size + 2, 4, none⟩ = some (.string q.hn) := HX3.out.ou.cell 4
 have ou5 : W3.cell? ⟨w.heap.size + 2, 5, none⟩ = some (.int .i64 q.ha) := HX3.out.ou.cell 5
 have ou6 : W3.cell? ⟨w.heap.size + 2, 6, none⟩ = some (.int .i64 q.po) := HX3.out.ou.cell 6
 have ou7 : W3.cell? ⟨w.heap.size + 2, 7, none⟩ = some (.slice none 0 0) := HX3.out.ou.cell 7
 have ou8 : W3.cell? ⟨w.heap.size + 2, 8, none⟩ = some (.string ⟨#[]⟩) := HX3.out.ou.cell 8
 have ou9 : W3.cell? ⟨w.heap.size + 2, 9, none⟩ = some (.bool false) := HX3.out.ou.cell 9
 have ou10 : W3.cell? ⟨w.heap.size + 2, 10, none⟩ = some (.string ⟨#[]⟩) := HX3.out.ou.cell 10
 have ou11 : W3.cell? ⟨w.heap.size + 2, 11, none⟩ = some (.bool false) := HX3.out.ou.cell 11
 have ou12 : W3.cell? ⟨w.heap.size + 2, 12, none⟩ = some (.string ⟨#[]⟩) := HX3.out.ou.cell 12
 have rs0 : W3.cell? ⟨w.heap.size + 1, 0, none⟩ = some (.string ⟨#[]⟩) := HX3.out.rs.cell 0
 have rs1 : W3.cell? ⟨w.heap.size + 1, 1, none⟩ = some (.string ⟨#[]⟩) := HX3.out.rs.cell 1
 have rs2 : W3.cell? ⟨w.heap.size + 1, 2, none⟩ = some (.string ⟨#[]⟩) := HX3.out.rs.cell 2
 have rs3 : W3.cell? ⟨w.heap.size + 1, 3, none⟩ = some (.int .i64 0) := HX3.out.rs.cell 3
 have rs4 : W3.cell? ⟨w.heap.size + 1, 4, none⟩ = some (.string ⟨#[]⟩) := HX3.out.rs.cell 4
 have rs5 : W3.cell? ⟨w.heap.size + 1, 5, none⟩ = some (.int .i64 0) := HX3.out.rs.cell 5
 have rs6 : W3.cell? ⟨w.heap.size + 1, 6, none⟩ = some (.int .i64 0) := HX3.out.rs.cell 6
 have rs7 : W3.cell? ⟨w.heap.size + 1, 7, none⟩ = some (.slice none 0 0) := HX3.out.rs.cell 7
 have rs8 : W3.cell? ⟨w.heap.size + 1, 8, none⟩ = some (.string ⟨#[]⟩) := HX3.out.rs.cell 8
 have rs9 : W3.cell? ⟨w.heap.size + 1, 9, none⟩ = some (.bool false) := HX3.out.rs.cell 9
 have rs10 : W3.cell? ⟨w.heap.size + 1, 10, none⟩ = some (.string ⟨#[]⟩) := HX3.out.rs.cell 10
 have rs11 : W3.cell? ⟨w.heap.size + 1, 11, none⟩ = some (.bool false) := HX3.out.rs.cell 11
 have rs12 : W3.cell? ⟨w.heap.size + 1, 12, none⟩ = some (.string ⟨#[]⟩) := HX3.out.rs.cell 12
 have fr0 := HX3.out.rs.free 0
 have fr1 := HX3.out.rs.free 1
 have fr2 := HX3.out.rs.free 2
 have fr3 := HX3.out.rs.free 3
 have fr4 := HX3.out.rs.free 4
 have fr5 := HX3.out.rs.free 5
 have fr6 := HX3.out.rs.free 6
 have fr7 := HX3.out.rs.free 7
 have fr8 := HX3.out.rs.free 8
 have fr9 := HX3.out.rs.free 9
 have fr10 := HX3.out.rs.free 10
 have fr11 := HX3.out.rs.free 11
 have fr12 := HX3.out.rs.free 12
 have s3 : w.heap.size + 2 < W3.heap.size := HX3.out.ou.lt
 go_upto_region 13 with fail
 have HX4 : Hid (Tu w q (.slice a n c) #[(.string q.sc), (.string q.us), (.string q.pw), (.int .i64 q.hk), (.string q.hn), (.int .i64 q.ha), (.int .i64 q.po), (.slice (some ⟨g, 0, none⟩) n n), (.string q.op), (.bool q.hq), (.string q.qu), (.bool q.hf), (.string q.fr)] ((((((W3.setCell ⟨w.heap.size + 2, 7, none⟩ (.slice (some ⟨g, 0, none⟩) n n)).setCell ⟨w.heap.size + 2, 8, none⟩ (.string q.op)).setCell ⟨w.heap.size + 2, 9, none⟩ (.bool q.hq)).setCell ⟨w.heap.size + 2, 10, none⟩ (.string q.qu)).setCell ⟨w.heap.size + 2, 11, none⟩ (.bool q.hf)).setCell ⟨w.heap.size + 2, 12, none⟩ (.string q.fr))) := by
  have := (((((HX3.out.set 7 (.slice (some ⟨g, 0, none⟩) n n)).set 8 (.string q.op)).set 9 (.bool q.hq)).set 10 (.string q.qu)).set 11 (.bool q.hf)).set 12 (.string q.fr)
  show Tu _ _ _ _ _
  simpa using this
 have HO4 : Hid (OwnS w.heap.size (.slice (some ⟨g, 0, none⟩) n n) q.ps ((((((W3.setCell ⟨w.heap.size + 2, 7, none⟩ (.slice (some ⟨g, 0, none⟩) n n)).setCell ⟨w.heap.size + 2, 8, none⟩ (.string q.op)).setCell ⟨w.heap.size + 2, 9, none⟩ (.bool q.hq)).setCell ⟨w.heap.size + 2, 10, none⟩ (.string q.qu)).setCell ⟨w.heap.size + 2, 11, none⟩ (.bool q.hf)).setCell ⟨w.heap.size + 2, 12, none⟩ (.string q.fr))) := by
  show OwnS _ _ _ _
  exact (((((HO3.out.other hg2 7 _).other hg2 8 _).other hg2 9 _).other hg2 10 _).other hg2 11 _).other hg2 12 _
 clear HX3 HO3 s3 la0 ou0 fo0 rs0 fr0 la1 ou1 fo1 rs1 fr1 la2 ou2 fo2 rs2 fr2 la3 ou3 fo3 rs3 fr3 la4 ou4 fo4 rs4 fr4 la5 ou5 fo5 rs5 fr5 la6 ou6 fo6 rs6 fr6 la7 ou7 fo7 rs7 fr7 la8 ou8 fo8 rs8 fr8 la9 ou9 fo9 rs9 fr9 la10 ou10 fo10 rs10 fr10 la11 ou11 fo11 rs11 fr11 la12 ou12 fo12 rs12 fr12
 obtain ⟨W4, hW4⟩ : ∃ W, W = ((((((W3.setCell ⟨w.heap.size + 1 + 1, 7, none⟩ (.slice (some ⟨g, 0, none⟩) n n)).setCell ⟨w.heap.size + 1 + 1, 8, none⟩ (.string q.op)).setCell ⟨w.heap.size + 1 + 1, 9, none⟩ (.bool q.hq)).setCell ⟨w.heap.size + 1 + 1, 10, none⟩ (.string q.qu)).setCell ⟨w.heap.size + 1 + 1, 11, none⟩ (.bool q.hf)).setCell ⟨w.heap.size + 1 + 1, 12, none⟩ (.string q.fr)) := ⟨_, rfl⟩
 have HY4 : Hid (Tu w q (.slice a n c) #[(.string q.sc), (.string q.us), (.string q.pw), (.int .i64 q.hk), (.string q.hn), (.int .i64 q.ha), (.int .i64 q.po), (.slice (some ⟨g, 0, none⟩) n n), (.string q.op), (.bool q.hq), (.string q.qu), (.bool q.hf), (.string q.fr)] W4) := by rw [hW4]; exact HX4.out
 have HP4 : Hid (OwnS w.heap.size (.slice (some ⟨g, 0, none⟩) n n) q.ps W4) := by rw [hW4]; exact HO4.out
 rw [← hW4]
 clear HX4 HO4 hW4
 have ou0 : W4.cell? ⟨w.heap.size + 1 + 1, 0, none⟩ = some (.string q.sc) := HY4.out.ou.cell 0
 have ou1 : W4.cell? ⟨w.heap.size + 1 + 1, 1, none⟩ = some (.string q.us) := HY4.out.ou.cell 1
 have ou2 : W4.cell? ⟨w.heap.size + 1 + 1, 2, none⟩ = some (.string q.pw) := HY4.out.ou.cell 2
 have ou3 : W4.cell? ⟨w.heap.size + 1 + 1, 3, none⟩ = some (.int .i64 q.hk) := HY4.out.ou.cell 3
 have ou4 : W4.cell? ⟨w.heap.size + 1 + 1, 4, none⟩ = some (.string q.hn) := HY4.out.ou.cell 4
 have ou5 : W4.cell? ⟨w.heap.size + 1 + 1, 5, none⟩ = some (.int .i64 q.ha) := HY4.out.ou.cell 5
 have ou6 : W4.cell? ⟨w.heap.size + 1 + 1, 6, none⟩ = some (.int .i64 q.po) := HY4.out.ou.cell 6
 have ou7 : W4.cell? ⟨w.heap.size + 1 + 1, 7, none⟩ = some (.slice (some ⟨g, 0, none⟩) n n) := HY4.out.ou.cell 7
 have ou8 : W4.cell? ⟨w.heap.size + 1 + 1, 8, none⟩ = some (.string q.op) := HY4.out.ou.cell 8
 have ou9 : W4.cell? ⟨w.heap.size + 1 + 1, 9, none⟩ = some (.bool q.hq) := HY4.out.ou.cell 9
 have ou10 : W4.cell? ⟨w.heap.size + 1 + 1, 10, none⟩ = some (.string q.qu) := HY4.out.ou.cell 10
 have ou11 : W4.cell? ⟨w.heap.size + 1 + 1, 11, none⟩ = some (.bool q.hf) := HY4.out.ou.cell 11
 have ou12 : W4.cell? ⟨w.heap.size + 1 + 1, 12, none⟩ = some (.string q.fr) := HY4.out.ou.cell 12
 have rs0 : W4.cell? ⟨w.heap.size + 1, 0, none⟩ = some (.string ⟨#[]⟩) := HY4.out.rs.cell 0
 have rs1 : W4.cell? ⟨w.heap.size + 1, 1, none⟩ = some (.string ⟨#[]⟩) := HY4.out.rs.cell 1
 have rs2 : W4.cell? ⟨w.heap.size + 1, 2, none⟩ = some (.string ⟨#[]⟩) := HY4.out.rs.cell 2
 have rs3 : W4.cell? ⟨w.heap.size + 1, 3, none⟩ = some (.int .i64 0) := HY4.out.rs.cell 3
 have rs4 : W4.cell? ⟨w.heap.size + 1, 4, none⟩ = some (.string ⟨#[]⟩) := HY4.out.rs.cell 4
 have rs5 : W4.cell? ⟨w.heap.size + 1, 5, none⟩ = some (.int .i64 0) := HY4.out.rs.cell 5
 have rs6 : W4.cell? ⟨w.heap.size + 1, 6, none⟩ = some (.int .i64 0) := HY4.out.rs.cell 6
 have rs7 : W4.cell? ⟨w.heap.size + 1, 7, none⟩ = some (.slice none 0 0) := HY4.out.rs.cell 7
 have rs8 : W4.cell? ⟨w.heap.size + 1, 8, none⟩ = some (.string ⟨#[]⟩) := HY4.out.rs.cell 8
 have rs9 : W4.cell? ⟨w.heap.size + 1, 9, none⟩ = some (.bool false) := HY4.out.rs.cell 9
 have rs10 : W4.cell? ⟨w.heap.size + 1, 10, none⟩ = some (.string ⟨#[]⟩) := HY4.out.rs.cell 10
 have rs11 : W4.cell? ⟨w.heap.size + 1, 11, none⟩ = some (.bool false) := HY4.out.rs.cell 11
 have rs12 : W4.cell? ⟨w.heap.size + 1, 12, none⟩ = some (.string ⟨#[]⟩) := HY4.out.rs.cell 12
 have fr0 := HY4.out.rs.free 0
 have fr1 := HY4.out.rs.free 1
 have fr2 := HY4.out.rs.free 2
 have fr3 := HY4.out.rs.free 3
 have fr4 := HY4.out.rs.free 4
 have fr5 := HY4.out.rs.free 5
 have fr6 := HY4.out.rs.free 6
 have fr7 := HY4.out.rs.free 7
 have fr8 := HY4.out.rs.free 8
 have fr9 := HY4.out.rs.free 9
 have fr10 := HY4.out.rs.free 10
 have fr11 := HY4.out.rs.free 11
 have fr12 := HY4.out.rs.free 12
 have HFIN : Hid (OwnS w.heap.size (.slice (some ⟨g, 0, none⟩) n n) q.ps (((((((((((((W4.setCell ⟨w.heap.size + 1, 0, none⟩ (.string q.sc)).setCell ⟨w.heap.size + 1, 1, none⟩ (.string q.us)).setCell ⟨w.heap.size + 1, 2, none⟩ (.string q.pw)).setCell ⟨w.heap.size + 1, 3, none⟩ (.int .i64 q.hk)).setCell ⟨w.heap.size + 1, 4, none⟩ (.string q.hn)).setCell ⟨w.heap.size + 1, 5, none⟩ (.int .i64 q.ha)).setCell ⟨w.heap.size + 1, 6, none⟩ (.int .i64 q.po)).setCell ⟨w.heap.size + 1, 7, none⟩ (.slice (some ⟨g, 0, none⟩) n n)).setCell ⟨w.heap.size + 1, 8, none⟩ (.string q.op)).setCell ⟨w.heap.size + 1, 9, none⟩ (.bool q.hq)).setCell ⟨w.heap.size + 1, 10, none⟩ (.string q.qu)).setCell ⟨w.heap.size + 1, 11, none⟩ (.bool q.hf)).setCell ⟨w.heap.size + 1, 12, none⟩ (.string q.fr)) ∧ Below w.heap.size w (((((((((((((W4.setCell ⟨w.heap.size + 1, 0, none⟩ (.string q.sc)).setCell ⟨w.heap.size + 1, 1, none⟩ (.string q.us)).setCell ⟨w.heap.size + 1, 2, none⟩ (.string q.pw)).setCell ⟨w.heap.size + 1, 3, none⟩ (.int .i64 q.hk)).setCell ⟨w.heap.size + 1, 4, none⟩ (.string q.hn)).setCell ⟨w.heap.size + 1, 5, none⟩ (.int .i64 q.ha)).setCell ⟨w.heap.size + 1, 6, none⟩ (.int .i64 q.po)).setCell ⟨w.heap.size + 1, 7, none⟩ (.slice (some ⟨g, 0, none⟩) n n)).setCell ⟨w.heap.size + 1, 8, none⟩ (.string q.op)).setCell ⟨w.heap.size + 1, 9, none⟩ (.bool q.hq)).setCell ⟨w.heap.size + 1, 10, none⟩ (.string q.qu)).setCell ⟨w.heap.size + 1, 11, none⟩ (.bool q.hf)).setCell ⟨w.heap.size + 1, 12, none⟩ (.string q.fr))) := by
  have h1 : w.heap.size + 1 < g := by omega
  exact ⟨((((((((((((HP4.out.other h1 0 _).other h1 1 _).other h1 2 _).other h1 3 _).other h1 4 _).other h1 5 _).other h1 6 _).other h1 7 _).other h1 8 _).other h1 9 _).other h1 10 _).other h1 11 _).other h1 12 _, below_put13 HY4.out.bw (by omega) _ _ _ _ _ _ _ _ _ _ _ _ _⟩
 clear HY4 HP4
 go_wp2
 refine bodyPost_ret (v := .agg #[(.string q.sc), (.string q.us), (.string q.pw), (.int .i64 q.hk), (.string q.hn), (.int .i64 q.ha), (.int .i64 q.po), (.slice (some ⟨g, 0, none⟩) n n), (.string q.op), (.bool q.hq), (.string q.qu), (.bool q.hf), (.string q.fr)]) (by simp [results, Tryz.results18, go_sem, rs0, rs1, rs2, rs3, rs4, rs5, rs6, rs7, rs8, rs9, rs10, rs11, rs12]) rfl ⟨g, rfl, HFIN.out⟩
end Go.Proofs.YtfcbjdooijhibaaGreatDoor
end
section
namespace Go.Proofs.YtfcbjdooijhibaaGreatDoor
open Go.RowKit Go.Shelf
def orgV (q : P) : Array Value := if ownZ q.sc < 0 then #[.string ⟨#[]⟩, .int .i64 0, .string ⟨#[]⟩, .int .i64 0, .int .i64 0] else #[.string q.sc, .int .i64 q.hk, .string q.hn, .int .i64 q.ha, .int .i64 (if q.po < 0 then ownZ q.sc else q.po)]
def orgB (b : Bool) (q : P) : Array Value := if b = true then orgV q else #[.string ⟨#[]⟩, .int .i64 0, .string ⟨#[]⟩, .int .i64 0, .int .i64 0]
structure To (w : World) (A C : Array Value) (W : World) : Prop where
 make ::
 b1 : Blk w.heap.size A 27 W
 b2 : Blk (w.heap.size + 1) C 40 W
 bw : Below w.heap.size w W
theorem To.start (w : World) (A C : Array Value) : To w A C ((w.alloc (.cells A 27)).alloc (.cells C 40)) where
 b1 := Blk.alloc (Blk.new w _ _) _
 b2 := by
  have := Blk.new (w.alloc (.cells A 27)) C 40
  rw [show (w.alloc (Obj.cells A 27)).heap.size = w.heap.size + 1 by simp] at this
  exact this
 bw := ((Below.refl _ w).alloc (Nat.le_refl _) _).alloc (by simp) _
theorem To.later {w W W' : World} {A C : Array Value} (h : To w A C W) (b : Below W.heap.size W W') : To w A C W' := ⟨h.b1.below b h.b1.lt, h.b2.below b h.b2.lt, h.bw.trans (b.mono h.bw.size)⟩
theorem Blk.cells5 {g : Nat} {x0 x1 x2 x3 x4 : Value} {t : TypeId} {W : World} (h : Blk g #[x0, x1, x2, x3, x4] t W) :
  W.cell? ⟨g, 0, none⟩ = some x0 ∧ W.cell? ⟨g, 1, none⟩ = some x1 ∧ W.cell? ⟨g, 2, none⟩ = some x2 ∧ W.cell? ⟨g, 3, none⟩ = some x3 ∧ W.cell? ⟨g, 4, none⟩ = some x4 := ⟨h.cell 0, h.cell 1, h.cell 2, h.cell 3, h.cell 4⟩
theorem below_put5 {B g : Nat} {w W : World} (b : Below B w W) (hB : B ≤ g) (v0 v1 v2 v3 v4 : Value) : Below B w (((((W.setCell ⟨g, 0, none⟩ v0).setCell ⟨g, 1, none⟩ v1).setCell ⟨g, 2, none⟩ v2).setCell ⟨g, 3, none⟩ v3).setCell ⟨g, 4, none⟩ v4) :=
 ((((b.setCell (p := ⟨g, 0, none⟩) hB v0).setCell (p := ⟨g, 1, none⟩) hB v1).setCell (p := ⟨g, 2, none⟩) hB v2).setCell (p := ⟨g, 3, none⟩) hB v3).setCell (p := ⟨g, 4, none⟩) hB v4
theorem blk_put5 {k g : Nat} {A : Array Value} {t : TypeId} {W : World} (h : Blk k A t W) (hk : k ≠ g) (v0 v1 v2 v3 v4 : Value) : Blk k A t (((((W.setCell ⟨g, 0, none⟩ v0).setCell ⟨g, 1, none⟩ v1).setCell ⟨g, 2, none⟩ v2).setCell ⟨g, 3, none⟩ v3).setCell ⟨g, 4, none⟩ v4) :=
 ((((h.other g 0 v0 hk).other g 1 v1 hk).other g 2 v2 hk).other g 3 v3 hk).other g 4 v4 hk
def Sc (g : Nat) (q : P) (a : Option Addr) (n c : Nat) (W : World) : Prop := W.cell? ⟨g, 0, none⟩ = some (.string q.sc) ∧ W.cell? ⟨g, 1, none⟩ = some (.string q.us) ∧ W.cell? ⟨g, 2, none⟩ = some (.string q.pw) ∧ W.cell? ⟨g, 3, none⟩ = some (.int .i64 q.hk) ∧ W.cell? ⟨g, 4, none⟩ = some (.string q.hn) ∧ W.cell? ⟨g, 5, none⟩ = some (.int .i64 q.ha) ∧ W.cell? ⟨g, 6, none⟩ = some (.int .i64 q.po) ∧ W.cell? ⟨g, 7, none⟩ = some (.slice a n c) ∧ W.cell? ⟨g, 8, none⟩ = some (.string q.op) ∧ W.cell? ⟨g, 9, none⟩ = some (.bool q.hq) ∧ W.cell? ⟨g, 10, none⟩ = some (.string q.qu) ∧ W.cell? ⟨g, 11, none⟩ = some (.bool q.hf) ∧ W.cell? ⟨g, 12, none⟩ = some (.string q.fr)
theorem Sc.of {g n c : Nat} {q : P} {a : Option Addr} {W : World} {t : TypeId} (h : Blk g #[(.string q.sc), (.string q.us), (.string q.pw), (.int .i64 q.hk), (.string q.hn), (.int .i64 q.ha), (.int .i64 q.po), (.slice a n c), (.string q.op), (.bool q.hq), (.string q.qu), (.bool q.hf), (.string q.fr)] t W) : Sc g q a n c W := Blk.cells13a h
theorem tk {P : Program} {ops : Array Oper} {Q : Exit → Act → World → Prop} {md : Region.Mode} {S : World → Prop} (i : Nat) {oi : Oper} {v : Value} {fuel : Nat} {listed : Array Bool} {a : Act} {w : World} (hi : ops[i]? = some oi) (h3 : (Region.noSelect ops && Region.free md ops listed i && (Region.ready md ops listed).contains i) = true) (hQ : ∀ c a w, Q (.panic c) (a.put oi.dst v) w → Q (.panic c) a w) (hw : Region.wanted oi (yielded ops a.tmps) = true) (hy : ∀ w, S w → (execOp a.eval oi).run P w = .ok (.value v) w) (hS : S w) (h : wpAnyH P md ops Q S fuel (listed.setIfInBounds i true) (a.put oi.dst v) w) : wpAnyH P md ops Q S (fuel + 1) listed a w := by
 rw [Bool.and_eq_true, Bool.and_eq_true] at h3
 exact wpAnyH_take hi h3.1.1 h3.1.2 h3.2 hQ (Or.inl ⟨hw, hy⟩) hS h
theorem l4OriginNone (q : P) (a : Option Addr) (n c : Nat) (w : World) (ho : ownZ q.sc < 0) :
  Calls Tryz.prog 42 #[.agg (q.cells (.slice a n c))] w fun e w' => e = .returned (.agg #[.string ⟨#[]⟩, .int .i64 0, .string ⟨#[]⟩, .int .i64 0, .int .i64 0]) ∧ Below w.heap.size w w' := by
 have CO : Hid (∀ W, Calls Tryz.prog 48 #[.string q.sc] W fun e w' => e = .returned (.int .i64 (ownZ q.sc)) ∧ w' = W) := fun W => l3Own q.sc W
 obtain ⟨V, hV⟩ : ∃ V, V = ((w.alloc (.cells #[(.string q.sc), (.string q.us), (.string q.pw), (.int .i64 q.hk), (.string q.hn), (.int .i64 q.ha), (.int .i64 q.po), (.slice a n c), (.string q.op), (.bool q.hq), (.string q.qu), (.bool q.hf), (.string q.fr)] 27)).alloc (.cells #[.string ⟨#[]⟩, .int .i64 0, .string ⟨#[]⟩, .int .i64 0, .int .i64 0] 40)) := ⟨_, rfl⟩
 have H0 : Hid (To w #[(.string q.sc), (.string q.us), (.string q.pw), (.int .i64 q.hk), (.string q.hn), (.int .i64 q.ha), (.int .i64 q.po), (.slice a n c), (.string q.op), (.bool q.hq), (.string q.qu), (.bool q.hf), (.string q.fr)] #[.string ⟨#[]⟩, .int .i64 0, .string ⟨#[]⟩, .int .i64 0, .int .i64 0] V) := by show To _ _ _ _; rw [hV]; exact To.start w _ _
 unfold P.cells
 go_enter Tryz.func42, Tryz.ntmps42
 go_upto_region 1 with fail
 rw [← hV]
 clear hV
 have H1 := H0
 clear H0
 obtain ⟨k0, k1, k2, k3, k4, k5, k6, k7, k8, k9, k10, k11, k12⟩ := Blk.cells13a H1.out.b1
 obtain ⟨e0, e1, e2, e3, e4⟩ := Blk.cells5 H1.out.b2
 have fr := H1.out.b2.free
 go_wp2_with fail
 refine (CO.out _).mono ?_
 rintro e W9 ⟨rfl, hW⟩
 have hW2 := hW.symm
 subst hW2
 clear hW
 have HFIN : Hid (Below w.heap.size w (((((V.setCell ⟨w.heap.size + 1, 0, none⟩ (.string ⟨#[]⟩)).setCell ⟨w.heap.size + 1, 1, none⟩ (.int .i64 0)).setCell ⟨w.heap.size + 1, 2, none⟩ (.string ⟨#[]⟩)).setCell ⟨w.heap.size + 1, 3, none⟩ (.int .i64 0)).setCell ⟨w.heap.size + 1, 4, none⟩ (.int .i64 0))) := below_put5 H1.out.bw (by omega) _ _ _ _ _
 clear H1
 go_wp2
 exact bodyPost_ret (v := .agg #[.string ⟨#[]⟩, .int .i64 0, .string ⟨#[]⟩, .int .i64 0, .int .i64 0]) (by simp [results, Tryz.results42, go_sem, e0, e1, e2, e3, e4]) rfl ⟨rfl, HFIN.out⟩
theorem l4OriginOwn (q : P) (a : Option Addr) (n c : Nat) (w : World) (ho : ¬ ownZ q.sc < 0) (hp : q.po < 0) :
  Calls Tryz.prog 42 #[.agg (q.cells (.slice a n c))] w fun e w' => e = .returned (.agg #[.string q.sc, .int .i64 q.hk, .string q.hn, .int .i64 q.ha, .int .i64 (ownZ q.sc)]) ∧ Below w.heap.size w w' := by
 have CO : Hid (∀ W, Calls Tryz.prog 48 #[.string q.sc] W fun e w' => e = .returned (.int .i64 (ownZ q.sc)) ∧ w' = W) := fun W => l3Own q.sc W
 obtain ⟨V, hV⟩ : ∃ V, V = ((w.alloc (.cells #[(.string q.sc), (.string q.us), (.string q.pw), (.int .i64 q.hk), (.string q.hn), (.int .i64 q.ha), (.int .i64 q.po), (.slice a n c), (.string q.op), (.bool q.hq), (.string q.qu), (.bool q.hf), (.string q.fr)] 27)).alloc (.cells #[.string ⟨#[]⟩, .int .i64 0, .string ⟨#[]⟩, .int .i64 0, .int .i64 0] 40)) := ⟨_, rfl⟩
 have H0 : Hid (To w #[(.string q.sc), (.string q.us), (.string q.pw), (.int .i64 q.hk), (.string q.hn), (.int .i64 q.ha), (.int .i64 q.po), (.slice a n c), (.string q.op), (.bool q.hq), (.string q.qu), (.bool q.hf), (.string q.fr)] #[.string ⟨#[]⟩, .int .i64 0, .string ⟨#[]⟩, .int .i64 0, .int .i64 0] V) := by show To _ _ _ _; rw [hV]; exact To.start w _ _
 unfold P.cells
 go_enter Tryz.func42, Tryz.ntmps42
 go_upto_region 1 with fail
 rw [← hV]
 clear hV
 have H1 := H0
 clear H0
 obtain ⟨k0, k1, k2, k3, k4, k5, k6, k7, k8, k9, k10, k11, k12⟩ := Blk.cells13a H1.out.b1
 obtain ⟨e0, e1, e2, e3, e4⟩ := Blk.cells5 H1.out.b2
 have fr := H1.out.b2.free
 go_wp2_with fail
 refine (CO.out _).mono ?_
 rintro e W9 ⟨rfl, hW⟩
 have hW2 := hW.symm
 subst hW2
 clear hW
 go_wp2_with fail
 refine (CO.out _).mono ?_
 rintro e W9 ⟨rfl, hW⟩
 have hW2 := hW.symm
 subst hW2
 clear hW
 have HFIN : Hid (Below w.heap.size w (((((V.setCell ⟨w.heap.size + 1, 0, none⟩ (.string q.sc)).setCell ⟨w.heap.size + 1, 1, none⟩ (.int .i64 q.hk)).setCell ⟨w.heap.size + 1, 2, none⟩ (.string q.hn)).setCell ⟨w.heap.size + 1, 3, none⟩ (.int .i64 q.ha)).setCell ⟨w.heap.size + 1, 4, none⟩ (.int .i64 (ownZ q.sc)))) := below_put5 H1.out.bw (by omega) _ _ _ _ _
 clear H1
 go_wp2
 exact bodyPost_ret (v := .agg #[.string q.sc, .int .i64 q.hk, .string q.hn, .int .i64 q.ha, .int .i64 (ownZ q.sc)]) (by simp [results, Tryz.results42, go_sem, e0, e1, e2, e3, e4]) rfl ⟨rfl, HFIN.out⟩
theorem l4OriginPort (q : P) (a : Option Addr) (n c : Nat) (w : World) (ho : ¬ ownZ q.sc < 0) (hp : ¬ q.po < 0) :
  Calls Tryz.prog 42 #[.agg (q.cells (.slice a n c))] w fun e w' => e = .returned (.agg #[.string q.sc, .int .i64 q.hk, .string q.hn, .int .i64 q.ha, .int .i64 (q.po)]) ∧ Below w.heap.size w w' := by
 have CO : Hid (∀ W, Calls Tryz.prog 48 #[.string q.sc] W fun e w' => e = .returned (.int .i64 (ownZ q.sc)) ∧ w' = W) := fun W => l3Own q.sc W
 obtain ⟨V, hV⟩ : ∃ V, V = ((w.alloc (.cells #[(.string q.sc), (.string q.us), (.string q.pw), (.int .i64 q.hk), (.string q.hn), (.int .i64 q.ha), (.int .i64 q.po), (.slice a n c), (.string q.op), (.bool q.hq), (.string q.qu), (.bool q.hf), (.string q.fr)] 27)).alloc (.cells #[.string ⟨#[]⟩, .int .i64 0, .string ⟨#[]⟩, .int .i64 0, .int .i64 0] 40)) := ⟨_, rfl⟩
 have H0 : Hid (To w #[(.string q.sc), (.string q.us), (.string q.pw), (.int .i64 q.hk), (.string q.hn), (.int .i64 q.ha), (.int .i64 q.po), (.slice a n c), (.string q.op), (.bool q.hq), (.string q.qu), (.bool q.hf), (.string q.fr)] #[.string ⟨#[]⟩, .int .i64 0, .string ⟨#[]⟩, .int .i64 0, .int .i64 0] V) := by show To _ _ _ _; rw [hV]; exact To.start w _ _
 unfold P.cells
 go_enter Tryz.func42, Tryz.ntmps42
 go_upto_region 1 with fail
 rw [← hV]
 clear hV
 have H1 := H0
 clear H0
 obtain ⟨k0, k1, k2, k3, k4, k5, k6, k7, k8, k9, k10, k11, k12⟩ := Blk.cells13a H1.out.b1
 obtain ⟨e0, e1, e2, e3, e4⟩ := Blk.cells5 H1.out.b2
 have fr := H1.out.b2.free
 go_wp2_with fail
 refine (CO.out _).mono ?_
 rintro e W9 ⟨rfl, hW⟩
 have hW2 := hW.symm
 subst hW2
 clear hW
 have HFIN : Hid (Below w.heap.size w (((((V.setCell ⟨w.heap.size + 1, 0, none⟩ (.string q.sc)).setCell ⟨w.heap.size + 1, 1, none⟩ (.int .i64 q.hk)).setCell ⟨w.heap.size + 1, 2, none⟩ (.string q.hn)).setCell ⟨w.heap.size + 1, 3, none⟩ (.int .i64 q.ha)).setCell ⟨w.heap.size + 1, 4, none⟩ (.int .i64 (q.po)))) := below_put5 H1.out.bw (by omega) _ _ _ _ _
 clear H1
 go_wp2
 exact bodyPost_ret (v := .agg #[.string q.sc, .int .i64 q.hk, .string q.hn, .int .i64 q.ha, .int .i64 (q.po)]) (by simp [results, Tryz.results42, go_sem, e0, e1, e2, e3, e4]) rfl ⟨rfl, HFIN.out⟩
theorem l4Origin (q : P) (a : Option Addr) (n c : Nat) (w : World) :
  Calls Tryz.prog 42 #[.agg (q.cells (.slice a n c))] w fun e w' => e = .returned (.agg (orgV q)) ∧ Below w.heap.size w w' := by
 unfold orgV
 by_cases ho : ownZ q.sc < 0
 ·rw [if_pos ho]; exact l4OriginNone q a n c w ho
 ·rw [if_neg ho]
  by_cases hp : q.po < 0
  ·rw [if_pos hp]; exact l4OriginOwn q a n c w ho hp
  ·rw [if_neg hp]; exact l4OriginPort q a n c w ho hp
theorem orgV_shape (q : P) : ∃ s k t x p, orgV q = #[.string s, .int .i64 k, .string t, .int .i64 x, .int .i64 p] := by
 unfold orgV
 split <;> exact ⟨_, _, _, _, _, rfl⟩
theorem specOriginOf (q : P) (a : Option Addr) (n c : Nat) (w : World) (hS : StrsOf a n q.ps w) (hs : q.tot ≤ 1048576) (hpo : q.po ≤ 9223372036854775807) (b : Bool) (hb : b = true ↔ okP q) :
  Calls Tryz.prog 17 #[.agg (q.cells (.slice a n c))] w fun e w' => e = .returned (.agg (orgB b q)) ∧ Below w.heap.size w w' := by
 have CK : Hid (∀ W, Below w.heap.size w W → Calls Tryz.prog 12 #[.agg #[(.string q.sc), (.string q.us), (.string q.pw), (.int .i64 q.hk), (.string q.hn), (.int .i64 q.ha), (.int .i64 q.po), (.slice a n c), (.string q.op), (.bool q.hq), (.string q.qu), (.bool q.hf), (.string q.fr)]] W fun e w' => e = .returned (.bool b) ∧ Below W.heap.size W w') := fun W d => specUrlOk q a n c W (hS.later d) hs hpo b hb
 obtain ⟨s, k, t, x, p, hv⟩ := orgV_shape q
 have CL : Hid (∀ W, Calls Tryz.prog 42 #[.agg #[(.string q.sc), (.string q.us), (.string q.pw), (.int .i64 q.hk), (.string q.hn), (.int .i64 q.ha), (.int .i64 q.po), (.slice a n c), (.string q.op), (.bool q.hq), (.string q.qu), (.bool q.hf), (.string q.fr)]] W fun e w' => e = .returned (.agg #[.string s, .int .i64 k, .string t, .int .i64 x, .int .i64 p]) ∧ Below W.heap.size W w') := fun W => by rw [← hv]; exact l4Origin q a n c W
 unfold orgB
 rw [hv]
 clear hv
 cases b with
 | false =>
  rw [if_neg (by decide)]
  obtain ⟨V, hV⟩ : ∃ V, V = ((w.alloc (.cells #[(.string q.sc), (.string q.us), (.string q.pw), (.int .i64 q.hk), (.string q.hn), (.int .i64 q.ha), (.int .i64 q.po), (.slice a n c), (.string q.op), (.bool q.hq), (.string q.qu), (.bool q.hf), (.string q.fr)] 27)).alloc (.cells #[.string ⟨#[]⟩, .int .i64 0, .string ⟨#[]⟩, .int .i64 0, .int .i64 0] 40)) := ⟨_, rfl⟩
  have H0 : Hid (To w #[(.string q.sc), (.string q.us), (.string q.pw), (.int .i64 q.hk), (.string q.hn), (.int .i64 q.ha), (.int .i64 q.po), (.slice a n c), (.string q.op), (.bool q.hq), (.string q.qu), (.bool q.hf), (.string q.fr)] #[.string ⟨#[]⟩, .int .i64 0, .string ⟨#[]⟩, .int .i64 0, .int .i64 0] V) := by show To _ _ _ _; rw [hV]; exact To.start w _ _
  clear hS hs hpo hb CL
  unfold P.cells
  go_enter Tryz.func17, Tryz.ntmps17
  go_upto_region 1 with fail
  rw [← hV]
  clear hV
  obtain ⟨k0, k1, k2, k3, k4, k5, k6, k7, k8, k9, k10, k11, k12⟩ := Blk.cells13a H0.out.b1
  go_wp2_with fail
  refine (CK.out _ H0.out.bw).mono ?_
  rintro e W1 ⟨rfl, d1⟩
  have H1 : Hid (To w #[(.string q.sc), (.string q.us), (.string q.pw), (.int .i64 q.hk), (.string q.hn), (.int .i64 q.ha), (.int .i64 q.po), (.slice a n c), (.string q.op), (.bool q.hq), (.string q.qu), (.bool q.hf), (.string q.fr)] #[.string ⟨#[]⟩, .int .i64 0, .string ⟨#[]⟩, .int .i64 0, .int .i64 0] W1) := H0.out.later d1
  clear d1 H0 CK k0 k1 k2 k3 k4 k5 k6 k7 k8 k9 k10 k11 k12
  obtain ⟨e0, e1, e2, e3, e4⟩ := Blk.cells5 H1.out.b2
  have fr := H1.out.b2.free
  have HFIN : Hid (Below w.heap.size w (((((W1.setCell ⟨w.heap.size + 1, 0, none⟩ (.string ⟨#[]⟩)).setCell ⟨w.heap.size + 1, 1, none⟩ (.int .i64 0)).setCell ⟨w.heap.size + 1, 2, none⟩ (.string ⟨#[]⟩)).setCell ⟨w.heap.size + 1, 3, none⟩ (.int .i64 0)).setCell ⟨w.heap.size + 1, 4, none⟩ (.int .i64 0))) := below_put5 H1.out.bw (by omega) _ _ _ _ _
  clear H1
  go_wp2
  exact bodyPost_ret (v := .agg #[.string ⟨#[]⟩, .int .i64 0, .string ⟨#[]⟩, .int .i64 0, .int .i64 0]) (by simp [results, Tryz.results17, go_sem, e0, e1, e2, e3, e4]) rfl ⟨rfl, HFIN.out⟩
 | true =>
  rw [if_pos rfl]
  obtain ⟨V, hV⟩ : ∃ V, V = ((w.alloc (.cells #[(.string q.sc), (.string q.us), (.string q.pw), (.int .i64 q.hk), (.string q.hn), (.int .i64 q.ha), (.int .i64 q.po), (.slice a n c), (.string q.op), (.bool q.hq), (.string q.qu), (.bool q.hf), (.string q.fr)] 27)).alloc (.cells #[.string ⟨#[]⟩, .int .i64 0, .string ⟨#[]⟩, .int .i64 0, .int .i64 0] 40)) := ⟨_, rfl⟩
  have H0 : Hid (To w #[(.string q.sc), (.string q.us), (.string q.pw), (.int .i64 q.hk), (.string q.hn), (.int .i64 q.ha), (.int .i64 q.po), (.slice a n c), (.string q.op), (.bool q.hq), (.string q.qu), (.bool q.hf), (.string q.fr)] #[.string ⟨#[]⟩, .int .i64 0, .string ⟨#[]⟩, .int .i64 0, .int .i64 0] V) := by show To _ _ _ _; rw [hV]; exact To.start w _ _
  clear hS hs hpo hb
  unfold P.cells
  go_enter Tryz.func17, Tryz.ntmps17
  go_upto_region 1 with fail
  rw [← hV]
  clear hV
  obtain ⟨k0, k1, k2, k3, k4, k5, k6, k7, k8, k9, k10, k11, k12⟩ := Blk.cells13a H0.out.b1
  go_wp2_with fail
  refine (CK.out _ H0.out.bw).mono ?_
  rintro e W1 ⟨rfl, d1⟩
  have H1 : Hid (To w #[(.string q.sc), (.string q.us), (.string q.pw), (.int .i64 q.hk), (.string q.hn), (.int .i64 q.ha), (.int .i64 q.po), (.slice a n c), (.string q.op), (.bool q.hq), (.string q.qu), (.bool q.hf), (.string q.fr)] #[.string ⟨#[]⟩, .int .i64 0, .string ⟨#[]⟩, .int .i64 0, .int .i64 0] W1) := H0.out.later d1
  clear d1 H0 CK k0 k1 k2 k3 k4 k5 k6 k7 k8 k9 k10 k11 k12
  obtain ⟨k0, k1, k2, k3, k4, k5, k6, k7, k8, k9, k10, k11, k12⟩ := Blk.cells13a H1.out.b1
  go_wp2_with fail
  refine (CL.out _).mono ?_
  rintro e W2 ⟨rfl, d2⟩
  have H2 : Hid (To w #[(.string q.sc), (.string q.us), (.string q.pw), (.int .i64 q.hk), (.string q.hn), (.int .i64 q.ha), (.int .i64 q.po), (.slice a n c), (.string q.op), (.bool q.hq), (.string q.qu), (.bool q.hf), (.string q.fr)] #[.string ⟨#[]⟩, .int .i64 0, .string ⟨#[]⟩, .int .i64 0, .int .i64 0] W2) := H1.out.later d2
  clear d2 H1 CL k0 k1 k2 k3 k4 k5 k6 k7 k8 k9 k10 k11 k12
  have H1 := H2
  clear H2
  obtain ⟨e0, e1, e2, e3, e4⟩ := Blk.cells5 H1.out.b2
  have fr := H1.out.b2.free
  have HFIN : Hid (Below w.heap.size w (((((W2.setCell ⟨w.heap.size + 1, 0, none⟩ (.string s)).setCell ⟨w.heap.size + 1, 1, none⟩ (.int .i64 k)).setCell ⟨w.heap.size + 1, 2, none⟩ (.string t)).setCell ⟨w.heap.size + 1, 3, none⟩ (.int .i64 x)).setCell ⟨w.heap.size + 1, 4, none⟩ (.int .i64 p))) := below_put5 H1.out.bw (by omega) _ _ _ _ _
  clear H1
  go_wp2
  exact bodyPost_ret (v := .agg #[.string s, .int .i64 k, .string t, .int .i64 x, .int .i64 p]) (by simp [results, Tryz.results17, go_sem, e0, e1, e2, e3, e4]) rfl ⟨rfl, HFIN.out⟩
theorem implOriginNo (q : P) (a : Option Addr) (n c : Nat) (w : World) (hL : Lean1 w) (hS : StrsOf a n q.ps w) (hs : q.tot ≤ 1048576) (hpo : q.po ≤ 9223372036854775807) (hok : ¬ okP q) :
  Calls Tryz.prog 19 #[.agg (q.cells (.slice a n c))] w fun e w' => e = .returned (.agg #[.string ⟨#[]⟩, .int .i64 0, .string ⟨#[]⟩, .int .i64 0, .int .i64 0]) ∧ Below w.heap.size w w' := by
 obtain ⟨r, hr⟩ : ∃ r, r = getP (writL q) := ⟨_, rfl⟩
 have CA : Hid (∀ W, Below w.heap.size w W → Calls Tryz.prog 38 #[.agg #[(.string q.sc), (.string q.us), (.string q.pw), (.int .i64 q.hk), (.string q.hn), (.int .i64 q.ha), (.int .i64 q.po), (.slice a n c), (.string q.op), (.bool q.hq), (.string q.qu), (.bool q.hf), (.string q.fr)]] W fun e w' => ∃ a2 n2 c2, e = .returned (.tuple #[.agg #[(.string r.sc), (.string r.us), (.string r.pw), (.int .i64 r.hk), (.string r.hn), (.int .i64 r.ha), (.int .i64 r.po), (.slice a2 n2 c2), (.string r.op), (.bool r.hq), (.string r.qu), (.bool r.hf), (.string r.fr)], .bool false]) ∧ Below W.heap.size W w') := fun W d => by
  refine (urlAgain q a n c W (hL.below d) (hS.later d) hs hpo false (by simp [hok])).mono ?_
  rintro e w' ⟨v, rfl, o, d2⟩
  rw [← hr] at o ⊢
  obtain ⟨a2, c2, hv, hc, s2⟩ := o.strs
  subst hv
  exact ⟨a2, _, c2, rfl, d2⟩
 obtain ⟨V, hV⟩ : ∃ V, V = ((w.alloc (.cells #[(.string q.sc), (.string q.us), (.string q.pw), (.int .i64 q.hk), (.string q.hn), (.int .i64 q.ha), (.int .i64 q.po), (.slice a n c), (.string q.op), (.bool q.hq), (.string q.qu), (.bool q.hf), (.string q.fr)] 27)).alloc (.cells #[.string ⟨#[]⟩, .int .i64 0, .string ⟨#[]⟩, .int .i64 0, .int .i64 0] 40)) := ⟨_, rfl⟩
 have H0 : Hid (To w #[(.string q.sc), (.string q.us), (.string q.pw), (.int .i64 q.hk), (.string q.hn), (.int .i64 q.ha), (.int .i64 q.po), (.slice a n c), (.string q.op), (.bool q.hq), (.string q.qu), (.bool q.hf), (.string q.fr)] #[.string ⟨#[]⟩, .int .i64 0, .string ⟨#[]⟩, .int .i64 0, .int .i64 0] V) := by show To _ _ _ _; rw [hV]; exact To.start w _ _
 clear hS hs hpo hok hL hr
 unfold P.cells
 go_enter Tryz.func19, Tryz.ntmps19
 go_upto_region 1 with fail
 rw [← hV]
 clear hV
 obtain ⟨k0, k1, k2, k3, k4, k5, k6, k7, k8, k9, k10, k11, k12⟩ := Blk.cells13a H0.out.b1
 go_wp2_with fail
 refine (CA.out _ H0.out.bw).mono ?_
 rintro e W1 ⟨a2, n2, c2, rfl, d1⟩
 have H2 : Hid (To w #[(.string q.sc), (.string q.us), (.string q.pw), (.int .i64 q.hk), (.string q.hn), (.int .i64 q.ha), (.int .i64 q.po), (.slice a n c), (.string q.op), (.bool q.hq), (.string q.qu), (.bool q.hf), (.string q.fr)] #[.string ⟨#[]⟩, .int .i64 0, .string ⟨#[]⟩, .int .i64 0, .int .i64 0] W1) := H0.out.later d1
 clear d1 H0 CA k0 k1 k2 k3 k4 k5 k6 k7 k8 k9 k10 k11 k12
 obtain ⟨V1, hV1⟩ : ∃ V, V = W1.alloc (.cells #[(.string r.sc), (.string r.us), (.string r.pw), (.int .i64 r.hk), (.string r.hn), (.int .i64 r.ha), (.int .i64 r.po), (.slice a2 n2 c2), (.string r.op), (.bool r.hq), (.string r.qu), (.bool r.hf), (.string r.fr)] 27) := ⟨_, rfl⟩
 have H1 : Hid (To w #[(.string q.sc), (.string q.us), (.string q.pw), (.int .i64 q.hk), (.string q.hn), (.int .i64 q.ha), (.int .i64 q.po), (.slice a n c), (.string q.op), (.bool q.hq), (.string q.qu), (.bool q.hf), (.string q.fr)] #[.string ⟨#[]⟩, .int .i64 0, .string ⟨#[]⟩, .int .i64 0, .int .i64 0] V1) := by show To _ _ _ _; rw [hV1]; exact H2.out.later ((Below.refl _ W1).alloc (Nat.le_refl _) _)
 clear H2
 go_upto_region 2 with fail
 rw [← hV1]
 clear hV1
 obtain ⟨e0, e1, e2, e3, e4⟩ := Blk.cells5 H1.out.b2
 have fr := H1.out.b2.free
 have HFIN : Hid (Below w.heap.size w (((((V1.setCell ⟨w.heap.size + 1, 0, none⟩ (.string ⟨#[]⟩)).setCell ⟨w.heap.size + 1, 1, none⟩ (.int .i64 0)).setCell ⟨w.heap.size + 1, 2, none⟩ (.string ⟨#[]⟩)).setCell ⟨w.heap.size + 1, 3, none⟩ (.int .i64 0)).setCell ⟨w.heap.size + 1, 4, none⟩ (.int .i64 0))) := below_put5 H1.out.bw (by omega) _ _ _ _ _
 clear H1
 go_wp2
 exact bodyPost_ret (v := .agg #[.string ⟨#[]⟩, .int .i64 0, .string ⟨#[]⟩, .int .i64 0, .int .i64 0]) (by simp [results, Tryz.results19, go_sem, e0, e1, e2, e3, e4]) rfl ⟨rfl, HFIN.out⟩
theorem implOriginNone (q : P) (a : Option Addr) (n c : Nat) (w : World) (hL : Lean1 w) (hS : StrsOf a n q.ps w) (hs : q.tot ≤ 1048576) (hpo : q.po ≤ 9223372036854775807) (hok : okP q) (ho : ownZ q.sc < 0) :
  Calls Tryz.prog 19 #[.agg (q.cells (.slice a n c))] w fun e w' => e = .returned (.agg #[.string ⟨#[]⟩, .int .i64 0, .string ⟨#[]⟩, .int .i64 0, .int .i64 0]) ∧ Below w.heap.size w w' := by
 have CA : Hid (∀ W, Below w.heap.size w W → Calls Tryz.prog 38 #[.agg #[(.string q.sc), (.string q.us), (.string q.pw), (.int .i64 q.hk), (.string q.hn), (.int .i64 q.ha), (.int .i64 q.po), (.slice a n c), (.string q.op), (.bool q.hq), (.string q.qu), (.bool q.hf), (.string q.fr)]] W fun e w' => ∃ a2 c2, e = .returned (.tuple #[.agg #[(.string q.sc), (.string q.us), (.string q.pw), (.int .i64 q.hk), (.string q.hn), (.int .i64 q.ha), (.int .i64 q.po), (.slice a2 n c2), (.string q.op), (.bool q.hq), (.string q.qu), (.bool q.hf), (.string q.fr)], .bool true]) ∧ StrsOf a2 n q.ps w' ∧ Below W.heap.size W w') := fun W d => by
  refine (urlAgain q a n c W (hL.below d) (hS.later d) hs hpo true (by simp [hok])).mono ?_
  rintro e w' ⟨v, rfl, o, d2⟩
  rw [hok.2] at o ⊢
  obtain ⟨a2, c2, hv, hc, s2⟩ := o.strs
  rw [← hS.1] at hv s2
  subst hv
  exact ⟨a2, c2, rfl, s2, d2⟩
 have CH : Hid (∀ a2 c2 W, Calls Tryz.prog 45 #[.agg #[(.string q.sc), (.string q.us), (.string q.pw), (.int .i64 q.hk), (.string q.hn), (.int .i64 q.ha), (.int .i64 q.po), (.slice a2 n c2), (.string q.op), (.bool q.hq), (.string q.qu), (.bool q.hf), (.string q.fr)]] W fun e w' => e = .returned (.bool false) ∧ Below W.heap.size W w') := fun a2 c2 W => by
  have := hasHost (q.u (.slice a2 n c2)) W
  rw [show decide (0 ≤ ownZ (q.u (.slice a2 n c2)).sc) = false from decide_eq_false (by show ¬ 0 ≤ ownZ q.sc; omega)] at this
  exact this
 obtain ⟨V, hV⟩ : ∃ V, V = ((w.alloc (.cells #[(.string q.sc), (.string q.us), (.string q.pw), (.int .i64 q.hk), (.string q.hn), (.int .i64 q.ha), (.int .i64 q.po), (.slice a n c), (.string q.op), (.bool q.hq), (.string q.qu), (.bool q.hf), (.string q.fr)] 27)).alloc (.cells #[.string ⟨#[]⟩, .int .i64 0, .string ⟨#[]⟩, .int .i64 0, .int .i64 0] 40)) := ⟨_, rfl⟩
 have H0 : Hid (To w #[(.string q.sc), (.string q.us), (.string q.pw), (.int .i64 q.hk), (.string q.hn), (.int .i64 q.ha), (.int .i64 q.po), (.slice a n c), (.string q.op), (.bool q.hq), (.string q.qu), (.bool q.hf), (.string q.fr)] #[.string ⟨#[]⟩, .int .i64 0, .string ⟨#[]⟩, .int .i64 0, .int .i64 0] V) := by show To _ _ _ _; rw [hV]; exact To.start w _ _
 clear hS hs hpo hok hL ho
 unfold P.cells
 go_enter Tryz.func19, Tryz.ntmps19
 go_upto_region 1 with fail
 rw [← hV]
 clear hV
 obtain ⟨k0, k1, k2, k3, k4, k5, k6, k7, k8, k9, k10, k11, k12⟩ := Blk.cells13a H0.out.b1
 go_wp2_with fail
 refine (CA.out _ H0.out.bw).mono ?_
 rintro e W1 ⟨a2, c2, rfl, s2, d1⟩
 have H2 : Hid (To w #[(.string q.sc), (.string q.us), (.string q.pw), (.int .i64 q.hk), (.string q.hn), (.int .i64 q.ha), (.int .i64 q.po), (.slice a n c), (.string q.op), (.bool q.hq), (.string q.qu), (.bool q.hf), (.string q.fr)] #[.string ⟨#[]⟩, .int .i64 0, .string ⟨#[]⟩, .int .i64 0, .int .i64 0] W1) := H0.out.later d1
 clear d1 H0 CA k0 k1 k2 k3 k4 k5 k6 k7 k8 k9 k10 k11 k12
 obtain ⟨V1, hV1⟩ : ∃ V, V = W1.alloc (.cells #[(.string q.sc), (.string q.us), (.string q.pw), (.int .i64 q.hk), (.string q.hn), (.int .i64 q.ha), (.int .i64 q.po), (.slice a2 n c2), (.string q.op), (.bool q.hq), (.string q.qu), (.bool q.hf), (.string q.fr)] 27) := ⟨_, rfl⟩
 have DV : Hid (Below W1.heap.size W1 V1) := by show Below _ _ _; rw [hV1]; exact (Below.refl _ W1).alloc (Nat.le_refl _) _
 have H1 : Hid (To w #[(.string q.sc), (.string q.us), (.string q.pw), (.int .i64 q.hk), (.string q.hn), (.int .i64 q.ha), (.int .i64 q.po), (.slice a n c), (.string q.op), (.bool q.hq), (.string q.qu), (.bool q.hf), (.string q.fr)] #[.string ⟨#[]⟩, .int .i64 0, .string ⟨#[]⟩, .int .i64 0, .int .i64 0] V1) := H2.out.later DV.out
 have HG : Hid (Blk W1.heap.size #[(.string q.sc), (.string q.us), (.string q.pw), (.int .i64 q.hk), (.string q.hn), (.int .i64 q.ha), (.int .i64 q.po), (.slice a2 n c2), (.string q.op), (.bool q.hq), (.string q.qu), (.bool q.hf), (.string q.fr)] 27 V1) := by show Blk _ _ _ _; rw [hV1]; exact Blk.new W1 _ _
 have HS1 : Hid (StrsOf a2 n q.ps V1) := s2.later DV.out
 have HGL : Hid (w.heap.size + 1 < W1.heap.size) := H2.out.b2.lt
 clear H2 s2 DV
 go_upto_region 2 with fail
 rw [← hV1]
 clear hV1
 generalize W1.heap.size = g at *
 obtain ⟨k0, k1, k2, k3, k4, k5, k6, k7, k8, k9, k10, k11, k12⟩ := Blk.cells13a HG.out
 go_wp2_with fail
 refine (CH.out a2 c2 _).mono ?_
 rintro e W3 ⟨rfl, d3⟩
 have H3 : Hid (To w #[(.string q.sc), (.string q.us), (.string q.pw), (.int .i64 q.hk), (.string q.hn), (.int .i64 q.ha), (.int .i64 q.po), (.slice a n c), (.string q.op), (.bool q.hq), (.string q.qu), (.bool q.hf), (.string q.fr)] #[.string ⟨#[]⟩, .int .i64 0, .string ⟨#[]⟩, .int .i64 0, .int .i64 0] W3) := H1.out.later d3
 have HG3 : Hid (Blk g #[(.string q.sc), (.string q.us), (.string q.pw), (.int .i64 q.hk), (.string q.hn), (.int .i64 q.ha), (.int .i64 q.po), (.slice a2 n c2), (.string q.op), (.bool q.hq), (.string q.qu), (.bool q.hf), (.string q.fr)] 27 W3) := HG.out.below d3 HG.out.lt
 have HS3 : Hid (StrsOf a2 n q.ps W3) := HS1.out.later d3
 clear d3 H1 HG HS1 CH k0 k1 k2 k3 k4 k5 k6 k7 k8 k9 k10 k11 k12
 have H1 := H3
 clear H3 HG3 HS3
 obtain ⟨e0, e1, e2, e3, e4⟩ := Blk.cells5 H1.out.b2
 have fr := H1.out.b2.free
 have HFIN : Hid (Below w.heap.size w (((((W3.setCell ⟨w.heap.size + 1, 0, none⟩ (.string ⟨#[]⟩)).setCell ⟨w.heap.size + 1, 1, none⟩ (.int .i64 0)).setCell ⟨w.heap.size + 1, 2, none⟩ (.string ⟨#[]⟩)).setCell ⟨w.heap.size + 1, 3, none⟩ (.int .i64 0)).setCell ⟨w.heap.size + 1, 4, none⟩ (.int .i64 0))) := below_put5 H1.out.bw (by omega) _ _ _ _ _
 clear H1
 go_wp2
 exact bodyPost_ret (v := .agg #[.string ⟨#[]⟩, .int .i64 0, .string ⟨#[]⟩, .int .i64 0, .int .i64 0]) (by simp [results, Tryz.results19, go_sem, e0, e1, e2, e3, e4]) rfl ⟨rfl, HFIN.out⟩
theorem implOriginYes (q : P) (a : Option Addr) (n c : Nat) (w : World) (hL : Lean1 w) (hS : StrsOf a n q.ps w) (hs : q.tot ≤ 1048576) (hpo : q.po ≤ 9223372036854775807) (hok : okP q) (ho : ¬ ownZ q.sc < 0) (t : Int) (ht : t = if q.po < 0 then ownZ q.sc else q.po) :
  Calls Tryz.prog 19 #[.agg (q.cells (.slice a n c))] w fun e w' => e = .returned (.agg #[.string q.sc, .int .i64 q.hk, .string q.hn, .int .i64 q.ha, .int .i64 t]) ∧ Below w.heap.size w w' := by
 have CA : Hid (∀ W, Below w.heap.size w W → Calls Tryz.prog 38 #[.agg #[(.string q.sc), (.string q.us), (.string q.pw), (.int .i64 q.hk), (.string q.hn), (.int .i64 q.ha), (.int .i64 q.po), (.slice a n c), (.string q.op), (.bool q.hq), (.string q.qu), (.bool q.hf), (.string q.fr)]] W fun e w' => ∃ a2 c2, e = .returned (.tuple #[.agg #[(.string q.sc), (.string q.us), (.string q.pw), (.int .i64 q.hk), (.string q.hn), (.int .i64 q.ha), (.int .i64 q.po), (.slice a2 n c2), (.string q.op), (.bool q.hq), (.string q.qu), (.bool q.hf), (.string q.fr)], .bool true]) ∧ StrsOf a2 n q.ps w' ∧ Below W.heap.size W w') := fun W d => by
  refine (urlAgain q a n c W (hL.below d) (hS.later d) hs hpo true (by simp [hok])).mono ?_
  rintro e w' ⟨v, rfl, o, d2⟩
  rw [hok.2] at o ⊢
  obtain ⟨a2, c2, hv, hc, s2⟩ := o.strs
  rw [← hS.1] at hv s2
  subst hv
  exact ⟨a2, c2, rfl, s2, d2⟩
 have CH : Hid (∀ a2 c2 W, Calls Tryz.prog 45 #[.agg #[(.string q.sc), (.string q.us), (.string q.pw), (.int .i64 q.hk), (.string q.hn), (.int .i64 q.ha), (.int .i64 q.po), (.slice a2 n c2), (.string q.op), (.bool q.hq), (.string q.qu), (.bool q.hf), (.string q.fr)]] W fun e w' => e = .returned (.bool true) ∧ Below W.heap.size W w') := fun a2 c2 W => by
  have := hasHost (q.u (.slice a2 n c2)) W
  rw [show decide (0 ≤ ownZ (q.u (.slice a2 n c2)).sc) = true from decide_eq_true (by show 0 ≤ ownZ q.sc; omega)] at this
  exact this
 have CP : Hid (∀ a2 c2 W, Below w.heap.size w W → StrsOf a2 n q.ps W → Calls Tryz.prog 29 #[.agg #[(.string q.sc), (.string q.us), (.string q.pw), (.int .i64 q.hk), (.string q.hn), (.int .i64 q.ha), (.int .i64 q.po), (.slice a2 n c2), (.string q.op), (.bool q.hq), (.string q.qu), (.bool q.hf), (.string q.fr)]] W fun e w' => e = .returned (.int .i64 t) ∧ Below W.heap.size W w') := fun a2 c2 W d s => by
  have := implPortOf q a2 n c2 W (hL.below d) s hs hpo true (by simp [hok])
  rw [if_pos rfl, ← ht] at this
  exact this
 obtain ⟨V, hV⟩ : ∃ V, V = ((w.alloc (.cells #[(.string q.sc), (.string q.us), (.string q.pw), (.int .i64 q.hk), (.string q.hn), (.int .i64 q.ha), (.int .i64 q.po), (.slice a n c), (.string q.op), (.bool q.hq), (.string q.qu), (.bool q.hf), (.string q.fr)] 27)).alloc (.cells #[.string ⟨#[]⟩, .int .i64 0, .string ⟨#[]⟩, .int .i64 0, .int .i64 0] 40)) := ⟨_, rfl⟩
 have H0 : Hid (To w #[(.string q.sc), (.string q.us), (.string q.pw), (.int .i64 q.hk), (.string q.hn), (.int .i64 q.ha), (.int .i64 q.po), (.slice a n c), (.string q.op), (.bool q.hq), (.string q.qu), (.bool q.hf), (.string q.fr)] #[.string ⟨#[]⟩, .int .i64 0, .string ⟨#[]⟩, .int .i64 0, .int .i64 0] V) := by show To _ _ _ _; rw [hV]; exact To.start w _ _
 clear hS hs hpo hok hL ho ht
 unfold P.cells
 go_enter Tryz.func19, Tryz.ntmps19
 go_upto_region 1 with fail
 rw [← hV]
 clear hV
 obtain ⟨k0, k1, k2, k3, k4, k5, k6, k7, k8, k9, k10, k11, k12⟩ := Blk.cells13a H0.out.b1
 go_wp2_with fail
 refine (CA.out _ H0.out.bw).mono ?_
 rintro e W1 ⟨a2, c2, rfl, s2, d1⟩
 have H2 : Hid (To w #[(.string q.sc), (.string q.us), (.string q.pw), (.int .i64 q.hk), (.string q.hn), (.int .i64 q.ha), (.int .i64 q.po), (.slice a n c), (.string q.op), (.bool q.hq), (.string q.qu), (.bool q.hf), (.string q.fr)] #[.string ⟨#[]⟩, .int .i64 0, .string ⟨#[]⟩, .int .i64 0, .int .i64 0] W1) := H0.out.later d1
 clear d1 H0 CA k0 k1 k2 k3 k4 k5 k6 k7 k8 k9 k10 k11 k12
 obtain ⟨V1, hV1⟩ : ∃ V, V = W1.alloc (.cells #[(.string q.sc), (.string q.us), (.string q.pw), (.int .i64 q.hk), (.string q.hn), (.int .i64 q.ha), (.int .i64 q.po), (.slice a2 n c2), (.string q.op), (.bool q.hq), (.string q.qu), (.bool q.hf), (.string q.fr)] 27) := ⟨_, rfl⟩
 have DV : Hid (Below W1.heap.size W1 V1) := by show Below _ _ _; rw [hV1]; exact (Below.refl _ W1).alloc (Nat.le_refl _) _
 have H1 : Hid (To w #[(.string q.sc), (.string q.us), (.string q.pw), (.int .i64 q.hk), (.string q.hn), (.int .i64 q.ha), (.int .i64 q.po), (.slice a n c), (.string q.op), (.bool q.hq), (.string q.qu), (.bool q.hf), (.string q.fr)] #[.string ⟨#[]⟩, .int .i64 0, .string ⟨#[]⟩, .int .i64 0, .int .i64 0] V1) := H2.out.later DV.out
 have HG : Hid (Blk W1.heap.size #[(.string q.sc), (.string q.us), (.string q.pw), (.int .i64 q.hk), (.string q.hn), (.int .i64 q.ha), (.int .i64 q.po), (.slice a2 n c2), (.string q.op), (.bool q.hq), (.string q.qu), (.bool q.hf), (.string q.fr)] 27 V1) := by show Blk _ _ _ _; rw [hV1]; exact Blk.new W1 _ _
 have HS1 : Hid (StrsOf a2 n q.ps V1) := s2.later DV.out
 have HGL : Hid (w.heap.size + 1 < W1.heap.size) := H2.out.b2.lt
 clear H2 s2 DV
 go_upto_region 2 with fail
 rw [← hV1]
 clear hV1
 generalize W1.heap.size = g at *
 obtain ⟨k0, k1, k2, k3, k4, k5, k6, k7, k8, k9, k10, k11, k12⟩ := Blk.cells13a HG.out
 go_wp2_with fail
 refine (CH.out a2 c2 _).mono ?_
 rintro e W3 ⟨rfl, d3⟩
 have H3 : Hid (To w #[(.string q.sc), (.string q.us), (.string q.pw), (.int .i64 q.hk), (.string q.hn), (.int .i64 q.ha), (.int .i64 q.po), (.slice a n c), (.string q.op), (.bool q.hq), (.string q.qu), (.bool q.hf), (.string q.fr)] #[.string ⟨#[]⟩, .int .i64 0, .string ⟨#[]⟩, .int .i64 0, .int .i64 0] W3) := H1.out.later d3
 have HG3 : Hid (Blk g #[(.string q.sc), (.string q.us), (.string q.pw), (.int .i64 q.hk), (.string q.hn), (.int .i64 q.ha), (.int .i64 q.po), (.slice a2 n c2), (.string q.op), (.bool q.hq), (.string q.qu), (.bool q.hf), (.string q.fr)] 27 W3) := HG.out.below d3 HG.out.lt
 have HS3 : Hid (StrsOf a2 n q.ps W3) := HS1.out.later d3
 clear d3 H1 HG HS1 CH k0 k1 k2 k3 k4 k5 k6 k7 k8 k9 k10 k11 k12
 obtain ⟨k0, k1, k2, k3, k4, k5, k6, k7, k8, k9, k10, k11, k12⟩ := Blk.cells13a HG3.out
 obtain ⟨e0, e1, e2, e3, e4⟩ := Blk.cells5 H3.out.b2
 have fr := H3.out.b2.free
 have HGW : Hid (∀ W, Below W3.heap.size W3 W → Blk g #[(.string q.sc), (.string q.us), (.string q.pw), (.int .i64 q.hk), (.string q.hn), (.int .i64 q.ha), (.int .i64 q.po), (.slice a2 n c2), (.string q.op), (.bool q.hq), (.string q.qu), (.bool q.hf), (.string q.fr)] 27 W ∧ To w #[(.string q.sc), (.string q.us), (.string q.pw), (.int .i64 q.hk), (.string q.hn), (.int .i64 q.ha), (.int .i64 q.po), (.slice a n c), (.string q.op), (.bool q.hq), (.string q.qu), (.bool q.hf), (.string q.fr)] #[.string ⟨#[]⟩, .int .i64 0, .string ⟨#[]⟩, .int .i64 0, .int .i64 0] W) := fun W d => ⟨HG3.out.below d HG3.out.lt, H3.out.later d⟩
 have CP3 : Hid (∀ W, Below W3.heap.size W3 W → Calls Tryz.prog 29 #[.agg #[(.string q.sc), (.string q.us), (.string q.pw), (.int .i64 q.hk), (.string q.hn), (.int .i64 q.ha), (.int .i64 q.po), (.slice a2 n c2), (.string q.op), (.bool q.hq), (.string q.qu), (.bool q.hf), (.string q.fr)]] W fun e w' => e = .returned (.int .i64 t) ∧ Below W.heap.size W w') := fun W d => CP.out a2 c2 W (H3.out.later d).bw (HS3.out.later d)
 clear H3 HG3 HS3 CP k0 k1 k2 k3 k4 k5 k6 k7 k8 k9 k10 k11 k12 e0 e1 e2 e3 e4 fr
 go_wp2
 refine wp_region_held_drew (S := (fun W => Below w.heap.size w W ∧ Sc g q a2 n c2 W)) (by kernel_rfl) (⟨(HGW.out _ (Below.refl _ _).drew).2.bw, Sc.of (HGW.out _ (Below.refl _ _).drew).1⟩) (fun hHeld => ?_)
 refine tk 0 rfl (by kernel_rfl) (fun _ _ _ h => h) (by rfl) (fun w hSw => by (try dsimp only [Sc] at hSw); go_simp; try (with_reducible rfl)) (by assumption) ?_
 simp only [Act.put, List.getElem_toArray, List.getElem_cons_zero, List.getElem_cons_succ, List.setIfInBounds_toArray, List.set_cons_zero, List.set_cons_succ]
 refine tk 1 rfl (by kernel_rfl) (fun _ _ _ h => h) (by rfl) (fun w hSw => by (try dsimp only [Sc] at hSw); go_simp; try (with_reducible rfl)) (by assumption) ?_
 simp only [Act.put, List.getElem_toArray, List.getElem_cons_zero, List.getElem_cons_succ, List.setIfInBounds_toArray, List.set_cons_zero, List.set_cons_succ]
 refine tk 2 rfl (by kernel_rfl) (fun _ _ _ h => h) (by rfl) (fun w hSw => by (try dsimp only [Sc] at hSw); go_simp; try (with_reducible rfl)) (by assumption) ?_
 simp only [Act.put, List.getElem_toArray, List.getElem_cons_zero, List.getElem_cons_succ, List.setIfInBounds_toArray, List.set_cons_zero, List.set_cons_succ]
 refine tk 3 rfl (by kernel_rfl) (fun _ _ _ h => h) (by rfl) (fun w hSw => by (try dsimp only [Sc] at hSw); go_simp; try (with_reducible rfl)) (by assumption) ?_
 simp only [Act.put, List.getElem_toArray, List.getElem_cons_zero, List.getElem_cons_succ, List.setIfInBounds_toArray, List.set_cons_zero, List.set_cons_succ]
 refine tk 4 rfl (by kernel_rfl) (fun _ _ _ h => h) (by rfl) (fun w hSw => by (try dsimp only [Sc] at hSw); go_simp; try (with_reducible rfl)) (by assumption) ?_
 simp only [Act.put, List.getElem_toArray, List.getElem_cons_zero, List.getElem_cons_succ, List.setIfInBounds_toArray, List.set_cons_zero, List.set_cons_succ]
 refine wpAnyH_ready (rs := [5]) (by kernel_rfl) (by simp) ?_
 refine AllReadyH.cons (o := _) rfl (fun K hK => ?_) AllReadyH.nil
 go_simp
 refine (CP3.out _ ((Below.refl _ _).drew)).mono ?_
 rintro e W5 ⟨rfl, d5⟩
 have D5 : Hid (Below W3.heap.size W3 W5) := ((Below.refl _ W3).drew).trans d5
 have H5 := HGW.out _ D5.out
 obtain ⟨e0, e1, e2, e3, e4⟩ := Blk.cells5 H5.2.b2
 have fr := H5.2.b2.free
 refine hK.out _ _ (⟨H5.2.bw, Sc.of H5.1⟩) (fun hHeld => ?_)
 clear hK K
 try simp only [Act.put, List.getElem_toArray, List.getElem_cons_zero, List.getElem_cons_succ, List.setIfInBounds_toArray, List.set_cons_zero, List.set_cons_succ]
 refine tk 6 rfl (by kernel_rfl) (fun _ _ _ h => h) (by rfl) (fun w hSw => by (try dsimp only [Sc] at hSw); go_simp; try (with_reducible rfl)) (by assumption) ?_
 simp only [Act.put, List.getElem_toArray, List.getElem_cons_zero, List.getElem_cons_succ, List.setIfInBounds_toArray, List.set_cons_zero, List.set_cons_succ]
 refine wpAnyH_ready (rs := [7]) (by kernel_rfl) (by simp) ?_
 refine AllReadyH.cons (o := _) rfl (fun K hK => ?_) AllReadyH.nil
 go_simp
 skip
 refine hK.out _ _ (⟨below_put5 H5.2.bw (by omega) _ _ _ _ _, Sc.of (blk_put5 H5.1 (by have := HGL.out; omega) _ _ _ _ _)⟩) (fun hHeld => ?_)
 clear hK K
 try simp only [Act.put, List.getElem_toArray, List.getElem_cons_zero, List.getElem_cons_succ, List.setIfInBounds_toArray, List.set_cons_zero, List.set_cons_succ]
 refine wpAnyH_done (by kernel_rfl) ?_ _
 have HFIN : Hid (Below w.heap.size w (((((W5.setCell ⟨w.heap.size + 1, 0, none⟩ (.string q.sc)).setCell ⟨w.heap.size + 1, 1, none⟩ (.int .i64 q.hk)).setCell ⟨w.heap.size + 1, 2, none⟩ (.string q.hn)).setCell ⟨w.heap.size + 1, 3, none⟩ (.int .i64 q.ha)).setCell ⟨w.heap.size + 1, 4, none⟩ (.int .i64 t))) := below_put5 H5.2.bw (by omega) _ _ _ _ _
 clear H5 D5 hHeld HGW CP3
 go_wp2
 exact bodyPost_ret (v := .agg #[.string q.sc, .int .i64 q.hk, .string q.hn, .int .i64 q.ha, .int .i64 t]) (by simp [results, Tryz.results19, go_sem, e0, e1, e2, e3, e4]) rfl ⟨rfl, HFIN.out⟩
theorem implOriginOf (q : P) (a : Option Addr) (n c : Nat) (w : World) (hL : Lean1 w) (hS : StrsOf a n q.ps w) (hs : q.tot ≤ 1048576) (hpo : q.po ≤ 9223372036854775807) (b : Bool) (hb : b = true ↔ okP q) :
  Calls Tryz.prog 19 #[.agg (q.cells (.slice a n c))] w fun e w' => e = .returned (.agg (orgB b q)) ∧ Below w.heap.size w w' := by
 unfold orgB orgV
 by_cases hok : okP q
 ·rw [if_pos (hb.2 hok)]
  by_cases ho : ownZ q.sc < 0
  ·rw [if_pos ho]; exact implOriginNone q a n c w hL hS hs hpo hok ho
  ·rw [if_neg ho]; exact implOriginYes q a n c w hL hS hs hpo hok ho _ rfl
 ·rw [if_neg (fun h => hok (hb.1 h))]
  exact implOriginNo q a n c w hL hS hs hpo hok
end Go.Proofs.YtfcbjdooijhibaaGreatDoor
end
section
namespace Go.Proofs.YtfcbjdooijhibaaGreatDoor
open Go.RowKit Go.Shelf
open Go.Maps (Keyed)
open Go.WideMaps (KeyLaw)
theorem org_wide : (match Tryz.prog.underlying 40 with | some (.array _ _) | some (.struct _) => true | _ => false) = true := by kernel_rfl
theorem org_keyType : Tryz.prog.keyType 40 = true := by kernel_rfl
theorem org_size : decide (3 ≤ Tryz.prog.types.size) = true := by kernel_rfl
theorem org_row : decide (40 < Tryz.prog.types.size) = true := by kernel_rfl
theorem org_laidOut : laidOutB Tryz.prog = true := by kernel_rfl
theorem org_law : KeyLaw Tryz.prog 40 := deep_law_laid org_laidOut (m := 6) (by omega) (of_decide_eq_true org_row) (by kernel_rfl) org_wide
def orgKey (s : ByteArray) (k : Int) (t : ByteArray) (x p : Int) : Lit := .string (keyBytes [.string s.data.toList, .int .i64 k, .string t.data.toList, .int .i64 x, .int .i64 p])
theorem cells_o : Tryz.prog.cellsOf 40 = 5 := by kernel_rfl
theorem cells_h : Tryz.prog.cellsOf 24 = 3 := by kernel_rfl
theorem cells_s : Tryz.prog.cellsOf 9 = 1 := by kernel_rfl
theorem cells_i : Tryz.prog.cellsOf 3 = 1 := by kernel_rfl
theorem org_key (s : ByteArray) (k : Int) (t : ByteArray) (x p : Int) (hs : s.size ≤ maxLen) (hk : (Lit.int .i64 k).wf = true) (ht : t.size ≤ maxLen) (hx : (Lit.int .i64 x).wf = true) (hp : (Lit.int .i64 p).wf = true) :
  keyOf Tryz.prog 40 (.agg #[.string s, .int .i64 k, .string t, .int .i64 x, .int .i64 p]) = some (orgKey s k t x p) := by
 obtain ⟨m, hm⟩ := Nat.exists_eq_add_of_le (of_decide_eq_true org_size)
 have hl : Tryz.prog.keyLits (Tryz.prog.types.size + 1) 40 [.string s, .int .i64 k, .string t, .int .i64 x, .int .i64 p] = some [.string s.data.toList, .int .i64 k, .string t.data.toList, .int .i64 x, .int .i64 p] := by
  rw [hm, show 3 + m + 1 = m + 1 + 1 + 1 + 1 by omega]
  simp [Program.keyLits, Tryz.underlying40, Tryz.underlying24, Tryz.underlying9, Tryz.underlying3, cells_o, cells_h, cells_s, cells_i, hs, hk, ht, hx, hp]
  rw [if_pos (by decide)]
  rfl
 unfold keyOf
 have hf : (Value.agg #[.string s, .int .i64 k, .string t, .int .i64 x, .int .i64 p]).formed Tryz.prog 40 = true := by
  simp [Value.formed, Tryz.underlying40, cells_o]
 rw [Tryz.underlying40]
 simp only [org_keyType, hf, Bool.and_self, if_true]
 have e : (Value.agg #[.string s, .int .i64 k, .string t, .int .i64 x, .int .i64 p]).cells.toList = [.string s, .int .i64 k, .string t, .int .i64 x, .int .i64 p] := by simp [Value.cells]
 rw [e, hl]
 rfl
end Go.Proofs.YtfcbjdooijhibaaGreatDoor
end
section
namespace Go.Proofs.YtfcbjdooijhibaaGreatDoor
open Go.RowKit Go.Shelf
def bsP (q : P) : P := { q with hf := false, fr := ⟨#[]⟩ }
theorem bsP_ps (q : P) : (bsP q).ps = q.ps := rfl
end Go.Proofs.YtfcbjdooijhibaaGreatDoor
end
