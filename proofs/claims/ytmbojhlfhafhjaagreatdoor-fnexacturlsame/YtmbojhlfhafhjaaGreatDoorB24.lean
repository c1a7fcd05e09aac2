/- laws.toUrl: an address as the laws hand it in, copied. Two addresses side by side; texts that are not the same. impl.urlEqual of addresses that are not the same: the first parts. -/
import Derived.Test.YtmbojhlfhafhjaaGreatDoorB23
import Derived.Test.YtmbojhlfhafhjaaGreatDoorB21
import Derived.Deep.Cut
import Derived.Test.YtmbojhlfhafhjaaGreatDoorB12
section
set_option linter.unusedVariables false
set_option linter.unusedSimpArgs false
namespace Go.Proofs.YtmbojhlfhafhjaaGreatDoor
open Go.RowKit Go.Shelf

theorem Part.own {g B : Nat} {ss : List (List UInt8)} {w : World} (h : Part g ss ss.length w) (hB : B ≤ g) (hl : ss.length ≤ 1000000000) : OwnS B (.slice (some ⟨g, 0, none⟩) ss.length ss.length) ss w := by
  obtain ⟨A, hg, hs, hc⟩ := h
  refine ⟨by simp, .inr ⟨g, ss.length, A, rfl, hB, hg, Nat.le_refl _, by unfold maxLen; omega, by omega, ?_⟩⟩
  apply List.ext_getElem?
  intro j
  rw [Nat.mul_one, List.getElem?_take]
  by_cases hj : j < ss.length
  · rw [if_pos hj]
    have := hc j hj hj
    simp at this ⊢
    rw [this]; simp [hj]
  · rw [if_neg hj]
    rw [List.getElem?_eq_none (by rw [List.length_map]; omega)]
theorem heap_other (w : World) (g j k : Nat) (x : Value) (h : k ≠ g) : (w.setCell ⟨g, j, none⟩ x).heap[k]? = w.heap[k]? := by
  simp [World.setCell, Array.getElem?_modify]
  intro e
  exact absurd e.symm h
theorem OwnS.other {B g n c k : Nat} {ps : List (List UInt8)} {w : World} (h : OwnS B (.slice (some ⟨g, 0, none⟩) n c) ps w) (hk : k < g) (j : Nat) (x : Value) : OwnS B (.slice (some ⟨g, 0, none⟩) n c) ps (w.setCell ⟨k, j, none⟩ x) := by
  refine ⟨h.1, ?_⟩
  rcases h.2 with ⟨h1, _⟩ | ⟨g', cap, cur, hv, hb, hg, rest⟩
  · cases h1
  · simp only [Value.slice.injEq, Option.some.injEq, Addr.mk.injEq, and_true, true_and] at hv
    obtain ⟨rfl, _, rfl⟩ := hv
    exact .inr ⟨g, c, cur, by simp_all, hb, (heap_other w k j g x (by omega)).trans hg, rest⟩
/-- While an address is copied: the argument, the answer, and what becomes of it. -/
structure Tu (w : World) (q : P) (v : Value) (A : Array Value) (W : World) : Prop where
  make ::
  la : Blk w.heap.size (q.cells v) 34 W
  rs : Blk (w.heap.size + 1) zeroC 26 W
  ou : Blk (w.heap.size + 2) A 26 W
  bw : Below w.heap.size w W
theorem Tu.later {w W W' : World} {q : P} {v : Value} {A : Array Value} (h : Tu w q v A W) (b : Below W.heap.size W W') : Tu w q v A W' := ⟨h.la.below b h.la.lt, h.rs.below b h.rs.lt, h.ou.below b h.ou.lt, h.bw.trans (b.mono h.bw.size)⟩
theorem Tu.start (w : World) (q : P) (v : Value) (A : Array Value) : Tu w q v A (((w.alloc (.cells (q.cells v) 34)).alloc (.cells zeroC 26)).alloc (.cells A 26)) where
  la := ((Blk.new w _ _).alloc _).alloc _
  rs := by
    have := (Blk.new (w.alloc (.cells (q.cells v) 34)) zeroC 26).alloc (.cells A 26)
    rw [show (w.alloc (Obj.cells (q.cells v) 34)).heap.size = w.heap.size + 1 by simp] at this
    exact this
  ou := by
    have := Blk.new ((w.alloc (.cells (q.cells v) 34)).alloc (.cells zeroC 26)) A 26
    rw [show ((w.alloc (Obj.cells (q.cells v) 34)).alloc (Obj.cells zeroC 26)).heap.size = w.heap.size + 2 by simp] at this
    exact this
  bw := below3 w _ _ _
theorem Tu.set {w W : World} {q : P} {v : Value} {A : Array Value} (h : Tu w q v A W) (j : Nat) (x : Value) : Tu w q v (A.setIfInBounds j x) (W.setCell ⟨w.heap.size + 2, j, none⟩ x) where
  la := (heap_other W (w.heap.size + 2) j w.heap.size x (by omega)).trans h.la
  rs := (heap_other W (w.heap.size + 2) j (w.heap.size + 1) x (by omega)).trans h.rs
  ou := Blk.set h.ou j x
  bw := h.bw.setCell (p := ⟨w.heap.size + 2, j, none⟩) (by simp) _
set_option maxHeartbeats 4000000 in
set_option maxRecDepth 100000 in
theorem toUrl (q : P) (a : Option Addr) (n c : Nat) (w : World) (hS : StrsOf a n q.ps w) (hl : n ≤ 1048576) :
    Calls Tryz.prog 16 #[.agg (q.cells (.slice a n c))] w fun e w' => ∃ g, e = .returned (.agg (q.cells (.slice (some ⟨g, 0, none⟩) n n))) ∧ OwnS w.heap.size (.slice (some ⟨g, 0, none⟩) n n) q.ps w' ∧ Below w.heap.size w w' := by
  have CH : Hid (∀ W, Calls Tryz.prog 43 #[.agg #[.int .i64 q.hk, .string q.hn, .int .i64 q.ha]] W fun e w' => e = .returned (.agg #[.int .i64 q.hk, .string q.hn, .int .i64 q.ha]) ∧ Below W.heap.size W w') := fun W => toHost _ _ _ W
  have CS : Hid (∀ W, Below w.heap.size w W → Calls Tryz.prog 44 #[.slice a n c] W fun e w' => ∃ g, W.heap.size ≤ g ∧ e = .returned (.slice (some ⟨g, 0, none⟩) n n) ∧ OwnS w.heap.size (.slice (some ⟨g, 0, none⟩) n n) q.ps w' ∧ Below W.heap.size W w') := fun W b => by
    have hn : n = q.ps.length := hS.1
    refine (toStringP a n c q.ps W (hS.later b) (by omega)).mono fun e w' ⟨he, hp, hb⟩ => ⟨W.heap.size, Nat.le_refl _, he, ?_, hb⟩
    rw [hn]; exact hp.own b.size (by omega)
  have H0 : Hid (Tu w q (.slice a n c) #[(.string q.sc), (.string q.us), (.string q.pw), (.int .i64 0), (.string ⟨#[]⟩), (.int .i64 0), (.int .i64 0), (.slice none 0 0), (.string ⟨#[]⟩), (.bool false), (.string ⟨#[]⟩), (.bool false), (.string ⟨#[]⟩)] (((w.alloc (.cells (q.cells (.slice a n c)) 34)).alloc (.cells zeroC 26)).alloc (.cells #[(.string q.sc), (.string q.us), (.string q.pw), (.int .i64 0), (.string ⟨#[]⟩), (.int .i64 0), (.int .i64 0), (.slice none 0 0), (.string ⟨#[]⟩), (.bool false), (.string ⟨#[]⟩), (.bool false), (.string ⟨#[]⟩)] 26))) := Tu.start w q _ _
  clear hS hl
  unfold P.cells zeroC at H0
  unfold P.cells
  go_enter Tryz.func16, Tryz.ntmps16
  go_wp2_with fail
  refine (CH.out _).mono ?_
  rintro e W1 ⟨rfl, d1⟩
  have HX1 : Hid (Tu w q (.slice a n c) #[(.string q.sc), (.string q.us), (.string q.pw), (.int .i64 0), (.string ⟨#[]⟩), (.int .i64 0), (.int .i64 0), (.slice none 0 0), (.string ⟨#[]⟩), (.bool false), (.string ⟨#[]⟩), (.bool false), (.string ⟨#[]⟩)] W1) := H0.out.later d1
  clear d1 H0 CH
  have HX2 : Hid (Tu w q (.slice a n c) #[(.string q.sc), (.string q.us), (.string q.pw), (.int .i64 q.hk), (.string q.hn), (.int .i64 q.ha), (.int .i64 q.po), (.slice none 0 0), (.string ⟨#[]⟩), (.bool false), (.string ⟨#[]⟩), (.bool false), (.string ⟨#[]⟩)] ((((W1.setCell ⟨w.heap.size + 2, 3, none⟩ (.int .i64 q.hk)).setCell ⟨w.heap.size + 2, 4, none⟩ (.string q.hn)).setCell ⟨w.heap.size + 2, 5, none⟩ (.int .i64 q.ha)).setCell ⟨w.heap.size + 2, 6, none⟩ (.int .i64 q.po))) := by
    have := (((HX1.out.set 3 (.int .i64 q.hk)).set 4 (.string q.hn)).set 5 (.int .i64 q.ha)).set 6 (.int .i64 q.po)
    show Tu _ _ _ _ _
    simpa using this
  have la0 : W1.cell? ⟨w.heap.size, 0, none⟩ = some (.string q.sc) := HX1.out.la.cell 0
  have la1 : W1.cell? ⟨w.heap.size, 1, none⟩ = some (.string q.us) := HX1.out.la.cell 1
  have la2 : W1.cell? ⟨w.heap.size, 2, none⟩ = some (.string q.pw) := HX1.out.la.cell 2
  have la3 : W1.cell? ⟨w.heap.size, 3, none⟩ = some (.int .i64 q.hk) := HX1.out.la.cell 3
  have la4 : W1.cell? ⟨w.heap.size, 4, none⟩ = some (.string q.hn) := HX1.out.la.cell 4
  have la5 : W1.cell? ⟨w.heap.size, 5, none⟩ = some (.int .i64 q.ha) := HX1.out.la.cell 5
  have la6 : W1.cell? ⟨w.heap.size, 6, none⟩ = some (.int .i64 q.po) := HX1.out.la.cell 6
  have la7 : W1.cell? ⟨w.heap.size, 7, none⟩ = some (.slice a n c) := HX1.out.la.cell 7
  have la8 : W1.cell? ⟨w.heap.size, 8, none⟩ = some (.string q.op) := HX1.out.la.cell 8
  have la9 : W1.cell? ⟨w.heap.size, 9, none⟩ = some (.bool q.hq) := HX1.out.la.cell 9
  have la10 : W1.cell? ⟨w.heap.size, 10, none⟩ = some (.string q.qu) := HX1.out.la.cell 10
  have la11 : W1.cell? ⟨w.heap.size, 11, none⟩ = some (.bool q.hf) := HX1.out.la.cell 11
  have la12 : W1.cell? ⟨w.heap.size, 12, none⟩ = some (.string q.fr) := HX1.out.la.cell 12
  have ou0 : W1.cell? ⟨w.heap.size + 2, 0, none⟩ = some (.string q.sc) := HX1.out.ou.cell 0
  have ou1 : W1.cell? ⟨w.heap.size + 2, 1, none⟩ = some (.string q.us) := HX1.out.ou.cell 1
  have ou2 : W1.cell? ⟨w.heap.size + 2, 2, none⟩ = some (.string q.pw) := HX1.out.ou.cell 2
  have ou3 : W1.cell? ⟨w.heap.size + 2, 3, none⟩ = some (.int .i64 0) := HX1.out.ou.cell 3
  have ou4 : W1.cell? ⟨w.heap.size + 2, 4, none⟩ = some (.string ⟨#[]⟩) := HX1.out.ou.cell 4
  have ou5 : W1.cell? ⟨w.heap.size + 2, 5, none⟩ = some (.int .i64 0) := HX1.out.ou.cell 5
  have ou6 : W1.cell? ⟨w.heap.size + 2, 6, none⟩ = some (.int .i64 0) := HX1.out.ou.cell 6
  have ou7 : W1.cell? ⟨w.heap.size + 2, 7, none⟩ = some (.slice none 0 0) := HX1.out.ou.cell 7
  have ou8 : W1.cell? ⟨w.heap.size + 2, 8, none⟩ = some (.string ⟨#[]⟩) := HX1.out.ou.cell 8
  have ou9 : W1.cell? ⟨w.heap.size + 2, 9, none⟩ = some (.bool false) := HX1.out.ou.cell 9
  have ou10 : W1.cell? ⟨w.heap.size + 2, 10, none⟩ = some (.string ⟨#[]⟩) := HX1.out.ou.cell 10
  have ou11 : W1.cell? ⟨w.heap.size + 2, 11, none⟩ = some (.bool false) := HX1.out.ou.cell 11
  have ou12 : W1.cell? ⟨w.heap.size + 2, 12, none⟩ = some (.string ⟨#[]⟩) := HX1.out.ou.cell 12
  have fo0 := HX1.out.ou.free 0
  have fo1 := HX1.out.ou.free 1
  have fo2 := HX1.out.ou.free 2
  have fo3 := HX1.out.ou.free 3
  have fo4 := HX1.out.ou.free 4
  have fo5 := HX1.out.ou.free 5
  have fo6 := HX1.out.ou.free 6
  have fo7 := HX1.out.ou.free 7
  have fo8 := HX1.out.ou.free 8
  have fo9 := HX1.out.ou.free 9
  have fo10 := HX1.out.ou.free 10
  have fo11 := HX1.out.ou.free 11
  have fo12 := HX1.out.ou.free 12
  have s1 : w.heap.size + 2 < W1.heap.size := HX1.out.ou.lt
  clear HX1
  have HZ : Hid (((((W1.setCell ⟨w.heap.size + 2, 3, none⟩ (.int .i64 q.hk)).setCell ⟨w.heap.size + 2, 4, none⟩ (.string q.hn)).setCell ⟨w.heap.size + 2, 5, none⟩ (.int .i64 q.ha)).setCell ⟨w.heap.size + 2, 6, none⟩ (.int .i64 q.po)).heap.size = W1.heap.size) := by show _ = _; simp
  go_wp2_with fail
  refine (CS.out _ HX2.out.bw).mono ?_
  rintro e W3 ⟨g, hg, rfl, o3, d3⟩
  have hg2 : w.heap.size + 2 < g := by
    have h1 : W1.heap.size ≤ g := by rw [← HZ.out]; exact hg
    omega
  have HX3 : Hid (Tu w q (.slice a n c) #[(.string q.sc), (.string q.us), (.string q.pw), (.int .i64 q.hk), (.string q.hn), (.int .i64 q.ha), (.int .i64 q.po), (.slice none 0 0), (.string ⟨#[]⟩), (.bool false), (.string ⟨#[]⟩), (.bool false), (.string ⟨#[]⟩)] W3) := HX2.out.later d3
  have HO3 : Hid (OwnS w.heap.size (.slice (some ⟨g, 0, none⟩) n n) q.ps W3) := o3
  clear o3 d3 HX2 HZ hg CS s1 la0 ou0 fo0 la1 ou1 fo1 la2 ou2 fo2 la3 ou3 fo3 la4 ou4 fo4 la5 ou5 fo5 la6 ou6 fo6 la7 ou7 fo7 la8 ou8 fo8 la9 ou9 fo9 la10 ou10 fo10 la11 ou11 fo11 la12 ou12 fo12
  have la0 : W3.cell? ⟨w.heap.size, 0, none⟩ = some (.string q.sc) := HX3.out.la.cell 0
  have la1 : W3.cell? ⟨w.heap.size, 1, none⟩ = some (.string q.us) := HX3.out.la.cell 1
  have la2 : W3.cell? ⟨w.heap.size, 2, none⟩ = some (.string q.pw) := HX3.out.la.cell 2
  have la3 : W3.cell? ⟨w.heap.size, 3, none⟩ = some (.int .i64 q.hk) := HX3.out.la.cell 3
  have la4 : W3.cell? ⟨w.heap.size, 4, none⟩ = some (.string q.hn) := HX3.out.la.cell 4
  have la5 : W3.cell? ⟨w.heap.size, 5, none⟩ = some (.int .i64 q.ha) := HX3.out.la.cell 5
  have la6 : W3.cell? ⟨w.heap.size, 6, none⟩ = some (.int .i64 q.po) := HX3.out.la.cell 6
  have la7 : W3.cell? ⟨w.heap.size, 7, none⟩ = some (.slice a n c) := HX3.out.la.cell 7
  have la8 : W3.cell? ⟨w.heap.size, 8, none⟩ = some (.string q.op) := HX3.out.la.cell 8
  have la9 : W3.cell? ⟨w.heap.size, 9, none⟩ = some (.bool q.hq) := HX3.out.la.cell 9
  have la10 : W3.cell? ⟨w.heap.size, 10, none⟩ = some (.string q.qu) := HX3.out.la.cell 10
  have la11 : W3.cell? ⟨w.heap.size, 11, none⟩ = some (.bool q.hf) := HX3.out.la.cell 11
  have la12 : W3.cell? ⟨w.heap.size, 12, none⟩ = some (.string q.fr) := HX3.out.la.cell 12
  have fo0 := HX3.out.ou.free 0
  have fo1 := HX3.out.ou.free 1
  have fo2 := HX3.out.ou.free 2
  have fo3 := HX3.out.ou.free 3
  have fo4 := HX3.out.ou.free 4
  have fo5 := HX3.out.ou.free 5
  have fo6 := HX3.out.ou.free 6
  have fo7 := HX3.out.ou.free 7
  have fo8 := HX3.out.ou.free 8
  have fo9 := HX3.out.ou.free 9
  have fo10 := HX3.out.ou.free 10
  have fo11 := HX3.out.ou.free 11
  have fo12 := HX3.out.ou.free 12
  have ou0 : W3.cell? ⟨w.heap.size + 2, 0, none⟩ = some (.string q.sc) := HX3.out.ou.cell 0
  have ou1 : W3.cell? ⟨w.heap.size + 2, 1, none⟩ = some (.string q.us) := HX3.out.ou.cell 1
  have ou2 : W3.cell? ⟨w.heap.size + 2, 2, none⟩ = some (.string q.pw) := HX3.out.ou.cell 2
  have ou3 : W3.cell? ⟨w.heap.size + 2, 3, none⟩ = some (.int .i64 q.hk) := HX3.out.ou.cell 3
  have ou4 : W3.cell? ⟨w.heap.size + 2, 4, none⟩ = some (.string q.hn) := HX3.out.ou.cell 4
  have ou5 : W3.cell? ⟨w.heap.size + 2, 5, none⟩ = some (.int .i64 q.ha) := HX3.out.ou.cell 5
  have ou6 : W3.cell? ⟨w.heap.size + 2, 6, none⟩ = some (.int .i64 q.po) := HX3.out.ou.cell 6
  have ou7 : W3.cell? ⟨w.heap.size + 2, 7, none⟩ = some (.slice none 0 0) := HX3.out.ou.cell 7
  have ou8 : W3.cell? ⟨w.heap.size + 2, 8, none⟩ = some (.string ⟨#[]⟩) := HX3.out.ou.cell 8
  have ou9 : W3.cell? ⟨w.heap.size + 2, 9, none⟩ = some (.bool false) := HX3.out.ou.cell 9
  have ou10 : W3.cell? ⟨w.heap.size + 2, 10, none⟩ = some (.string ⟨#[]⟩) := HX3.out.ou.cell 10
  have ou11 : W3.cell? ⟨w.heap.size + 2, 11, none⟩ = some (.bool false) := HX3.out.ou.cell 11
  have ou12 : W3.cell? ⟨w.heap.size + 2, 12, none⟩ = some (.string ⟨#[]⟩) := HX3.out.ou.cell 12
  have rs0 : W3.cell? ⟨w.heap.size + 1, 0, none⟩ = some (.string ⟨#[]⟩) := HX3.out.rs.cell 0
  have rs1 : W3.cell? ⟨w.heap.size + 1, 1, none⟩ = some (.string ⟨#[]⟩) := HX3.out.rs.cell 1
  have rs2 : W3.cell? ⟨w.heap.size + 1, 2, none⟩ = some (.string ⟨#[]⟩) := HX3.out.rs.cell 2
  have rs3 : W3.cell? ⟨w.heap.size + 1, 3, none⟩ = some (.int .i64 0) := HX3.out.rs.cell 3
  have rs4 : W3.cell? ⟨w.heap.size + 1, 4, none⟩ = some (.string ⟨#[]⟩) := HX3.out.rs.cell 4
  have rs5 : W3.cell? ⟨w.heap.size + 1, 5, none⟩ = some (.int .i64 0) := HX3.out.rs.cell 5
  have rs6 : W3.cell? ⟨w.heap.size + 1, 6, none⟩ = some (.int .i64 0) := HX3.out.rs.cell 6
  have rs7 : W3.cell? ⟨w.heap.size + 1, 7, none⟩ = some (.slice none 0 0) := HX3.out.rs.cell 7
  have rs8 : W3.cell? ⟨w.heap.size + 1, 8, none⟩ = some (.string ⟨#[]⟩) := HX3.out.rs.cell 8
  have rs9 : W3.cell? ⟨w.heap.size + 1, 9, none⟩ = some (.bool false) := HX3.out.rs.cell 9
  have rs10 : W3.cell? ⟨w.heap.size + 1, 10, none⟩ = some (.string ⟨#[]⟩) := HX3.out.rs.cell 10
  have rs11 : W3.cell? ⟨w.heap.size + 1, 11, none⟩ = some (.bool false) := HX3.out.rs.cell 11
  have rs12 : W3.cell? ⟨w.heap.size + 1, 12, none⟩ = some (.string ⟨#[]⟩) := HX3.out.rs.cell 12
  have fr0 := HX3.out.rs.free 0
  have fr1 := HX3.out.rs.free 1
  have fr2 := HX3.out.rs.free 2
  have fr3 := HX3.out.rs.free 3
  have fr4 := HX3.out.rs.free 4
  have fr5 := HX3.out.rs.free 5
  have fr6 := HX3.out.rs.free 6
  have fr7 := HX3.out.rs.free 7
  have fr8 := HX3.out.rs.free 8
  have fr9 := HX3.out.rs.free 9
  have fr10 := HX3.out.rs.free 10
  have fr11 := HX3.out.rs.free 11
  have fr12 := HX3.out.rs.free 12
  have s3 : w.heap.size + 2 < W3.heap.size := HX3.out.ou.lt
  go_upto_region 13 with fail
  have HX4 : Hid (Tu w q (.slice a n c) #[(.string q.sc), (.string q.us), (.string q.pw), (.int .i64 q.hk), (.string q.hn), (.int .i64 q.ha), (.int .i64 q.po), (.slice (some ⟨g, 0, none⟩) n n), (.string q.op), (.bool q.hq), (.string q.qu), (.bool q.hf), (.string q.fr)] ((((((W3.setCell ⟨w.heap.size + 2, 7, none⟩ (.slice (some ⟨g, 0, none⟩) n n)).setCell ⟨w.heap.size + 2, 8, none⟩ (.string q.op)).setCell ⟨w.heap.size + 2, 9, none⟩ (.bool q.hq)).setCell ⟨w.heap.size + 2, 10, none⟩ (.string q.qu)).setCell ⟨w.heap.size + 2, 11, none⟩ (.bool q.hf)).setCell ⟨w.heap.size + 2, 12, none⟩ (.string q.fr))) := by
    have := (((((HX3.out.set 7 (.slice (some ⟨g, 0, none⟩) n n)).set 8 (.string q.op)).set 9 (.bool q.hq)).set 10 (.string q.qu)).set 11 (.bool q.hf)).set 12 (.string q.fr)
    show Tu _ _ _ _ _
    simpa using this
  have HO4 : Hid (OwnS w.heap.size (.slice (some ⟨g, 0, none⟩) n n) q.ps ((((((W3.setCell ⟨w.heap.size + 2, 7, none⟩ (.slice (some ⟨g, 0, none⟩) n n)).setCell ⟨w.heap.size + 2, 8, none⟩ (.string q.op)).setCell ⟨w.heap.size + 2, 9, none⟩ (.bool q.hq)).setCell ⟨w.heap.size + 2, 10, none⟩ (.string q.qu)).setCell ⟨w.heap.size + 2, 11, none⟩ (.bool q.hf)).setCell ⟨w.heap.size + 2, 12, none⟩ (.string q.fr))) := by
    show OwnS _ _ _ _
    exact (((((HO3.out.other hg2 7 _).other hg2 8 _).other hg2 9 _).other hg2 10 _).other hg2 11 _).other hg2 12 _
  clear HX3 HO3 s3 la0 ou0 fo0 rs0 fr0 la1 ou1 fo1 rs1 fr1 la2 ou2 fo2 rs2 fr2 la3 ou3 fo3 rs3 fr3 la4 ou4 fo4 rs4 fr4 la5 ou5 fo5 rs5 fr5 la6 ou6 fo6 rs6 fr6 la7 ou7 fo7 rs7 fr7 la8 ou8 fo8 rs8 fr8 la9 ou9 fo9 rs9 fr9 la10 ou10 fo10 rs10 fr10 la11 ou11 fo11 rs11 fr11 la12 ou12 fo12 rs12 fr12
  obtain ⟨W4, hW4⟩ : ∃ W, W = ((((((W3.setCell ⟨w.heap.size + 1 + 1, 7, none⟩ (.slice (some ⟨g, 0, none⟩) n n)).setCell ⟨w.heap.size + 1 + 1, 8, none⟩ (.string q.op)).setCell ⟨w.heap.size + 1 + 1, 9, none⟩ (.bool q.hq)).setCell ⟨w.heap.size + 1 + 1, 10, none⟩ (.string q.qu)).setCell ⟨w.heap.size + 1 + 1, 11, none⟩ (.bool q.hf)).setCell ⟨w.heap.size + 1 + 1, 12, none⟩ (.string q.fr)) := ⟨_, rfl⟩
  have HY4 : Hid (Tu w q (.slice a n c) #[(.string q.sc), (.string q.us), (.string q.pw), (.int .i64 q.hk), (.string q.hn), (.int .i64 q.ha), (.int .i64 q.po), (.slice (some ⟨g, 0, none⟩) n n), (.string q.op), (.bool q.hq), (.string q.qu), (.bool q.hf), (.string q.fr)] W4) := by rw [hW4]; exact HX4.out
  have HP4 : Hid (OwnS w.heap.size (.slice (some ⟨g, 0, none⟩) n n) q.ps W4) := by rw [hW4]; exact HO4.out
  rw [← hW4]
  clear HX4 HO4 hW4
  have ou0 : W4.cell? ⟨w.heap.size + 1 + 1, 0, none⟩ = some (.string q.sc) := HY4.out.ou.cell 0
  have ou1 : W4.cell? ⟨w.heap.size + 1 + 1, 1, none⟩ = some (.string q.us) := HY4.out.ou.cell 1
  have ou2 : W4.cell? ⟨w.heap.size + 1 + 1, 2, none⟩ = some (.string q.pw) := HY4.out.ou.cell 2
  have ou3 : W4.cell? ⟨w.heap.size + 1 + 1, 3, none⟩ = some (.int .i64 q.hk) := HY4.out.ou.cell 3
  have ou4 : W4.cell? ⟨w.heap.size + 1 + 1, 4, none⟩ = some (.string q.hn) := HY4.out.ou.cell 4
  have ou5 : W4.cell? ⟨w.heap.size + 1 + 1, 5, none⟩ = some (.int .i64 q.ha) := HY4.out.ou.cell 5
  have ou6 : W4.cell? ⟨w.heap.size + 1 + 1, 6, none⟩ = some (.int .i64 q.po) := HY4.out.ou.cell 6
  have ou7 : W4.cell? ⟨w.heap.size + 1 + 1, 7, none⟩ = some (.slice (some ⟨g, 0, none⟩) n n) := HY4.out.ou.cell 7
  have ou8 : W4.cell? ⟨w.heap.size + 1 + 1, 8, none⟩ = some (.string q.op) := HY4.out.ou.cell 8
  have ou9 : W4.cell? ⟨w.heap.size + 1 + 1, 9, none⟩ = some (.bool q.hq) := HY4.out.ou.cell 9
  have ou10 : W4.cell? ⟨w.heap.size + 1 + 1, 10, none⟩ = some (.string q.qu) := HY4.out.ou.cell 10
  have ou11 : W4.cell? ⟨w.heap.size + 1 + 1, 11, none⟩ = some (.bool q.hf) := HY4.out.ou.cell 11
  have ou12 : W4.cell? ⟨w.heap.size + 1 + 1, 12, none⟩ = some (.string q.fr) := HY4.out.ou.cell 12
  have rs0 : W4.cell? ⟨w.heap.size + 1, 0, none⟩ = some (.string ⟨#[]⟩) := HY4.out.rs.cell 0
  have rs1 : W4.cell? ⟨w.heap.size + 1, 1, none⟩ = some (.string ⟨#[]⟩) := HY4.out.rs.cell 1
  have rs2 : W4.cell? ⟨w.heap.size + 1, 2, none⟩ = some (.string ⟨#[]⟩) := HY4.out.rs.cell 2
  have rs3 : W4.cell? ⟨w.heap.size + 1, 3, none⟩ = some (.int .i64 0) := HY4.out.rs.cell 3
  have rs4 : W4.cell? ⟨w.heap.size + 1, 4, none⟩ = some (.string ⟨#[]⟩) := HY4.out.rs.cell 4
  have rs5 : W4.cell? ⟨w.heap.size + 1, 5, none⟩ = some (.int .i64 0) := HY4.out.rs.cell 5
  have rs6 : W4.cell? ⟨w.heap.size + 1, 6, none⟩ = some (.int .i64 0) := HY4.out.rs.cell 6
  have rs7 : W4.cell? ⟨w.heap.size + 1, 7, none⟩ = some (.slice none 0 0) := HY4.out.rs.cell 7
  have rs8 : W4.cell? ⟨w.heap.size + 1, 8, none⟩ = some (.string ⟨#[]⟩) := HY4.out.rs.cell 8
  have rs9 : W4.cell? ⟨w.heap.size + 1, 9, none⟩ = some (.bool false) := HY4.out.rs.cell 9
  have rs10 : W4.cell? ⟨w.heap.size + 1, 10, none⟩ = some (.string ⟨#[]⟩) := HY4.out.rs.cell 10
  have rs11 : W4.cell? ⟨w.heap.size + 1, 11, none⟩ = some (.bool false) := HY4.out.rs.cell 11
  have rs12 : W4.cell? ⟨w.heap.size + 1, 12, none⟩ = some (.string ⟨#[]⟩) := HY4.out.rs.cell 12
  have fr0 := HY4.out.rs.free 0
  have fr1 := HY4.out.rs.free 1
  have fr2 := HY4.out.rs.free 2
  have fr3 := HY4.out.rs.free 3
  have fr4 := HY4.out.rs.free 4
  have fr5 := HY4.out.rs.free 5
  have fr6 := HY4.out.rs.free 6
  have fr7 := HY4.out.rs.free 7
  have fr8 := HY4.out.rs.free 8
  have fr9 := HY4.out.rs.free 9
  have fr10 := HY4.out.rs.free 10
  have fr11 := HY4.out.rs.free 11
  have fr12 := HY4.out.rs.free 12
  have HFIN : Hid (OwnS w.heap.size (.slice (some ⟨g, 0, none⟩) n n) q.ps (((((((((((((W4.setCell ⟨w.heap.size + 1, 0, none⟩ (.string q.sc)).setCell ⟨w.heap.size + 1, 1, none⟩ (.string q.us)).setCell ⟨w.heap.size + 1, 2, none⟩ (.string q.pw)).setCell ⟨w.heap.size + 1, 3, none⟩ (.int .i64 q.hk)).setCell ⟨w.heap.size + 1, 4, none⟩ (.string q.hn)).setCell ⟨w.heap.size + 1, 5, none⟩ (.int .i64 q.ha)).setCell ⟨w.heap.size + 1, 6, none⟩ (.int .i64 q.po)).setCell ⟨w.heap.size + 1, 7, none⟩ (.slice (some ⟨g, 0, none⟩) n n)).setCell ⟨w.heap.size + 1, 8, none⟩ (.string q.op)).setCell ⟨w.heap.size + 1, 9, none⟩ (.bool q.hq)).setCell ⟨w.heap.size + 1, 10, none⟩ (.string q.qu)).setCell ⟨w.heap.size + 1, 11, none⟩ (.bool q.hf)).setCell ⟨w.heap.size + 1, 12, none⟩ (.string q.fr)) ∧ Below w.heap.size w (((((((((((((W4.setCell ⟨w.heap.size + 1, 0, none⟩ (.string q.sc)).setCell ⟨w.heap.size + 1, 1, none⟩ (.string q.us)).setCell ⟨w.heap.size + 1, 2, none⟩ (.string q.pw)).setCell ⟨w.heap.size + 1, 3, none⟩ (.int .i64 q.hk)).setCell ⟨w.heap.size + 1, 4, none⟩ (.string q.hn)).setCell ⟨w.heap.size + 1, 5, none⟩ (.int .i64 q.ha)).setCell ⟨w.heap.size + 1, 6, none⟩ (.int .i64 q.po)).setCell ⟨w.heap.size + 1, 7, none⟩ (.slice (some ⟨g, 0, none⟩) n n)).setCell ⟨w.heap.size + 1, 8, none⟩ (.string q.op)).setCell ⟨w.heap.size + 1, 9, none⟩ (.bool q.hq)).setCell ⟨w.heap.size + 1, 10, none⟩ (.string q.qu)).setCell ⟨w.heap.size + 1, 11, none⟩ (.bool q.hf)).setCell ⟨w.heap.size + 1, 12, none⟩ (.string q.fr))) := by
    have h1 : w.heap.size + 1 < g := by omega
    exact ⟨((((((((((((HP4.out.other h1 0 _).other h1 1 _).other h1 2 _).other h1 3 _).other h1 4 _).other h1 5 _).other h1 6 _).other h1 7 _).other h1 8 _).other h1 9 _).other h1 10 _).other h1 11 _).other h1 12 _, below_put13 HY4.out.bw (by omega) _ _ _ _ _ _ _ _ _ _ _ _ _⟩
  clear HY4 HP4
  go_wp2
  refine bodyPost_ret (v := .agg #[(.string q.sc), (.string q.us), (.string q.pw), (.int .i64 q.hk), (.string q.hn), (.int .i64 q.ha), (.int .i64 q.po), (.slice (some ⟨g, 0, none⟩) n n), (.string q.op), (.bool q.hq), (.string q.qu), (.bool q.hf), (.string q.fr)]) (by simp [results, Tryz.results16, go_sem, rs0, rs1, rs2, rs3, rs4, rs5, rs6, rs7, rs8, rs9, rs10, rs11, rs12]) rfl ⟨g, rfl, HFIN.out⟩
end Go.Proofs.YtmbojhlfhafhjaaGreatDoor
end

section
set_option linter.unusedVariables false
set_option linter.unusedSimpArgs false
namespace Go.Proofs.YtmbojhlfhafhjaaGreatDoor
open Go.RowKit Go.Shelf
theorem tl_ne {x y : ByteArray} (h : ¬ x = y) : ¬ x.toList = y.toList := fun e => h (by
  rw [ByteArray.toList_eq, ByteArray.toList_eq] at e
  exact ByteArray.ext (Array.ext' e))
theorem tlb_ne {x y : ByteArray} (h : ¬ x = y) : (x.toList == y.toList) = false := by
  cases hb : x.toList == y.toList with
  | false => rfl
  | true => exact absurd (eq_of_beq hb) (tl_ne h)
theorem below2 (w : World) (a b : Obj) : Below w.heap.size w ((w.alloc a).alloc b) := ((Below.refl _ w).alloc (Nat.le_refl _) a).alloc (by simp) b
/-- Two addresses side by side. -/
structure Tw (w : World) (A B : Array Value) (W : World) : Prop where
  make ::
  b1 : Blk w.heap.size A 26 W
  b2 : Blk (w.heap.size + 1) B 26 W
  bw : Below w.heap.size w W
theorem Tw.start (w : World) (A B : Array Value) : Tw w A B ((w.alloc (.cells A 26)).alloc (.cells B 26)) where
  b1 := Blk.alloc (Blk.new w _ _) _
  b2 := by
    have := Blk.new (w.alloc (.cells A 26)) B 26
    rw [show (w.alloc (Obj.cells A 26)).heap.size = w.heap.size + 1 by simp] at this
    exact this
  bw := ((Below.refl _ w).alloc (Nat.le_refl _) _).alloc (by simp) _
theorem Tw.later {w W W' : World} {A B : Array Value} (h : Tw w A B W) (b : Below W.heap.size W W') : Tw w A B W' := ⟨h.b1.below b h.b1.lt, h.b2.below b h.b2.lt, h.bw.trans (b.mono h.bw.size)⟩
theorem Blk.cells13a {g : Nat} {x0 x1 x2 x3 x4 x5 x6 x7 x8 x9 x10 x11 x12 : Value} {t : TypeId} {W : World} (h : Blk g #[x0, x1, x2, x3, x4, x5, x6, x7, x8, x9, x10, x11, x12] t W) :
    W.cell? ⟨g, 0, none⟩ = some x0 ∧ W.cell? ⟨g, 1, none⟩ = some x1 ∧ W.cell? ⟨g, 2, none⟩ = some x2 ∧ W.cell? ⟨g, 3, none⟩ = some x3 ∧ W.cell? ⟨g, 4, none⟩ = some x4 ∧ W.cell? ⟨g, 5, none⟩ = some x5 ∧ W.cell? ⟨g, 6, none⟩ = some x6 ∧ W.cell? ⟨g, 7, none⟩ = some x7 ∧ W.cell? ⟨g, 8, none⟩ = some x8 ∧ W.cell? ⟨g, 9, none⟩ = some x9 ∧ W.cell? ⟨g, 10, none⟩ = some x10 ∧ W.cell? ⟨g, 11, none⟩ = some x11 ∧ W.cell? ⟨g, 12, none⟩ = some x12 :=
  ⟨h.cell 0, h.cell 1, h.cell 2, h.cell 3, h.cell 4, h.cell 5, h.cell 6, h.cell 7, h.cell 8, h.cell 9, h.cell 10, h.cell 11, h.cell 12⟩
end Go.Proofs.YtmbojhlfhafhjaaGreatDoor
end

section
set_option linter.unusedVariables false
set_option linter.unusedSimpArgs false
namespace Go.Proofs.YtmbojhlfhafhjaaGreatDoor
open Go.RowKit Go.Shelf
set_option maxHeartbeats 4000000 in
set_option maxRecDepth 100000 in
theorem ue_sc (rsc qsc : ByteArray) (rus qus : ByteArray) (rpw qpw : ByteArray) (rhk qhk : Int) (rhn qhn : ByteArray) (rha qha : Int) (rpo qpo : Int) (rop qop : ByteArray) (rhq qhq : Bool) (rqu qqu : ByteArray) (rhf qhf : Bool) (rfr qfr : ByteArray) (a a' : Option Addr) (n n' c c' : Nat) (w : World) (g : ¬ rsc = qsc) :
    Calls Tryz.prog 47 #[.agg #[(.string rsc), (.string rus), (.string rpw), (.int .i64 rhk), (.string rhn), (.int .i64 rha), (.int .i64 rpo), (.slice a n c), (.string rop), (.bool rhq), (.string rqu), (.bool rhf), (.string rfr)], .agg #[(.string qsc), (.string qus), (.string qpw), (.int .i64 qhk), (.string qhn), (.int .i64 qha), (.int .i64 qpo), (.slice a' n' c'), (.string qop), (.bool qhq), (.string qqu), (.bool qhf), (.string qfr)]] w fun e w' => e = .returned (.bool false) ∧ Below w.heap.size w w' := by
  have HB : Hid (Below w.heap.size w ((w.alloc (.cells #[(.string rsc), (.string rus), (.string rpw), (.int .i64 rhk), (.string rhn), (.int .i64 rha), (.int .i64 rpo), (.slice a n c), (.string rop), (.bool rhq), (.string rqu), (.bool rhf), (.string rfr)] 26)).alloc (.cells #[(.string qsc), (.string qus), (.string qpw), (.int .i64 qhk), (.string qhn), (.int .i64 qha), (.int .i64 qpo), (.slice a' n' c'), (.string qop), (.bool qhq), (.string qqu), (.bool qhf), (.string qfr)] 26))) := below2 w _ _
  have g2 := tl_ne g
  have g3 := tlb_ne g
  go_enter Tryz.func47, Tryz.ntmps47
  go_wp2
  go_ret
  exact ⟨rfl, HB.out⟩
set_option maxHeartbeats 4000000 in
set_option maxRecDepth 100000 in
theorem ue_us (qsc : ByteArray) (rus qus : ByteArray) (rpw qpw : ByteArray) (rhk qhk : Int) (rhn qhn : ByteArray) (rha qha : Int) (rpo qpo : Int) (rop qop : ByteArray) (rhq qhq : Bool) (rqu qqu : ByteArray) (rhf qhf : Bool) (rfr qfr : ByteArray) (a a' : Option Addr) (n n' c c' : Nat) (w : World) (g : ¬ rus = qus) :
    Calls Tryz.prog 47 #[.agg #[(.string qsc), (.string rus), (.string rpw), (.int .i64 rhk), (.string rhn), (.int .i64 rha), (.int .i64 rpo), (.slice a n c), (.string rop), (.bool rhq), (.string rqu), (.bool rhf), (.string rfr)], .agg #[(.string qsc), (.string qus), (.string qpw), (.int .i64 qhk), (.string qhn), (.int .i64 qha), (.int .i64 qpo), (.slice a' n' c'), (.string qop), (.bool qhq), (.string qqu), (.bool qhf), (.string qfr)]] w fun e w' => e = .returned (.bool false) ∧ Below w.heap.size w w' := by
  have HB : Hid (Below w.heap.size w ((w.alloc (.cells #[(.string qsc), (.string rus), (.string rpw), (.int .i64 rhk), (.string rhn), (.int .i64 rha), (.int .i64 rpo), (.slice a n c), (.string rop), (.bool rhq), (.string rqu), (.bool rhf), (.string rfr)] 26)).alloc (.cells #[(.string qsc), (.string qus), (.string qpw), (.int .i64 qhk), (.string qhn), (.int .i64 qha), (.int .i64 qpo), (.slice a' n' c'), (.string qop), (.bool qhq), (.string qqu), (.bool qhf), (.string qfr)] 26))) := below2 w _ _
  have g2 := tl_ne g
  have g3 := tlb_ne g
  go_enter Tryz.func47, Tryz.ntmps47
  go_wp2
  go_ret
  exact ⟨rfl, HB.out⟩
set_option maxHeartbeats 4000000 in
set_option maxRecDepth 100000 in
theorem ue_pw (qsc : ByteArray) (qus : ByteArray) (rpw qpw : ByteArray) (rhk qhk : Int) (rhn qhn : ByteArray) (rha qha : Int) (rpo qpo : Int) (rop qop : ByteArray) (rhq qhq : Bool) (rqu qqu : ByteArray) (rhf qhf : Bool) (rfr qfr : ByteArray) (a a' : Option Addr) (n n' c c' : Nat) (w : World) (g : ¬ rpw = qpw) :
    Calls Tryz.prog 47 #[.agg #[(.string qsc), (.string qus), (.string rpw), (.int .i64 rhk), (.string rhn), (.int .i64 rha), (.int .i64 rpo), (.slice a n c), (.string rop), (.bool rhq), (.string rqu), (.bool rhf), (.string rfr)], .agg #[(.string qsc), (.string qus), (.string qpw), (.int .i64 qhk), (.string qhn), (.int .i64 qha), (.int .i64 qpo), (.slice a' n' c'), (.string qop), (.bool qhq), (.string qqu), (.bool qhf), (.string qfr)]] w fun e w' => e = .returned (.bool false) ∧ Below w.heap.size w w' := by
  have HB : Hid (Below w.heap.size w ((w.alloc (.cells #[(.string qsc), (.string qus), (.string rpw), (.int .i64 rhk), (.string rhn), (.int .i64 rha), (.int .i64 rpo), (.slice a n c), (.string rop), (.bool rhq), (.string rqu), (.bool rhf), (.string rfr)] 26)).alloc (.cells #[(.string qsc), (.string qus), (.string qpw), (.int .i64 qhk), (.string qhn), (.int .i64 qha), (.int .i64 qpo), (.slice a' n' c'), (.string qop), (.bool qhq), (.string qqu), (.bool qhf), (.string qfr)] 26))) := below2 w _ _
  have g2 := tl_ne g
  have g3 := tlb_ne g
  go_enter Tryz.func47, Tryz.ntmps47
  go_wp2
  go_ret
  exact ⟨rfl, HB.out⟩
set_option maxHeartbeats 4000000 in
set_option maxRecDepth 100000 in
theorem ue_hk (qsc : ByteArray) (qus : ByteArray) (qpw : ByteArray) (rhk qhk : Int) (rhn qhn : ByteArray) (rha qha : Int) (rpo qpo : Int) (rop qop : ByteArray) (rhq qhq : Bool) (rqu qqu : ByteArray) (rhf qhf : Bool) (rfr qfr : ByteArray) (a a' : Option Addr) (n n' c c' : Nat) (w : World) (g : ¬ rhk = qhk) :
    Calls Tryz.prog 47 #[.agg #[(.string qsc), (.string qus), (.string qpw), (.int .i64 rhk), (.string rhn), (.int .i64 rha), (.int .i64 rpo), (.slice a n c), (.string rop), (.bool rhq), (.string rqu), (.bool rhf), (.string rfr)], .agg #[(.string qsc), (.string qus), (.string qpw), (.int .i64 qhk), (.string qhn), (.int .i64 qha), (.int .i64 qpo), (.slice a' n' c'), (.string qop), (.bool qhq), (.string qqu), (.bool qhf), (.string qfr)]] w fun e w' => e = .returned (.bool false) ∧ Below w.heap.size w w' := by
  have HB : Hid (Below w.heap.size w ((w.alloc (.cells #[(.string qsc), (.string qus), (.string qpw), (.int .i64 rhk), (.string rhn), (.int .i64 rha), (.int .i64 rpo), (.slice a n c), (.string rop), (.bool rhq), (.string rqu), (.bool rhf), (.string rfr)] 26)).alloc (.cells #[(.string qsc), (.string qus), (.string qpw), (.int .i64 qhk), (.string qhn), (.int .i64 qha), (.int .i64 qpo), (.slice a' n' c'), (.string qop), (.bool qhq), (.string qqu), (.bool qhf), (.string qfr)] 26))) := below2 w _ _
  have g2 : (rhk == qhk) = false := by simpa using g
  go_enter Tryz.func47, Tryz.ntmps47
  go_wp2
  go_ret
  exact ⟨rfl, HB.out⟩
end Go.Proofs.YtmbojhlfhafhjaaGreatDoor
end
