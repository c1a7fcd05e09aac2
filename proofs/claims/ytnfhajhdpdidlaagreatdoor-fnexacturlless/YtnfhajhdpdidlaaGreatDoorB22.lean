/- impl.urlAgain, where an address is read: its last region. -/
import Derived.Test.YtnfhajhdpdidlaaGreatDoorB21
import Derived.Test.YtnfhajhdpdidlaaGreatDoorB15
set_option linter.unusedVariables false
set_option linter.unusedSimpArgs false
set_option maxHeartbeats 4000000
set_option maxRecDepth 100000
section
namespace Go.Proofs.YtnfhajhdpdidlaaGreatDoor
open Go.RowKit Go.Shelf
theorem OwnS.low {B k : Nat} {v : Value} {ps : List (List UInt8)} {w : World} (h : OwnS B v ps w) (hk : k < B) (j : Nat) (x : Value) : OwnS B v ps (w.setCell ⟨k, j, none⟩ x) := by
 refine ⟨h.1, ?_⟩
 rcases h.2 with h1 | ⟨g, cap, cur, hv, hb, hg, rest⟩
 ·exact .inl h1
 ·refine .inr ⟨g, cap, cur, hv, hb, ?_, rest⟩
  rw [← hg]
  simp [World.setCell, Array.getElem?_modify]
  intro e
  omega
theorem OwnS.mono {B C : Nat} {v : Value} {ps : List (List UInt8)} {w : World} (h : OwnS B v ps w) (hc : C ≤ B) : OwnS C v ps w := by
 refine ⟨h.1, ?_⟩
 rcases h.2 with h1 | ⟨g, cap, cur, hv, hb, rest⟩
 ·exact .inl h1
 ·exact .inr ⟨g, cap, cur, hv, by omega, rest⟩
theorem OwnS.put13 {B g : Nat} {v : Value} {ps : List (List UInt8)} {w : World} (h : OwnS B v ps w) (hg : g < B) {v0 v1 v2 v3 v4 v5 v6 v7 v8 v9 v10 v11 v12 : Value} :
  OwnS B v ps (((((((((((((w.setCell ⟨g, 0, none⟩ v0).setCell ⟨g, 1, none⟩ v1).setCell ⟨g, 2, none⟩ v2).setCell ⟨g, 3, none⟩ v3).setCell ⟨g, 4, none⟩ v4).setCell ⟨g, 5, none⟩ v5).setCell ⟨g, 6, none⟩ v6).setCell ⟨g, 7, none⟩ v7).setCell ⟨g, 8, none⟩ v8).setCell ⟨g, 9, none⟩ v9).setCell ⟨g, 10, none⟩ v10).setCell ⟨g, 11, none⟩ v11).setCell ⟨g, 12, none⟩ v12) :=
 ((((((((((((h.low hg 0 _).low hg 1 _).low hg 2 _).low hg 3 _).low hg 4 _).low hg 5 _).low hg 6 _).low hg 7 _).low hg 8 _).low hg 9 _).low hg 10 _).low hg 11 _).low hg 12 _
theorem urlAgainX (q r : P) (s : ByteArray) (a : Option Addr) (n c : Nat) (w : World) (hrl : r.ps.length ≤ 1000) (x : Bool)
  (CP : Hid (∀ W, Below w.heap.size w W → Calls Tryz.prog 58 #[.agg #[(.string q.sc), (.string q.us), (.string q.pw), (.int .i64 q.hk), (.string q.hn), (.int .i64 q.ha), (.int .i64 q.po), (.slice a n c), (.string q.op), (.bool q.hq), (.string q.qu), (.bool q.hf), (.string q.fr)]] W fun e w' => e = .returned (.string s) ∧ Below W.heap.size W w'))
  (CG : Hid (∀ W, Below w.heap.size w W → Calls Tryz.prog 21 #[.string s] W fun e w' => ∃ v, e = .returned (.tuple #[.agg (r.cells v), .bool true]) ∧ OwnS W.heap.size v r.ps w' ∧ Below W.heap.size W w'))
  (CE : Hid (∀ a1 n1 c1 W, n1 ≤ 1000 → StrsOf a1 n1 r.ps W → Below w.heap.size w W → Calls Tryz.prog 98 #[.agg #[(.string r.sc), (.string r.us), (.string r.pw), (.int .i64 r.hk), (.string r.hn), (.int .i64 r.ha), (.int .i64 r.po), (.slice a1 n1 c1), (.string r.op), (.bool r.hq), (.string r.qu), (.bool r.hf), (.string r.fr)], .agg #[(.string q.sc), (.string q.us), (.string q.pw), (.int .i64 q.hk), (.string q.hn), (.int .i64 q.ha), (.int .i64 q.po), (.slice a n c), (.string q.op), (.bool q.hq), (.string q.qu), (.bool q.hf), (.string q.fr)]] W fun e w' => e = .returned (.bool x) ∧ Below W.heap.size W w')) :
  Calls Tryz.prog 81 #[.agg (q.cells (.slice a n c))] w fun e w' => ∃ v, e = .returned (.tuple #[.agg (r.cells v), .bool x]) ∧ OwnS w.heap.size v r.ps w' ∧ Below w.heap.size w w' := by
 have H0 : Hid (Tw w #[(.string q.sc), (.string q.us), (.string q.pw), (.int .i64 q.hk), (.string q.hn), (.int .i64 q.ha), (.int .i64 q.po), (.slice a n c), (.string q.op), (.bool q.hq), (.string q.qu), (.bool q.hf), (.string q.fr)] #[(.string ⟨#[]⟩), (.string ⟨#[]⟩), (.string ⟨#[]⟩), (.int .i64 0), (.string ⟨#[]⟩), (.int .i64 0), (.int .i64 0), (.slice none 0 0), (.string ⟨#[]⟩), (.bool false), (.string ⟨#[]⟩), (.bool false), (.string ⟨#[]⟩)] ((w.alloc (.cells #[(.string q.sc), (.string q.us), (.string q.pw), (.int .i64 q.hk), (.string q.hn), (.int .i64 q.ha), (.int .i64 q.po), (.slice a n c), (.string q.op), (.bool q.hq), (.string q.qu), (.bool q.hf), (.string q.fr)] 31)).alloc (.cells #[(.string ⟨#[]⟩), (.string ⟨#[]⟩), (.string ⟨#[]⟩), (.int .i64 0), (.string ⟨#[]⟩), (.int .i64 0), (.int .i64 0), (.slice none 0 0), (.string ⟨#[]⟩), (.bool false), (.string ⟨#[]⟩), (.bool false), (.string ⟨#[]⟩)] 31))) := Tw.start w _ _
 unfold P.cells
 go_enter Tryz.func81, Tryz.ntmps81
 go_wp2_with fail
 refine (CP.out _ H0.out.bw).mono ?_
 rintro e W1 ⟨rfl, d1⟩
 have HX1 : Hid (Tw w #[(.string q.sc), (.string q.us), (.string q.pw), (.int .i64 q.hk), (.string q.hn), (.int .i64 q.ha), (.int .i64 q.po), (.slice a n c), (.string q.op), (.bool q.hq), (.string q.qu), (.bool q.hf), (.string q.fr)] #[(.string ⟨#[]⟩), (.string ⟨#[]⟩), (.string ⟨#[]⟩), (.int .i64 0), (.string ⟨#[]⟩), (.int .i64 0), (.int .i64 0), (.slice none 0 0), (.string ⟨#[]⟩), (.bool false), (.string ⟨#[]⟩), (.bool false), (.string ⟨#[]⟩)] W1) := H0.out.later d1
 clear d1 H0 CP
 go_wp2_with fail
 refine (CG.out _ HX1.out.bw).mono ?_
 rintro e W2 ⟨v2, rfl, o2, d2⟩
 obtain ⟨a2, c2, hv2, hc2, s2⟩ := o2.strs
 obtain ⟨n2, hn2⟩ : ∃ n2, n2 = r.ps.length := ⟨_, rfl⟩
 rw [← hn2] at hv2 s2 hrl
 subst hv2
 have HX2 : Hid (Tw w #[(.string q.sc), (.string q.us), (.string q.pw), (.int .i64 q.hk), (.string q.hn), (.int .i64 q.ha), (.int .i64 q.po), (.slice a n c), (.string q.op), (.bool q.hq), (.string q.qu), (.bool q.hf), (.string q.fr)] #[(.string ⟨#[]⟩), (.string ⟨#[]⟩), (.string ⟨#[]⟩), (.int .i64 0), (.string ⟨#[]⟩), (.int .i64 0), (.int .i64 0), (.slice none 0 0), (.string ⟨#[]⟩), (.bool false), (.string ⟨#[]⟩), (.bool false), (.string ⟨#[]⟩)] W2) := HX1.out.later d2
 have HO2 : Hid (OwnS W1.heap.size (.slice a2 n2 c2) r.ps W2) := o2
 have HS2 : Hid (StrsOf a2 n2 r.ps W2) := s2
 have HW1 : Hid (w.heap.size + 1 < W1.heap.size) := HX1.out.b2.lt
 clear o2 d2 s2 hc2 HX1 CG hn2
 unfold P.cells
 obtain ⟨V, hV⟩ : ∃ V, V = W2.alloc (.cells #[(.string r.sc), (.string r.us), (.string r.pw), (.int .i64 r.hk), (.string r.hn), (.int .i64 r.ha), (.int .i64 r.po), (.slice a2 n2 c2), (.string r.op), (.bool r.hq), (.string r.qu), (.bool r.hf), (.string r.fr)] 31) := ⟨_, rfl⟩
 have HBV : Hid (Below W2.heap.size W2 V) := by show Below _ _ _; rw [hV]; exact (Below.refl _ _).alloc (Nat.le_refl _) _
 have HXV : Hid (Tw w #[(.string q.sc), (.string q.us), (.string q.pw), (.int .i64 q.hk), (.string q.hn), (.int .i64 q.ha), (.int .i64 q.po), (.slice a n c), (.string q.op), (.bool q.hq), (.string q.qu), (.bool q.hf), (.string q.fr)] #[(.string ⟨#[]⟩), (.string ⟨#[]⟩), (.string ⟨#[]⟩), (.int .i64 0), (.string ⟨#[]⟩), (.int .i64 0), (.int .i64 0), (.slice none 0 0), (.string ⟨#[]⟩), (.bool false), (.string ⟨#[]⟩), (.bool false), (.string ⟨#[]⟩)] V) := HX2.out.later HBV.out
 have HRV : Hid (Blk W2.heap.size #[(.string r.sc), (.string r.us), (.string r.pw), (.int .i64 r.hk), (.string r.hn), (.int .i64 r.ha), (.int .i64 r.po), (.slice a2 n2 c2), (.string r.op), (.bool r.hq), (.string r.qu), (.bool r.hf), (.string r.fr)] 31 V) := by show Blk _ _ _ _; rw [hV]; exact Blk.new W2 _ _
 have HOV : Hid (OwnS W1.heap.size (.slice a2 n2 c2) r.ps V) := HO2.out.later HBV.out
 have CE3 : Hid (∀ W, Below V.heap.size V W → Calls Tryz.prog 98 #[.agg #[(.string r.sc), (.string r.us), (.string r.pw), (.int .i64 r.hk), (.string r.hn), (.int .i64 r.ha), (.int .i64 r.po), (.slice a2 n2 c2), (.string r.op), (.bool r.hq), (.string r.qu), (.bool r.hf), (.string r.fr)], .agg #[(.string q.sc), (.string q.us), (.string q.pw), (.int .i64 q.hk), (.string q.hn), (.int .i64 q.ha), (.int .i64 q.po), (.slice a n c), (.string q.op), (.bool q.hq), (.string q.qu), (.bool q.hf), (.string q.fr)]] W fun e w' => e = .returned (.bool x) ∧ Below W.heap.size W w') := fun W d => CE.out a2 n2 c2 W hrl ((HS2.out.later HBV.out).later d) (HXV.out.bw.trans (d.mono HXV.out.bw.size))
 have HTV : Hid (∀ W, Below V.heap.size V W → Blk (w.heap.size + 1) #[(.string ⟨#[]⟩), (.string ⟨#[]⟩), (.string ⟨#[]⟩), (.int .i64 0), (.string ⟨#[]⟩), (.int .i64 0), (.int .i64 0), (.slice none 0 0), (.string ⟨#[]⟩), (.bool false), (.string ⟨#[]⟩), (.bool false), (.string ⟨#[]⟩)] 31 W ∧ Blk W2.heap.size #[(.string r.sc), (.string r.us), (.string r.pw), (.int .i64 r.hk), (.string r.hn), (.int .i64 r.ha), (.int .i64 r.po), (.slice a2 n2 c2), (.string r.op), (.bool r.hq), (.string r.qu), (.bool r.hf), (.string r.fr)] 31 W) := fun W d => ⟨HXV.out.b2.below d HXV.out.b2.lt, HRV.out.below d HRV.out.lt⟩
 have HALL : Hid (∀ W, Below V.heap.size V W → OwnS w.heap.size (.slice a2 n2 c2) r.ps (((((((((((((W.setCell ⟨w.heap.size + 1, 0, none⟩ (.string r.sc)).setCell ⟨w.heap.size + 1, 1, none⟩ (.string r.us)).setCell ⟨w.heap.size + 1, 2, none⟩ (.string r.pw)).setCell ⟨w.heap.size + 1, 3, none⟩ (.int .i64 r.hk)).setCell ⟨w.heap.size + 1, 4, none⟩ (.string r.hn)).setCell ⟨w.heap.size + 1, 5, none⟩ (.int .i64 r.ha)).setCell ⟨w.heap.size + 1, 6, none⟩ (.int .i64 r.po)).setCell ⟨w.heap.size + 1, 7, none⟩ (.slice a2 n2 c2)).setCell ⟨w.heap.size + 1, 8, none⟩ (.string r.op)).setCell ⟨w.heap.size + 1, 9, none⟩ (.bool r.hq)).setCell ⟨w.heap.size + 1, 10, none⟩ (.string r.qu)).setCell ⟨w.heap.size + 1, 11, none⟩ (.bool r.hf)).setCell ⟨w.heap.size + 1, 12, none⟩ (.string r.fr)) ∧ Below w.heap.size w (((((((((((((W.setCell ⟨w.heap.size + 1, 0, none⟩ (.string r.sc)).setCell ⟨w.heap.size + 1, 1, none⟩ (.string r.us)).setCell ⟨w.heap.size + 1, 2, none⟩ (.string r.pw)).setCell ⟨w.heap.size + 1, 3, none⟩ (.int .i64 r.hk)).setCell ⟨w.heap.size + 1, 4, none⟩ (.string r.hn)).setCell ⟨w.heap.size + 1, 5, none⟩ (.int .i64 r.ha)).setCell ⟨w.heap.size + 1, 6, none⟩ (.int .i64 r.po)).setCell ⟨w.heap.size + 1, 7, none⟩ (.slice a2 n2 c2)).setCell ⟨w.heap.size + 1, 8, none⟩ (.string r.op)).setCell ⟨w.heap.size + 1, 9, none⟩ (.bool r.hq)).setCell ⟨w.heap.size + 1, 10, none⟩ (.string r.qu)).setCell ⟨w.heap.size + 1, 11, none⟩ (.bool r.hf)).setCell ⟨w.heap.size + 1, 12, none⟩ (.string r.fr)) ∧ Blk (w.heap.size + 1) #[(.string r.sc), (.string r.us), (.string r.pw), (.int .i64 r.hk), (.string r.hn), (.int .i64 r.ha), (.int .i64 r.po), (.slice a2 n2 c2), (.string r.op), (.bool r.hq), (.string r.qu), (.bool r.hf), (.string r.fr)] 31 (((((((((((((W.setCell ⟨w.heap.size + 1, 0, none⟩ (.string r.sc)).setCell ⟨w.heap.size + 1, 1, none⟩ (.string r.us)).setCell ⟨w.heap.size + 1, 2, none⟩ (.string r.pw)).setCell ⟨w.heap.size + 1, 3, none⟩ (.int .i64 r.hk)).setCell ⟨w.heap.size + 1, 4, none⟩ (.string r.hn)).setCell ⟨w.heap.size + 1, 5, none⟩ (.int .i64 r.ha)).setCell ⟨w.heap.size + 1, 6, none⟩ (.int .i64 r.po)).setCell ⟨w.heap.size + 1, 7, none⟩ (.slice a2 n2 c2)).setCell ⟨w.heap.size + 1, 8, none⟩ (.string r.op)).setCell ⟨w.heap.size + 1, 9, none⟩ (.bool r.hq)).setCell ⟨w.heap.size + 1, 10, none⟩ (.string r.qu)).setCell ⟨w.heap.size + 1, 11, none⟩ (.bool r.hf)).setCell ⟨w.heap.size + 1, 12, none⟩ (.string r.fr))) := fun W d =>
  ⟨((OwnS.put13 (HOV.out.later d) HW1.out).mono (by have := HW1.out; omega)), below_put13 (HXV.out.bw.trans (d.mono HXV.out.bw.size)) (by omega) _ _ _ _ _ _ _ _ _ _ _ _ _, Blk.put13 (HXV.out.b2.below d HXV.out.b2.lt) _ _ _ _ _ _ _ _ _ _ _ _ _⟩
 clear CE HS2 HX2 HO2 hrl
 obtain ⟨q0, q1, q2, q3, q4, q5, q6, q7, q8, q9, q10, q11, q12⟩ := Blk.cells13a HXV.out.b1
 obtain ⟨j0, j1, j2, j3, j4, j5, j6, j7, j8, j9, j10, j11, j12⟩ := Blk.cells13a HRV.out
 go_upto_region 3 with fail
 rw [← hV]
 clear hV HBV HXV HRV HOV
 go_region_with (first
  | (go_at_call 98; refine (CE3.out _ ?hd).mono ?_; (case hd => first | exact Below.refl _ _ | exact (Below.refl _ _).drew); rintro e W3 ⟨rfl, d3⟩; have HD3 : Hid (Below V.heap.size V W3) := (by first | exact d3 | exact ((Below.refl _ V).drew).trans d3); clear d3; clear j0 j1 j2 j3 j4 j5 j6 j7 j8 j9 j10 j11 j12; obtain ⟨k0, k1, k2, k3, k4, k5, k6, k7, k8, k9, k10, k11, k12⟩ := Blk.cells13a (HTV.out W3 HD3.out).1; obtain ⟨j0, j1, j2, j3, j4, j5, j6, j7, j8, j9, j10, j11, j12⟩ := Blk.cells13a (HTV.out W3 HD3.out).2; have f3 := (HTV.out W3 HD3.out).1.free)
  | fail)
 all_goals
  have HFIN : Hid (OwnS w.heap.size (.slice a2 n2 c2) r.ps (((((((((((((W3.setCell ⟨w.heap.size + 1, 0, none⟩ (.string r.sc)).setCell ⟨w.heap.size + 1, 1, none⟩ (.string r.us)).setCell ⟨w.heap.size + 1, 2, none⟩ (.string r.pw)).setCell ⟨w.heap.size + 1, 3, none⟩ (.int .i64 r.hk)).setCell ⟨w.heap.size + 1, 4, none⟩ (.string r.hn)).setCell ⟨w.heap.size + 1, 5, none⟩ (.int .i64 r.ha)).setCell ⟨w.heap.size + 1, 6, none⟩ (.int .i64 r.po)).setCell ⟨w.heap.size + 1, 7, none⟩ (.slice a2 n2 c2)).setCell ⟨w.heap.size + 1, 8, none⟩ (.string r.op)).setCell ⟨w.heap.size + 1, 9, none⟩ (.bool r.hq)).setCell ⟨w.heap.size + 1, 10, none⟩ (.string r.qu)).setCell ⟨w.heap.size + 1, 11, none⟩ (.bool r.hf)).setCell ⟨w.heap.size + 1, 12, none⟩ (.string r.fr)) ∧ Below w.heap.size w (((((((((((((W3.setCell ⟨w.heap.size + 1, 0, none⟩ (.string r.sc)).setCell ⟨w.heap.size + 1, 1, none⟩ (.string r.us)).setCell ⟨w.heap.size + 1, 2, none⟩ (.string r.pw)).setCell ⟨w.heap.size + 1, 3, none⟩ (.int .i64 r.hk)).setCell ⟨w.heap.size + 1, 4, none⟩ (.string r.hn)).setCell ⟨w.heap.size + 1, 5, none⟩ (.int .i64 r.ha)).setCell ⟨w.heap.size + 1, 6, none⟩ (.int .i64 r.po)).setCell ⟨w.heap.size + 1, 7, none⟩ (.slice a2 n2 c2)).setCell ⟨w.heap.size + 1, 8, none⟩ (.string r.op)).setCell ⟨w.heap.size + 1, 9, none⟩ (.bool r.hq)).setCell ⟨w.heap.size + 1, 10, none⟩ (.string r.qu)).setCell ⟨w.heap.size + 1, 11, none⟩ (.bool r.hf)).setCell ⟨w.heap.size + 1, 12, none⟩ (.string r.fr)) ∧ Blk (w.heap.size + 1) #[(.string r.sc), (.string r.us), (.string r.pw), (.int .i64 r.hk), (.string r.hn), (.int .i64 r.ha), (.int .i64 r.po), (.slice a2 n2 c2), (.string r.op), (.bool r.hq), (.string r.qu), (.bool r.hf), (.string r.fr)] 31 (((((((((((((W3.setCell ⟨w.heap.size + 1, 0, none⟩ (.string r.sc)).setCell ⟨w.heap.size + 1, 1, none⟩ (.string r.us)).setCell ⟨w.heap.size + 1, 2, none⟩ (.string r.pw)).setCell ⟨w.heap.size + 1, 3, none⟩ (.int .i64 r.hk)).setCell ⟨w.heap.size + 1, 4, none⟩ (.string r.hn)).setCell ⟨w.heap.size + 1, 5, none⟩ (.int .i64 r.ha)).setCell ⟨w.heap.size + 1, 6, none⟩ (.int .i64 r.po)).setCell ⟨w.heap.size + 1, 7, none⟩ (.slice a2 n2 c2)).setCell ⟨w.heap.size + 1, 8, none⟩ (.string r.op)).setCell ⟨w.heap.size + 1, 9, none⟩ (.bool r.hq)).setCell ⟨w.heap.size + 1, 10, none⟩ (.string r.qu)).setCell ⟨w.heap.size + 1, 11, none⟩ (.bool r.hf)).setCell ⟨w.heap.size + 1, 12, none⟩ (.string r.fr))) := HALL.out W3 HD3.out
  obtain ⟨U, hU⟩ : ∃ U, U = (((((((((((((W3.setCell ⟨w.heap.size + 1, 0, none⟩ (.string r.sc)).setCell ⟨w.heap.size + 1, 1, none⟩ (.string r.us)).setCell ⟨w.heap.size + 1, 2, none⟩ (.string r.pw)).setCell ⟨w.heap.size + 1, 3, none⟩ (.int .i64 r.hk)).setCell ⟨w.heap.size + 1, 4, none⟩ (.string r.hn)).setCell ⟨w.heap.size + 1, 5, none⟩ (.int .i64 r.ha)).setCell ⟨w.heap.size + 1, 6, none⟩ (.int .i64 r.po)).setCell ⟨w.heap.size + 1, 7, none⟩ (.slice a2 n2 c2)).setCell ⟨w.heap.size + 1, 8, none⟩ (.string r.op)).setCell ⟨w.heap.size + 1, 9, none⟩ (.bool r.hq)).setCell ⟨w.heap.size + 1, 10, none⟩ (.string r.qu)).setCell ⟨w.heap.size + 1, 11, none⟩ (.bool r.hf)).setCell ⟨w.heap.size + 1, 12, none⟩ (.string r.fr)) := ⟨_, rfl⟩
  rw [← hU] at HFIN ⊢
  clear hU
  obtain ⟨z0, z1, z2, z3, z4, z5, z6, z7, z8, z9, z10, z11, z12⟩ := Blk.cells13a HFIN.out.2.2
  go_wp2
  refine bodyPost_ret (v := .tuple #[.agg #[(.string r.sc), (.string r.us), (.string r.pw), (.int .i64 r.hk), (.string r.hn), (.int .i64 r.ha), (.int .i64 r.po), (.slice a2 n2 c2), (.string r.op), (.bool r.hq), (.string r.qu), (.bool r.hf), (.string r.fr)], .bool x]) (by simp [results, Tryz.results81, go_sem, z0, z1, z2, z3, z4, z5, z6, z7, z8, z9, z10, z11, z12]) rfl ?_
  exact ⟨_, rfl, HFIN.out.1, HFIN.out.2.1⟩
end Go.Proofs.YtnfhajhdpdidlaaGreatDoor
end
