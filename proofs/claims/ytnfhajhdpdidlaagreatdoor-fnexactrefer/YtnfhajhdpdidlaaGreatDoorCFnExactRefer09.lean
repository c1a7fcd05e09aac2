/- The law FnExactRefer answers true, whatever the two addresses. -/
import Derived.Test.YtnfhajhdpdidlaaGreatDoorCFnExactRefer01
import Derived.Test.YtnfhajhdpdidlaaGreatDoorCFnExactRefer02
import Derived.Test.YtnfhajhdpdidlaaGreatDoorCFnExactRefer06
import Derived.Test.YtnfhajhdpdidlaaGreatDoorCFnExactRefer08
import Derived.Deep.Cut
set_option linter.unusedVariables false
set_option linter.unusedSimpArgs false
set_option maxHeartbeats 16000000
set_option maxRecDepth 100000
section
namespace Go.Proofs.YtnfhajhdpdidlaaGreatDoor
open Go.RowKit Go.Shelf
structure L2 (w : World) (A B : Array Value) (W : World) : Prop where
 make ::
 a : Blk w.heap.size A 26 W
 b : Blk (w.heap.size + 1) B 26 W
 bw : Below w.heap.size w W
theorem L2.start (w : World) (A B : Array Value) : L2 w A B ((w.alloc (.cells A 26)).alloc (.cells B 26)) where
 a := Blk.alloc (Blk.new w _ _) _
 b := by
  have := Blk.new (w.alloc (.cells A 26)) B 26
  rw [show (w.alloc (Obj.cells A 26)).heap.size = w.heap.size + 1 by simp] at this
  exact this
 bw := ((Below.refl _ w).alloc (Nat.le_refl _) _).alloc (by simp) _
theorem L2.later {w W W' : World} {A B : Array Value} (h : L2 w A B W) (b : Below W.heap.size W W') : L2 w A B W' := ⟨h.a.below b h.a.lt, h.b.below b h.b.lt, h.bw.trans (b.mono h.bw.size)⟩
theorem tot_len (q : P) : q.ps.length ≤ q.tot := by unfold P.tot; omega
theorem toUrlG (q : P) (a : Option Addr) (n c : Nat) (W : World) (hS : StrsOf a n q.ps W) (ht : q.tot ≤ 1048576) :
  Calls Tryz.prog 11 #[.agg (q.cells (.slice a n c))] W fun e w' => ∃ g, e = .returned (.agg (q.cells (.slice (some ⟨g, 0, none⟩) n n))) ∧ StrsOf (some ⟨g, 0, none⟩) n q.ps w' ∧ Below W.heap.size W w' := by
 have hn : n = q.ps.length := hS.1
 refine (toUrl q a n c W hS (by have := tot_len q; omega)).mono ?_
 rintro e w' ⟨g, rfl, o, d2⟩
 obtain ⟨a1, c1, h1, h2, s1⟩ := o.strs
 rw [← hn] at h1 s1
 injection h1 with e1 e2 e3
 rw [← e1] at s1
 exact ⟨g, rfl, s1, d2⟩
theorem eqUrlG (q : P) (g g' n : Nat) (W : World) (ht : q.tot ≤ 1048576) (s : StrsOf (some ⟨g, 0, none⟩) n q.ps W) (s' : StrsOf (some ⟨g', 0, none⟩) n q.ps W) :
  Calls Tryz.prog 13 #[.agg (q.cells (.slice (some ⟨g, 0, none⟩) n n)), .agg (q.cells (.slice (some ⟨g', 0, none⟩) n n))] W fun e w' => e = .returned (.bool true) ∧ Below W.heap.size W w' := by
 have hn : n = q.ps.length := s.1
 subst hn
 exact eqUrl q _ _ _ _ W s s' (by have := tot_len q; omega)
theorem fnExactRefer_walk (w : World) (hL : Lean1 w) (p : P) (a : Option Addr) (n c : Nat) (hS : StrsOf a n p.ps w) (hz : Sz p) (hpo : p.po ≤ 9223372036854775807) (q : P) (a' : Option Addr) (n' c' : Nat) (hS' : StrsOf a' n' q.ps w) (hz' : Sz q) (hpo' : q.po ≤ 9223372036854775807) :
  Calls Tryz.prog 5 #[.agg (p.cells (.slice a n c)), .agg (q.cells (.slice a' n' c'))] w fun e w' => e = .returned (.bool true) ∧ Below w.heap.size w w' := by
 obtain ⟨y, hy⟩ : ∃ x : Bool, x = true ↔ okP p ∧ 0 ≤ ownZ p.sc ∧ okP q ∧ 0 ≤ ownZ q.sc ∧ ¬ (Https p.sc ∧ ¬ Https q.sc) := by
  by_cases h : okP p ∧ 0 ≤ ownZ p.sc ∧ okP q ∧ 0 ≤ ownZ q.sc ∧ ¬ (Https p.sc ∧ ¬ Https q.sc)
  ·exact ⟨true, iff_of_true rfl h⟩
  ·exact ⟨false, iff_of_false (by decide) h⟩
 obtain ⟨z, hzz⟩ : ∃ x : Bool, x = true ↔ orgV p = orgV q := by
  by_cases h : orgV p = orgV q
  ·exact ⟨true, iff_of_true rfl h⟩
  ·exact ⟨false, iff_of_false (by decide) h⟩
 obtain ⟨x, hx⟩ : ∃ x, x = refT y z p := ⟨_, rfl⟩
 have CS : Hid (∀ W, Below w.heap.size w W → Calls Tryz.prog 9 #[.agg #[(.string p.sc), (.string p.us), (.string p.pw), (.int .i64 p.hk), (.string p.hn), (.int .i64 p.ha), (.int .i64 p.po), (.slice a n c), (.string p.op), (.bool p.hq), (.string p.qu), (.bool p.hf), (.string p.fr)], .int .i64 1048576] W fun e w' => ∃ r : Int, e = .returned (.int .i64 r) ∧ Below W.heap.size W w' ∧ Hid (r ≤ 1048576 ∧ (0 ≤ r → p.tot ≤ 1048576))) := fun W d => by
  refine (szUrl p a n c 1048576 W (hS.later d) hz (by decide) (by decide)).mono ?_
  rintro e w' ⟨r, rfl, d2, h1, h2⟩
  exact ⟨r, rfl, d2, h1, fun h => by have := h2 h; omega⟩
 have CS2 : Hid (∀ r W, 0 ≤ r → r ≤ 1048576 → Below w.heap.size w W → Calls Tryz.prog 9 #[.agg #[(.string q.sc), (.string q.us), (.string q.pw), (.int .i64 q.hk), (.string q.hn), (.int .i64 q.ha), (.int .i64 q.po), (.slice a' n' c'), (.string q.op), (.bool q.hq), (.string q.qu), (.bool q.hf), (.string q.fr)], .int .i64 r] W fun e w' => ∃ r2 : Int, e = .returned (.int .i64 r2) ∧ Below W.heap.size W w' ∧ Hid (0 ≤ r2 → q.tot ≤ 1048576)) := fun r W h0 h1 d => by
  refine (szUrl q a' n' c' r W (hS'.later d) hz' h0 h1).mono ?_
  rintro e w' ⟨r2, rfl, d2, h3, h4⟩
  exact ⟨r2, rfl, d2, fun h => by have := h4 h; omega⟩
 have CTA : Hid (p.tot ≤ 1048576 → ∀ W, Below w.heap.size w W → Calls Tryz.prog 11 #[.agg #[(.string p.sc), (.string p.us), (.string p.pw), (.int .i64 p.hk), (.string p.hn), (.int .i64 p.ha), (.int .i64 p.po), (.slice a n c), (.string p.op), (.bool p.hq), (.string p.qu), (.bool p.hf), (.string p.fr)]] W fun e w' => ∃ g, e = .returned (.agg #[(.string p.sc), (.string p.us), (.string p.pw), (.int .i64 p.hk), (.string p.hn), (.int .i64 p.ha), (.int .i64 p.po), (.slice (some ⟨g, 0, none⟩) n n), (.string p.op), (.bool p.hq), (.string p.qu), (.bool p.hf), (.string p.fr)]) ∧ StrsOf (some ⟨g, 0, none⟩) n p.ps w' ∧ Below W.heap.size W w') := fun ht W d => toUrlG p a n c W (hS.later d) ht
 have CTB : Hid (q.tot ≤ 1048576 → ∀ W, Below w.heap.size w W → Calls Tryz.prog 11 #[.agg #[(.string q.sc), (.string q.us), (.string q.pw), (.int .i64 q.hk), (.string q.hn), (.int .i64 q.ha), (.int .i64 q.po), (.slice a' n' c'), (.string q.op), (.bool q.hq), (.string q.qu), (.bool q.hf), (.string q.fr)]] W fun e w' => ∃ g, e = .returned (.agg #[(.string q.sc), (.string q.us), (.string q.pw), (.int .i64 q.hk), (.string q.hn), (.int .i64 q.ha), (.int .i64 q.po), (.slice (some ⟨g, 0, none⟩) n' n'), (.string q.op), (.bool q.hq), (.string q.qu), (.bool q.hf), (.string q.fr)]) ∧ StrsOf (some ⟨g, 0, none⟩) n' q.ps w' ∧ Below W.heap.size W w') := fun ht W d => toUrlG q a' n' c' W (hS'.later d) ht
 have CO : Hid (p.tot ≤ 1048576 → q.tot ≤ 1048576 → ∀ g g' W, StrsOf (some ⟨g, 0, none⟩) n p.ps W → StrsOf (some ⟨g', 0, none⟩) n' q.ps W → Calls Tryz.prog 18 #[.agg #[(.string p.sc), (.string p.us), (.string p.pw), (.int .i64 p.hk), (.string p.hn), (.int .i64 p.ha), (.int .i64 p.po), (.slice (some ⟨g, 0, none⟩) n n), (.string p.op), (.bool p.hq), (.string p.qu), (.bool p.hf), (.string p.fr)], .agg #[(.string q.sc), (.string q.us), (.string q.pw), (.int .i64 q.hk), (.string q.hn), (.int .i64 q.ha), (.int .i64 q.po), (.slice (some ⟨g', 0, none⟩) n' n'), (.string q.op), (.bool q.hq), (.string q.qu), (.bool q.hf), (.string q.fr)]] W fun e w' => e = .returned (.string x) ∧ Below W.heap.size W w') := fun ht ht' g g' W s s' => by rw [hx]; exact specRefer p q _ _ n n' _ _ W s s' ht ht' hpo hpo' y z hy hzz
 have CI : Hid (p.tot ≤ 1048576 → q.tot ≤ 1048576 → ∀ g g' W, Below w.heap.size w W → StrsOf (some ⟨g, 0, none⟩) n p.ps W → StrsOf (some ⟨g', 0, none⟩) n' q.ps W → Calls Tryz.prog 19 #[.agg #[(.string p.sc), (.string p.us), (.string p.pw), (.int .i64 p.hk), (.string p.hn), (.int .i64 p.ha), (.int .i64 p.po), (.slice (some ⟨g, 0, none⟩) n n), (.string p.op), (.bool p.hq), (.string p.qu), (.bool p.hf), (.string p.fr)], .agg #[(.string q.sc), (.string q.us), (.string q.pw), (.int .i64 q.hk), (.string q.hn), (.int .i64 q.ha), (.int .i64 q.po), (.slice (some ⟨g', 0, none⟩) n' n'), (.string q.op), (.bool q.hq), (.string q.qu), (.bool q.hf), (.string q.fr)]] W fun e w' => e = .returned (.string x) ∧ Below W.heap.size W w') := fun ht ht' g g' W d s s' => by rw [hx]; exact implRefer p q _ _ n n' _ _ W (hL.below d) s s' ht ht' hpo hpo' y z hy hzz
 have CEA : Hid (p.tot ≤ 1048576 → ∀ g g' W, StrsOf (some ⟨g, 0, none⟩) n p.ps W → StrsOf (some ⟨g', 0, none⟩) n p.ps W → Calls Tryz.prog 13 #[.agg #[(.string p.sc), (.string p.us), (.string p.pw), (.int .i64 p.hk), (.string p.hn), (.int .i64 p.ha), (.int .i64 p.po), (.slice (some ⟨g, 0, none⟩) n n), (.string p.op), (.bool p.hq), (.string p.qu), (.bool p.hf), (.string p.fr)], .agg #[(.string p.sc), (.string p.us), (.string p.pw), (.int .i64 p.hk), (.string p.hn), (.int .i64 p.ha), (.int .i64 p.po), (.slice (some ⟨g', 0, none⟩) n n), (.string p.op), (.bool p.hq), (.string p.qu), (.bool p.hf), (.string p.fr)]] W fun e w' => e = .returned (.bool true) ∧ Below W.heap.size W w') := fun ht g g' W s s' => eqUrlG p g g' n W ht s s'
 have CEB : Hid (q.tot ≤ 1048576 → ∀ g g' W, StrsOf (some ⟨g, 0, none⟩) n' q.ps W → StrsOf (some ⟨g', 0, none⟩) n' q.ps W → Calls Tryz.prog 13 #[.agg #[(.string q.sc), (.string q.us), (.string q.pw), (.int .i64 q.hk), (.string q.hn), (.int .i64 q.ha), (.int .i64 q.po), (.slice (some ⟨g, 0, none⟩) n' n'), (.string q.op), (.bool q.hq), (.string q.qu), (.bool q.hf), (.string q.fr)], .agg #[(.string q.sc), (.string q.us), (.string q.pw), (.int .i64 q.hk), (.string q.hn), (.int .i64 q.ha), (.int .i64 q.po), (.slice (some ⟨g', 0, none⟩) n' n'), (.string q.op), (.bool q.hq), (.string q.qu), (.bool q.hf), (.string q.fr)]] W fun e w' => e = .returned (.bool true) ∧ Below W.heap.size W w') := fun ht g g' W s s' => eqUrlG q g g' n' W ht s s'
 obtain ⟨V, hV⟩ : ∃ V, V = ((w.alloc (.cells #[(.string p.sc), (.string p.us), (.string p.pw), (.int .i64 p.hk), (.string p.hn), (.int .i64 p.ha), (.int .i64 p.po), (.slice a n c), (.string p.op), (.bool p.hq), (.string p.qu), (.bool p.hf), (.string p.fr)] 26)).alloc (.cells #[(.string q.sc), (.string q.us), (.string q.pw), (.int .i64 q.hk), (.string q.hn), (.int .i64 q.ha), (.int .i64 q.po), (.slice a' n' c'), (.string q.op), (.bool q.hq), (.string q.qu), (.bool q.hf), (.string q.fr)] 26)) := ⟨_, rfl⟩
 have HT : Hid (L2 w #[(.string p.sc), (.string p.us), (.string p.pw), (.int .i64 p.hk), (.string p.hn), (.int .i64 p.ha), (.int .i64 p.po), (.slice a n c), (.string p.op), (.bool p.hq), (.string p.qu), (.bool p.hf), (.string p.fr)] #[(.string q.sc), (.string q.us), (.string q.pw), (.int .i64 q.hk), (.string q.hn), (.int .i64 q.ha), (.int .i64 q.po), (.slice a' n' c'), (.string q.op), (.bool q.hq), (.string q.qu), (.bool q.hf), (.string q.fr)] V) := by rw [hV]; exact L2.start w _ _
 clear hS hz hL hpo hS' hz' hpo' hx hy hzz
 unfold P.cells
 go_enter Tryz.func5, Tryz.ntmps5
 go_upto_region 1 with fail
 rw [← hV]
 clear hV
 obtain ⟨k0, k1, k2, k3, k4, k5, k6, k7, k8, k9, k10, k11, k12⟩ := Blk.cells13a HT.out.a
 obtain ⟨j0, j1, j2, j3, j4, j5, j6, j7, j8, j9, j10, j11, j12⟩ := Blk.cells13a HT.out.b
 go_wp2_with fail
 refine (CS.out _ HT.out.bw).mono ?_
 rintro e W1 ⟨r, rfl, d1, ht⟩
 have HT2 := HT.out.later d1
 clear HT k0 k1 k2 k3 k4 k5 k6 k7 k8 k9 k10 k11 k12 j0 j1 j2 j3 j4 j5 j6 j7 j8 j9 j10 j11 j12
 have HT : Hid (L2 w #[(.string p.sc), (.string p.us), (.string p.pw), (.int .i64 p.hk), (.string p.hn), (.int .i64 p.ha), (.int .i64 p.po), (.slice a n c), (.string p.op), (.bool p.hq), (.string p.qu), (.bool p.hf), (.string p.fr)] #[(.string q.sc), (.string q.us), (.string q.pw), (.int .i64 q.hk), (.string q.hn), (.int .i64 q.ha), (.int .i64 q.po), (.slice a' n' c'), (.string q.op), (.bool q.hq), (.string q.qu), (.bool q.hf), (.string q.fr)] W1) := HT2
 clear HT2
 obtain ⟨k0, k1, k2, k3, k4, k5, k6, k7, k8, k9, k10, k11, k12⟩ := Blk.cells13a HT.out.a
 obtain ⟨j0, j1, j2, j3, j4, j5, j6, j7, j8, j9, j10, j11, j12⟩ := Blk.cells13a HT.out.b
 clear d1 CS
 by_cases hr : r < 0
 ·clear ht CS2 CTA CTB CO CI CEA CEB
  go_wp2
  go_ret
  exact ⟨rfl, HT.out.bw⟩
 go_wp2_with fail
 refine (CS2.out r _ (by omega) ht.out.1 HT.out.bw).mono ?_
 rintro e W2 ⟨r2, rfl, d1, ht2⟩
 have HP : Hid (p.tot ≤ 1048576) := ht.out.2 (by omega)
 have HT2 := HT.out.later d1
 clear HT k0 k1 k2 k3 k4 k5 k6 k7 k8 k9 k10 k11 k12 j0 j1 j2 j3 j4 j5 j6 j7 j8 j9 j10 j11 j12
 have HT : Hid (L2 w #[(.string p.sc), (.string p.us), (.string p.pw), (.int .i64 p.hk), (.string p.hn), (.int .i64 p.ha), (.int .i64 p.po), (.slice a n c), (.string p.op), (.bool p.hq), (.string p.qu), (.bool p.hf), (.string p.fr)] #[(.string q.sc), (.string q.us), (.string q.pw), (.int .i64 q.hk), (.string q.hn), (.int .i64 q.ha), (.int .i64 q.po), (.slice a' n' c'), (.string q.op), (.bool q.hq), (.string q.qu), (.bool q.hf), (.string q.fr)] W2) := HT2
 clear HT2
 obtain ⟨k0, k1, k2, k3, k4, k5, k6, k7, k8, k9, k10, k11, k12⟩ := Blk.cells13a HT.out.a
 obtain ⟨j0, j1, j2, j3, j4, j5, j6, j7, j8, j9, j10, j11, j12⟩ := Blk.cells13a HT.out.b
 clear d1 CS2 ht hr
 by_cases hr : r2 < 0
 ·clear ht2 CTA CTB CO CI CEA CEB
  go_wp2
  go_ret
  exact ⟨rfl, HT.out.bw⟩
 have HQ : Hid (q.tot ≤ 1048576) := ht2.out (by omega)
 have CTA := CTA.out HP.out
 have CTB := CTB.out HQ.out
 have CO := CO.out HP.out HQ.out
 have CI := CI.out HP.out HQ.out
 have CEA := CEA.out HP.out
 have CEB := CEB.out HQ.out
 clear ht2 HP HQ
 have CTA : Hid _ := CTA
 have CTB : Hid _ := CTB
 have CO : Hid _ := CO
 have CI : Hid _ := CI
 have CEA : Hid _ := CEA
 have CEB : Hid _ := CEB
 go_upto_region 8 with fail
 go_cut [6] from 10 (fun s wx => s = .string x ∧ Hid (L2 w #[(.string p.sc), (.string p.us), (.string p.pw), (.int .i64 p.hk), (.string p.hn), (.int .i64 p.ha), (.int .i64 p.po), (.slice a n c), (.string p.op), (.bool p.hq), (.string p.qu), (.bool p.hf), (.string p.fr)] #[(.string q.sc), (.string q.us), (.string q.pw), (.int .i64 q.hk), (.string q.hn), (.int .i64 q.ha), (.int .i64 q.po), (.slice a' n' c'), (.string q.op), (.bool q.hq), (.string q.qu), (.bool q.hf), (.string q.fr)] wx))
 case first =>
  have HT0 : Hid (L2 w #[(.string p.sc), (.string p.us), (.string p.pw), (.int .i64 p.hk), (.string p.hn), (.int .i64 p.ha), (.int .i64 p.po), (.slice a n c), (.string p.op), (.bool p.hq), (.string p.qu), (.bool p.hf), (.string p.fr)] #[(.string q.sc), (.string q.us), (.string q.pw), (.int .i64 q.hk), (.string q.hn), (.int .i64 q.ha), (.int .i64 q.po), (.slice a' n' c'), (.string q.op), (.bool q.hq), (.string q.qu), (.bool q.hf), (.string q.fr)] W2.drew) := HT.out.later (Below.refl _ _).drew
  clear HT hr
  have HT := HT0
  clear HT0
  go_region_with (first
   | (go_at_call 11; have HF2 := HSA; refine (CTB.out _ HT.out.bw).mono ?_; rintro e W4 ⟨g4, rfl, s4, d1⟩; have HSC : Hid (StrsOf (some ⟨g3, 0, none⟩) n p.ps W4) := HSA.out.later d1; have HSB : Hid (StrsOf (some ⟨g4, 0, none⟩) n' q.ps W4) := s4; clear s4 HF2 HSA; have HT2 := HT.out.later d1; clear HT k0 k1 k2 k3 k4 k5 k6 k7 k8 k9 k10 k11 k12 j0 j1 j2 j3 j4 j5 j6 j7 j8 j9 j10 j11 j12; have HT : Hid (L2 w #[(.string p.sc), (.string p.us), (.string p.pw), (.int .i64 p.hk), (.string p.hn), (.int .i64 p.ha), (.int .i64 p.po), (.slice a n c), (.string p.op), (.bool p.hq), (.string p.qu), (.bool p.hf), (.string p.fr)] #[(.string q.sc), (.string q.us), (.string q.pw), (.int .i64 q.hk), (.string q.hn), (.int .i64 q.ha), (.int .i64 q.po), (.slice a' n' c'), (.string q.op), (.bool q.hq), (.string q.qu), (.bool q.hf), (.string q.fr)] W4) := HT2; clear HT2; obtain ⟨k0, k1, k2, k3, k4, k5, k6, k7, k8, k9, k10, k11, k12⟩ := Blk.cells13a HT.out.a; obtain ⟨j0, j1, j2, j3, j4, j5, j6, j7, j8, j9, j10, j11, j12⟩ := Blk.cells13a HT.out.b; clear d1)
   | (go_at_call 11; refine (CTA.out _ HT.out.bw).mono ?_; rintro e W3 ⟨g3, rfl, s3, d1⟩; have HSA : Hid (StrsOf (some ⟨g3, 0, none⟩) n p.ps W3) := s3; clear s3; have HT2 := HT.out.later d1; clear HT k0 k1 k2 k3 k4 k5 k6 k7 k8 k9 k10 k11 k12 j0 j1 j2 j3 j4 j5 j6 j7 j8 j9 j10 j11 j12; have HT : Hid (L2 w #[(.string p.sc), (.string p.us), (.string p.pw), (.int .i64 p.hk), (.string p.hn), (.int .i64 p.ha), (.int .i64 p.po), (.slice a n c), (.string p.op), (.bool p.hq), (.string p.qu), (.bool p.hf), (.string p.fr)] #[(.string q.sc), (.string q.us), (.string q.pw), (.int .i64 q.hk), (.string q.hn), (.int .i64 q.ha), (.int .i64 q.po), (.slice a' n' c'), (.string q.op), (.bool q.hq), (.string q.qu), (.bool q.hf), (.string q.fr)] W3) := HT2; clear HT2; obtain ⟨k0, k1, k2, k3, k4, k5, k6, k7, k8, k9, k10, k11, k12⟩ := Blk.cells13a HT.out.a; obtain ⟨j0, j1, j2, j3, j4, j5, j6, j7, j8, j9, j10, j11, j12⟩ := Blk.cells13a HT.out.b; clear d1)
   | (go_at_call 18; refine (CO.out g3 g4 _ HSC.out HSB.out).mono ?_; rintro e W5 ⟨rfl, d1⟩; have HT2 := HT.out.later d1; clear HT d1 HSC HSB; have HT : Hid (L2 w #[(.string p.sc), (.string p.us), (.string p.pw), (.int .i64 p.hk), (.string p.hn), (.int .i64 p.ha), (.int .i64 p.po), (.slice a n c), (.string p.op), (.bool p.hq), (.string p.qu), (.bool p.hf), (.string p.fr)] #[(.string q.sc), (.string q.us), (.string q.pw), (.int .i64 q.hk), (.string q.hn), (.int .i64 q.ha), (.int .i64 q.po), (.slice a' n' c'), (.string q.op), (.bool q.hq), (.string q.qu), (.bool q.hf), (.string q.fr)] W5) := HT2; clear HT2)
   | fail)
  all_goals
   clear k0 k1 k2 k3 k4 k5 k6 k7 k8 k9 k10 k11 k12 j0 j1 j2 j3 j4 j5 j6 j7 j8 j9 j10 j11 j12
   go_wp2_with fail
   go_meet
   exact ⟨rfl, HT⟩
 case rest =>
 obtain ⟨rfl, HT2⟩ := hcut
 clear HT hr k0 k1 k2 k3 k4 k5 k6 k7 k8 k9 k10 k11 k12 j0 j1 j2 j3 j4 j5 j6 j7 j8 j9 j10 j11 j12
 have HT := HT2
 clear HT2
 obtain ⟨k0, k1, k2, k3, k4, k5, k6, k7, k8, k9, k10, k11, k12⟩ := Blk.cells13a HT.out.a
 obtain ⟨j0, j1, j2, j3, j4, j5, j6, j7, j8, j9, j10, j11, j12⟩ := Blk.cells13a HT.out.b
 clear CO
 go_wp2_with fail
 refine (CTA.out _ HT.out.bw).mono ?_
 rintro e W6 ⟨g6, rfl, s6, d1⟩
 have HT2 := HT.out.later d1
 clear HT k0 k1 k2 k3 k4 k5 k6 k7 k8 k9 k10 k11 k12 j0 j1 j2 j3 j4 j5 j6 j7 j8 j9 j10 j11 j12
 have HT : Hid (L2 w #[(.string p.sc), (.string p.us), (.string p.pw), (.int .i64 p.hk), (.string p.hn), (.int .i64 p.ha), (.int .i64 p.po), (.slice a n c), (.string p.op), (.bool p.hq), (.string p.qu), (.bool p.hf), (.string p.fr)] #[(.string q.sc), (.string q.us), (.string q.pw), (.int .i64 q.hk), (.string q.hn), (.int .i64 q.ha), (.int .i64 q.po), (.slice a' n' c'), (.string q.op), (.bool q.hq), (.string q.qu), (.bool q.hf), (.string q.fr)] W6) := HT2
 clear HT2
 obtain ⟨k0, k1, k2, k3, k4, k5, k6, k7, k8, k9, k10, k11, k12⟩ := Blk.cells13a HT.out.a
 obtain ⟨j0, j1, j2, j3, j4, j5, j6, j7, j8, j9, j10, j11, j12⟩ := Blk.cells13a HT.out.b
 clear d1
 obtain ⟨V6, hV6⟩ : ∃ V, V = W6.alloc (.cells #[(.string p.sc), (.string p.us), (.string p.pw), (.int .i64 p.hk), (.string p.hn), (.int .i64 p.ha), (.int .i64 p.po), (.slice (some ⟨g6, 0, none⟩) n n), (.string p.op), (.bool p.hq), (.string p.qu), (.bool p.hf), (.string p.fr)] 31) := ⟨_, rfl⟩
 have HB6 : Hid (Below W6.heap.size W6 V6) := by show Below _ _ _; rw [hV6]; exact (Below.refl _ _).alloc (Nat.le_refl _) _
 have HS6 : Hid (StrsOf (some ⟨g6, 0, none⟩) n p.ps V6) := s6.later HB6.out
 have HX6 : Hid (Blk W6.heap.size #[(.string p.sc), (.string p.us), (.string p.pw), (.int .i64 p.hk), (.string p.hn), (.int .i64 p.ha), (.int .i64 p.po), (.slice (some ⟨g6, 0, none⟩) n n), (.string p.op), (.bool p.hq), (.string p.qu), (.bool p.hf), (.string p.fr)] 31 V6) := by show Blk _ _ _ _; rw [hV6]; exact Blk.new W6 _ _
 have HT2 := HT.out.later HB6.out
 clear HT k0 k1 k2 k3 k4 k5 k6 k7 k8 k9 k10 k11 k12 j0 j1 j2 j3 j4 j5 j6 j7 j8 j9 j10 j11 j12 s6 HB6
 have HT : Hid (L2 w #[(.string p.sc), (.string p.us), (.string p.pw), (.int .i64 p.hk), (.string p.hn), (.int .i64 p.ha), (.int .i64 p.po), (.slice a n c), (.string p.op), (.bool p.hq), (.string p.qu), (.bool p.hf), (.string p.fr)] #[(.string q.sc), (.string q.us), (.string q.pw), (.int .i64 q.hk), (.string q.hn), (.int .i64 q.ha), (.int .i64 q.po), (.slice a' n' c'), (.string q.op), (.bool q.hq), (.string q.qu), (.bool q.hf), (.string q.fr)] V6) := HT2
 clear HT2
 go_upto_region 10 with fail
 rw [← hV6]
 clear hV6
 generalize W6.heap.size = x6 at *
 obtain ⟨k0, k1, k2, k3, k4, k5, k6, k7, k8, k9, k10, k11, k12⟩ := Blk.cells13a HT.out.a
 obtain ⟨j0, j1, j2, j3, j4, j5, j6, j7, j8, j9, j10, j11, j12⟩ := Blk.cells13a HT.out.b
 go_wp2_with fail
 refine (CTB.out _ HT.out.bw).mono ?_
 rintro e W7 ⟨g7, rfl, s7, d1⟩
 have HT2 := HT.out.later d1
 clear HT k0 k1 k2 k3 k4 k5 k6 k7 k8 k9 k10 k11 k12 j0 j1 j2 j3 j4 j5 j6 j7 j8 j9 j10 j11 j12
 have HT : Hid (L2 w #[(.string p.sc), (.string p.us), (.string p.pw), (.int .i64 p.hk), (.string p.hn), (.int .i64 p.ha), (.int .i64 p.po), (.slice a n c), (.string p.op), (.bool p.hq), (.string p.qu), (.bool p.hf), (.string p.fr)] #[(.string q.sc), (.string q.us), (.string q.pw), (.int .i64 q.hk), (.string q.hn), (.int .i64 q.ha), (.int .i64 q.po), (.slice a' n' c'), (.string q.op), (.bool q.hq), (.string q.qu), (.bool q.hf), (.string q.fr)] W7) := HT2
 clear HT2
 obtain ⟨k0, k1, k2, k3, k4, k5, k6, k7, k8, k9, k10, k11, k12⟩ := Blk.cells13a HT.out.a
 obtain ⟨j0, j1, j2, j3, j4, j5, j6, j7, j8, j9, j10, j11, j12⟩ := Blk.cells13a HT.out.b
 have HS7 : Hid (StrsOf (some ⟨g6, 0, none⟩) n p.ps W7) := HS6.out.later d1
 have HX7 : Hid (Blk x6 #[(.string p.sc), (.string p.us), (.string p.pw), (.int .i64 p.hk), (.string p.hn), (.int .i64 p.ha), (.int .i64 p.po), (.slice (some ⟨g6, 0, none⟩) n n), (.string p.op), (.bool p.hq), (.string p.qu), (.bool p.hf), (.string p.fr)] 31 W7) := HX6.out.below d1 HX6.out.lt
 clear d1 HS6 HX6
 obtain ⟨V7, hV7⟩ : ∃ V, V = W7.alloc (.cells #[(.string q.sc), (.string q.us), (.string q.pw), (.int .i64 q.hk), (.string q.hn), (.int .i64 q.ha), (.int .i64 q.po), (.slice (some ⟨g7, 0, none⟩) n' n'), (.string q.op), (.bool q.hq), (.string q.qu), (.bool q.hf), (.string q.fr)] 31) := ⟨_, rfl⟩
 have HB7 : Hid (Below W7.heap.size W7 V7) := by show Below _ _ _; rw [hV7]; exact (Below.refl _ _).alloc (Nat.le_refl _) _
 have HS6 : Hid (StrsOf (some ⟨g6, 0, none⟩) n p.ps V7) := HS7.out.later HB7.out
 have HX6 : Hid (Blk x6 #[(.string p.sc), (.string p.us), (.string p.pw), (.int .i64 p.hk), (.string p.hn), (.int .i64 p.ha), (.int .i64 p.po), (.slice (some ⟨g6, 0, none⟩) n n), (.string p.op), (.bool p.hq), (.string p.qu), (.bool p.hf), (.string p.fr)] 31 V7) := HX7.out.below HB7.out HX7.out.lt
 have HR6 : Hid (StrsOf (some ⟨g7, 0, none⟩) n' q.ps V7) := s7.later HB7.out
 have HY6 : Hid (Blk W7.heap.size #[(.string q.sc), (.string q.us), (.string q.pw), (.int .i64 q.hk), (.string q.hn), (.int .i64 q.ha), (.int .i64 q.po), (.slice (some ⟨g7, 0, none⟩) n' n'), (.string q.op), (.bool q.hq), (.string q.qu), (.bool q.hf), (.string q.fr)] 31 V7) := by show Blk _ _ _ _; rw [hV7]; exact Blk.new W7 _ _
 have HT2 := HT.out.later HB7.out
 clear HT k0 k1 k2 k3 k4 k5 k6 k7 k8 k9 k10 k11 k12 j0 j1 j2 j3 j4 j5 j6 j7 j8 j9 j10 j11 j12 s7 HB7 HS7 HX7
 have HT : Hid (L2 w #[(.string p.sc), (.string p.us), (.string p.pw), (.int .i64 p.hk), (.string p.hn), (.int .i64 p.ha), (.int .i64 p.po), (.slice a n c), (.string p.op), (.bool p.hq), (.string p.qu), (.bool p.hf), (.string p.fr)] #[(.string q.sc), (.string q.us), (.string q.pw), (.int .i64 q.hk), (.string q.hn), (.int .i64 q.ha), (.int .i64 q.po), (.slice a' n' c'), (.string q.op), (.bool q.hq), (.string q.qu), (.bool q.hf), (.string q.fr)] V7) := HT2
 clear HT2
 go_upto_region 11 with fail
 rw [← hV7]
 clear hV7
 generalize W7.heap.size = x7 at *
 obtain ⟨y0, y1, y2, y3, y4, y5, y6, y7, y8, y9, y10, y11, y12⟩ := Blk.cells13a HX6.out
 obtain ⟨z0, z1, z2, z3, z4, z5, z6, z7, z8, z9, z10, z11, z12⟩ := Blk.cells13a HY6.out
 go_wp2_with fail
 refine (CI.out g6 g7 _ HT.out.bw HS6.out HR6.out).mono ?_
 rintro e W8 ⟨rfl, d1⟩
 have HT2 := HT.out.later d1
 have HS8 : Hid (StrsOf (some ⟨g6, 0, none⟩) n p.ps W8) := HS6.out.later d1
 have HX8 : Hid (Blk x6 #[(.string p.sc), (.string p.us), (.string p.pw), (.int .i64 p.hk), (.string p.hn), (.int .i64 p.ha), (.int .i64 p.po), (.slice (some ⟨g6, 0, none⟩) n n), (.string p.op), (.bool p.hq), (.string p.qu), (.bool p.hf), (.string p.fr)] 31 W8) := HX6.out.below d1 HX6.out.lt
 have HR8 : Hid (StrsOf (some ⟨g7, 0, none⟩) n' q.ps W8) := HR6.out.later d1
 have HY8 : Hid (Blk x7 #[(.string q.sc), (.string q.us), (.string q.pw), (.int .i64 q.hk), (.string q.hn), (.int .i64 q.ha), (.int .i64 q.po), (.slice (some ⟨g7, 0, none⟩) n' n'), (.string q.op), (.bool q.hq), (.string q.qu), (.bool q.hf), (.string q.fr)] 31 W8) := HY6.out.below d1 HY6.out.lt
 clear HT d1 HS6 HX6 HR6 HY6 y0 y1 y2 y3 y4 y5 y6 y7 y8 y9 y10 y11 y12 z0 z1 z2 z3 z4 z5 z6 z7 z8 z9 z10 z11 z12 CI
 have HT : Hid (L2 w #[(.string p.sc), (.string p.us), (.string p.pw), (.int .i64 p.hk), (.string p.hn), (.int .i64 p.ha), (.int .i64 p.po), (.slice a n c), (.string p.op), (.bool p.hq), (.string p.qu), (.bool p.hf), (.string p.fr)] #[(.string q.sc), (.string q.us), (.string q.pw), (.int .i64 q.hk), (.string q.hn), (.int .i64 q.ha), (.int .i64 q.po), (.slice a' n' c'), (.string q.op), (.bool q.hq), (.string q.qu), (.bool q.hf), (.string q.fr)] W8) := HT2
 clear HT2
 go_upto_region 14 with fail
 obtain ⟨k0, k1, k2, k3, k4, k5, k6, k7, k8, k9, k10, k11, k12⟩ := Blk.cells13a HT.out.a
 obtain ⟨y0, y1, y2, y3, y4, y5, y6, y7, y8, y9, y10, y11, y12⟩ := Blk.cells13a HX8.out
 have HALL : Hid (∀ W, Below W8.heap.size W8 W → L2 w #[(.string p.sc), (.string p.us), (.string p.pw), (.int .i64 p.hk), (.string p.hn), (.int .i64 p.ha), (.int .i64 p.po), (.slice a n c), (.string p.op), (.bool p.hq), (.string p.qu), (.bool p.hf), (.string p.fr)] #[(.string q.sc), (.string q.us), (.string q.pw), (.int .i64 q.hk), (.string q.hn), (.int .i64 q.ha), (.int .i64 q.po), (.slice a' n' c'), (.string q.op), (.bool q.hq), (.string q.qu), (.bool q.hf), (.string q.fr)] W ∧ StrsOf (some ⟨g6, 0, none⟩) n p.ps W ∧ Blk x6 #[(.string p.sc), (.string p.us), (.string p.pw), (.int .i64 p.hk), (.string p.hn), (.int .i64 p.ha), (.int .i64 p.po), (.slice (some ⟨g6, 0, none⟩) n n), (.string p.op), (.bool p.hq), (.string p.qu), (.bool p.hf), (.string p.fr)] 31 W ∧ StrsOf (some ⟨g7, 0, none⟩) n' q.ps W ∧ Blk x7 #[(.string q.sc), (.string q.us), (.string q.pw), (.int .i64 q.hk), (.string q.hn), (.int .i64 q.ha), (.int .i64 q.po), (.slice (some ⟨g7, 0, none⟩) n' n'), (.string q.op), (.bool q.hq), (.string q.qu), (.bool q.hf), (.string q.fr)] 31 W) := fun W d => ⟨HT.out.later d, HS8.out.later d, HX8.out.below d HX8.out.lt, HR8.out.later d, HY8.out.below d HY8.out.lt⟩
 have CT8 : Hid (∀ W, Below W8.heap.size W8 W → Calls Tryz.prog 11 #[.agg #[(.string p.sc), (.string p.us), (.string p.pw), (.int .i64 p.hk), (.string p.hn), (.int .i64 p.ha), (.int .i64 p.po), (.slice a n c), (.string p.op), (.bool p.hq), (.string p.qu), (.bool p.hf), (.string p.fr)]] W fun e w' => ∃ g, e = .returned (.agg #[(.string p.sc), (.string p.us), (.string p.pw), (.int .i64 p.hk), (.string p.hn), (.int .i64 p.ha), (.int .i64 p.po), (.slice (some ⟨g, 0, none⟩) n n), (.string p.op), (.bool p.hq), (.string p.qu), (.bool p.hf), (.string p.fr)]) ∧ StrsOf (some ⟨g, 0, none⟩) n p.ps w' ∧ Below W.heap.size W w') := fun W d => CTA.out W (HALL.out W d).1.bw
 have CE8 : Hid (∀ g W, Below W8.heap.size W8 W → StrsOf (some ⟨g, 0, none⟩) n p.ps W → Calls Tryz.prog 13 #[.agg #[(.string p.sc), (.string p.us), (.string p.pw), (.int .i64 p.hk), (.string p.hn), (.int .i64 p.ha), (.int .i64 p.po), (.slice (some ⟨g6, 0, none⟩) n n), (.string p.op), (.bool p.hq), (.string p.qu), (.bool p.hf), (.string p.fr)], .agg #[(.string p.sc), (.string p.us), (.string p.pw), (.int .i64 p.hk), (.string p.hn), (.int .i64 p.ha), (.int .i64 p.po), (.slice (some ⟨g, 0, none⟩) n n), (.string p.op), (.bool p.hq), (.string p.qu), (.bool p.hf), (.string p.fr)]] W fun e w' => e = .returned (.bool true) ∧ Below W.heap.size W w') := fun g W d s => CEA.out g6 g W (HALL.out W d).2.1 s
 clear CTA CEA HT HS8 HX8 HR8 HY8
 go_region_with (first
  | (go_at_call 11; refine (CT8.out _ ?hd).mono ?_; (case hd => first | exact Below.refl _ _ | exact (Below.refl _ _).drew); rintro e W9 ⟨g9, rfl, s9, d9⟩; have HD9 : Hid (Below W8.heap.size W8 W9) := (by first | exact d9 | exact ((Below.refl _ W8).drew).trans d9); have HS9 : Hid (StrsOf (some ⟨g9, 0, none⟩) n p.ps W9) := s9; clear d9 s9 k0 k1 k2 k3 k4 k5 k6 k7 k8 k9 k10 k11 k12 y0 y1 y2 y3 y4 y5 y6 y7 y8 y9 y10 y11 y12; obtain ⟨y0, y1, y2, y3, y4, y5, y6, y7, y8, y9, y10, y11, y12⟩ := Blk.cells13a (HALL.out W9 HD9.out).2.2.1)
  | (go_at_call 13; refine (CE8.out g9 _ HD9.out HS9.out).mono ?_; rintro e W10 ⟨rfl, d10⟩)
  | fail)
 all_goals
  have HD : Hid (Below W8.heap.size W8 W10) := HD9.out.trans (d10.mono HD9.out.size)
  clear d10 y0 y1 y2 y3 y4 y5 y6 y7 y8 y9 y10 y11 y12 HD9 HS9 CT8 CE8
  have HA2 := HALL.out W10 HD.out
  clear HALL HD
  have HX : Hid (L2 w #[(.string p.sc), (.string p.us), (.string p.pw), (.int .i64 p.hk), (.string p.hn), (.int .i64 p.ha), (.int .i64 p.po), (.slice a n c), (.string p.op), (.bool p.hq), (.string p.qu), (.bool p.hf), (.string p.fr)] #[(.string q.sc), (.string q.us), (.string q.pw), (.int .i64 q.hk), (.string q.hn), (.int .i64 q.ha), (.int .i64 q.po), (.slice a' n' c'), (.string q.op), (.bool q.hq), (.string q.qu), (.bool q.hf), (.string q.fr)] W10 ∧ StrsOf (some ⟨g6, 0, none⟩) n p.ps W10 ∧ Blk x6 #[(.string p.sc), (.string p.us), (.string p.pw), (.int .i64 p.hk), (.string p.hn), (.int .i64 p.ha), (.int .i64 p.po), (.slice (some ⟨g6, 0, none⟩) n n), (.string p.op), (.bool p.hq), (.string p.qu), (.bool p.hf), (.string p.fr)] 31 W10 ∧ StrsOf (some ⟨g7, 0, none⟩) n' q.ps W10 ∧ Blk x7 #[(.string q.sc), (.string q.us), (.string q.pw), (.int .i64 q.hk), (.string q.hn), (.int .i64 q.ha), (.int .i64 q.po), (.slice (some ⟨g7, 0, none⟩) n' n'), (.string q.op), (.bool q.hq), (.string q.qu), (.bool q.hf), (.string q.fr)] 31 W10) := HA2
  clear HA2
  obtain ⟨j0, j1, j2, j3, j4, j5, j6, j7, j8, j9, j10, j11, j12⟩ := Blk.cells13a HX.out.1.b
  obtain ⟨z0, z1, z2, z3, z4, z5, z6, z7, z8, z9, z10, z11, z12⟩ := Blk.cells13a HX.out.2.2.2.2
  have HAL2 : Hid (∀ W, Below W10.heap.size W10 W → L2 w #[(.string p.sc), (.string p.us), (.string p.pw), (.int .i64 p.hk), (.string p.hn), (.int .i64 p.ha), (.int .i64 p.po), (.slice a n c), (.string p.op), (.bool p.hq), (.string p.qu), (.bool p.hf), (.string p.fr)] #[(.string q.sc), (.string q.us), (.string q.pw), (.int .i64 q.hk), (.string q.hn), (.int .i64 q.ha), (.int .i64 q.po), (.slice a' n' c'), (.string q.op), (.bool q.hq), (.string q.qu), (.bool q.hf), (.string q.fr)] W ∧ StrsOf (some ⟨g7, 0, none⟩) n' q.ps W ∧ Blk x7 #[(.string q.sc), (.string q.us), (.string q.pw), (.int .i64 q.hk), (.string q.hn), (.int .i64 q.ha), (.int .i64 q.po), (.slice (some ⟨g7, 0, none⟩) n' n'), (.string q.op), (.bool q.hq), (.string q.qu), (.bool q.hf), (.string q.fr)] 31 W) := fun W d => ⟨HX.out.1.later d, HX.out.2.2.2.1.later d, HX.out.2.2.2.2.below d HX.out.2.2.2.2.lt⟩
  have CT9 : Hid (∀ W, Below W10.heap.size W10 W → Calls Tryz.prog 11 #[.agg #[(.string q.sc), (.string q.us), (.string q.pw), (.int .i64 q.hk), (.string q.hn), (.int .i64 q.ha), (.int .i64 q.po), (.slice a' n' c'), (.string q.op), (.bool q.hq), (.string q.qu), (.bool q.hf), (.string q.fr)]] W fun e w' => ∃ g, e = .returned (.agg #[(.string q.sc), (.string q.us), (.string q.pw), (.int .i64 q.hk), (.string q.hn), (.int .i64 q.ha), (.int .i64 q.po), (.slice (some ⟨g, 0, none⟩) n' n'), (.string q.op), (.bool q.hq), (.string q.qu), (.bool q.hf), (.string q.fr)]) ∧ StrsOf (some ⟨g, 0, none⟩) n' q.ps w' ∧ Below W.heap.size W w') := fun W d => CTB.out W (HAL2.out W d).1.bw
  have CE9 : Hid (∀ g W, Below W10.heap.size W10 W → StrsOf (some ⟨g, 0, none⟩) n' q.ps W → Calls Tryz.prog 13 #[.agg #[(.string q.sc), (.string q.us), (.string q.pw), (.int .i64 q.hk), (.string q.hn), (.int .i64 q.ha), (.int .i64 q.po), (.slice (some ⟨g7, 0, none⟩) n' n'), (.string q.op), (.bool q.hq), (.string q.qu), (.bool q.hf), (.string q.fr)], .agg #[(.string q.sc), (.string q.us), (.string q.pw), (.int .i64 q.hk), (.string q.hn), (.int .i64 q.ha), (.int .i64 q.po), (.slice (some ⟨g, 0, none⟩) n' n'), (.string q.op), (.bool q.hq), (.string q.qu), (.bool q.hf), (.string q.fr)]] W fun e w' => e = .returned (.bool true) ∧ Below W.heap.size W w') := fun g W d s => CEB.out g7 g W (HAL2.out W d).2.1 s
  have HBW : Hid (Below w.heap.size w W10) := HX.out.1.bw
  clear CTB CEB HX
  go_wp2
  go_region_with (first
   | (go_at_call 11; refine (CT9.out _ ?hd).mono ?_; (case hd => first | exact Below.refl _ _ | exact (Below.refl _ _).drew); rintro e W11 ⟨g11, rfl, s11, d11⟩; have HD11 : Hid (Below W10.heap.size W10 W11) := (by first | exact d11 | exact ((Below.refl _ W10).drew).trans d11); have HS11 : Hid (StrsOf (some ⟨g11, 0, none⟩) n' q.ps W11) := s11; clear d11 s11 j0 j1 j2 j3 j4 j5 j6 j7 j8 j9 j10 j11 j12 z0 z1 z2 z3 z4 z5 z6 z7 z8 z9 z10 z11 z12; obtain ⟨z0, z1, z2, z3, z4, z5, z6, z7, z8, z9, z10, z11, z12⟩ := Blk.cells13a (HAL2.out W11 HD11.out).2.2)
   | (go_at_call 13; refine (CE9.out g11 _ HD11.out HS11.out).mono ?_; rintro e W12 ⟨rfl, d12⟩)
   | fail)
  all_goals
   have HFIN : Hid (Below w.heap.size w W12) := HBW.out.trans ((HD11.out.trans (d12.mono HD11.out.size)).mono HBW.out.size)
   clear d12 z0 z1 z2 z3 z4 z5 z6 z7 z8 z9 z10 z11 z12
   go_wp2
   go_ret
   exact ⟨rfl, HFIN.out⟩
end Go.Proofs.YtnfhajhdpdidlaaGreatDoor
end
