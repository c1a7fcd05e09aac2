/- impl.UrlSame: two addresses that are the same, but for their ends. -/
import Derived.Test.YtnfhajhdpdidlaaGreatDoorCFnExactUrlLess05
set_option linter.unusedVariables false
set_option linter.unusedSimpArgs false
set_option maxHeartbeats 16000000
set_option maxRecDepth 100000
section
namespace Go.Proofs.YtnfhajhdpdidlaaGreatDoor
open Go.RowKit Go.Shelf
theorem implSameNo (p q : P) (a a' : Option Addr) (n n' c c' : Nat) (w : World) (hL : Lean1 w) (hS : StrsOf a n p.ps w) (hS' : StrsOf a' n' q.ps w) (hs : p.tot ≤ 1048576) (hs' : q.tot ≤ 1048576) (hpo : p.po ≤ 9223372036854775807) (hpo' : q.po ≤ 9223372036854775807) (hp : ¬ okP p) :
  Calls Tryz.prog 66 #[.agg (p.cells (.slice a n c)), .agg (q.cells (.slice a' n' c'))] w fun e w' => e = .returned (.bool false) ∧ Below w.heap.size w w' := by
 have COA : Hid (∀ W, Below w.heap.size w W → Calls Tryz.prog 43 #[.agg #[(.string p.sc), (.string p.us), (.string p.pw), (.int .i64 p.hk), (.string p.hn), (.int .i64 p.ha), (.int .i64 p.po), (.slice a n c), (.string p.op), (.bool p.hq), (.string p.qu), (.bool p.hf), (.string p.fr)]] W fun e w' => e = .returned (.bool false) ∧ Below W.heap.size W w') := fun W d => implUrlOk p a n c W (hL.below d) (hS.later d) hs hpo false (by simp [hp])
 obtain ⟨V, hV⟩ : ∃ V, V = ((w.alloc (.cells #[(.string p.sc), (.string p.us), (.string p.pw), (.int .i64 p.hk), (.string p.hn), (.int .i64 p.ha), (.int .i64 p.po), (.slice a n c), (.string p.op), (.bool p.hq), (.string p.qu), (.bool p.hf), (.string p.fr)] 31)).alloc (.cells #[(.string q.sc), (.string q.us), (.string q.pw), (.int .i64 q.hk), (.string q.hn), (.int .i64 q.ha), (.int .i64 q.po), (.slice a' n' c'), (.string q.op), (.bool q.hq), (.string q.qu), (.bool q.hf), (.string q.fr)] 31)) := ⟨_, rfl⟩
 have HT : Hid (Tw w #[(.string p.sc), (.string p.us), (.string p.pw), (.int .i64 p.hk), (.string p.hn), (.int .i64 p.ha), (.int .i64 p.po), (.slice a n c), (.string p.op), (.bool p.hq), (.string p.qu), (.bool p.hf), (.string p.fr)] #[(.string q.sc), (.string q.us), (.string q.pw), (.int .i64 q.hk), (.string q.hn), (.int .i64 q.ha), (.int .i64 q.po), (.slice a' n' c'), (.string q.op), (.bool q.hq), (.string q.qu), (.bool q.hf), (.string q.fr)] V.drew) := by rw [hV]; exact (Tw.start w _ _).later (Below.refl _ _).drew
 have HK : Hid (Tw w #[(.string p.sc), (.string p.us), (.string p.pw), (.int .i64 p.hk), (.string p.hn), (.int .i64 p.ha), (.int .i64 p.po), (.slice a n c), (.string p.op), (.bool p.hq), (.string p.qu), (.bool p.hf), (.string p.fr)] #[(.string q.sc), (.string q.us), (.string q.pw), (.int .i64 q.hk), (.string q.hn), (.int .i64 q.ha), (.int .i64 q.po), (.slice a' n' c'), (.string q.op), (.bool q.hq), (.string q.qu), (.bool q.hf), (.string q.fr)] V) := by rw [hV]; exact Tw.start w _ _
 clear hS hS' hs hs' hpo hpo' hp hL
 unfold P.cells
 go_enter Tryz.func66, Tryz.ntmps66
 go_upto_region 1 with fail
 rw [← hV]
 clear hV
 obtain ⟨k0, k1, k2, k3, k4, k5, k6, k7, k8, k9, k10, k11, k12⟩ := Blk.cells13a HK.out.b1
 obtain ⟨j0, j1, j2, j3, j4, j5, j6, j7, j8, j9, j10, j11, j12⟩ := Blk.cells13a HK.out.b2
 clear HK
 go_region_with (first
  | (go_at_call 43; refine (COA.out _ HT.out.bw).mono ?_; rintro e W1 ⟨rfl, d1⟩; have HT2 := HT.out.later d1; clear HT d1 k0 k1 k2 k3 k4 k5 k6 k7 k8 k9 k10 k11 k12 j0 j1 j2 j3 j4 j5 j6 j7 j8 j9 j10 j11 j12; have HT : Hid (Tw w #[(.string p.sc), (.string p.us), (.string p.pw), (.int .i64 p.hk), (.string p.hn), (.int .i64 p.ha), (.int .i64 p.po), (.slice a n c), (.string p.op), (.bool p.hq), (.string p.qu), (.bool p.hf), (.string p.fr)] #[(.string q.sc), (.string q.us), (.string q.pw), (.int .i64 q.hk), (.string q.hn), (.int .i64 q.ha), (.int .i64 q.po), (.slice a' n' c'), (.string q.op), (.bool q.hq), (.string q.qu), (.bool q.hf), (.string q.fr)] W1) := HT2; clear HT2; obtain ⟨k0, k1, k2, k3, k4, k5, k6, k7, k8, k9, k10, k11, k12⟩ := Blk.cells13a HT.out.b1; obtain ⟨j0, j1, j2, j3, j4, j5, j6, j7, j8, j9, j10, j11, j12⟩ := Blk.cells13a HT.out.b2)
  | fail)
 all_goals
  go_wp2
  go_ret
  exact ⟨rfl, HT.out.bw⟩
theorem implSameHalf (p q : P) (a a' : Option Addr) (n n' c c' : Nat) (w : World) (hL : Lean1 w) (hS : StrsOf a n p.ps w) (hS' : StrsOf a' n' q.ps w) (hs : p.tot ≤ 1048576) (hs' : q.tot ≤ 1048576) (hpo : p.po ≤ 9223372036854775807) (hpo' : q.po ≤ 9223372036854775807) (hp : okP p) (hq : ¬ okP q) :
  Calls Tryz.prog 66 #[.agg (p.cells (.slice a n c)), .agg (q.cells (.slice a' n' c'))] w fun e w' => e = .returned (.bool false) ∧ Below w.heap.size w w' := by
 obtain ⟨y, hy⟩ : ∃ y : Bool, (y = true ↔ okP q) ∧ y = false := ⟨false, by simp [hq], rfl⟩
 obtain ⟨hy, hyf⟩ := hy
 have COA : Hid (∀ W, Below w.heap.size w W → Calls Tryz.prog 43 #[.agg #[(.string p.sc), (.string p.us), (.string p.pw), (.int .i64 p.hk), (.string p.hn), (.int .i64 p.ha), (.int .i64 p.po), (.slice a n c), (.string p.op), (.bool p.hq), (.string p.qu), (.bool p.hf), (.string p.fr)]] W fun e w' => e = .returned (.bool true) ∧ Below W.heap.size W w') := fun W d => implUrlOk p a n c W (hL.below d) (hS.later d) hs hpo true (by simp [hp])
 have COB : Hid (∀ W, Below w.heap.size w W → Calls Tryz.prog 43 #[.agg #[(.string q.sc), (.string q.us), (.string q.pw), (.int .i64 q.hk), (.string q.hn), (.int .i64 q.ha), (.int .i64 q.po), (.slice a' n' c'), (.string q.op), (.bool q.hq), (.string q.qu), (.bool q.hf), (.string q.fr)]] W fun e w' => e = .returned (.bool false) ∧ Below W.heap.size W w') := fun W d => by rw [← hyf]; exact implUrlOk q a' n' c' W (hL.below d) (hS'.later d) hs' hpo' y (by rw [hy])
 obtain ⟨V, hV⟩ : ∃ V, V = ((w.alloc (.cells #[(.string p.sc), (.string p.us), (.string p.pw), (.int .i64 p.hk), (.string p.hn), (.int .i64 p.ha), (.int .i64 p.po), (.slice a n c), (.string p.op), (.bool p.hq), (.string p.qu), (.bool p.hf), (.string p.fr)] 31)).alloc (.cells #[(.string q.sc), (.string q.us), (.string q.pw), (.int .i64 q.hk), (.string q.hn), (.int .i64 q.ha), (.int .i64 q.po), (.slice a' n' c'), (.string q.op), (.bool q.hq), (.string q.qu), (.bool q.hf), (.string q.fr)] 31)) := ⟨_, rfl⟩
 have HT : Hid (Tw w #[(.string p.sc), (.string p.us), (.string p.pw), (.int .i64 p.hk), (.string p.hn), (.int .i64 p.ha), (.int .i64 p.po), (.slice a n c), (.string p.op), (.bool p.hq), (.string p.qu), (.bool p.hf), (.string p.fr)] #[(.string q.sc), (.string q.us), (.string q.pw), (.int .i64 q.hk), (.string q.hn), (.int .i64 q.ha), (.int .i64 q.po), (.slice a' n' c'), (.string q.op), (.bool q.hq), (.string q.qu), (.bool q.hf), (.string q.fr)] V.drew) := by rw [hV]; exact (Tw.start w _ _).later (Below.refl _ _).drew
 have HK : Hid (Tw w #[(.string p.sc), (.string p.us), (.string p.pw), (.int .i64 p.hk), (.string p.hn), (.int .i64 p.ha), (.int .i64 p.po), (.slice a n c), (.string p.op), (.bool p.hq), (.string p.qu), (.bool p.hf), (.string p.fr)] #[(.string q.sc), (.string q.us), (.string q.pw), (.int .i64 q.hk), (.string q.hn), (.int .i64 q.ha), (.int .i64 q.po), (.slice a' n' c'), (.string q.op), (.bool q.hq), (.string q.qu), (.bool q.hf), (.string q.fr)] V) := by rw [hV]; exact Tw.start w _ _
 clear hS hS' hs hs' hpo hpo' hp hq hy hyf hL
 unfold P.cells
 go_enter Tryz.func66, Tryz.ntmps66
 go_upto_region 1 with fail
 rw [← hV]
 clear hV
 obtain ⟨k0, k1, k2, k3, k4, k5, k6, k7, k8, k9, k10, k11, k12⟩ := Blk.cells13a HK.out.b1
 obtain ⟨j0, j1, j2, j3, j4, j5, j6, j7, j8, j9, j10, j11, j12⟩ := Blk.cells13a HK.out.b2
 clear HK
 go_region_with (first
  | (go_at_call 43; have HF2 := HF1; refine (COB.out _ HT.out.bw).mono ?_; rintro e W2 ⟨rfl, d1⟩; have HT2 := HT.out.later d1; clear HT d1 k0 k1 k2 k3 k4 k5 k6 k7 k8 k9 k10 k11 k12 j0 j1 j2 j3 j4 j5 j6 j7 j8 j9 j10 j11 j12; have HT : Hid (Tw w #[(.string p.sc), (.string p.us), (.string p.pw), (.int .i64 p.hk), (.string p.hn), (.int .i64 p.ha), (.int .i64 p.po), (.slice a n c), (.string p.op), (.bool p.hq), (.string p.qu), (.bool p.hf), (.string p.fr)] #[(.string q.sc), (.string q.us), (.string q.pw), (.int .i64 q.hk), (.string q.hn), (.int .i64 q.ha), (.int .i64 q.po), (.slice a' n' c'), (.string q.op), (.bool q.hq), (.string q.qu), (.bool q.hf), (.string q.fr)] W2) := HT2; clear HT2; obtain ⟨k0, k1, k2, k3, k4, k5, k6, k7, k8, k9, k10, k11, k12⟩ := Blk.cells13a HT.out.b1; obtain ⟨j0, j1, j2, j3, j4, j5, j6, j7, j8, j9, j10, j11, j12⟩ := Blk.cells13a HT.out.b2)
  | (go_at_call 43; refine (COA.out _ HT.out.bw).mono ?_; rintro e W1 ⟨rfl, d1⟩; have HF1 : Hid True := trivial; have HT2 := HT.out.later d1; clear HT d1 k0 k1 k2 k3 k4 k5 k6 k7 k8 k9 k10 k11 k12 j0 j1 j2 j3 j4 j5 j6 j7 j8 j9 j10 j11 j12; have HT : Hid (Tw w #[(.string p.sc), (.string p.us), (.string p.pw), (.int .i64 p.hk), (.string p.hn), (.int .i64 p.ha), (.int .i64 p.po), (.slice a n c), (.string p.op), (.bool p.hq), (.string p.qu), (.bool p.hf), (.string p.fr)] #[(.string q.sc), (.string q.us), (.string q.pw), (.int .i64 q.hk), (.string q.hn), (.int .i64 q.ha), (.int .i64 q.po), (.slice a' n' c'), (.string q.op), (.bool q.hq), (.string q.qu), (.bool q.hf), (.string q.fr)] W1) := HT2; clear HT2; obtain ⟨k0, k1, k2, k3, k4, k5, k6, k7, k8, k9, k10, k11, k12⟩ := Blk.cells13a HT.out.b1; obtain ⟨j0, j1, j2, j3, j4, j5, j6, j7, j8, j9, j10, j11, j12⟩ := Blk.cells13a HT.out.b2)
  | fail)
 all_goals
  go_wp2
  go_ret
  exact ⟨rfl, HT.out.bw⟩
theorem implSameYes (p q : P) (a a' : Option Addr) (n n' c c' : Nat) (w : World) (hL : Lean1 w) (hS : StrsOf a n p.ps w) (hS' : StrsOf a' n' q.ps w) (hs : p.tot ≤ 1048576) (hs' : q.tot ≤ 1048576) (hpo : p.po ≤ 9223372036854775807) (hpo' : q.po ≤ 9223372036854775807) (hp : okP p) (hq : okP q) (x : Bool) (hx : x = true ↔ bsP p = bsP q) :
  Calls Tryz.prog 66 #[.agg (p.cells (.slice a n c)), .agg (q.cells (.slice a' n' c'))] w fun e w' => e = .returned (.bool x) ∧ Below w.heap.size w w' := by
 obtain ⟨y, hy⟩ : ∃ y : Bool, (y = true ↔ okP q) ∧ y = true := ⟨true, by simp [hq], rfl⟩
 obtain ⟨hy, hyf⟩ := hy
 have hn : n = p.ps.length := hS.1
 have hn' : n' = q.ps.length := hS'.1
 have COA : Hid (∀ W, Below w.heap.size w W → Calls Tryz.prog 43 #[.agg #[(.string p.sc), (.string p.us), (.string p.pw), (.int .i64 p.hk), (.string p.hn), (.int .i64 p.ha), (.int .i64 p.po), (.slice a n c), (.string p.op), (.bool p.hq), (.string p.qu), (.bool p.hf), (.string p.fr)]] W fun e w' => e = .returned (.bool true) ∧ Below W.heap.size W w') := fun W d => implUrlOk p a n c W (hL.below d) (hS.later d) hs hpo true (by simp [hp])
 have COB : Hid (∀ W, Below w.heap.size w W → Calls Tryz.prog 43 #[.agg #[(.string q.sc), (.string q.us), (.string q.pw), (.int .i64 q.hk), (.string q.hn), (.int .i64 q.ha), (.int .i64 q.po), (.slice a' n' c'), (.string q.op), (.bool q.hq), (.string q.qu), (.bool q.hf), (.string q.fr)]] W fun e w' => e = .returned (.bool true) ∧ Below W.heap.size W w') := fun W d => by rw [← hyf]; exact implUrlOk q a' n' c' W (hL.below d) (hS'.later d) hs' hpo' y (by rw [hy])
 have CBA : Hid (∀ W, Below w.heap.size w W → Calls Tryz.prog 99 #[.agg #[(.string p.sc), (.string p.us), (.string p.pw), (.int .i64 p.hk), (.string p.hn), (.int .i64 p.ha), (.int .i64 p.po), (.slice a n c), (.string p.op), (.bool p.hq), (.string p.qu), (.bool p.hf), (.string p.fr)]] W fun e w' => ∃ a3 c3, e = .returned (.agg #[(.string p.sc), (.string p.us), (.string p.pw), (.int .i64 p.hk), (.string p.hn), (.int .i64 p.ha), (.int .i64 p.po), (.slice a3 n c3), (.string p.op), (.bool p.hq), (.string p.qu), (.bool false), (.string ⟨#[]⟩)]) ∧ StrsOf a3 n p.ps w' ∧ Below W.heap.size W w') := fun W d => by
  refine (implUrlBaseYes p a n c W (hL.below d) (hS.later d) hs hpo hp).mono ?_
  rintro e w' ⟨a3, c3, rfl, o, d2⟩
  obtain ⟨a1, c1, h1, h2, s1⟩ := o.strs
  rw [← hn] at h1 s1
  injection h1 with e1 e2 e3
  rw [← e1] at s1
  exact ⟨a3, c3, rfl, s1, d2⟩
 have CBB : Hid (∀ W, Below w.heap.size w W → Calls Tryz.prog 99 #[.agg #[(.string q.sc), (.string q.us), (.string q.pw), (.int .i64 q.hk), (.string q.hn), (.int .i64 q.ha), (.int .i64 q.po), (.slice a' n' c'), (.string q.op), (.bool q.hq), (.string q.qu), (.bool q.hf), (.string q.fr)]] W fun e w' => ∃ a4 c4, e = .returned (.agg #[(.string q.sc), (.string q.us), (.string q.pw), (.int .i64 q.hk), (.string q.hn), (.int .i64 q.ha), (.int .i64 q.po), (.slice a4 n' c4), (.string q.op), (.bool q.hq), (.string q.qu), (.bool false), (.string ⟨#[]⟩)]) ∧ StrsOf a4 n' q.ps w' ∧ Below W.heap.size W w') := fun W d => by
  refine (implUrlBaseYes q a' n' c' W (hL.below d) (hS'.later d) hs' hpo' hq).mono ?_
  rintro e w' ⟨a3, c3, rfl, o, d2⟩
  obtain ⟨a1, c1, h1, h2, s1⟩ := o.strs
  rw [← hn'] at h1 s1
  injection h1 with e1 e2 e3
  rw [← e1] at s1
  exact ⟨a3, c3, rfl, s1, d2⟩
 have CE : Hid (∀ a3 c3 a4 c4 W, StrsOf a3 n p.ps W → StrsOf a4 n' q.ps W → Calls Tryz.prog 98 #[.agg #[(.string p.sc), (.string p.us), (.string p.pw), (.int .i64 p.hk), (.string p.hn), (.int .i64 p.ha), (.int .i64 p.po), (.slice a3 n c3), (.string p.op), (.bool p.hq), (.string p.qu), (.bool false), (.string ⟨#[]⟩)], .agg #[(.string q.sc), (.string q.us), (.string q.pw), (.int .i64 q.hk), (.string q.hn), (.int .i64 q.ha), (.int .i64 q.po), (.slice a4 n' c4), (.string q.op), (.bool q.hq), (.string q.qu), (.bool false), (.string ⟨#[]⟩)]] W fun e w' => e = .returned (.bool x) ∧ Below W.heap.size W w') := fun a3 c3 a4 c4 W s s' =>
  urlEqual (bsP p) (bsP q) a3 a4 n n' c3 c4 W s s' (by have : p.ps.length ≤ p.tot := (by unfold P.tot; omega); omega) (by have : q.ps.length ≤ q.tot := (by unfold P.tot; omega); omega) x hx
 obtain ⟨V, hV⟩ : ∃ V, V = ((w.alloc (.cells #[(.string p.sc), (.string p.us), (.string p.pw), (.int .i64 p.hk), (.string p.hn), (.int .i64 p.ha), (.int .i64 p.po), (.slice a n c), (.string p.op), (.bool p.hq), (.string p.qu), (.bool p.hf), (.string p.fr)] 31)).alloc (.cells #[(.string q.sc), (.string q.us), (.string q.pw), (.int .i64 q.hk), (.string q.hn), (.int .i64 q.ha), (.int .i64 q.po), (.slice a' n' c'), (.string q.op), (.bool q.hq), (.string q.qu), (.bool q.hf), (.string q.fr)] 31)) := ⟨_, rfl⟩
 have HT : Hid (Tw w #[(.string p.sc), (.string p.us), (.string p.pw), (.int .i64 p.hk), (.string p.hn), (.int .i64 p.ha), (.int .i64 p.po), (.slice a n c), (.string p.op), (.bool p.hq), (.string p.qu), (.bool p.hf), (.string p.fr)] #[(.string q.sc), (.string q.us), (.string q.pw), (.int .i64 q.hk), (.string q.hn), (.int .i64 q.ha), (.int .i64 q.po), (.slice a' n' c'), (.string q.op), (.bool q.hq), (.string q.qu), (.bool q.hf), (.string q.fr)] V.drew) := by rw [hV]; exact (Tw.start w _ _).later (Below.refl _ _).drew
 have HK : Hid (Tw w #[(.string p.sc), (.string p.us), (.string p.pw), (.int .i64 p.hk), (.string p.hn), (.int .i64 p.ha), (.int .i64 p.po), (.slice a n c), (.string p.op), (.bool p.hq), (.string p.qu), (.bool p.hf), (.string p.fr)] #[(.string q.sc), (.string q.us), (.string q.pw), (.int .i64 q.hk), (.string q.hn), (.int .i64 q.ha), (.int .i64 q.po), (.slice a' n' c'), (.string q.op), (.bool q.hq), (.string q.qu), (.bool q.hf), (.string q.fr)] V) := by rw [hV]; exact Tw.start w _ _
 clear hS hS' hs hs' hpo hpo' hp hq hy hyf hn hn' hx hL
 unfold P.cells
 go_enter Tryz.func66, Tryz.ntmps66
 go_upto_region 1 with fail
 rw [← hV]
 clear hV
 obtain ⟨k0, k1, k2, k3, k4, k5, k6, k7, k8, k9, k10, k11, k12⟩ := Blk.cells13a HK.out.b1
 obtain ⟨j0, j1, j2, j3, j4, j5, j6, j7, j8, j9, j10, j11, j12⟩ := Blk.cells13a HK.out.b2
 clear HK
 go_region_with (first
  | (go_at_call 43; have HF2 := HF1; refine (COB.out _ HT.out.bw).mono ?_; rintro e W2 ⟨rfl, d1⟩; have HT2 := HT.out.later d1; clear HT d1 k0 k1 k2 k3 k4 k5 k6 k7 k8 k9 k10 k11 k12 j0 j1 j2 j3 j4 j5 j6 j7 j8 j9 j10 j11 j12; have HT : Hid (Tw w #[(.string p.sc), (.string p.us), (.string p.pw), (.int .i64 p.hk), (.string p.hn), (.int .i64 p.ha), (.int .i64 p.po), (.slice a n c), (.string p.op), (.bool p.hq), (.string p.qu), (.bool p.hf), (.string p.fr)] #[(.string q.sc), (.string q.us), (.string q.pw), (.int .i64 q.hk), (.string q.hn), (.int .i64 q.ha), (.int .i64 q.po), (.slice a' n' c'), (.string q.op), (.bool q.hq), (.string q.qu), (.bool q.hf), (.string q.fr)] W2) := HT2; clear HT2; obtain ⟨k0, k1, k2, k3, k4, k5, k6, k7, k8, k9, k10, k11, k12⟩ := Blk.cells13a HT.out.b1; obtain ⟨j0, j1, j2, j3, j4, j5, j6, j7, j8, j9, j10, j11, j12⟩ := Blk.cells13a HT.out.b2)
  | (go_at_call 43; refine (COA.out _ HT.out.bw).mono ?_; rintro e W1 ⟨rfl, d1⟩; have HF1 : Hid True := trivial; have HT2 := HT.out.later d1; clear HT d1 k0 k1 k2 k3 k4 k5 k6 k7 k8 k9 k10 k11 k12 j0 j1 j2 j3 j4 j5 j6 j7 j8 j9 j10 j11 j12; have HT : Hid (Tw w #[(.string p.sc), (.string p.us), (.string p.pw), (.int .i64 p.hk), (.string p.hn), (.int .i64 p.ha), (.int .i64 p.po), (.slice a n c), (.string p.op), (.bool p.hq), (.string p.qu), (.bool p.hf), (.string p.fr)] #[(.string q.sc), (.string q.us), (.string q.pw), (.int .i64 q.hk), (.string q.hn), (.int .i64 q.ha), (.int .i64 q.po), (.slice a' n' c'), (.string q.op), (.bool q.hq), (.string q.qu), (.bool q.hf), (.string q.fr)] W1) := HT2; clear HT2; obtain ⟨k0, k1, k2, k3, k4, k5, k6, k7, k8, k9, k10, k11, k12⟩ := Blk.cells13a HT.out.b1; obtain ⟨j0, j1, j2, j3, j4, j5, j6, j7, j8, j9, j10, j11, j12⟩ := Blk.cells13a HT.out.b2)
  | (go_at_call 99; have HF4 := HSA; refine (CBB.out _ HT.out.bw).mono ?_; rintro e W4 ⟨a4, c4, rfl, s4, d1⟩; have HSC : Hid (StrsOf a3 n p.ps W4) := HSA.out.later d1; have HSB : Hid (StrsOf a4 n' q.ps W4) := s4; clear s4 HF4 HSA; have HT2 := HT.out.later d1; clear HT d1 k0 k1 k2 k3 k4 k5 k6 k7 k8 k9 k10 k11 k12 j0 j1 j2 j3 j4 j5 j6 j7 j8 j9 j10 j11 j12; have HT : Hid (Tw w #[(.string p.sc), (.string p.us), (.string p.pw), (.int .i64 p.hk), (.string p.hn), (.int .i64 p.ha), (.int .i64 p.po), (.slice a n c), (.string p.op), (.bool p.hq), (.string p.qu), (.bool p.hf), (.string p.fr)] #[(.string q.sc), (.string q.us), (.string q.pw), (.int .i64 q.hk), (.string q.hn), (.int .i64 q.ha), (.int .i64 q.po), (.slice a' n' c'), (.string q.op), (.bool q.hq), (.string q.qu), (.bool q.hf), (.string q.fr)] W4) := HT2; clear HT2; obtain ⟨k0, k1, k2, k3, k4, k5, k6, k7, k8, k9, k10, k11, k12⟩ := Blk.cells13a HT.out.b1; obtain ⟨j0, j1, j2, j3, j4, j5, j6, j7, j8, j9, j10, j11, j12⟩ := Blk.cells13a HT.out.b2)
  | (go_at_call 99; refine (CBA.out _ HT.out.bw).mono ?_; rintro e W3 ⟨a3, c3, rfl, s3, d1⟩; have HSA : Hid (StrsOf a3 n p.ps W3) := s3; clear s3; have HT2 := HT.out.later d1; clear HT d1 k0 k1 k2 k3 k4 k5 k6 k7 k8 k9 k10 k11 k12 j0 j1 j2 j3 j4 j5 j6 j7 j8 j9 j10 j11 j12; have HT : Hid (Tw w #[(.string p.sc), (.string p.us), (.string p.pw), (.int .i64 p.hk), (.string p.hn), (.int .i64 p.ha), (.int .i64 p.po), (.slice a n c), (.string p.op), (.bool p.hq), (.string p.qu), (.bool p.hf), (.string p.fr)] #[(.string q.sc), (.string q.us), (.string q.pw), (.int .i64 q.hk), (.string q.hn), (.int .i64 q.ha), (.int .i64 q.po), (.slice a' n' c'), (.string q.op), (.bool q.hq), (.string q.qu), (.bool q.hf), (.string q.fr)] W3) := HT2; clear HT2; obtain ⟨k0, k1, k2, k3, k4, k5, k6, k7, k8, k9, k10, k11, k12⟩ := Blk.cells13a HT.out.b1; obtain ⟨j0, j1, j2, j3, j4, j5, j6, j7, j8, j9, j10, j11, j12⟩ := Blk.cells13a HT.out.b2)
  | (go_at_call 98; refine (CE.out a3 c3 a4 c4 _ HSC.out HSB.out).mono ?_; rintro e W5 ⟨rfl, d1⟩; have HFIN : Hid (Below w.heap.size w W5) := HT.out.bw.trans (d1.mono HT.out.bw.size); clear d1)
  | fail)
 all_goals
  clear k0 k1 k2 k3 k4 k5 k6 k7 k8 k9 k10 k11 k12 j0 j1 j2 j3 j4 j5 j6 j7 j8 j9 j10 j11 j12
  go_wp2
  go_ret
  exact ⟨rfl, HFIN.out⟩
theorem implUrlSame (p q : P) (a a' : Option Addr) (n n' c c' : Nat) (w : World) (hL : Lean1 w) (hS : StrsOf a n p.ps w) (hS' : StrsOf a' n' q.ps w) (hs : p.tot ≤ 1048576) (hs' : q.tot ≤ 1048576) (hpo : p.po ≤ 9223372036854775807) (hpo' : q.po ≤ 9223372036854775807) (x : Bool) (hx : x = true ↔ okP p ∧ okP q ∧ bsP p = bsP q) :
  Calls Tryz.prog 66 #[.agg (p.cells (.slice a n c)), .agg (q.cells (.slice a' n' c'))] w fun e w' => e = .returned (.bool x) ∧ Below w.heap.size w w' := by
 by_cases hp : okP p
 ·by_cases hq : okP q
  ·exact implSameYes p q a a' n n' c c' w hL hS hS' hs hs' hpo hpo' hp hq x (by rw [hx]; simp [hp, hq])
  ·obtain rfl : x = false := by rw [Bool.eq_false_iff]; intro h; exact hq (hx.1 h).2.1
   exact implSameHalf p q a a' n n' c c' w hL hS hS' hs hs' hpo hpo' hp hq
 ·obtain rfl : x = false := by rw [Bool.eq_false_iff]; intro h; exact hp (hx.1 h).1
  exact implSameNo p q a a' n n' c c' w hL hS hS' hs hs' hpo hpo' hp
end Go.Proofs.YtnfhajhdpdidlaaGreatDoor
end
