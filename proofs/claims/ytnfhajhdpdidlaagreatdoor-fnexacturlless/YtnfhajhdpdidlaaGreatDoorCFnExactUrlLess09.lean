/- spec.UrlLess: a short text that leads from one address to another one. -/
import Derived.Test.YtnfhajhdpdidlaaGreatDoorCFnExactUrlLess04
import Derived.Test.YtnfhajhdpdidlaaGreatDoorCFnExactUrlLess08
import Derived.Test.YtnfhajhdpdidlaaGreatDoorB12
import Derived.Test.YtnfhajhdpdidlaaGreatDoorCFnExactUrlLess05
import Derived.Test.YtnfhajhdpdidlaaGreatDoorB41
set_option linter.unusedVariables false
set_option linter.unusedSimpArgs false
set_option maxHeartbeats 8000000
set_option maxRecDepth 100000
section
namespace Go.Proofs.YtnfhajhdpdidlaaGreatDoor
open Go.RowKit Go.Shelf
theorem x1 {α : Type} {l : List α} {i : Nat} (h : i < l.toArray.size) : l.toArray[i] = l[i]'(by simpa using h) := List.getElem_toArray h
theorem x2 {α : Type} {a : α} {l : List α} : (a :: l)[0] = a := rfl
theorem x3 {α : Type} {a : α} {l : List α} {i : Nat} (h : i + 1 < (a :: l).length) : (a :: l)[i + 1] = l[i]'(by simpa using h) := rfl
theorem x4 {α : Type} (l : List α) (i : Nat) (a : α) : l.toArray.setIfInBounds i a = (l.set i a).toArray := List.setIfInBounds_toArray ..
theorem x5 {α : Type} {x a : α} {l : List α} : (x :: l).set 0 a = a :: l := rfl
theorem x6 {α : Type} {x a : α} {l : List α} {n : Nat} : (x :: l).set (n + 1) a = x :: l.set n a := rfl
theorem tk {P : Program} {ops : Array Oper} {Q : Exit → Act → World → Prop} {md : Region.Mode} {S : World → Prop} (i : Nat) {oi : Oper} {v : Value} {fuel : Nat} {listed : Array Bool} {a : Act} {w : World} (hi : ops[i]? = some oi) (h3 : (Region.noSelect ops && Region.free md ops listed i && (Region.ready md ops listed).contains i) = true) (hQ : ∀ c a w, Q (.panic c) (a.put oi.dst v) w → Q (.panic c) a w) (hw : Region.wanted oi (yielded ops a.tmps) = true) (hy : ∀ w, S w → (execOp a.eval oi).run P w = .ok (.value v) w) (hS : S w) (h : wpAnyH P md ops Q S fuel (listed.setIfInBounds i true) (a.put oi.dst v) w) : wpAnyH P md ops Q S (fuel + 1) listed a w := by
 rw [Bool.and_eq_true, Bool.and_eq_true] at h3
 exact wpAnyH_take hi h3.1.1 h3.1.2 h3.2 hQ (Or.inl ⟨hw, hy⟩) hS h
theorem baseN (q : P) (a : Option Addr) (n c : Nat) (W : World) (hS : StrsOf a n q.ps W) (hs : q.tot ≤ 1048576) :
  Calls Tryz.prog 61 #[.agg (q.cells (.slice a n c))] W fun e w' => ∃ a3 c3, e = .returned (.agg ((bsP q).cells (.slice a3 n c3))) ∧ StrsOf a3 n q.ps w' ∧ Below W.heap.size W w' := by
 have hn : n = q.ps.length := hS.1
 refine (l3Base q a n c W hS (by have : q.ps.length ≤ q.tot := (by unfold P.tot; omega); omega)).mono ?_
 rintro e w' ⟨a3, c3, rfl, o, d2⟩
 obtain ⟨a1, c1, h1, h2, s1⟩ := o.strs
 rw [← hn] at h1 s1
 injection h1 with e1 e2 e3
 rw [← e1] at s1
 exact ⟨a3, c3, rfl, s1, d2⟩
theorem first_cell {a : Option Addr} {n : Nat} {ps : List (List UInt8)} {W : World} (h : StrsOf a n ps W) (p : List UInt8) (r : List (List UInt8)) (hp : ps = p :: r) : ∃ b off z, a = some ⟨b, off, none⟩ ∧ W.cell? ⟨b, off, none⟩ = some (.string z) ∧ z = mk p := by
 obtain ⟨b, off, z, ha, hz, hm, _⟩ := h.at 0 (by rw [hp]; simp)
 refine ⟨b, off, z, ha, by simpa using hz, ?_⟩
 have : ps[0]'(by rw [hp]; simp) = p := by subst hp; rfl
 rw [← this, hm]
theorem specLessNo (p q : P) (a a' : Option Addr) (n n' c c' : Nat) (w : World) (hS : StrsOf a n p.ps w) (hS' : StrsOf a' n' q.ps w) (hs : p.tot ≤ 1048576) (hs' : q.tot ≤ 1048576) (hpo : p.po ≤ 9223372036854775807) (hpo' : q.po ≤ 9223372036854775807) (hp : ¬ okP p) :
  Calls Tryz.prog 23 #[.agg (p.cells (.slice a n c)), .agg (q.cells (.slice a' n' c'))] w fun e w' => e = .returned (.string ⟨#[]⟩) ∧ Below w.heap.size w w' := by
 have COA : Hid (∀ W, Below w.heap.size w W → Calls Tryz.prog 31 #[.agg (p.cells (.slice a n c))] W fun e w' => e = .returned (.bool false) ∧ Below W.heap.size W w') := fun W d => specUrlOk p a n c W (hS.later d) hs hpo false (by simp [hp])
 obtain ⟨V, hV⟩ : ∃ V, V = ((w.alloc (.cells (p.cells (.slice a n c)) 31)).alloc (.cells (q.cells (.slice a' n' c')) 31)) := ⟨_, rfl⟩
 have HT : Hid (Tw w (p.cells (.slice a n c)) (q.cells (.slice a' n' c')) V) := by show Tw _ _ _ _; rw [hV]; exact Tw.start w _ _
 have HK : Hid (Tw w (p.cells (.slice a n c)) (q.cells (.slice a' n' c')) V) := by show Tw _ _ _ _; rw [hV]; exact Tw.start w _ _
 clear hS hS' hs hs' hpo hpo' hp
 unfold P.cells at *
 go_enter Tryz.func23, Tryz.ntmps23
 go_upto_region 1 with fail
 rw [← hV]
 clear hV
 obtain ⟨k0, k1, k2, k3, k4, k5, k6, k7, k8, k9, k10, k11, k12⟩ := Blk.cells13a HK.out.b1
 obtain ⟨j0, j1, j2, j3, j4, j5, j6, j7, j8, j9, j10, j11, j12⟩ := Blk.cells13a HK.out.b2
 clear HK
 go_wp2_with fail
 refine (COA.out _ HT.out.bw).mono ?_
 rintro e W1 ⟨rfl, d1⟩
 have HT2 := HT.out.later d1
 clear HT d1 k0 k1 k2 k3 k4 k5 k6 k7 k8 k9 k10 k11 k12 j0 j1 j2 j3 j4 j5 j6 j7 j8 j9 j10 j11 j12
 have HT : Hid (Tw w (p.cells (.slice a n c)) (q.cells (.slice a' n' c')) W1) := HT2
 clear HT2
 obtain ⟨k0, k1, k2, k3, k4, k5, k6, k7, k8, k9, k10, k11, k12⟩ := Blk.cells13a HT.out.b1
 obtain ⟨j0, j1, j2, j3, j4, j5, j6, j7, j8, j9, j10, j11, j12⟩ := Blk.cells13a HT.out.b2
 clear k0 k1 k2 k3 k4 k5 k6 k7 k8 k9 k10 k11 k12 j0 j1 j2 j3 j4 j5 j6 j7 j8 j9 j10 j11 j12
 go_wp2
 go_ret
 exact ⟨rfl, HT.out.bw⟩
theorem specLessHalf (p q : P) (a a' : Option Addr) (n n' c c' : Nat) (w : World) (hS : StrsOf a n p.ps w) (hS' : StrsOf a' n' q.ps w) (hs : p.tot ≤ 1048576) (hs' : q.tot ≤ 1048576) (hpo : p.po ≤ 9223372036854775807) (hpo' : q.po ≤ 9223372036854775807) (hp : okP p) (hq : ¬ okP q) :
  Calls Tryz.prog 23 #[.agg (p.cells (.slice a n c)), .agg (q.cells (.slice a' n' c'))] w fun e w' => e = .returned (.string ⟨#[]⟩) ∧ Below w.heap.size w w' := by
 have COA : Hid (∀ W, Below w.heap.size w W → Calls Tryz.prog 31 #[.agg (p.cells (.slice a n c))] W fun e w' => e = .returned (.bool true) ∧ Below W.heap.size W w') := fun W d => specUrlOk p a n c W (hS.later d) hs hpo true (by simp [hp])
 have COB : Hid (∀ W, Below w.heap.size w W → Calls Tryz.prog 31 #[.agg (q.cells (.slice a' n' c'))] W fun e w' => e = .returned (.bool false) ∧ Below W.heap.size W w') := fun W d => specUrlOk q a' n' c' W (hS'.later d) hs' hpo' false (by simp [hq])
 obtain ⟨V, hV⟩ : ∃ V, V = ((w.alloc (.cells (p.cells (.slice a n c)) 31)).alloc (.cells (q.cells (.slice a' n' c')) 31)) := ⟨_, rfl⟩
 have HT : Hid (Tw w (p.cells (.slice a n c)) (q.cells (.slice a' n' c')) V) := by show Tw _ _ _ _; rw [hV]; exact Tw.start w _ _
 have HK : Hid (Tw w (p.cells (.slice a n c)) (q.cells (.slice a' n' c')) V) := by show Tw _ _ _ _; rw [hV]; exact Tw.start w _ _
 clear hS hS' hs hs' hpo hpo' hp hq
 unfold P.cells at *
 go_enter Tryz.func23, Tryz.ntmps23
 go_upto_region 1 with fail
 rw [← hV]
 clear hV
 obtain ⟨k0, k1, k2, k3, k4, k5, k6, k7, k8, k9, k10, k11, k12⟩ := Blk.cells13a HK.out.b1
 obtain ⟨j0, j1, j2, j3, j4, j5, j6, j7, j8, j9, j10, j11, j12⟩ := Blk.cells13a HK.out.b2
 clear HK
 go_wp2_with fail
 refine (COA.out _ HT.out.bw).mono ?_
 rintro e W1 ⟨rfl, d1⟩
 have HT2 := HT.out.later d1
 clear HT d1 k0 k1 k2 k3 k4 k5 k6 k7 k8 k9 k10 k11 k12 j0 j1 j2 j3 j4 j5 j6 j7 j8 j9 j10 j11 j12
 have HT : Hid (Tw w (p.cells (.slice a n c)) (q.cells (.slice a' n' c')) W1) := HT2
 clear HT2
 obtain ⟨k0, k1, k2, k3, k4, k5, k6, k7, k8, k9, k10, k11, k12⟩ := Blk.cells13a HT.out.b1
 obtain ⟨j0, j1, j2, j3, j4, j5, j6, j7, j8, j9, j10, j11, j12⟩ := Blk.cells13a HT.out.b2
 go_wp2_with fail
 refine (COB.out _ HT.out.bw).mono ?_
 rintro e W2 ⟨rfl, d1⟩
 have HT2 := HT.out.later d1
 clear HT d1 k0 k1 k2 k3 k4 k5 k6 k7 k8 k9 k10 k11 k12 j0 j1 j2 j3 j4 j5 j6 j7 j8 j9 j10 j11 j12
 have HT : Hid (Tw w (p.cells (.slice a n c)) (q.cells (.slice a' n' c')) W2) := HT2
 clear HT2
 obtain ⟨k0, k1, k2, k3, k4, k5, k6, k7, k8, k9, k10, k11, k12⟩ := Blk.cells13a HT.out.b1
 obtain ⟨j0, j1, j2, j3, j4, j5, j6, j7, j8, j9, j10, j11, j12⟩ := Blk.cells13a HT.out.b2
 clear k0 k1 k2 k3 k4 k5 k6 k7 k8 k9 k10 k11 k12 j0 j1 j2 j3 j4 j5 j6 j7 j8 j9 j10 j11 j12
 go_wp2
 go_ret
 exact ⟨rfl, HT.out.bw⟩
theorem specLessEnd (p q : P) (a a' : Option Addr) (n n' c c' : Nat) (w : World) (hS : StrsOf a n p.ps w) (hS' : StrsOf a' n' q.ps w) (hs : p.tot ≤ 1048576) (hs' : q.tot ≤ 1048576) (hpo : p.po ≤ 9223372036854775807) (hpo' : q.po ≤ 9223372036854775807) (hp : okP p) (hq : okP q) (hf : q.hf = true) (hx : bsP p = bsP q) :
  Calls Tryz.prog 23 #[.agg (p.cells (.slice a n c)), .agg (q.cells (.slice a' n' c'))] w fun e w' => e = .returned (.string (⟨#[35]⟩ ++ q.fr)) ∧ Below w.heap.size w w' := by
 have COA : Hid (∀ W, Below w.heap.size w W → Calls Tryz.prog 31 #[.agg (p.cells (.slice a n c))] W fun e w' => e = .returned (.bool true) ∧ Below W.heap.size W w') := fun W d => specUrlOk p a n c W (hS.later d) hs hpo true (by simp [hp])
 have COB : Hid (∀ W, Below w.heap.size w W → Calls Tryz.prog 31 #[.agg (q.cells (.slice a' n' c'))] W fun e w' => e = .returned (.bool true) ∧ Below W.heap.size W w') := fun W d => specUrlOk q a' n' c' W (hS'.later d) hs' hpo' true (by simp [hq])
 have CBA : Hid (∀ W, Below w.heap.size w W → Calls Tryz.prog 61 #[.agg (p.cells (.slice a n c))] W fun e w' => ∃ a3 c3, e = .returned (.agg #[(.string p.sc), (.string p.us), (.string p.pw), (.int .i64 p.hk), (.string p.hn), (.int .i64 p.ha), (.int .i64 p.po), (.slice a3 n c3), (.string p.op), (.bool p.hq), (.string p.qu), (.bool false), (.string ⟨#[]⟩)]) ∧ StrsOf a3 n p.ps w' ∧ Below W.heap.size W w') := fun W d => baseN p a n c W (hS.later d) hs
 have CBB : Hid (∀ W, Below w.heap.size w W → Calls Tryz.prog 61 #[.agg (q.cells (.slice a' n' c'))] W fun e w' => ∃ a4 c4, e = .returned (.agg #[(.string q.sc), (.string q.us), (.string q.pw), (.int .i64 q.hk), (.string q.hn), (.int .i64 q.ha), (.int .i64 q.po), (.slice a4 n' c4), (.string q.op), (.bool q.hq), (.string q.qu), (.bool false), (.string ⟨#[]⟩)]) ∧ StrsOf a4 n' q.ps w' ∧ Below W.heap.size W w') := fun W d => baseN q a' n' c' W (hS'.later d) hs'
 have CE : Hid (∀ a3 c3 a4 c4 W, StrsOf a3 n p.ps W → StrsOf a4 n' q.ps W → Calls Tryz.prog 60 #[.agg #[(.string p.sc), (.string p.us), (.string p.pw), (.int .i64 p.hk), (.string p.hn), (.int .i64 p.ha), (.int .i64 p.po), (.slice a3 n c3), (.string p.op), (.bool p.hq), (.string p.qu), (.bool false), (.string ⟨#[]⟩)], .agg #[(.string q.sc), (.string q.us), (.string q.pw), (.int .i64 q.hk), (.string q.hn), (.int .i64 q.ha), (.int .i64 q.po), (.slice a4 n' c4), (.string q.op), (.bool q.hq), (.string q.qu), (.bool false), (.string ⟨#[]⟩)]] W fun e w' => e = .returned (.bool true) ∧ Below W.heap.size W w') := fun a3 c3 a4 c4 W s s' =>
  l3Equal (bsP p) (bsP q) a3 a4 n n' c3 c4 W s s' (by have : p.ps.length ≤ p.tot := (by unfold P.tot; omega); have := hS.1; omega) (by have : q.ps.length ≤ q.tot := (by unfold P.tot; omega); have := hS'.1; omega) true (iff_of_true rfl hx)
 have hfz : 1 + q.fr.size ≤ 2000000 := by unfold P.tot at hs'; omega
 obtain ⟨V, hV⟩ : ∃ V, V = ((w.alloc (.cells (p.cells (.slice a n c)) 31)).alloc (.cells (q.cells (.slice a' n' c')) 31)) := ⟨_, rfl⟩
 have HT : Hid (Tw w (p.cells (.slice a n c)) (q.cells (.slice a' n' c')) V) := by show Tw _ _ _ _; rw [hV]; exact Tw.start w _ _
 have HK : Hid (Tw w (p.cells (.slice a n c)) (q.cells (.slice a' n' c')) V) := by show Tw _ _ _ _; rw [hV]; exact Tw.start w _ _
 rw [cellsH_of q true _ hf] at COB CBB hV HT HK ⊢
 clear hS hS' hs hs' hpo hpo' hf hp hq hx
 unfold P.cells P.cellsH at *
 go_enter Tryz.func23, Tryz.ntmps23
 go_upto_region 1 with fail
 rw [← hV]
 clear hV
 obtain ⟨k0, k1, k2, k3, k4, k5, k6, k7, k8, k9, k10, k11, k12⟩ := Blk.cells13a HK.out.b1
 obtain ⟨j0, j1, j2, j3, j4, j5, j6, j7, j8, j9, j10, j11, j12⟩ := Blk.cells13a HK.out.b2
 clear HK
 go_wp2_with fail
 refine (COA.out _ HT.out.bw).mono ?_
 rintro e W1 ⟨rfl, d1⟩
 have HT2 := HT.out.later d1
 clear HT d1 k0 k1 k2 k3 k4 k5 k6 k7 k8 k9 k10 k11 k12 j0 j1 j2 j3 j4 j5 j6 j7 j8 j9 j10 j11 j12
 have HT : Hid (Tw w (p.cells (.slice a n c)) (q.cellsH true (.slice a' n' c')) W1) := HT2
 clear HT2
 obtain ⟨k0, k1, k2, k3, k4, k5, k6, k7, k8, k9, k10, k11, k12⟩ := Blk.cells13a HT.out.b1
 obtain ⟨j0, j1, j2, j3, j4, j5, j6, j7, j8, j9, j10, j11, j12⟩ := Blk.cells13a HT.out.b2
 go_wp2_with fail
 refine (COB.out _ HT.out.bw).mono ?_
 rintro e W2 ⟨rfl, d1⟩
 have HT2 := HT.out.later d1
 clear HT d1 k0 k1 k2 k3 k4 k5 k6 k7 k8 k9 k10 k11 k12 j0 j1 j2 j3 j4 j5 j6 j7 j8 j9 j10 j11 j12
 have HT : Hid (Tw w (p.cells (.slice a n c)) (q.cellsH true (.slice a' n' c')) W2) := HT2
 clear HT2
 obtain ⟨k0, k1, k2, k3, k4, k5, k6, k7, k8, k9, k10, k11, k12⟩ := Blk.cells13a HT.out.b1
 obtain ⟨j0, j1, j2, j3, j4, j5, j6, j7, j8, j9, j10, j11, j12⟩ := Blk.cells13a HT.out.b2
 go_upto_region 3 with fail
 go_cut [14] from 15 (fun s wx => s = .bool true ∧ Hid (Tw w (p.cells (.slice a n c)) (q.cellsH true (.slice a' n' c')) wx))
 case first =>
  have HT0 := HT
  clear HT
  have HT : Hid (Tw w (p.cells (.slice a n c)) (q.cellsH true (.slice a' n' c')) W2.drew) := HT0.out.later (Below.refl _ _).drew
  clear HT0
  go_region_with (first
   | (go_at_call 61; have HF4 := HSA; refine (CBB.out _ HT.out.bw).mono ?_; rintro e W4 ⟨a4, c4, rfl, s4, d1⟩; have HSC : Hid (StrsOf a3 n p.ps W4) := HSA.out.later d1; have HSB : Hid (StrsOf a4 n' q.ps W4) := s4; clear s4 HF4 HSA; have HT2 := HT.out.later d1; clear HT d1 k0 k1 k2 k3 k4 k5 k6 k7 k8 k9 k10 k11 k12 j0 j1 j2 j3 j4 j5 j6 j7 j8 j9 j10 j11 j12; have HT : Hid (Tw w (p.cells (.slice a n c)) (q.cellsH true (.slice a' n' c')) W4) := HT2; clear HT2; obtain ⟨k0, k1, k2, k3, k4, k5, k6, k7, k8, k9, k10, k11, k12⟩ := Blk.cells13a HT.out.b1; obtain ⟨j0, j1, j2, j3, j4, j5, j6, j7, j8, j9, j10, j11, j12⟩ := Blk.cells13a HT.out.b2)
   | (go_at_call 61; refine (CBA.out _ HT.out.bw).mono ?_; rintro e W3 ⟨a3, c3, rfl, s3, d1⟩; have HSA : Hid (StrsOf a3 n p.ps W3) := s3; clear s3; have HT2 := HT.out.later d1; clear HT d1 k0 k1 k2 k3 k4 k5 k6 k7 k8 k9 k10 k11 k12 j0 j1 j2 j3 j4 j5 j6 j7 j8 j9 j10 j11 j12; have HT : Hid (Tw w (p.cells (.slice a n c)) (q.cellsH true (.slice a' n' c')) W3) := HT2; clear HT2; obtain ⟨k0, k1, k2, k3, k4, k5, k6, k7, k8, k9, k10, k11, k12⟩ := Blk.cells13a HT.out.b1; obtain ⟨j0, j1, j2, j3, j4, j5, j6, j7, j8, j9, j10, j11, j12⟩ := Blk.cells13a HT.out.b2)
   | (go_at_call 60; refine (CE.out a3 c3 a4 c4 _ HSC.out HSB.out).mono ?_; rintro e W5 ⟨rfl, d1⟩; clear HSC HSB; have HT2 := HT.out.later d1; clear HT d1 k0 k1 k2 k3 k4 k5 k6 k7 k8 k9 k10 k11 k12 j0 j1 j2 j3 j4 j5 j6 j7 j8 j9 j10 j11 j12; have HT : Hid (Tw w (p.cells (.slice a n c)) (q.cellsH true (.slice a' n' c')) W5) := HT2; clear HT2; obtain ⟨k0, k1, k2, k3, k4, k5, k6, k7, k8, k9, k10, k11, k12⟩ := Blk.cells13a HT.out.b1; obtain ⟨j0, j1, j2, j3, j4, j5, j6, j7, j8, j9, j10, j11, j12⟩ := Blk.cells13a HT.out.b2)
   | fail)
  all_goals
   clear k0 k1 k2 k3 k4 k5 k6 k7 k8 k9 k10 k11 k12 j0 j1 j2 j3 j4 j5 j6 j7 j8 j9 j10 j11 j12
   go_wp2_with fail
   go_meet
   exact ⟨rfl, HT⟩
 case rest =>
 obtain ⟨rfl, HT2⟩ := hcut
 clear HT k0 k1 k2 k3 k4 k5 k6 k7 k8 k9 k10 k11 k12 j0 j1 j2 j3 j4 j5 j6 j7 j8 j9 j10 j11 j12
 have HT := HT2
 clear HT2
 obtain ⟨k0, k1, k2, k3, k4, k5, k6, k7, k8, k9, k10, k11, k12⟩ := Blk.cells13a HT.out.b1
 obtain ⟨j0, j1, j2, j3, j4, j5, j6, j7, j8, j9, j10, j11, j12⟩ := Blk.cells13a HT.out.b2
 clear CBA CBB CE
 go_wp2
 go_ret
 exact ⟨rfl, HT.out.bw⟩
theorem specLessRestA (p q : P) (a a' : Option Addr) (n n' c c' : Nat) (w : World) (hS : StrsOf a n p.ps w) (hS' : StrsOf a' n' q.ps w) (hs : p.tot ≤ 1048576) (hs' : q.tot ≤ 1048576) (hpo : p.po ≤ 9223372036854775807) (hpo' : q.po ≤ 9223372036854775807) (hp : okP p) (hq : okP q) (hf : q.hf = false) (t : ByteArray) (ht : Les p q t) :
  Calls Tryz.prog 23 #[.agg (p.cells (.slice a n c)), .agg (q.cells (.slice a' n' c'))] w fun e w' => e = .returned (.string t) ∧ Below w.heap.size w w' := by
 have COA : Hid (∀ W, Below w.heap.size w W → Calls Tryz.prog 31 #[.agg (p.cells (.slice a n c))] W fun e w' => e = .returned (.bool true) ∧ Below W.heap.size W w') := fun W d => specUrlOk p a n c W (hS.later d) hs hpo true (by simp [hp])
 have COB : Hid (∀ W, Below w.heap.size w W → Calls Tryz.prog 31 #[.agg (q.cells (.slice a' n' c'))] W fun e w' => e = .returned (.bool true) ∧ Below W.heap.size W w') := fun W d => specUrlOk q a' n' c' W (hS'.later d) hs' hpo' true (by simp [hq])
 have he : ¬ EndOnly p q := fun e => by have := e.1; rw [hf] at this; cases this
 obtain ⟨x, hxx⟩ : ∃ x, x = mk (putL q.ps) := ⟨_, rfl⟩
 obtain ⟨y, hyy⟩ : ∃ x, x = mk (tailL q) := ⟨_, rfl⟩
 have K1 : Hid (ownZ q.sc < 0 → t = mk (writL q)) := fun g => ht.all hp hq he (.inl g)
 have K2 : Hid (¬ RootEq p q → t = mk (writL q)) := fun g => ht.all hp hq he (.inr (.inl g))
 have K3 : Hid (TwoP q → t = mk (writL q)) := fun g => ht.all hp hq he (.inr (.inr g))
 have K4 : Hid (0 ≤ ownZ q.sc → RootEq p q → ¬ TwoP q → t = x ++ y) := fun g1 g2 g3 => by
  rw [hxx, hyy]
  refine ht.pat hp hq he ?_
  rintro (e | e | e)
  ·omega
  ·exact e g2
  ·exact g3 e
 have KC : Hid (0 ≤ ownZ q.sc → (n' ≤ 1 ∧ ¬ TwoP q) ∨ (2 ≤ n' ∧ TwoP q ∧ ∃ r, q.ps = [] :: r) ∨ (2 ≤ n' ∧ ¬ TwoP q ∧ ∃ c p r, q.ps = (c :: p) :: r)) := fun g => by
  have hn1 : n' = q.ps.length := hS'.1
  rcases put_cases q hq g with ⟨h1, _⟩ | ⟨h1, _⟩ | ⟨h1, ⟨c0, p0, r0, h2⟩, _⟩
  ·exact .inl ⟨by rw [hn1, h1]; simp, not_two_one h1⟩
  ·obtain ⟨p1, r1, h2⟩ := h1
   exact .inr (.inl ⟨by rw [hn1, h2]; simp, ⟨p1, r1, h2⟩, _, h2⟩)
  ·by_cases h3 : n' ≤ 1
   ·exact .inl ⟨h3, h1⟩
   ·exact .inr (.inr ⟨by omega, h1, c0, p0, r0, h2⟩)
 have HSQ : Hid (∀ W, Below w.heap.size w W → StrsOf a' n' q.ps W) := fun W d => hS'.later d
 have htl : q.ps.length + tot q.ps ≤ 1048576 := by unfold P.tot at hs'; omega
 have hpl := putL_len q.ps
 have hxz : x.size ≤ 2000000 := by rw [hxx, mk_size]; omega
 have hyz : y.size ≤ 4000000 := by
  rw [hyy, mk_size]
  have := tailL_len q
  unfold P.tot at hs'; omega
 have COH : Hid (∀ W, Calls Tryz.prog 62 #[.string q.sc] W fun e w' => e = .returned (.int .i64 (ownZ q.sc)) ∧ w' = W) := fun W => l3Own q.sc W
 have CPP : Hid (∀ W, Below w.heap.size w W → Calls Tryz.prog 64 #[.slice a' n' c'] W fun e w' => e = .returned (.string x) ∧ w' = W) := fun W d => by rw [hxx]; exact specPathPut a' n' c' q.ps W (hS'.later d) (by omega)
 have CTL : Hid (∀ W, Calls Tryz.prog 65 #[.agg (q.cells (.slice a' n' c'))] W fun e w' => e = .returned (.string y) ∧ Below W.heap.size W w') := fun W => by rw [hyy]; exact l4Tail q _ W hs'
 have CWR : Hid (∀ W, Below w.heap.size w W → Calls Tryz.prog 63 #[.agg (q.cells (.slice a' n' c'))] W fun e w' => e = .returned (.string (mk (writL q))) ∧ Below W.heap.size W w') := fun W d => by
  have hn' : n' = q.ps.length := hS'.1
  rw [hn']
  exact l3Put q a' c' W (by rw [← hn']; exact hS'.later d) hs' hpo' (fun h W => l1DecL q.po W h hpo')
 obtain ⟨V, hV⟩ : ∃ V, V = ((w.alloc (.cells (p.cells (.slice a n c)) 31)).alloc (.cells (q.cells (.slice a' n' c')) 31)) := ⟨_, rfl⟩
 have HT : Hid (Tw w (p.cells (.slice a n c)) (q.cells (.slice a' n' c')) V) := by show Tw _ _ _ _; rw [hV]; exact Tw.start w _ _
 have HK : Hid (Tw w (p.cells (.slice a n c)) (q.cells (.slice a' n' c')) V) := by show Tw _ _ _ _; rw [hV]; exact Tw.start w _ _
 rw [cellsH_of q false _ hf] at COB CTL CWR hV HT HK ⊢
 clear hS hS' hs hs' hpo hpo' hf hp hq he ht hxx hyy htl hpl
 unfold P.cells P.cellsH at *
 go_enter Tryz.func23, Tryz.ntmps23
 go_upto_region 1 with fail
 rw [← hV]
 clear hV
 obtain ⟨k0, k1, k2, k3, k4, k5, k6, k7, k8, k9, k10, k11, k12⟩ := Blk.cells13a HK.out.b1
 obtain ⟨j0, j1, j2, j3, j4, j5, j6, j7, j8, j9, j10, j11, j12⟩ := Blk.cells13a HK.out.b2
 clear HK
 go_wp2_with fail
 refine (COA.out _ HT.out.bw).mono ?_
 rintro e W1 ⟨rfl, d1⟩
 have HT2 := HT.out.later d1
 clear HT d1 k0 k1 k2 k3 k4 k5 k6 k7 k8 k9 k10 k11 k12 j0 j1 j2 j3 j4 j5 j6 j7 j8 j9 j10 j11 j12
 have HT : Hid (Tw w (p.cells (.slice a n c)) (q.cellsH false (.slice a' n' c')) W1) := HT2
 clear HT2
 obtain ⟨k0, k1, k2, k3, k4, k5, k6, k7, k8, k9, k10, k11, k12⟩ := Blk.cells13a HT.out.b1
 obtain ⟨j0, j1, j2, j3, j4, j5, j6, j7, j8, j9, j10, j11, j12⟩ := Blk.cells13a HT.out.b2
 go_wp2_with fail
 refine (COB.out _ HT.out.bw).mono ?_
 rintro e W2 ⟨rfl, d1⟩
 have HT2 := HT.out.later d1
 clear HT d1 k0 k1 k2 k3 k4 k5 k6 k7 k8 k9 k10 k11 k12 j0 j1 j2 j3 j4 j5 j6 j7 j8 j9 j10 j11 j12
 have HT : Hid (Tw w (p.cells (.slice a n c)) (q.cellsH false (.slice a' n' c')) W2) := HT2
 clear HT2
 obtain ⟨k0, k1, k2, k3, k4, k5, k6, k7, k8, k9, k10, k11, k12⟩ := Blk.cells13a HT.out.b1
 obtain ⟨j0, j1, j2, j3, j4, j5, j6, j7, j8, j9, j10, j11, j12⟩ := Blk.cells13a HT.out.b2
 go_upto_region 3 with fail
 go_cut [14] from 15 (fun s wx => s = .bool false ∧ Hid (Tw w (p.cells (.slice a n c)) (q.cellsH false (.slice a' n' c')) wx))
 case first =>
  have HS9 : Hid (∀ W, Below W2.heap.size W2 W → (fun W => Below W2.heap.size W2 W ∧ W.cell? ⟨w.heap.size + 1, 11, none⟩ = some (.bool false)) W) := fun W d => ⟨d, (HT.out.later d).b2.cell 11⟩
  refine wp_region_held_drew (S := (fun W => Below W2.heap.size W2 W ∧ W.cell? ⟨w.heap.size + 1, 11, none⟩ = some (.bool false))) (by kernel_rfl) (HS9.out _ ((Below.refl _ _).drew)) (fun hHeld => ?_)
  refine tk 0 rfl (by kernel_rfl) (fun _ _ _ h => h) (by rfl) (fun w hSw => by (try dsimp only at hSw); go_simp; try (with_reducible rfl)) (by assumption) ?_
  simp only [Act.put, x1, x2, x3, x4, x5, x6]
  refine tk 1 rfl (by kernel_rfl) (fun _ _ _ h => h) (by rfl) (fun w hSw => by (try dsimp only at hSw); go_simp; try (with_reducible rfl)) (by assumption) ?_
  simp only [Act.put, x1, x2, x3, x4, x5, x6]
  refine tk 2 rfl (by kernel_rfl) (fun _ _ _ h => h) (by rfl) (fun w hSw => by (try dsimp only at hSw); go_simp; try (with_reducible rfl)) (by assumption) ?_
  simp only [Act.put, x1, x2, x3, x4, x5, x6]
  refine wpAnyH_take (i := 3) (oi := _) (v := undef) rfl (by kernel_rfl) (by kernel_rfl) (by kernel_rfl) (fun _ _ _ h => h) (Or.inr ⟨by simp [Region.wanted, yielded, undef, Act.put], rfl⟩) (by assumption) ?_
  simp only [Act.put, x1, x2, x3, x4, x5, x6]
  refine wpAnyH_take (i := 4) (oi := _) (v := undef) rfl (by kernel_rfl) (by kernel_rfl) (by kernel_rfl) (fun _ _ _ h => h) (Or.inr ⟨by simp [Region.wanted, yielded, undef, Act.put], rfl⟩) (by assumption) ?_
  simp only [Act.put, x1, x2, x3, x4, x5, x6]
  refine wpAnyH_take (i := 5) (oi := _) (v := undef) rfl (by kernel_rfl) (by kernel_rfl) (by kernel_rfl) (fun _ _ _ h => h) (Or.inr ⟨by simp [Region.wanted, yielded, undef, Act.put], rfl⟩) (by assumption) ?_
  simp only [Act.put, x1, x2, x3, x4, x5, x6]
  refine wpAnyH_take (i := 6) (oi := _) (v := undef) rfl (by kernel_rfl) (by kernel_rfl) (by kernel_rfl) (fun _ _ _ h => h) (Or.inr ⟨by simp [Region.wanted, yielded, undef, Act.put], rfl⟩) (by assumption) ?_
  simp only [Act.put, x1, x2, x3, x4, x5, x6]
  refine wpAnyH_take (i := 7) (oi := _) (v := undef) rfl (by kernel_rfl) (by kernel_rfl) (by kernel_rfl) (fun _ _ _ h => h) (Or.inr ⟨by simp [Region.wanted, yielded, undef, Act.put], rfl⟩) (by assumption) ?_
  simp only [Act.put, x1, x2, x3, x4, x5, x6]
  refine tk 8 rfl (by kernel_rfl) (fun _ _ _ h => h) (by rfl) (fun w hSw => by (try dsimp only at hSw); go_simp; try (with_reducible rfl)) (by assumption) ?_
  simp only [Act.put, x1, x2, x3, x4, x5, x6]
  refine tk 9 rfl (by kernel_rfl) (fun _ _ _ h => h) (by rfl) (fun w hSw => by (try dsimp only at hSw); go_simp; try (with_reducible rfl)) (by assumption) ?_
  simp only [Act.put, x1, x2, x3, x4, x5, x6]
  refine wpAnyH_done (by kernel_rfl) ?_ _
  have HT9 : Hid (Tw w (p.cells (.slice a n c)) (q.cellsH false (.slice a' n' c')) _) := HT.out.later hHeld.1
  clear hHeld HS9 HT
  go_wp2_with fail
  go_meet
  exact ⟨rfl, HT9⟩
 case rest =>
 obtain ⟨rfl, HT2⟩ := hcut
 clear HT k0 k1 k2 k3 k4 k5 k6 k7 k8 k9 k10 k11 k12 j0 j1 j2 j3 j4 j5 j6 j7 j8 j9 j10 j11 j12
 have HT := HT2
 clear HT2
 obtain ⟨k0, k1, k2, k3, k4, k5, k6, k7, k8, k9, k10, k11, k12⟩ := Blk.cells13a HT.out.b1
 obtain ⟨j0, j1, j2, j3, j4, j5, j6, j7, j8, j9, j10, j11, j12⟩ := Blk.cells13a HT.out.b2
 go_wp2_with fail
 refine (COH.out _).mono ?_
 rintro e W9 ⟨rfl, hW⟩
 have hW2 := hW.symm
 subst hW2
 clear hW
 by_cases ho : ownZ q.sc < 0
 ·have e9 := K1.out ho
  subst e9
  clear K1 K2 K3 K4 KC
  go_wp2_with fail
  refine (CWR.out _ HT.out.bw).mono ?_
  rintro e W8 ⟨rfl, d8⟩
  have HF8 := HT.out.bw.trans (d8.mono HT.out.bw.size)
  clear d8 HT k0 k1 k2 k3 k4 k5 k6 k7 k8 k9 k10 k11 k12 j0 j1 j2 j3 j4 j5 j6 j7 j8 j9 j10 j11 j12
  go_wp2
  go_ret
  exact ⟨rfl, HF8⟩
 have ho2 : 0 ≤ ownZ q.sc := by omega
 by_cases hr : RootEq p q
 rotate_left
 ·have e9 := K2.out hr
  have HR : Hid (¬ RootEq p q) := hr
  subst e9
  clear K1 K2 K3 K4 KC hr
  go_wp2_with fail
  all_goals first
   | (exfalso; exact HR.out ⟨tlx_eq (by assumption), tlx_eq (by assumption), tlx_eq (by assumption), ⟨by assumption, tlx_eq (by assumption), by assumption⟩, by assumption⟩)
   | (refine (CWR.out _ HT.out.bw).mono ?_; rintro e W8 ⟨rfl, d8⟩; have HF8 := HT.out.bw.trans (d8.mono HT.out.bw.size); clear d8 HT k0 k1 k2 k3 k4 k5 k6 k7 k8 k9 k10 k11 k12 j0 j1 j2 j3 j4 j5 j6 j7 j8 j9 j10 j11 j12; go_wp2; go_ret; exact ⟨rfl, HF8⟩)
 have HR : Hid (p.sc.toList = q.sc.toList ∧ p.us.toList = q.us.toList ∧ p.pw.toList = q.pw.toList ∧ (p.hk = q.hk ∧ p.hn.toList = q.hn.toList ∧ p.ha = q.ha) ∧ p.po = q.po) := by
  obtain ⟨h1, h2, h3, ⟨h4, h5, h6⟩, h7⟩ := hr
  exact ⟨by rw [h1], by rw [h2], by rw [h3], ⟨h4, by rw [h5], h6⟩, h7⟩
 have K5 : Hid (¬ TwoP q → t = x ++ y) := K4.out ho2 hr
 have hcs := KC.out ho2
 clear K1 K2 K4 KC hr
 rcases hcs with ⟨h1, h2⟩ | ⟨h1, h2, r0, h3⟩ | ⟨h1, h2, c0, p0, r0, h3⟩
 ·have e9 := K5.out h2
  subst e9
  have hn1 : ¬ (1 : Int) < (n' : Int) := by omega
  clear K3 K5 h2 CWR HSQ
  obtain ⟨r1, r2, r3, ⟨r4, r5, r6⟩, r7⟩ := HR.out
  have s1 : (p.sc.toList == q.sc.toList) = true := by rw [r1]; exact beq_self_eq_true _
  have s2 : (p.us.toList == q.us.toList) = true := by rw [r2]; exact beq_self_eq_true _
  have s3 : (p.pw.toList == q.pw.toList) = true := by rw [r3]; exact beq_self_eq_true _
  have s4 : (p.hk == q.hk) = true := by rw [r4]; exact beq_self_eq_true _
  have s5 : (p.hn.toList == q.hn.toList) = true := by rw [r5]; exact beq_self_eq_true _
  have s6 : (p.ha == q.ha) = true := by rw [r6]; exact beq_self_eq_true _
  have s7 : (p.po == q.po) = true := by rw [r7]; exact beq_self_eq_true _
  have HALL : Hid (∀ W, Below wc.heap.size wc W → Tw w (p.cells (.slice a n c)) (q.cellsH false (.slice a' n' c')) W) := fun W d => HT.out.later d
  go_wp2_with fail
  go_region_with (first
   | (go_at_call 64; refine (CPP.out _ ?hd).mono ?_; (case hd => first | exact HT.out.bw | exact (HALL.out _ ((Below.refl _ _).drew)).bw); rintro e W6 ⟨rfl, hW⟩; have hW2 := hW.symm; subst hW2; clear hW)
   | (go_at_call 65; refine (CTL.out _).mono ?_; rintro e W7 ⟨rfl, d7⟩; have HD7 : Hid (Below wc.heap.size wc W7) := (by first | exact d7 | exact ((Below.refl _ wc).drew).trans d7); clear d7)
   | fail)
  all_goals
   have HF9 := (HALL.out _ HD7.out).bw
   clear HALL HT HD7 k0 k1 k2 k3 k4 k5 k6 k7 k8 k9 k10 k11 k12 j0 j1 j2 j3 j4 j5 j6 j7 j8 j9 j10 j11 j12
   go_wp2
   go_ret
   exact ⟨rfl, HF9⟩
 ·have e9 := K3.out h2
  subst e9
  have hn1 : (1 : Int) < (n' : Int) := by omega
  obtain ⟨b, off, z, ha, zc, hz⟩ := first_cell (HSQ.out _ HT.out.bw) [] r0 h3
  have hz2 : z = ⟨#[]⟩ := hz
  subst hz2
  subst ha
  clear K3 K5 h2 hz h3 HSQ
  obtain ⟨r1, r2, r3, ⟨r4, r5, r6⟩, r7⟩ := HR.out
  have s1 : (p.sc.toList == q.sc.toList) = true := by rw [r1]; exact beq_self_eq_true _
  have s2 : (p.us.toList == q.us.toList) = true := by rw [r2]; exact beq_self_eq_true _
  have s3 : (p.pw.toList == q.pw.toList) = true := by rw [r3]; exact beq_self_eq_true _
  have s4 : (p.hk == q.hk) = true := by rw [r4]; exact beq_self_eq_true _
  have s5 : (p.hn.toList == q.hn.toList) = true := by rw [r5]; exact beq_self_eq_true _
  have s6 : (p.ha == q.ha) = true := by rw [r6]; exact beq_self_eq_true _
  have s7 : (p.po == q.po) = true := by rw [r7]; exact beq_self_eq_true _
  go_wp2_with fail
  refine (CWR.out _ HT.out.bw).mono ?_
  rintro e W8 ⟨rfl, d8⟩
  have HF8 := HT.out.bw.trans (d8.mono HT.out.bw.size)
  clear d8 HT k0 k1 k2 k3 k4 k5 k6 k7 k8 k9 k10 k11 k12 j0 j1 j2 j3 j4 j5 j6 j7 j8 j9 j10 j11 j12
  go_wp2
  go_ret
  exact ⟨rfl, HF8⟩
 ·have e9 := K5.out h2
  subst e9
  have hn1 : (1 : Int) < (n' : Int) := by omega
  obtain ⟨b, off, z, ha, zc, hz⟩ := first_cell (HSQ.out _ HT.out.bw) (c0 :: p0) r0 h3
  have hzf : (z.toList == []) = false ∧ ¬ z.toList = [] := by
   have hzn : z.toList ≠ [] := by rw [hz, ByteArray.toList_eq]; simp [mk]
   exact ⟨beq_eq_false_iff_ne.2 hzn, hzn⟩
  obtain ⟨zf1, zf2⟩ := hzf
  subst ha
  clear K3 K5 h2 hz h3 HSQ CWR
  obtain ⟨r1, r2, r3, ⟨r4, r5, r6⟩, r7⟩ := HR.out
  have s1 : (p.sc.toList == q.sc.toList) = true := by rw [r1]; exact beq_self_eq_true _
  have s2 : (p.us.toList == q.us.toList) = true := by rw [r2]; exact beq_self_eq_true _
  have s3 : (p.pw.toList == q.pw.toList) = true := by rw [r3]; exact beq_self_eq_true _
  have s4 : (p.hk == q.hk) = true := by rw [r4]; exact beq_self_eq_true _
  have s5 : (p.hn.toList == q.hn.toList) = true := by rw [r5]; exact beq_self_eq_true _
  have s6 : (p.ha == q.ha) = true := by rw [r6]; exact beq_self_eq_true _
  have s7 : (p.po == q.po) = true := by rw [r7]; exact beq_self_eq_true _
  have HALL : Hid (∀ W, Below wc.heap.size wc W → Tw w (p.cells (.slice a n c)) (q.cellsH false (.slice (some ⟨b, off, none⟩) n' c')) W) := fun W d => HT.out.later d
  go_wp2_with fail
  go_region_with (first
   | (go_at_call 64; refine (CPP.out _ ?hd).mono ?_; (case hd => first | exact HT.out.bw | exact (HALL.out _ ((Below.refl _ _).drew)).bw); rintro e W6 ⟨rfl, hW⟩; have hW2 := hW.symm; subst hW2; clear hW)
   | (go_at_call 65; refine (CTL.out _).mono ?_; rintro e W7 ⟨rfl, d7⟩; have HD7 : Hid (Below wc.heap.size wc W7) := (by first | exact d7 | exact ((Below.refl _ wc).drew).trans d7); clear d7)
   | fail)
  all_goals
   have HF9 := (HALL.out _ HD7.out).bw
   clear HALL HT HD7 k0 k1 k2 k3 k4 k5 k6 k7 k8 k9 k10 k11 k12 j0 j1 j2 j3 j4 j5 j6 j7 j8 j9 j10 j11 j12
   go_wp2
   go_ret
   exact ⟨rfl, HF9⟩
end Go.Proofs.YtnfhajhdpdidlaaGreatDoor
end
