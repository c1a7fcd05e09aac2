/- impl.UrlLess: a short text that leads from one address to another one. impl.UrlLess: a short text that leads from one address to another one. spec.l4Tail: the end of an address, from its question mark on. -/
import Derived.Test.YtnfhajhdpdidlaaGreatDoorCFnExactUrlLess04
import Derived.Test.YtnfhajhdpdidlaaGreatDoorCFnExactUrlLess06
import Derived.Test.YtnfhajhdpdidlaaGreatDoorCFnExactUrlLess07
import Derived.Test.YtnfhajhdpdidlaaGreatDoorB12
import Derived.Test.YtnfhajhdpdidlaaGreatDoorB34
set_option linter.unusedVariables false
set_option linter.unusedSimpArgs false
set_option maxHeartbeats 8000000
set_option maxRecDepth 100000
section
namespace Go.Proofs.YtnfhajhdpdidlaaGreatDoor
open Go.RowKit Go.Shelf
theorem implLessRestB (p q : P) (a a' : Option Addr) (n n' c c' : Nat) (w : World) (hL : Lean1 w) (hS : StrsOf a n p.ps w) (hS' : StrsOf a' n' q.ps w) (hs : p.tot ≤ 1048576) (hs' : q.tot ≤ 1048576) (hpo : p.po ≤ 9223372036854775807) (hpo' : q.po ≤ 9223372036854775807) (hp : okP p) (hq : okP q) (hf : q.hf = true) (hx : ¬ bsP p = bsP q) (t : ByteArray) (ht : Les p q t) :
  Calls Tryz.prog 24 #[.agg (p.cells (.slice a n c)), .agg (q.cells (.slice a' n' c'))] w fun e w' => e = .returned (.string t) ∧ Below w.heap.size w w' := by
 have COA : Hid (∀ W, Below w.heap.size w W → Calls Tryz.prog 43 #[.agg (p.cells (.slice a n c))] W fun e w' => e = .returned (.bool true) ∧ Below W.heap.size W w') := fun W d => implUrlOk p a n c W (hL.below d) (hS.later d) hs hpo true (by simp [hp])
 have COB : Hid (∀ W, Below w.heap.size w W → Calls Tryz.prog 43 #[.agg (q.cells (.slice a' n' c'))] W fun e w' => e = .returned (.bool true) ∧ Below W.heap.size W w') := fun W d => implUrlOk q a' n' c' W (hL.below d) (hS'.later d) hs' hpo' true (by simp [hq])
 have CSM : Hid (∀ W, Below w.heap.size w W → Calls Tryz.prog 66 #[.agg (p.cells (.slice a n c)), .agg (q.cells (.slice a' n' c'))] W fun e w' => e = .returned (.bool false) ∧ Below W.heap.size W w') := fun W d => implUrlSame p q a a' n n' c c' W (hL.below d) (hS.later d) (hS'.later d) hs hs' hpo hpo' false (iff_of_false (by decide) (fun h => hx h.2.2))
 have he : ¬ EndOnly p q := fun e => hx e.2
 obtain ⟨h, hh⟩ : ∃ x : Bool, x = true ↔ 0 ≤ ownZ q.sc := by
  by_cases g : 0 ≤ ownZ q.sc
  ·exact ⟨true, iff_of_true rfl g⟩
  ·exact ⟨false, iff_of_false (by decide) g⟩
 obtain ⟨r, hr⟩ : ∃ x : Bool, x = true ↔ RootEq p q := by
  by_cases g : RootEq p q
  ·exact ⟨true, iff_of_true rfl g⟩
  ·exact ⟨false, iff_of_false (by decide) g⟩
 obtain ⟨u, hu⟩ : ∃ x : Bool, x = true ↔ TwoP q := by
  by_cases g : TwoP q
  ·exact ⟨true, iff_of_true rfl g⟩
  ·exact ⟨false, iff_of_false (by decide) g⟩
 obtain ⟨x, hxx⟩ : ∃ x, x = mk (putL q.ps) := ⟨_, rfl⟩
 obtain ⟨y, hyy⟩ : ∃ x, x = mk (tailL q) := ⟨_, rfl⟩
 have K1 : Hid (h = false → t = mk (writL q)) := fun g => ht.all hp hq he (.inl (by
  by_cases g2 : 0 ≤ ownZ q.sc
  ·rw [hh.2 g2] at g; cases g
  ·omega))
 have K2 : Hid (r = false → t = mk (writL q)) := fun g => ht.all hp hq he (.inr (.inl (fun e => by rw [hr.2 e] at g; cases g)))
 have K3 : Hid (u = true → t = mk (writL q)) := fun g => ht.all hp hq he (.inr (.inr (hu.1 g)))
 have K4 : Hid (h = true → r = true → u = false → t = x ++ y) := fun g1 g2 g3 => by
  rw [hxx, hyy]
  refine ht.pat hp hq he ?_
  rintro (e | e | e)
  ·have := hh.1 g1; omega
  ·exact e (hr.1 g2)
  ·rw [hu.2 e] at g3; cases g3
 have htl : q.ps.length + tot q.ps ≤ 1048576 := by unfold P.tot at hs'; omega
 have hpl := putL_len q.ps
 have hxz : x.size ≤ 2000000 := by rw [hxx, mk_size]; omega
 have hyz : y.size ≤ 4000000 := by
  rw [hyy, mk_size]
  have := tailL_len q
  unfold P.tot at hs'; omega
 have CHH : Hid (∀ W, Calls Tryz.prog 67 #[.agg (q.cells (.slice a' n' c'))] W fun e w' => e = .returned (.bool h) ∧ Below W.heap.size W w') := hasHost_is q _ h hh
 have CRT : Hid (∀ W, Calls Tryz.prog 68 #[.agg (p.cells (.slice a n c)), .agg (q.cells (.slice a' n' c'))] W fun e w' => e = .returned (.bool r) ∧ Below W.heap.size W w') := fun W => sameRoot p q _ _ W r hr
 have CPP : Hid (∀ W, Below w.heap.size w W → Calls Tryz.prog 16 #[.slice a' n' c'] W fun e w' => e = .returned (.string x) ∧ Below W.heap.size W w') := fun W d => by rw [hxx]; exact implPathPut a' n' c' q.ps W (hS'.later d) (by omega)
 have CTW : Hid (h = true → ∀ W, Calls Tryz.prog 69 #[.string x] W fun e w' => e = .returned (.bool u) ∧ Below W.heap.size W w') := fun g W => by rw [hxx]; exact beginsPut q hq (hh.1 g) (by omega) u hu W
 have CTL : Hid (∀ W, Calls Tryz.prog 70 #[.agg (q.cells (.slice a' n' c'))] W fun e w' => e = .returned (.string y) ∧ Below W.heap.size W w') := fun W => by rw [hyy]; exact tailWrite q _ W hs'
 have CWR : Hid (∀ W, Below w.heap.size w W → Calls Tryz.prog 58 #[.agg (q.cells (.slice a' n' c'))] W fun e w' => e = .returned (.string (mk (writL q))) ∧ Below W.heap.size W w') := fun W d => by
  have hn' : n' = q.ps.length := hS'.1
  rw [hn']
  exact urlWrite q a' c' W (hL.below d).base (by rw [← hn']; exact hS'.later d) hs' hpo'
 obtain ⟨V, hV⟩ : ∃ V, V = ((w.alloc (.cells (p.cells (.slice a n c)) 31)).alloc (.cells (q.cells (.slice a' n' c')) 31)) := ⟨_, rfl⟩
 have HT : Hid (Tw w (p.cells (.slice a n c)) (q.cells (.slice a' n' c')) V) := by show Tw _ _ _ _; rw [hV]; exact Tw.start w _ _
 have HK : Hid (Tw w (p.cells (.slice a n c)) (q.cells (.slice a' n' c')) V) := by show Tw _ _ _ _; rw [hV]; exact Tw.start w _ _
 rw [cellsH_of q true _ hf] at COB CSM CHH CRT CTL CWR hV HT HK ⊢
 clear hS hS' hs hs' hpo hpo' hf hp hq he ht hh hr hu hxx hyy htl hpl hx hL
 unfold P.cells P.cellsH at *
 go_enter Tryz.func24, Tryz.ntmps24
 go_upto_region 1 with fail
 rw [← hV]
 clear hV
 obtain ⟨k0, k1, k2, k3, k4, k5, k6, k7, k8, k9, k10, k11, k12⟩ := Blk.cells13a HK.out.b1
 obtain ⟨j0, j1, j2, j3, j4, j5, j6, j7, j8, j9, j10, j11, j12⟩ := Blk.cells13a HK.out.b2
 clear HK
 go_wp2_with fail
 refine (COA.out _ HT.out.bw).mono ?_
 rintro e W1 ⟨rfl, d1⟩
 have HT2 := HT.out.later d1
 clear HT d1 k0 k1 k2 k3 k4 k5 k6 k7 k8 k9 k10 k11 k12 j0 j1 j2 j3 j4 j5 j6 j7 j8 j9 j10 j11 j12
 have HT : Hid (Tw w (p.cells (.slice a n c)) (q.cellsH true (.slice a' n' c')) W1) := HT2
 clear HT2
 obtain ⟨k0, k1, k2, k3, k4, k5, k6, k7, k8, k9, k10, k11, k12⟩ := Blk.cells13a HT.out.b1
 obtain ⟨j0, j1, j2, j3, j4, j5, j6, j7, j8, j9, j10, j11, j12⟩ := Blk.cells13a HT.out.b2
 go_wp2_with fail
 refine (COB.out _ HT.out.bw).mono ?_
 rintro e W2 ⟨rfl, d1⟩
 have HT2 := HT.out.later d1
 clear HT d1 k0 k1 k2 k3 k4 k5 k6 k7 k8 k9 k10 k11 k12 j0 j1 j2 j3 j4 j5 j6 j7 j8 j9 j10 j11 j12
 have HT : Hid (Tw w (p.cells (.slice a n c)) (q.cellsH true (.slice a' n' c')) W2) := HT2
 clear HT2
 obtain ⟨k0, k1, k2, k3, k4, k5, k6, k7, k8, k9, k10, k11, k12⟩ := Blk.cells13a HT.out.b1
 obtain ⟨j0, j1, j2, j3, j4, j5, j6, j7, j8, j9, j10, j11, j12⟩ := Blk.cells13a HT.out.b2
 go_wp2_with fail
 refine (CSM.out _ HT.out.bw).mono ?_
 rintro e W3 ⟨rfl, d1⟩
 have HT2 := HT.out.later d1
 clear HT d1 k0 k1 k2 k3 k4 k5 k6 k7 k8 k9 k10 k11 k12 j0 j1 j2 j3 j4 j5 j6 j7 j8 j9 j10 j11 j12
 have HT : Hid (Tw w (p.cells (.slice a n c)) (q.cellsH true (.slice a' n' c')) W3) := HT2
 clear HT2
 obtain ⟨k0, k1, k2, k3, k4, k5, k6, k7, k8, k9, k10, k11, k12⟩ := Blk.cells13a HT.out.b1
 obtain ⟨j0, j1, j2, j3, j4, j5, j6, j7, j8, j9, j10, j11, j12⟩ := Blk.cells13a HT.out.b2
 go_wp2_with fail
 refine (CHH.out _).mono ?_
 rintro e W4 ⟨rfl, d1⟩
 have HT2 := HT.out.later d1
 clear HT d1 k0 k1 k2 k3 k4 k5 k6 k7 k8 k9 k10 k11 k12 j0 j1 j2 j3 j4 j5 j6 j7 j8 j9 j10 j11 j12
 have HT : Hid (Tw w (p.cells (.slice a n c)) (q.cellsH true (.slice a' n' c')) W4) := HT2
 clear HT2
 obtain ⟨k0, k1, k2, k3, k4, k5, k6, k7, k8, k9, k10, k11, k12⟩ := Blk.cells13a HT.out.b1
 obtain ⟨j0, j1, j2, j3, j4, j5, j6, j7, j8, j9, j10, j11, j12⟩ := Blk.cells13a HT.out.b2
 rcases Bool.eq_false_or_eq_true h with hb | hb
 rotate_left
 ·have e9 := K1.out hb
  subst e9
  subst hb
  clear K1 K2 K3 K4 CRT CPP CTW CTL
  go_wp2_with fail
  refine (CWR.out _ HT.out.bw).mono ?_
  rintro e W8 ⟨rfl, d1⟩
  have HT2 := HT.out.later d1
  clear HT d1 k0 k1 k2 k3 k4 k5 k6 k7 k8 k9 k10 k11 k12 j0 j1 j2 j3 j4 j5 j6 j7 j8 j9 j10 j11 j12
  have HT : Hid (Tw w (p.cells (.slice a n c)) (q.cellsH true (.slice a' n' c')) W8) := HT2
  clear HT2
  obtain ⟨k0, k1, k2, k3, k4, k5, k6, k7, k8, k9, k10, k11, k12⟩ := Blk.cells13a HT.out.b1
  obtain ⟨j0, j1, j2, j3, j4, j5, j6, j7, j8, j9, j10, j11, j12⟩ := Blk.cells13a HT.out.b2
  clear k0 k1 k2 k3 k4 k5 k6 k7 k8 k9 k10 k11 k12 j0 j1 j2 j3 j4 j5 j6 j7 j8 j9 j10 j11 j12
  go_wp2
  go_ret
  exact ⟨rfl, HT.out.bw⟩
 have CTX : Hid (∀ W, Calls Tryz.prog 69 #[.string x] W fun e w' => e = .returned (.bool u) ∧ Below W.heap.size W w') := CTW.out hb
 have K5 : Hid (r = true → u = false → t = x ++ y) := K4.out hb
 subst hb
 clear CHH CTW K1 K4
 go_wp2_with fail
 refine (CRT.out _).mono ?_
 rintro e W5 ⟨rfl, d1⟩
 have HT2 := HT.out.later d1
 clear HT d1 k0 k1 k2 k3 k4 k5 k6 k7 k8 k9 k10 k11 k12 j0 j1 j2 j3 j4 j5 j6 j7 j8 j9 j10 j11 j12
 have HT : Hid (Tw w (p.cells (.slice a n c)) (q.cellsH true (.slice a' n' c')) W5) := HT2
 clear HT2
 obtain ⟨k0, k1, k2, k3, k4, k5, k6, k7, k8, k9, k10, k11, k12⟩ := Blk.cells13a HT.out.b1
 obtain ⟨j0, j1, j2, j3, j4, j5, j6, j7, j8, j9, j10, j11, j12⟩ := Blk.cells13a HT.out.b2
 rcases Bool.eq_false_or_eq_true r with hb | hb
 rotate_left
 ·have e9 := K2.out hb
  subst e9
  subst hb
  clear K2 K3 K5 CPP CTX CTL
  go_wp2_with fail
  refine (CWR.out _ HT.out.bw).mono ?_
  rintro e W8 ⟨rfl, d1⟩
  have HT2 := HT.out.later d1
  clear HT d1 k0 k1 k2 k3 k4 k5 k6 k7 k8 k9 k10 k11 k12 j0 j1 j2 j3 j4 j5 j6 j7 j8 j9 j10 j11 j12
  have HT : Hid (Tw w (p.cells (.slice a n c)) (q.cellsH true (.slice a' n' c')) W8) := HT2
  clear HT2
  obtain ⟨k0, k1, k2, k3, k4, k5, k6, k7, k8, k9, k10, k11, k12⟩ := Blk.cells13a HT.out.b1
  obtain ⟨j0, j1, j2, j3, j4, j5, j6, j7, j8, j9, j10, j11, j12⟩ := Blk.cells13a HT.out.b2
  clear k0 k1 k2 k3 k4 k5 k6 k7 k8 k9 k10 k11 k12 j0 j1 j2 j3 j4 j5 j6 j7 j8 j9 j10 j11 j12
  go_wp2
  go_ret
  exact ⟨rfl, HT.out.bw⟩
 have K6 : Hid (u = false → t = x ++ y) := K5.out hb
 subst hb
 clear CRT K2 K5
 go_wp2_with fail
 refine (CPP.out _ HT.out.bw).mono ?_
 rintro e W6 ⟨rfl, d1⟩
 have HT2 := HT.out.later d1
 clear HT d1 k0 k1 k2 k3 k4 k5 k6 k7 k8 k9 k10 k11 k12 j0 j1 j2 j3 j4 j5 j6 j7 j8 j9 j10 j11 j12
 have HT : Hid (Tw w (p.cells (.slice a n c)) (q.cellsH true (.slice a' n' c')) W6) := HT2
 clear HT2
 obtain ⟨k0, k1, k2, k3, k4, k5, k6, k7, k8, k9, k10, k11, k12⟩ := Blk.cells13a HT.out.b1
 obtain ⟨j0, j1, j2, j3, j4, j5, j6, j7, j8, j9, j10, j11, j12⟩ := Blk.cells13a HT.out.b2
 go_wp2_with fail
 refine (CTX.out _).mono ?_
 rintro e W7 ⟨rfl, d1⟩
 have HT2 := HT.out.later d1
 clear HT d1 k0 k1 k2 k3 k4 k5 k6 k7 k8 k9 k10 k11 k12 j0 j1 j2 j3 j4 j5 j6 j7 j8 j9 j10 j11 j12
 have HT : Hid (Tw w (p.cells (.slice a n c)) (q.cellsH true (.slice a' n' c')) W7) := HT2
 clear HT2
 obtain ⟨k0, k1, k2, k3, k4, k5, k6, k7, k8, k9, k10, k11, k12⟩ := Blk.cells13a HT.out.b1
 obtain ⟨j0, j1, j2, j3, j4, j5, j6, j7, j8, j9, j10, j11, j12⟩ := Blk.cells13a HT.out.b2
 rcases Bool.eq_false_or_eq_true u with hb | hb
 ·have e9 := K3.out hb
  subst e9
  subst hb
  clear K3 K6 CPP CTX CTL
  go_wp2_with fail
  refine (CWR.out _ HT.out.bw).mono ?_
  rintro e W8 ⟨rfl, d1⟩
  have HT2 := HT.out.later d1
  clear HT d1 k0 k1 k2 k3 k4 k5 k6 k7 k8 k9 k10 k11 k12 j0 j1 j2 j3 j4 j5 j6 j7 j8 j9 j10 j11 j12
  have HT : Hid (Tw w (p.cells (.slice a n c)) (q.cellsH true (.slice a' n' c')) W8) := HT2
  clear HT2
  obtain ⟨k0, k1, k2, k3, k4, k5, k6, k7, k8, k9, k10, k11, k12⟩ := Blk.cells13a HT.out.b1
  obtain ⟨j0, j1, j2, j3, j4, j5, j6, j7, j8, j9, j10, j11, j12⟩ := Blk.cells13a HT.out.b2
  clear k0 k1 k2 k3 k4 k5 k6 k7 k8 k9 k10 k11 k12 j0 j1 j2 j3 j4 j5 j6 j7 j8 j9 j10 j11 j12
  go_wp2
  go_ret
  exact ⟨rfl, HT.out.bw⟩
 have e9 := K6.out hb
 subst e9
 subst hb
 clear K3 K6 CTX CWR
 have HALL : Hid (∀ W, Below W7.heap.size W7 W → Tw w (p.cells (.slice a n c)) (q.cellsH true (.slice a' n' c')) W) := fun W d => HT.out.later d
 go_wp2_with fail
 go_region_with (first
  | (go_at_call 16; refine (CPP.out _ ?hd).mono ?_; (case hd => first | exact HT.out.bw | exact (HALL.out _ ((Below.refl _ _).drew)).bw); rintro e W8 ⟨rfl, d8⟩; have HD8 : Hid (Below W7.heap.size W7 W8) := (by first | exact d8 | exact ((Below.refl _ W7).drew).trans d8); clear d8 j0 j1 j2 j3 j4 j5 j6 j7 j8 j9 j10 j11 j12 k0 k1 k2 k3 k4 k5 k6 k7 k8 k9 k10 k11 k12; obtain ⟨j0, j1, j2, j3, j4, j5, j6, j7, j8, j9, j10, j11, j12⟩ := Blk.cells13a (HALL.out _ HD8.out).b2)
  | (go_at_call 70; refine (CTL.out _).mono ?_; rintro e W9 ⟨rfl, d9⟩; have HD9 : Hid (Below W7.heap.size W7 W9) := HD8.out.trans (d9.mono HD8.out.size); clear d9)
  | fail)
 all_goals
  have HF9 := (HALL.out _ HD9.out).bw
  clear HALL HT HD8 HD9
  go_wp2
  go_ret
  exact ⟨rfl, HF9⟩
end Go.Proofs.YtnfhajhdpdidlaaGreatDoor
end
section
namespace Go.Proofs.YtnfhajhdpdidlaaGreatDoor
open Go.RowKit Go.Shelf
theorem implUrlLess (p q : P) (a a' : Option Addr) (n n' c c' : Nat) (w : World) (hL : Lean1 w) (hS : StrsOf a n p.ps w) (hS' : StrsOf a' n' q.ps w) (hs : p.tot ≤ 1048576) (hs' : q.tot ≤ 1048576) (hpo : p.po ≤ 9223372036854775807) (hpo' : q.po ≤ 9223372036854775807) (t : ByteArray) (ht : Les p q t) :
  Calls Tryz.prog 24 #[.agg (p.cells (.slice a n c)), .agg (q.cells (.slice a' n' c'))] w fun e w' => e = .returned (.string t) ∧ Below w.heap.size w w' := by
 by_cases hp : okP p
 case neg => rw [ht.no (fun h => hp h.1)]; exact implLessNo p q a a' n n' c c' w hL hS hS' hs hs' hpo hpo' hp
 by_cases hq : okP q
 case neg => rw [ht.no (fun h => hq h.2)]; exact implLessHalf p q a a' n n' c c' w hL hS hS' hs hs' hpo hpo' hp hq
 by_cases he : EndOnly p q
 ·rw [ht.fin hp hq he]; exact implLessEnd p q a a' n n' c c' w hL hS hS' hs hs' hpo hpo' hp hq he.1 he.2
 cases hf : q.hf with
 | false => exact implLessRestA p q a a' n n' c c' w hL hS hS' hs hs' hpo hpo' hp hq hf t ht
 | true => exact implLessRestB p q a a' n n' c c' w hL hS hS' hs hs' hpo hpo' hp hq hf (fun e => he ⟨hf, e⟩) t ht
end Go.Proofs.YtnfhajhdpdidlaaGreatDoor
end
section
namespace Go.Proofs.YtnfhajhdpdidlaaGreatDoor
open Go.RowKit Go.Shelf
theorem l4Tail (q : P) (v : Value) (w : World) (hs : q.tot ≤ 1048576) :
  Calls Tryz.prog 65 #[.agg (q.cells v)] w fun e w' => e = .returned (.string (mk (tailL q))) ∧ Below w.heap.size w w' := by
 have hq1 : q.qu.size ≤ 1048576 := by unfold P.tot at hs; omega
 have hf1 : q.fr.size ≤ 1048576 := by unfold P.tot at hs; omega
 have HQ : Hid (q.hq = true → mk (queL q) = ⟨#[63]⟩ ++ q.qu) := fun h => by
  unfold queL; rw [if_pos h]; apply ByteArray.ext; apply Array.ext'; simp [mk]
 have HN : Hid (q.hq = false → queL q = []) := fun h => by unfold queL; rw [h]; rfl
 have HF : Hid (q.hf = true → mk (tailL q) = mk (queL q) ++ ⟨#[35]⟩ ++ q.fr) := fun h => by
  unfold tailL frgL; rw [if_pos h]; apply ByteArray.ext; apply Array.ext'; simp [mk]
 have HM : Hid (q.hf = false → tailL q = queL q) := fun h => by unfold tailL frgL; rw [h]; simp
 have H0 : Hid (Below w.heap.size w (w.alloc (.cells #[(.string q.sc), (.string q.us), (.string q.pw), (.int .i64 q.hk), (.string q.hn), (.int .i64 q.ha), (.int .i64 q.po), v, (.string q.op), (.bool q.hq), (.string q.qu), (.bool q.hf), (.string q.fr)] 31))) := (Below.refl _ w).alloc (Nat.le_refl _) _
 clear hs
 unfold P.cells
 cases hq : q.hq with
 | false =>
  have e1 := HN.out hq
  cases hf : q.hf with
  | false =>
   rw [show mk (tailL q) = ⟨#[]⟩ by rw [HM.out hf, e1]; rfl]
   rw [hq, hf] at H0
   clear HQ HN HF HM e1
   go_enter Tryz.func65, Tryz.ntmps65
   go_wp2
   go_ret
   exact ⟨rfl, H0.out⟩
  | true =>
   rw [show mk (tailL q) = ⟨#[]⟩ ++ ⟨#[35]⟩ ++ q.fr by rw [HF.out hf, e1]; rfl]
   rw [hq, hf] at H0
   have z1 : (⟨#[]⟩ ++ ⟨#[35]⟩ : ByteArray).size + q.fr.size ≤ 2000000 := by rw [ByteArray.size_append]; show 0 + 1 + _ ≤ _; omega
   clear HQ HN HF HM e1
   go_enter Tryz.func65, Tryz.ntmps65
   go_wp2
   go_ret
   exact ⟨rfl, H0.out⟩
 | true =>
  have e1 := HQ.out hq
  have z1 : 1 + q.qu.size ≤ 2000000 := by omega
  cases hf : q.hf with
  | false =>
   rw [show mk (tailL q) = ⟨#[63]⟩ ++ q.qu by rw [HM.out hf, e1]]
   rw [hq, hf] at H0
   clear HQ HN HF HM e1
   go_enter Tryz.func65, Tryz.ntmps65
   go_wp2
   go_ret
   exact ⟨rfl, H0.out⟩
  | true =>
   rw [show mk (tailL q) = ⟨#[63]⟩ ++ q.qu ++ ⟨#[35]⟩ ++ q.fr by rw [HF.out hf, e1]]
   rw [hq, hf] at H0
   have z2 : (⟨#[63]⟩ ++ q.qu : ByteArray).size + 1 ≤ 2000000 := by rw [ByteArray.size_append]; show 1 + _ + 1 ≤ _; omega
   have z3 : (⟨#[63]⟩ ++ q.qu ++ ⟨#[35]⟩ : ByteArray).size + q.fr.size ≤ 4000000 := by rw [ByteArray.size_append, ByteArray.size_append]; show 1 + _ + 1 + _ ≤ _; omega
   clear HQ HN HF HM e1
   go_enter Tryz.func65, Tryz.ntmps65
   go_wp2
   go_ret
   exact ⟨rfl, H0.out⟩
end Go.Proofs.YtnfhajhdpdidlaaGreatDoor
end
