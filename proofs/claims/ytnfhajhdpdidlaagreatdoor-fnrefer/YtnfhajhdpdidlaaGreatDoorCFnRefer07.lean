/- spec.l8Key, spec.Refer: what an address is told of the one from which one comes. The reader's pick answers a number from 0 on, below what it is asked for, and turns nothing but the reader's place. The reader's choice out of a list: one of the list's own, and nothing turns but the reader's place. A reader behind what leaves it. -/
import Derived.Test.YtnfhajhdpdidlaaGreatDoorCFnRefer06
import Derived.Test.YtnfhajhdpdidlaaGreatDoorCFnRefer03
import Derived.Test.YtnfhajhdpdidlaaGreatDoorB16
import Derived.Test.YtnfhajhdpdidlaaGreatDoorCFnRefer04
import Derived.Test.YtnfhajhdpdidlaaGreatDoorCFnRefer02
import Derived.Test.YtnfhajhdpdidlaaGreatDoorCFnRefer05
import Derived.Test.YtnfhajhdpdidlaaGreatDoorCFnRefer01
set_option linter.unusedVariables false
set_option linter.unusedSimpArgs false
set_option maxHeartbeats 8000000
set_option maxRecDepth 100000
section
namespace Go.Proofs.YtnfhajhdpdidlaaGreatDoor
open Go.RowKit Go.Shelf
theorem l8Key (q : P) (a : Option Addr) (n c : Nat) (w : World) (hS : StrsOf a n q.ps w) (hs : q.tot ≤ 1048576) (hpo : q.po ≤ 9223372036854775807) :
  Calls Tryz.prog 50 #[.agg (q.cells (.slice a n c))] w fun e w' => e = .returned (.string (mk (writL (bsP q)))) ∧ Below w.heap.size w w' := by
 have hn : n = q.ps.length := hS.1
 have hsb : (bsP q).tot ≤ 1048576 := by
  unfold P.tot bsP at *
  have : (ByteArray.mk #[]).size = 0 := rfl
  dsimp only
  omega
 have CW : Hid (∀ W, Below w.heap.size w W → Calls Tryz.prog 63 #[.agg #[(.string q.sc), (.string q.us), (.string q.pw), (.int .i64 q.hk), (.string q.hn), (.int .i64 q.ha), (.int .i64 q.po), (.slice a n c), (.string q.op), (.bool q.hq), (.string q.qu), (.bool false), (.string ⟨#[]⟩)]] W fun e w' => e = .returned (.string (mk (writL (bsP q)))) ∧ Below W.heap.size W w') := fun W d => by
  rw [hn]
  exact l3Put (bsP q) a c W (by show StrsOf a q.ps.length q.ps W; rw [← hn]; exact hS.later d) hsb hpo (fun h W => l1DecL q.po W h hpo)
 obtain ⟨V, hV⟩ : ∃ V, V = w.alloc (.cells (q.cells (.slice a n c)) 31) := ⟨_, rfl⟩
 have H0 : Hid (Blk w.heap.size (q.cells (.slice a n c)) 31 V ∧ Below w.heap.size w V) := by show _ ∧ _; rw [hV]; exact ⟨Blk.new w _ _, (Below.refl _ w).alloc (Nat.le_refl _) _⟩
 clear hS hs hpo hsb hn
 unfold P.cells at *
 go_enter Tryz.func50, Tryz.ntmps50
 go_upto_region 1 with fail
 rw [← hV]
 clear hV
 obtain ⟨k0, k1, k2, k3, k4, k5, k6, k7, k8, k9, k10, k11, k12⟩ := Blk.cells13a H0.out.1
 have fk := H0.out.1.free
 have HB : Hid (Below w.heap.size w ((V.setCell ⟨w.heap.size, 11, none⟩ (.bool false)).setCell ⟨w.heap.size, 12, none⟩ (.string ⟨#[]⟩))) := (H0.out.2.setCell (p := ⟨w.heap.size, 11, none⟩) (Nat.le_refl _) _).setCell (p := ⟨w.heap.size, 12, none⟩) (Nat.le_refl _) _
 go_wp2_with fail
 refine (CW.out _ HB.out).mono ?_
 rintro e W1 ⟨rfl, d1⟩
 have HF : Hid (Below w.heap.size w W1) := HB.out.trans (d1.mono HB.out.size)
 clear d1 HB H0 k0 k1 k2 k3 k4 k5 k6 k7 k8 k9 k10 k11 k12 fk CW
 go_wp2
 go_ret
 exact ⟨rfl, HF.out⟩
theorem specRefer (p q : P) (a a' : Option Addr) (n n' c c' : Nat) (w : World) (hS : StrsOf a n p.ps w) (hS' : StrsOf a' n' q.ps w) (hs : p.tot ≤ 1048576) (hs' : q.tot ≤ 1048576) (hpo : p.po ≤ 9223372036854775807) (hpo' : q.po ≤ 9223372036854775807) (y x : Bool) (hy : y = true ↔ okP p ∧ 0 ≤ ownZ p.sc ∧ okP q ∧ 0 ≤ ownZ q.sc ∧ ¬ (Https p.sc ∧ ¬ Https q.sc)) (hx : x = true ↔ orgV p = orgV q) :
  Calls Tryz.prog 18 #[.agg (p.cells (.slice a n c)), .agg (q.cells (.slice a' n' c'))] w fun e w' => e = .returned (.string (refT y x p)) ∧ Below w.heap.size w w' := by
 obtain ⟨b1, hb1⟩ : ∃ b : Bool, b = true ↔ okP p := by
  by_cases g : okP p
  ·exact ⟨true, iff_of_true rfl g⟩
  ·exact ⟨false, iff_of_false (by decide) g⟩
 obtain ⟨b2, hb2⟩ : ∃ b : Bool, b = true ↔ okP q := by
  by_cases g : okP q
  ·exact ⟨true, iff_of_true rfl g⟩
  ·exact ⟨false, iff_of_false (by decide) g⟩
 have COA : Hid (∀ W, Below w.heap.size w W → Calls Tryz.prog 31 #[.agg (p.cells (.slice a n c))] W fun e w' => e = .returned (.bool b1) ∧ Below W.heap.size W w') := fun W d => specUrlOk p a n c W (hS.later d) hs hpo b1 hb1
 have COB : Hid (∀ W, Below w.heap.size w W → Calls Tryz.prog 31 #[.agg (q.cells (.slice a' n' c'))] W fun e w' => e = .returned (.bool b2) ∧ Below W.heap.size W w') := fun W d => specUrlOk q a' n' c' W (hS'.later d) hs' hpo' b2 hb2
 have HY : Hid ((b1 = false ∨ b2 = false) → y = false) := fun g => by
  rw [Bool.eq_false_iff]
  intro e
  obtain ⟨g1, g2, g3, g4, g5⟩ := hy.1 e
  rcases g with g | g
  ·rw [hb1.2 g1] at g; cases g
  ·rw [hb2.2 g3] at g; cases g
 have HC : Hid (b1 = true → b2 = true → (y = false ∧ (p.hk = 0 ∨ (¬ p.hk = 0 ∧ q.hk = 0) ∨ (¬ p.hk = 0 ∧ ¬ q.hk = 0 ∧ (p.sc.toList == [104, 116, 116, 112, 115]) = true ∧ (q.sc.toList == [104, 116, 116, 112]) = true))) ∨ (y = true ∧ okP p ∧ okP q ∧ 0 ≤ ownZ p.sc ∧ ¬ p.hk = 0 ∧ ¬ q.hk = 0 ∧ ((p.sc.toList == [104, 116, 116, 112, 115]) = false ∨ ((p.sc.toList == [104, 116, 116, 112, 115]) = true ∧ (q.sc.toList == [104, 116, 116, 112]) = false)))) := fun g1 g2 => by
  have h1 := hb1.1 g1
  have h3 := hb2.1 g2
  have k1 := (ok_host p h1).1
  have k2 := (ok_host q h3).1
  have hyf : ¬ (okP p ∧ 0 ≤ ownZ p.sc ∧ okP q ∧ 0 ≤ ownZ q.sc ∧ ¬ (Https p.sc ∧ ¬ Https q.sc)) → y = false := fun g => by rw [Bool.eq_false_iff]; intro e; exact g (hy.1 e)
  have lit : ∀ {z : ByteArray} {l : List UInt8}, z = mk l → (z.toList == l) = true := fun e => by rw [e]; simp [ByteArray.toList_eq, mk]
  by_cases g3 : 0 ≤ ownZ p.sc
  case neg => exact .inl ⟨hyf (fun g => g3 g.2.1), .inl (k1.1 (by omega))⟩
  have n1 : ¬ p.hk = 0 := fun e => by have := k1.2 e; omega
  by_cases g4 : 0 ≤ ownZ q.sc
  case neg => exact .inl ⟨hyf (fun g => g4 g.2.2.2.1), .inr (.inl ⟨n1, k2.1 (by omega)⟩)⟩
  have n2 : ¬ q.hk = 0 := fun e => by have := k2.2 e; omega
  by_cases g5 : Https p.sc
  ·by_cases g6 : Https q.sc
   ·exact .inr ⟨hy.2 ⟨h1, g3, h3, g4, fun e => e.2 g6⟩, h1, h3, g3, n1, n2, .inr ⟨lit g5, text_ne (fun e => by unfold Https at g6; rw [g6] at e; revert e; decide)⟩⟩
   ·exact .inl ⟨hyf (fun g => g.2.2.2.2 ⟨g5, g6⟩), .inr (.inr ⟨n1, n2, lit g5, lit (not_https g6 g4)⟩)⟩
  ·exact .inr ⟨hy.2 ⟨h1, g3, h3, g4, fun e => g5 e.1⟩, h1, h3, g3, n1, n2, .inl (text_ne g5)⟩
 have COS : Hid (okP p → okP q → 0 ≤ ownZ p.sc → ∀ W, Below w.heap.size w W → Calls Tryz.prog 49 #[.agg (p.cells (.slice a n c)), .agg (q.cells (.slice a' n' c'))] W fun e w' => e = .returned (.bool x) ∧ Below W.heap.size W w') := fun hp hq ho W d => l4Same p q a a' n n' c c' W x (by rw [hx]; exact ⟨fun g => ⟨ho, g⟩, fun g => g.2⟩)
 obtain ⟨t, ht⟩ : ∃ t, t = ptP p := ⟨_, rfl⟩
 obtain ⟨o, ho1⟩ : ∃ o, o = ogT p := ⟨_, rfl⟩
 have KZ : Hid (okP p → 0 ≤ ownZ p.sc → o.size ≤ 200) := fun hp ho => by rw [ho1]; exact og_size p hp ho
 have CKY : Hid (∀ W, Below w.heap.size w W → Calls Tryz.prog 50 #[.agg #[(.string p.sc), (.string ⟨#[]⟩), (.string ⟨#[]⟩), (.int .i64 p.hk), (.string p.hn), (.int .i64 p.ha), (.int .i64 p.po), (.slice a n c), (.string p.op), (.bool p.hq), (.string p.qu), (.bool p.hf), (.string p.fr)]] W fun e w' => e = .returned (.string (mk (writL (keyP p)))) ∧ Below W.heap.size W w') := fun W d => l8Key ({ p with us := ⟨#[]⟩, pw := ⟨#[]⟩ } : P) a n c W (hS.later d) (by unfold P.tot at *; dsimp only; have : (ByteArray.mk #[]).size = 0 := rfl; omega) hpo
 have COG : Hid (okP p → 0 ≤ ownZ p.sc → ∀ W, Below w.heap.size w W → Calls Tryz.prog 30 #[.agg (p.cells (.slice a n c))] W fun e w' => e = .returned (.agg #[.string p.sc, .int .i64 p.hk, .string p.hn, .int .i64 p.ha, .int .i64 t]) ∧ Below W.heap.size W w') := fun hp ho W d => by
  have := specOriginOf p a n c W (hS.later d) hs hpo true (by simp [hp])
  unfold orgB at this
  rw [if_pos rfl, og_org p ho, ← ht] at this
  exact this
 have CPT : Hid (∀ W, Below w.heap.size w W → Calls Tryz.prog 27 #[.agg #[.string p.sc, .int .i64 p.hk, .string p.hn, .int .i64 p.ha, .int .i64 t]] W fun e w' => e = .returned (.string o) ∧ Below W.heap.size W w') := fun W d => by
  have := specOrigin p.sc p.hk p.hn p.ha t W (by have : p.hn.size ≤ p.tot := (by unfold P.tot; omega); omega)
  rw [ht] at this
  rw [ho1, ht]
  exact this
 have KN : Hid (y = false → refT y x p = ⟨#[]⟩) := fun g => by rw [g]; rfl
 have KK : Hid (y = true → x = true → refT y x p = mk (writL (keyP p))) := fun g g2 => by rw [g, g2]; rfl
 have KO : Hid (y = true → x = false → refT y x p = o ++ ⟨#[47]⟩) := fun g g2 => by rw [g, g2, ho1]; rfl
 obtain ⟨V, hV⟩ : ∃ V, V = ((w.alloc (.cells (p.cells (.slice a n c)) 31)).alloc (.cells (q.cells (.slice a' n' c')) 31)) := ⟨_, rfl⟩
 have HT : Hid (Tw w (p.cells (.slice a n c)) (q.cells (.slice a' n' c')) V) := by show Tw _ _ _ _; rw [hV]; exact Tw.start w _ _
 have HK : Hid (Tw w (p.cells (.slice a n c)) (q.cells (.slice a' n' c')) V) := by show Tw _ _ _ _; rw [hV]; exact Tw.start w _ _
 clear hS hS' hs hs' hpo hpo' hb1 hb2 hy hx ht ho1
 generalize refT y x p = T at *
 unfold P.cells at *
 go_enter Tryz.func18, Tryz.ntmps18
 go_upto_region 1 with fail
 rw [← hV]
 clear hV
 obtain ⟨k0, k1, k2, k3, k4, k5, k6, k7, k8, k9, k10, k11, k12⟩ := Blk.cells13a HK.out.b1
 obtain ⟨j0, j1, j2, j3, j4, j5, j6, j7, j8, j9, j10, j11, j12⟩ := Blk.cells13a HK.out.b2
 clear HK
 go_wp2_with fail
 refine (COA.out _ HT.out.bw).mono ?_
 rintro e W1 ⟨rfl, d1⟩
 have HT2 := HT.out.later d1
 clear HT d1 k0 k1 k2 k3 k4 k5 k6 k7 k8 k9 k10 k11 k12 j0 j1 j2 j3 j4 j5 j6 j7 j8 j9 j10 j11 j12
 have HT : Hid (Tw w (p.cells (.slice a n c)) (q.cells (.slice a' n' c')) W1) := HT2
 clear HT2
 obtain ⟨k0, k1, k2, k3, k4, k5, k6, k7, k8, k9, k10, k11, k12⟩ := Blk.cells13a HT.out.b1
 obtain ⟨j0, j1, j2, j3, j4, j5, j6, j7, j8, j9, j10, j11, j12⟩ := Blk.cells13a HT.out.b2
 rcases Bool.eq_false_or_eq_true b1 with g1 | g1
 rotate_left
 ·have e9 := KN.out (HY.out (.inl g1))
  subst e9
  subst g1
  clear k0 k1 k2 k3 k4 k5 k6 k7 k8 k9 k10 k11 k12 j0 j1 j2 j3 j4 j5 j6 j7 j8 j9 j10 j11 j12
  go_wp2
  go_ret
  exact ⟨rfl, HT.out.bw⟩
 go_wp2_with fail
 refine (COB.out _ HT.out.bw).mono ?_
 rintro e W2 ⟨rfl, d1⟩
 have HT2 := HT.out.later d1
 clear HT d1 k0 k1 k2 k3 k4 k5 k6 k7 k8 k9 k10 k11 k12 j0 j1 j2 j3 j4 j5 j6 j7 j8 j9 j10 j11 j12
 have HT : Hid (Tw w (p.cells (.slice a n c)) (q.cells (.slice a' n' c')) W2) := HT2
 clear HT2
 obtain ⟨k0, k1, k2, k3, k4, k5, k6, k7, k8, k9, k10, k11, k12⟩ := Blk.cells13a HT.out.b1
 obtain ⟨j0, j1, j2, j3, j4, j5, j6, j7, j8, j9, j10, j11, j12⟩ := Blk.cells13a HT.out.b2
 rcases Bool.eq_false_or_eq_true b2 with g2 | g2
 rotate_left
 ·have e9 := KN.out (HY.out (.inr g2))
  subst e9
  subst g1
  subst g2
  clear k0 k1 k2 k3 k4 k5 k6 k7 k8 k9 k10 k11 k12 j0 j1 j2 j3 j4 j5 j6 j7 j8 j9 j10 j11 j12
  go_wp2
  go_ret
  exact ⟨rfl, HT.out.bw⟩
 have hcs := HC.out g1 g2
 subst g1
 subst g2
 clear HY HC COA COB
 rcases hcs with ⟨hyt, hcs⟩ | ⟨hyt, hp, hq, ho, n1, n2, hcs⟩
 ·have e9 := KN.out hyt
  subst e9
  clear KK KO KN KZ COG CPT CKY COS
  rcases hcs with n1 | ⟨n1, n2⟩ | ⟨n1, n2, n3, n4⟩
  ·have h0 : (p.hk == 0) = true := by rw [n1]; exact beq_self_eq_true _
   go_wp2
   go_ret
   exact ⟨rfl, HT.out.bw⟩
  ·have h0 : (p.hk == 0) = false := beq_eq_false_iff_ne.2 n1
   have h1 : (q.hk == 0) = true := by rw [n2]; exact beq_self_eq_true _
   go_wp2
   go_ret
   exact ⟨rfl, HT.out.bw⟩
  ·have h0 : (p.hk == 0) = false := beq_eq_false_iff_ne.2 n1
   have h1 : (q.hk == 0) = false := beq_eq_false_iff_ne.2 n2
   go_wp2
   go_ret
   exact ⟨rfl, HT.out.bw⟩
 have h0 : (p.hk == 0) = false := beq_eq_false_iff_ne.2 n1
 have h1 : (q.hk == 0) = false := beq_eq_false_iff_ne.2 n2
 have COS2 := COS.out hp hq ho
 clear COS
 have COS : Hid (∀ W, Below w.heap.size w W → Calls Tryz.prog 49 #[.agg #[(.string p.sc), (.string p.us), (.string p.pw), (.int .i64 p.hk), (.string p.hn), (.int .i64 p.ha), (.int .i64 p.po), (.slice a n c), (.string p.op), (.bool p.hq), (.string p.qu), (.bool p.hf), (.string p.fr)], .agg #[(.string q.sc), (.string q.us), (.string q.pw), (.int .i64 q.hk), (.string q.hn), (.int .i64 q.ha), (.int .i64 q.po), (.slice a' n' c'), (.string q.op), (.bool q.hq), (.string q.qu), (.bool q.hf), (.string q.fr)]] W fun e w' => e = .returned (.bool x) ∧ Below W.heap.size W w') := COS2
 clear COS2
 rcases hcs with n3 | ⟨n3, n4⟩
 ·skip
  go_wp2_with fail
  refine (COS.out _ HT.out.bw).mono ?_
  rintro e W5 ⟨rfl, d1⟩
  have HT2 := HT.out.later d1
  clear HT d1 k0 k1 k2 k3 k4 k5 k6 k7 k8 k9 k10 k11 k12 j0 j1 j2 j3 j4 j5 j6 j7 j8 j9 j10 j11 j12
  have HT : Hid (Tw w (p.cells (.slice a n c)) (q.cells (.slice a' n' c')) W5) := HT2
  clear HT2
  obtain ⟨k0, k1, k2, k3, k4, k5, k6, k7, k8, k9, k10, k11, k12⟩ := Blk.cells13a HT.out.b1
  obtain ⟨j0, j1, j2, j3, j4, j5, j6, j7, j8, j9, j10, j11, j12⟩ := Blk.cells13a HT.out.b2
  rcases Bool.eq_false_or_eq_true x with gx | gx
  ·have e9 := KK.out hyt gx
   subst e9
   subst gx
   clear KK KO KN COG CPT KZ
   have fk := HT.out.b1.free
   have HB : Hid (Below w.heap.size w ((W5.setCell ⟨w.heap.size, 1, none⟩ (.string ⟨#[]⟩)).setCell ⟨w.heap.size, 2, none⟩ (.string ⟨#[]⟩))) := (HT.out.bw.setCell (p := ⟨w.heap.size, 1, none⟩) (Nat.le_refl _) _).setCell (p := ⟨w.heap.size, 2, none⟩) (Nat.le_refl _) _
   go_wp2_with fail
   refine (CKY.out _ HB.out).mono ?_
   rintro e W9 ⟨rfl, d1⟩
   have HF : Hid (Below w.heap.size w W9) := HB.out.trans (d1.mono HB.out.size)
   clear HB fk k0 k1 k2 k3 k4 k5 k6 k7 k8 k9 k10 k11 k12 j0 j1 j2 j3 j4 j5 j6 j7 j8 j9 j10 j11 j12 HT d1
   go_wp2
   go_ret
   exact ⟨rfl, HF.out⟩
  ·have e9 := KO.out hyt gx
   have hoz := KZ.out hp ho
   have COG2 := COG.out hp ho
   clear COG
   have COG : Hid (∀ W, Below w.heap.size w W → Calls Tryz.prog 30 #[.agg #[(.string p.sc), (.string p.us), (.string p.pw), (.int .i64 p.hk), (.string p.hn), (.int .i64 p.ha), (.int .i64 p.po), (.slice a n c), (.string p.op), (.bool p.hq), (.string p.qu), (.bool p.hf), (.string p.fr)]] W fun e w' => e = .returned (.agg #[.string p.sc, .int .i64 p.hk, .string p.hn, .int .i64 p.ha, .int .i64 t]) ∧ Below W.heap.size W w') := COG2
   subst e9
   subst gx
   clear COG2 KK KO KN KZ CKY
   go_wp2_with fail
   refine (COG.out _ HT.out.bw).mono ?_
   rintro e W8 ⟨rfl, d1⟩
   have HB8 : Hid (Below w.heap.size w W8) := HT.out.bw.trans (d1.mono HT.out.bw.size)
   clear k0 k1 k2 k3 k4 k5 k6 k7 k8 k9 k10 k11 k12 j0 j1 j2 j3 j4 j5 j6 j7 j8 j9 j10 j11 j12 HT d1
   go_wp2_with fail
   refine (CPT.out _ HB8.out).mono ?_
   rintro e W9 ⟨rfl, d1⟩
   have HF : Hid (Below w.heap.size w W9) := HB8.out.trans (d1.mono HB8.out.size)
   clear HB8 d1
   go_wp2
   go_ret
   exact ⟨rfl, HF.out⟩
 ·skip
  go_wp2_with fail
  refine (COS.out _ HT.out.bw).mono ?_
  rintro e W5 ⟨rfl, d1⟩
  have HT2 := HT.out.later d1
  clear HT d1 k0 k1 k2 k3 k4 k5 k6 k7 k8 k9 k10 k11 k12 j0 j1 j2 j3 j4 j5 j6 j7 j8 j9 j10 j11 j12
  have HT : Hid (Tw w (p.cells (.slice a n c)) (q.cells (.slice a' n' c')) W5) := HT2
  clear HT2
  obtain ⟨k0, k1, k2, k3, k4, k5, k6, k7, k8, k9, k10, k11, k12⟩ := Blk.cells13a HT.out.b1
  obtain ⟨j0, j1, j2, j3, j4, j5, j6, j7, j8, j9, j10, j11, j12⟩ := Blk.cells13a HT.out.b2
  rcases Bool.eq_false_or_eq_true x with gx | gx
  ·have e9 := KK.out hyt gx
   subst e9
   subst gx
   clear KK KO KN COG CPT KZ
   have fk := HT.out.b1.free
   have HB : Hid (Below w.heap.size w ((W5.setCell ⟨w.heap.size, 1, none⟩ (.string ⟨#[]⟩)).setCell ⟨w.heap.size, 2, none⟩ (.string ⟨#[]⟩))) := (HT.out.bw.setCell (p := ⟨w.heap.size, 1, none⟩) (Nat.le_refl _) _).setCell (p := ⟨w.heap.size, 2, none⟩) (Nat.le_refl _) _
   go_wp2_with fail
   refine (CKY.out _ HB.out).mono ?_
   rintro e W9 ⟨rfl, d1⟩
   have HF : Hid (Below w.heap.size w W9) := HB.out.trans (d1.mono HB.out.size)
   clear HB fk k0 k1 k2 k3 k4 k5 k6 k7 k8 k9 k10 k11 k12 j0 j1 j2 j3 j4 j5 j6 j7 j8 j9 j10 j11 j12 HT d1
   go_wp2
   go_ret
   exact ⟨rfl, HF.out⟩
  ·have e9 := KO.out hyt gx
   have hoz := KZ.out hp ho
   have COG2 := COG.out hp ho
   clear COG
   have COG : Hid (∀ W, Below w.heap.size w W → Calls Tryz.prog 30 #[.agg #[(.string p.sc), (.string p.us), (.string p.pw), (.int .i64 p.hk), (.string p.hn), (.int .i64 p.ha), (.int .i64 p.po), (.slice a n c), (.string p.op), (.bool p.hq), (.string p.qu), (.bool p.hf), (.string p.fr)]] W fun e w' => e = .returned (.agg #[.string p.sc, .int .i64 p.hk, .string p.hn, .int .i64 p.ha, .int .i64 t]) ∧ Below W.heap.size W w') := COG2
   subst e9
   subst gx
   clear COG2 KK KO KN KZ CKY
   go_wp2_with fail
   refine (COG.out _ HT.out.bw).mono ?_
   rintro e W8 ⟨rfl, d1⟩
   have HB8 : Hid (Below w.heap.size w W8) := HT.out.bw.trans (d1.mono HT.out.bw.size)
   clear k0 k1 k2 k3 k4 k5 k6 k7 k8 k9 k10 k11 k12 j0 j1 j2 j3 j4 j5 j6 j7 j8 j9 j10 j11 j12 HT d1
   go_wp2_with fail
   refine (CPT.out _ HB8.out).mono ?_
   rintro e W9 ⟨rfl, d1⟩
   have HF : Hid (Below w.heap.size w W9) := HB8.out.trans (d1.mono HB8.out.size)
   clear HB8 d1
   go_wp2
   go_ret
   exact ⟨rfl, HF.out⟩
end Go.Proofs.YtnfhajhdpdidlaaGreatDoor
end
section
namespace Go.Proofs.YtnfhajhdpdidlaaGreatDoor
open Go.RowKit Go.Shelf
theorem pick (B r p : Nat) (n : Int) (w : World) (hn : 1 ≤ n) (hn2 : n ≤ 1000000) (hp : p ≤ 1000000) (h : Rd B r p w) :
  Calls Tryz.prog 53 #[.pointer (some ⟨r, 0, none⟩), .int .i64 n] w fun e w' => ∃ v : Int, e = .returned (.int .i64 v) ∧ 0 ≤ v ∧ v < n ∧ Rd B r (p + 1) w' ∧ w.grownBy w' (some r) := by
 have hput := h.put (p + 1)
 have hgr := setCell_grown w r 1 (.int .i64 ((p + 1 : Nat) : Int))
 rw [show ((p + 1 : Nat) : Int) = (p : Int) + 1 from by omega] at hput hgr
 have HP : Hid (Rd B r (p + 1) (w.setCell ⟨r, 1, none⟩ (.int .i64 ((p : Int) + 1)))) := hput
 have HG : Hid (w.grownBy (w.setCell ⟨r, 1, none⟩ (.int .i64 ((p : Int) + 1))) (some r)) := hgr
 clear hput hgr
 obtain ⟨hB, a, len, cap, z, hr, hl, hc⟩ := h
 have c0 : w.cell? ⟨r, 0, none⟩ = some (.slice a len cap) := by rw [Lib.cell_of_heap hr]; rfl
 have c1 : w.cell? ⟨r, 1, none⟩ = some (.int .i64 (p : Int)) := by rw [Lib.cell_of_heap hr]; rfl
 have f1 : w.frozen? ⟨r, 1, none⟩ = false := Lib.frozen_of_heap hr 1
 have hk1 : (p : Int) + 1 - 1 = (p : Int) := by omega
 have hpi : (p : Int) ≤ 1000000 := by omega
 clear hr
 by_cases h0 : len = 0
 ·subst h0
  go_enter Tryz.func53, Tryz.ntmps53
  go_wp2
  go_ret
  exact ⟨0, rfl, by omega, by omega, HP.out, HG.out⟩
 ·rcases hc with hc | ⟨b, off, rfl, hbB, hc⟩
  ·exact absurd hc h0
  have hbr : b ≠ r := by omega
  have hl0 : (0 : Int) < (len : Int) := by omega
  have hl1 : ((len : Int) == 0) = false := by rw [beq_eq_false_iff_ne]; omega
  by_cases hlt : p < len
  ·have hlti : (p : Int) < (len : Int) := by omega
   obtain ⟨hcell, hz0, hz1⟩ := hc p hlt
   clear hc
   go_enter Tryz.func53, Tryz.ntmps53
   go_wp2
   go_ret
   exact ⟨z p % n, rfl, Int.emod_nonneg _ (by omega), Int.emod_lt_of_pos _ (by omega), HP.out, HG.out⟩
  ·have hlti : ¬ ((p : Int) < (len : Int)) := by omega
   have hlne : ¬ ((len : Int) = 0) := by omega
   obtain ⟨q1, hq1, hq1l⟩ : ∃ q : Nat, (p : Int) % (len : Int) = (q : Int) ∧ q < len := ⟨p % len, by omega, Nat.mod_lt _ (by omega)⟩
   obtain ⟨q2, hq2, hq2l⟩ : ∃ q : Nat, ((p : Int) * 7 + 3) % (len : Int) = (q : Int) ∧ q < len := ⟨(p * 7 + 3) % len, by simp, Nat.mod_lt _ (by omega)⟩
   obtain ⟨hcell1, hz0, hz1⟩ := hc q1 hq1l
   obtain ⟨hcell2, hy0, hy1⟩ := hc q2 hq2l
   have hw7 : IntKind.i64.wrap ((p : Int) * 7) = (p : Int) * 7 := by rw [IntKind.wrap_i64]; omega
   have hw73 : IntKind.i64.wrap ((p : Int) * 7 + 3) = (p : Int) * 7 + 3 := by rw [IntKind.wrap_i64]; omega
   obtain ⟨q3, hq3, hq3l⟩ : ∃ q : Nat, (p : Int) / (len : Int) = (q : Int) ∧ (q : Int) ≤ 1000000 := ⟨p / len, by simp, by have := Nat.div_le_self p len; omega⟩
   obtain ⟨x, hx, hxl⟩ := i64_xor_range (z q1 * 131 + z q2 * 1117 + (p : Int) * 29 + (q3 : Int) * 53) ((z q1 * 131 + z q2 * 1117 + (p : Int) * 29 + (q3 : Int) * 53) / 64) (by omega) (by omega) (by omega) (by omega)
   have hq1i : (q1 : Int) < (len : Int) := by omega
   have hq2i : (q2 : Int) < (len : Int) := by omega
   clear hc
   go_enter Tryz.func53, Tryz.ntmps53
   go_wp2
   go_quiet (fail)
   go_wp2
   go_ret
   exact ⟨(x : Int) % n, rfl, Int.emod_nonneg _ (by omega), Int.emod_lt_of_pos _ (by omega), HP.out, grown_drewN HG.out _⟩
end Go.Proofs.YtnfhajhdpdidlaaGreatDoor
end
section
namespace Go.Proofs.YtnfhajhdpdidlaaGreatDoor
open Go.RowKit Go.Shelf
theorem rdOf (B r p g c : Nat) (xs : List ByteArray) (t : TypeId) (fr : Nat × Nat) (A : Array Value) (w : World) (hA : A.toList = xs.map Value.string) (hg : w.heap[g]? = some (.cells A t fr)) (hgr : g ≠ r) (h1 : 1 ≤ xs.length) (hx : xs.length ≤ 1000000) (hp : p ≤ 1000000) (h : Rd B r p w) :
  Calls Tryz.prog 74 #[.pointer (some ⟨r, 0, none⟩), .slice (some ⟨g, 0, none⟩) xs.length c] w fun e w' => ∃ x, x ∈ xs ∧ e = .returned (Value.string x) ∧ Rd B r (p + 1) w' ∧ w.grownBy w' (some r) := by
 go_enter Tryz.func74, Tryz.ntmps74
 go_wp2_with fail
 refine (pick B r p _ _ (by omega) (by omega) hp h).mono ?_
 rintro e w1 ⟨v, rfl, hv0, hv1, hr1, hg1⟩
 obtain ⟨j, rfl⟩ := Int.eq_ofNat_of_zero_le hv0
 have hj : j < xs.length := by omega
 have hcell : w1.cell? ⟨g, j, none⟩ = some (Value.string xs[j]) := by
  have hh : w1.heap[g]? = some (.cells A t fr) := (hg1.block g (Array.getElem?_eq_some_iff.1 hg).1 (by simp [hgr])).trans hg
  rw [Lib.cell_of_heap hh, ← Array.getElem?_toList, hA]
  simp [hj]
 go_wp2
 go_ret
 exact ⟨xs[j], List.getElem_mem hj, rfl, hr1, hg1⟩
end Go.Proofs.YtnfhajhdpdidlaaGreatDoor
end
section
namespace Go.Proofs.YtnfhajhdpdidlaaGreatDoor
open Go.RowKit Go.Shelf
theorem grown_below {a b c : World} {row : Option Nat} (h : a.grownBy b row) (k : Below a.heap.size b c) : a.grownBy c row :=
 ⟨k.os.trans h.os, k.tape.trans h.tape, k.output.trans h.output, Nat.le_trans h.size k.size, fun j hj hn => (k.block j hj).trans (h.block j hj hn)⟩
theorem Rd.below {B r p N : Nat} {w w' : World} (h : Rd B r p w) (k : Below N w w') (hr : r < N) : Rd B r p w' :=
 h.stays (k.block r hr) (fun j hj => k.block j (by have := h.1; omega))
end Go.Proofs.YtnfhajhdpdidlaaGreatDoor
end
