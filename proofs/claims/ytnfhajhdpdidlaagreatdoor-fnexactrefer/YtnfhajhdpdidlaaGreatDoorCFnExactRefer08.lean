/- spec.l8Key, spec.Refer: what an address is told of the one from which one comes. eqStringS of two lists of the same texts. laws.eqUrl, markUrl, heldUrl. -/
import Derived.Test.YtnfhajhdpdidlaaGreatDoorCFnExactRefer07
import Derived.Test.YtnfhajhdpdidlaaGreatDoorCFnExactRefer03
import Derived.Test.YtnfhajhdpdidlaaGreatDoorB16
import Derived.Test.YtnfhajhdpdidlaaGreatDoorCFnExactRefer05
import Derived.Test.YtnfhajhdpdidlaaGreatDoorB04
import Derived.Test.YtnfhajhdpdidlaaGreatDoorB35
set_option linter.unusedVariables false
set_option linter.unusedSimpArgs false
set_option maxHeartbeats 8000000
set_option maxRecDepth 100000
section
namespace Go.Proofs.YtnfhajhdpdidlaaGreatDoor
open Go.RowKit Go.Shelf
theorem l8Key (q : P) (a : Option Addr) (n c : Nat) (w : World) (hS : StrsOf a n q.ps w) (hs : q.tot ≤ 1048576) (hpo : q.po ≤ 9223372036854775807) :
  Calls Tryz.prog 50 #[.agg (q.cells (.slice a n c))] w fun e w' => e = .returned (.string (mk (writL (bsP q)))) ∧ Below w.heap.size w w' := by
 have hn : n = q.ps.length := hS.1
 have hsb : (bsP q).tot ≤ 1048576 := by
  unfold P.tot bsP at *
  have : (ByteArray.mk #[]).size = 0 := rfl
  dsimp only
  omega
 have CW : Hid (∀ W, Below w.heap.size w W → Calls Tryz.prog 63 #[.agg #[(.string q.sc), (.string q.us), (.string q.pw), (.int .i64 q.hk), (.string q.hn), (.int .i64 q.ha), (.int .i64 q.po), (.slice a n c), (.string q.op), (.bool q.hq), (.string q.qu), (.bool false), (.string ⟨#[]⟩)]] W fun e w' => e = .returned (.string (mk (writL (bsP q)))) ∧ Below W.heap.size W w') := fun W d => by
  rw [hn]
  exact l3Put (bsP q) a c W (by show StrsOf a q.ps.length q.ps W; rw [← hn]; exact hS.later d) hsb hpo (fun h W => l1DecL q.po W h hpo)
 obtain ⟨V, hV⟩ : ∃ V, V = w.alloc (.cells (q.cells (.slice a n c)) 31) := ⟨_, rfl⟩
 have H0 : Hid (Blk w.heap.size (q.cells (.slice a n c)) 31 V ∧ Below w.heap.size w V) := by show _ ∧ _; rw [hV]; exact ⟨Blk.new w _ _, (Below.refl _ w).alloc (Nat.le_refl _) _⟩
 clear hS hs hpo hsb hn
 unfold P.cells at *
 go_enter Tryz.func50, Tryz.ntmps50
 go_upto_region 1 with fail
 rw [← hV]
 clear hV
 obtain ⟨k0, k1, k2, k3, k4, k5, k6, k7, k8, k9, k10, k11, k12⟩ := Blk.cells13a H0.out.1
 have fk := H0.out.1.free
 have HB : Hid (Below w.heap.size w ((V.setCell ⟨w.heap.size, 11, none⟩ (.bool false)).setCell ⟨w.heap.size, 12, none⟩ (.string ⟨#[]⟩))) := (H0.out.2.setCell (p := ⟨w.heap.size, 11, none⟩) (Nat.le_refl _) _).setCell (p := ⟨w.heap.size, 12, none⟩) (Nat.le_refl _) _
 go_wp2_with fail
 refine (CW.out _ HB.out).mono ?_
 rintro e W1 ⟨rfl, d1⟩
 have HF : Hid (Below w.heap.size w W1) := HB.out.trans (d1.mono HB.out.size)
 clear d1 HB H0 k0 k1 k2 k3 k4 k5 k6 k7 k8 k9 k10 k11 k12 fk CW
 go_wp2
 go_ret
 exact ⟨rfl, HF.out⟩
theorem specRefer (p q : P) (a a' : Option Addr) (n n' c c' : Nat) (w : World) (hS : StrsOf a n p.ps w) (hS' : StrsOf a' n' q.ps w) (hs : p.tot ≤ 1048576) (hs' : q.tot ≤ 1048576) (hpo : p.po ≤ 9223372036854775807) (hpo' : q.po ≤ 9223372036854775807) (y x : Bool) (hy : y = true ↔ okP p ∧ 0 ≤ ownZ p.sc ∧ okP q ∧ 0 ≤ ownZ q.sc ∧ ¬ (Https p.sc ∧ ¬ Https q.sc)) (hx : x = true ↔ orgV p = orgV q) :
  Calls Tryz.prog 18 #[.agg (p.cells (.slice a n c)), .agg (q.cells (.slice a' n' c'))] w fun e w' => e = .returned (.string (refT y x p)) ∧ Below w.heap.size w w' := by
 obtain ⟨b1, hb1⟩ : ∃ b : Bool, b = true ↔ okP p := by
  by_cases g : okP p
  ·exact ⟨true, iff_of_true rfl g⟩
  ·exact ⟨false, iff_of_false (by decide) g⟩
 obtain ⟨b2, hb2⟩ : ∃ b : Bool, b = true ↔ okP q := by
  by_cases g : okP q
  ·exact ⟨true, iff_of_true rfl g⟩
  ·exact ⟨false, iff_of_false (by decide) g⟩
 have COA : Hid (∀ W, Below w.heap.size w W → Calls Tryz.prog 31 #[.agg (p.cells (.slice a n c))] W fun e w' => e = .returned (.bool b1) ∧ Below W.heap.size W w') := fun W d => specUrlOk p a n c W (hS.later d) hs hpo b1 hb1
 have COB : Hid (∀ W, Below w.heap.size w W → Calls Tryz.prog 31 #[.agg (q.cells (.slice a' n' c'))] W fun e w' => e = .returned (.bool b2) ∧ Below W.heap.size W w') := fun W d => specUrlOk q a' n' c' W (hS'.later d) hs' hpo' b2 hb2
 have HY : Hid ((b1 = false ∨ b2 = false) → y = false) := fun g => by
  rw [Bool.eq_false_iff]
  intro e
  obtain ⟨g1, g2, g3, g4, g5⟩ := hy.1 e
  rcases g with g | g
  ·rw [hb1.2 g1] at g; cases g
  ·rw [hb2.2 g3] at g; cases g
 have HC : Hid (b1 = true → b2 = true → (y = false ∧ (p.hk = 0 ∨ (¬ p.hk = 0 ∧ q.hk = 0) ∨ (¬ p.hk = 0 ∧ ¬ q.hk = 0 ∧ (p.sc.toList == [104, 116, 116, 112, 115]) = true ∧ (q.sc.toList == [104, 116, 116, 112]) = true))) ∨ (y = true ∧ okP p ∧ okP q ∧ 0 ≤ ownZ p.sc ∧ ¬ p.hk = 0 ∧ ¬ q.hk = 0 ∧ ((p.sc.toList == [104, 116, 116, 112, 115]) = false ∨ ((p.sc.toList == [104, 116, 116, 112, 115]) = true ∧ (q.sc.toList == [104, 116, 116, 112]) = false)))) := fun g1 g2 => by
  have h1 := hb1.1 g1
  have h3 := hb2.1 g2
  have k1 := (ok_host p h1).1
  have k2 := (ok_host q h3).1
  have hyf : ¬ (okP p ∧ 0 ≤ ownZ p.sc ∧ okP q ∧ 0 ≤ ownZ q.sc ∧ ¬ (Https p.sc ∧ ¬ Https q.sc)) → y = false := fun g => by rw [Bool.eq_false_iff]; intro e; exact g (hy.1 e)
  have lit : ∀ {z : ByteArray} {l : List UInt8}, z = mk l → (z.toList == l) = true := fun e => by rw [e]; simp [ByteArray.toList_eq, mk]
  by_cases g3 : 0 ≤ ownZ p.sc
  case neg => exact .inl ⟨hyf (fun g => g3 g.2.1), .inl (k1.1 (by omega))⟩
  have n1 : ¬ p.hk = 0 := fun e => by have := k1.2 e; omega
  by_cases g4 : 0 ≤ ownZ q.sc
  case neg => exact .inl ⟨hyf (fun g => g4 g.2.2.2.1), .inr (.inl ⟨n1, k2.1 (by omega)⟩)⟩
  have n2 : ¬ q.hk = 0 := fun e => by have := k2.2 e; omega
  by_cases g5 : Https p.sc
  ·by_cases g6 : Https q.sc
   ·exact .inr ⟨hy.2 ⟨h1, g3, h3, g4, fun e => e.2 g6⟩, h1, h3, g3, n1, n2, .inr ⟨lit g5, text_ne (fun e => by unfold Https at g6; rw [g6] at e; revert e; decide)⟩⟩
   ·exact .inl ⟨hyf (fun g => g.2.2.2.2 ⟨g5, g6⟩), .inr (.inr ⟨n1, n2, lit g5, lit (not_https g6 g4)⟩)⟩
  ·exact .inr ⟨hy.2 ⟨h1, g3, h3, g4, fun e => g5 e.1⟩, h1, h3, g3, n1, n2, .inl (text_ne g5)⟩
 have COS : Hid (okP p → okP q → 0 ≤ ownZ p.sc → ∀ W, Below w.heap.size w W → Calls Tryz.prog 49 #[.agg (p.cells (.slice a n c)), .agg (q.cells (.slice a' n' c'))] W fun e w' => e = .returned (.bool x) ∧ Below W.heap.size W w') := fun hp hq ho W d => l4Same p q a a' n n' c c' W x (by rw [hx]; exact ⟨fun g => ⟨ho, g⟩, fun g => g.2⟩)
 obtain ⟨t, ht⟩ : ∃ t, t = ptP p := ⟨_, rfl⟩
 obtain ⟨o, ho1⟩ : ∃ o, o = ogT p := ⟨_, rfl⟩
 have KZ : Hid (okP p → 0 ≤ ownZ p.sc → o.size ≤ 200) := fun hp ho => by rw [ho1]; exact og_size p hp ho
 have CKY : Hid (∀ W, Below w.heap.size w W → Calls Tryz.prog 50 #[.agg #[(.string p.sc), (.string ⟨#[]⟩), (.string ⟨#[]⟩), (.int .i64 p.hk), (.string p.hn), (.int .i64 p.ha), (.int .i64 p.po), (.slice a n c), (.string p.op), (.bool p.hq), (.string p.qu), (.bool p.hf), (.string p.fr)]] W fun e w' => e = .returned (.string (mk (writL (keyP p)))) ∧ Below W.heap.size W w') := fun W d => l8Key ({ p with us := ⟨#[]⟩, pw := ⟨#[]⟩ } : P) a n c W (hS.later d) (by unfold P.tot at *; dsimp only; have : (ByteArray.mk #[]).size = 0 := rfl; omega) hpo
 have COG : Hid (okP p → 0 ≤ ownZ p.sc → ∀ W, Below w.heap.size w W → Calls Tryz.prog 30 #[.agg (p.cells (.slice a n c))] W fun e w' => e = .returned (.agg #[.string p.sc, .int .i64 p.hk, .string p.hn, .int .i64 p.ha, .int .i64 t]) ∧ Below W.heap.size W w') := fun hp ho W d => by
  have := specOriginOf p a n c W (hS.later d) hs hpo true (by simp [hp])
  unfold orgB at this
  rw [if_pos rfl, og_org p ho, ← ht] at this
  exact this
 have CPT : Hid (∀ W, Below w.heap.size w W → Calls Tryz.prog 27 #[.agg #[.string p.sc, .int .i64 p.hk, .string p.hn, .int .i64 p.ha, .int .i64 t]] W fun e w' => e = .returned (.string o) ∧ Below W.heap.size W w') := fun W d => by
  have := specOrigin p.sc p.hk p.hn p.ha t W (by have : p.hn.size ≤ p.tot := (by unfold P.tot; omega); omega)
  rw [ht] at this
  rw [ho1, ht]
  exact this
 have KN : Hid (y = false → refT y x p = ⟨#[]⟩) := fun g => by rw [g]; rfl
 have KK : Hid (y = true → x = true → refT y x p = mk (writL (keyP p))) := fun g g2 => by rw [g, g2]; rfl
 have KO : Hid (y = true → x = false → refT y x p = o ++ ⟨#[47]⟩) := fun g g2 => by rw [g, g2, ho1]; rfl
 obtain ⟨V, hV⟩ : ∃ V, V = ((w.alloc (.cells (p.cells (.slice a n c)) 31)).alloc (.cells (q.cells (.slice a' n' c')) 31)) := ⟨_, rfl⟩
 have HT : Hid (Tw w (p.cells (.slice a n c)) (q.cells (.slice a' n' c')) V) := by show Tw _ _ _ _; rw [hV]; exact Tw.start w _ _
 have HK : Hid (Tw w (p.cells (.slice a n c)) (q.cells (.slice a' n' c')) V) := by show Tw _ _ _ _; rw [hV]; exact Tw.start w _ _
 clear hS hS' hs hs' hpo hpo' hb1 hb2 hy hx ht ho1
 generalize refT y x p = T at *
 unfold P.cells at *
 go_enter Tryz.func18, Tryz.ntmps18
 go_upto_region 1 with fail
 rw [← hV]
 clear hV
 obtain ⟨k0, k1, k2, k3, k4, k5, k6, k7, k8, k9, k10, k11, k12⟩ := Blk.cells13a HK.out.b1
 obtain ⟨j0, j1, j2, j3, j4, j5, j6, j7, j8, j9, j10, j11, j12⟩ := Blk.cells13a HK.out.b2
 clear HK
 go_wp2_with fail
 refine (COA.out _ HT.out.bw).mono ?_
 rintro e W1 ⟨rfl, d1⟩
 have HT2 := HT.out.later d1
 clear HT d1 k0 k1 k2 k3 k4 k5 k6 k7 k8 k9 k10 k11 k12 j0 j1 j2 j3 j4 j5 j6 j7 j8 j9 j10 j11 j12
 have HT : Hid (Tw w (p.cells (.slice a n c)) (q.cells (.slice a' n' c')) W1) := HT2
 clear HT2
 obtain ⟨k0, k1, k2, k3, k4, k5, k6, k7, k8, k9, k10, k11, k12⟩ := Blk.cells13a HT.out.b1
 obtain ⟨j0, j1, j2, j3, j4, j5, j6, j7, j8, j9, j10, j11, j12⟩ := Blk.cells13a HT.out.b2
 rcases Bool.eq_false_or_eq_true b1 with g1 | g1
 rotate_left
 ·have e9 := KN.out (HY.out (.inl g1))
  subst e9
  subst g1
  clear k0 k1 k2 k3 k4 k5 k6 k7 k8 k9 k10 k11 k12 j0 j1 j2 j3 j4 j5 j6 j7 j8 j9 j10 j11 j12
  go_wp2
  go_ret
  exact ⟨rfl, HT.out.bw⟩
 go_wp2_with fail
 refine (COB.out _ HT.out.bw).mono ?_
 rintro e W2 ⟨rfl, d1⟩
 have HT2 := HT.out.later d1
 clear HT d1 k0 k1 k2 k3 k4 k5 k6 k7 k8 k9 k10 k11 k12 j0 j1 j2 j3 j4 j5 j6 j7 j8 j9 j10 j11 j12
 have HT : Hid (Tw w (p.cells (.slice a n c)) (q.cells (.slice a' n' c')) W2) := HT2
 clear HT2
 obtain ⟨k0, k1, k2, k3, k4, k5, k6, k7, k8, k9, k10, k11, k12⟩ := Blk.cells13a HT.out.b1
 obtain ⟨j0, j1, j2, j3, j4, j5, j6, j7, j8, j9, j10, j11, j12⟩ := Blk.cells13a HT.out.b2
 rcases Bool.eq_false_or_eq_true b2 with g2 | g2
 rotate_left
 ·have e9 := KN.out (HY.out (.inr g2))
  subst e9
  subst g1
  subst g2
  clear k0 k1 k2 k3 k4 k5 k6 k7 k8 k9 k10 k11 k12 j0 j1 j2 j3 j4 j5 j6 j7 j8 j9 j10 j11 j12
  go_wp2
  go_ret
  exact ⟨rfl, HT.out.bw⟩
 have hcs := HC.out g1 g2
 subst g1
 subst g2
 clear HY HC COA COB
 rcases hcs with ⟨hyt, hcs⟩ | ⟨hyt, hp, hq, ho, n1, n2, hcs⟩
 ·have e9 := KN.out hyt
  subst e9
  clear KK KO KN KZ COG CPT CKY COS
  rcases hcs with n1 | ⟨n1, n2⟩ | ⟨n1, n2, n3, n4⟩
  ·have h0 : (p.hk == 0) = true := by rw [n1]; exact beq_self_eq_true _
   go_wp2
   go_ret
   exact ⟨rfl, HT.out.bw⟩
  ·have h0 : (p.hk == 0) = false := beq_eq_false_iff_ne.2 n1
   have h1 : (q.hk == 0) = true := by rw [n2]; exact beq_self_eq_true _
   go_wp2
   go_ret
   exact ⟨rfl, HT.out.bw⟩
  ·have h0 : (p.hk == 0) = false := beq_eq_false_iff_ne.2 n1
   have h1 : (q.hk == 0) = false := beq_eq_false_iff_ne.2 n2
   go_wp2
   go_ret
   exact ⟨rfl, HT.out.bw⟩
 have h0 : (p.hk == 0) = false := beq_eq_false_iff_ne.2 n1
 have h1 : (q.hk == 0) = false := beq_eq_false_iff_ne.2 n2
 have COS2 := COS.out hp hq ho
 clear COS
 have COS : Hid (∀ W, Below w.heap.size w W → Calls Tryz.prog 49 #[.agg #[(.string p.sc), (.string p.us), (.string p.pw), (.int .i64 p.hk), (.string p.hn), (.int .i64 p.ha), (.int .i64 p.po), (.slice a n c), (.string p.op), (.bool p.hq), (.string p.qu), (.bool p.hf), (.string p.fr)], .agg #[(.string q.sc), (.string q.us), (.string q.pw), (.int .i64 q.hk), (.string q.hn), (.int .i64 q.ha), (.int .i64 q.po), (.slice a' n' c'), (.string q.op), (.bool q.hq), (.string q.qu), (.bool q.hf), (.string q.fr)]] W fun e w' => e = .returned (.bool x) ∧ Below W.heap.size W w') := COS2
 clear COS2
 rcases hcs with n3 | ⟨n3, n4⟩
 ·skip
  go_wp2_with fail
  refine (COS.out _ HT.out.bw).mono ?_
  rintro e W5 ⟨rfl, d1⟩
  have HT2 := HT.out.later d1
  clear HT d1 k0 k1 k2 k3 k4 k5 k6 k7 k8 k9 k10 k11 k12 j0 j1 j2 j3 j4 j5 j6 j7 j8 j9 j10 j11 j12
  have HT : Hid (Tw w (p.cells (.slice a n c)) (q.cells (.slice a' n' c')) W5) := HT2
  clear HT2
  obtain ⟨k0, k1, k2, k3, k4, k5, k6, k7, k8, k9, k10, k11, k12⟩ := Blk.cells13a HT.out.b1
  obtain ⟨j0, j1, j2, j3, j4, j5, j6, j7, j8, j9, j10, j11, j12⟩ := Blk.cells13a HT.out.b2
  rcases Bool.eq_false_or_eq_true x with gx | gx
  ·have e9 := KK.out hyt gx
   subst e9
   subst gx
   clear KK KO KN COG CPT KZ
   have fk := HT.out.b1.free
   have HB : Hid (Below w.heap.size w ((W5.setCell ⟨w.heap.size, 1, none⟩ (.string ⟨#[]⟩)).setCell ⟨w.heap.size, 2, none⟩ (.string ⟨#[]⟩))) := (HT.out.bw.setCell (p := ⟨w.heap.size, 1, none⟩) (Nat.le_refl _) _).setCell (p := ⟨w.heap.size, 2, none⟩) (Nat.le_refl _) _
   go_wp2_with fail
   refine (CKY.out _ HB.out).mono ?_
   rintro e W9 ⟨rfl, d1⟩
   have HF : Hid (Below w.heap.size w W9) := HB.out.trans (d1.mono HB.out.size)
   clear HB fk k0 k1 k2 k3 k4 k5 k6 k7 k8 k9 k10 k11 k12 j0 j1 j2 j3 j4 j5 j6 j7 j8 j9 j10 j11 j12 HT d1
   go_wp2
   go_ret
   exact ⟨rfl, HF.out⟩
  ·have e9 := KO.out hyt gx
   have hoz := KZ.out hp ho
   have COG2 := COG.out hp ho
   clear COG
   have COG : Hid (∀ W, Below w.heap.size w W → Calls Tryz.prog 30 #[.agg #[(.string p.sc), (.string p.us), (.string p.pw), (.int .i64 p.hk), (.string p.hn), (.int .i64 p.ha), (.int .i64 p.po), (.slice a n c), (.string p.op), (.bool p.hq), (.string p.qu), (.bool p.hf), (.string p.fr)]] W fun e w' => e = .returned (.agg #[.string p.sc, .int .i64 p.hk, .string p.hn, .int .i64 p.ha, .int .i64 t]) ∧ Below W.heap.size W w') := COG2
   subst e9
   subst gx
   clear COG2 KK KO KN KZ CKY
   go_wp2_with fail
   refine (COG.out _ HT.out.bw).mono ?_
   rintro e W8 ⟨rfl, d1⟩
   have HB8 : Hid (Below w.heap.size w W8) := HT.out.bw.trans (d1.mono HT.out.bw.size)
   clear k0 k1 k2 k3 k4 k5 k6 k7 k8 k9 k10 k11 k12 j0 j1 j2 j3 j4 j5 j6 j7 j8 j9 j10 j11 j12 HT d1
   go_wp2_with fail
   refine (CPT.out _ HB8.out).mono ?_
   rintro e W9 ⟨rfl, d1⟩
   have HF : Hid (Below w.heap.size w W9) := HB8.out.trans (d1.mono HB8.out.size)
   clear HB8 d1
   go_wp2
   go_ret
   exact ⟨rfl, HF.out⟩
 ·skip
  go_wp2_with fail
  refine (COS.out _ HT.out.bw).mono ?_
  rintro e W5 ⟨rfl, d1⟩
  have HT2 := HT.out.later d1
  clear HT d1 k0 k1 k2 k3 k4 k5 k6 k7 k8 k9 k10 k11 k12 j0 j1 j2 j3 j4 j5 j6 j7 j8 j9 j10 j11 j12
  have HT : Hid (Tw w (p.cells (.slice a n c)) (q.cells (.slice a' n' c')) W5) := HT2
  clear HT2
  obtain ⟨k0, k1, k2, k3, k4, k5, k6, k7, k8, k9, k10, k11, k12⟩ := Blk.cells13a HT.out.b1
  obtain ⟨j0, j1, j2, j3, j4, j5, j6, j7, j8, j9, j10, j11, j12⟩ := Blk.cells13a HT.out.b2
  rcases Bool.eq_false_or_eq_true x with gx | gx
  ·have e9 := KK.out hyt gx
   subst e9
   subst gx
   clear KK KO KN COG CPT KZ
   have fk := HT.out.b1.free
   have HB : Hid (Below w.heap.size w ((W5.setCell ⟨w.heap.size, 1, none⟩ (.string ⟨#[]⟩)).setCell ⟨w.heap.size, 2, none⟩ (.string ⟨#[]⟩))) := (HT.out.bw.setCell (p := ⟨w.heap.size, 1, none⟩) (Nat.le_refl _) _).setCell (p := ⟨w.heap.size, 2, none⟩) (Nat.le_refl _) _
   go_wp2_with fail
   refine (CKY.out _ HB.out).mono ?_
   rintro e W9 ⟨rfl, d1⟩
   have HF : Hid (Below w.heap.size w W9) := HB.out.trans (d1.mono HB.out.size)
   clear HB fk k0 k1 k2 k3 k4 k5 k6 k7 k8 k9 k10 k11 k12 j0 j1 j2 j3 j4 j5 j6 j7 j8 j9 j10 j11 j12 HT d1
   go_wp2
   go_ret
   exact ⟨rfl, HF.out⟩
  ·have e9 := KO.out hyt gx
   have hoz := KZ.out hp ho
   have COG2 := COG.out hp ho
   clear COG
   have COG : Hid (∀ W, Below w.heap.size w W → Calls Tryz.prog 30 #[.agg #[(.string p.sc), (.string p.us), (.string p.pw), (.int .i64 p.hk), (.string p.hn), (.int .i64 p.ha), (.int .i64 p.po), (.slice a n c), (.string p.op), (.bool p.hq), (.string p.qu), (.bool p.hf), (.string p.fr)]] W fun e w' => e = .returned (.agg #[.string p.sc, .int .i64 p.hk, .string p.hn, .int .i64 p.ha, .int .i64 t]) ∧ Below W.heap.size W w') := COG2
   subst e9
   subst gx
   clear COG2 KK KO KN KZ CKY
   go_wp2_with fail
   refine (COG.out _ HT.out.bw).mono ?_
   rintro e W8 ⟨rfl, d1⟩
   have HB8 : Hid (Below w.heap.size w W8) := HT.out.bw.trans (d1.mono HT.out.bw.size)
   clear k0 k1 k2 k3 k4 k5 k6 k7 k8 k9 k10 k11 k12 j0 j1 j2 j3 j4 j5 j6 j7 j8 j9 j10 j11 j12 HT d1
   go_wp2_with fail
   refine (CPT.out _ HB8.out).mono ?_
   rintro e W9 ⟨rfl, d1⟩
   have HF : Hid (Below w.heap.size w W9) := HB8.out.trans (d1.mono HB8.out.size)
   clear HB8 d1
   go_wp2
   go_ret
   exact ⟨rfl, HF.out⟩
end Go.Proofs.YtnfhajhdpdidlaaGreatDoor
end
section
namespace Go.Proofs.YtnfhajhdpdidlaaGreatDoor
open Go.RowKit Go.Shelf
theorem eqStringS (a a' : Option Addr) (len cap len' cap' : Nat) (ss : List (List UInt8)) (w : World) (h : StrsOf a len ss w) (h' : StrsOf a' len' ss w) (hl : len ≤ 1000000000) :
  Calls Tryz.prog 40 #[.slice a len cap, .slice a' len' cap'] w fun e w' => e = .returned (.bool true) ∧ ∃ n, w' = w.drewN n := by
 have hll : len' = len := by rw [h.1, h'.1]
 subst hll
 have HLEN : Hid (len' = ss.length) := h.1
 go_enter Tryz.func40, Tryz.ntmps40
 go_wp2
 go_loopw [5] (fun i wr => ∃ k : Nat, k ≤ len' ∧ i = .int .i64 k ∧ ∃ n, wr = w.drewN n) (fun i wr => len' - (intOf i).toNat)
 case atStart => exact ⟨0, Nat.zero_le _, rfl, 0, rfl⟩
 case round =>
  obtain ⟨k, hk, rfl, n, rfl⟩ := hrel
  by_cases hp : k < len'
  ·have hki : (k : Int) < (len' : Int) := by omega
   obtain ⟨b, off, z, rfl, hz, hzm, hzs⟩ := h.at k (by have := HLEN.out; omega)
   obtain ⟨b', off', z', rfl, hz', hzm', hzs'⟩ := h'.at k (by have := HLEN.out; omega)
   have : z' = z := by rw [hzm, hzm']
   subst this
   clear hzm hzm' hzs hzs'
   go_wp2
   go_quiet (fail)
   go_wp2
   go_roundw
   case rel => exact ⟨k + 1, by omega, by go_num, _, rfl⟩
   case measure => simp [intOf]; omega
  ·have hkk : k = len' := by omega
   subst hkk
   go_wp2
   go_ret
   exact ⟨rfl, n, rfl⟩
end Go.Proofs.YtnfhajhdpdidlaaGreatDoor
end
section
namespace Go.Proofs.YtnfhajhdpdidlaaGreatDoor
open Go.RowKit Go.Shelf
theorem eqHost (k : Int) (s : ByteArray) (a : Int) (w : World) :
  Calls Tryz.prog 39 #[.agg #[.int .i64 k, .string s, .int .i64 a], .agg #[.int .i64 k, .string s, .int .i64 a]] w fun e w' => e = .returned (.bool true) ∧ Below w.heap.size w w' := by
 have HB : Hid (Below w.heap.size w ((w.alloc (.cells #[.int .i64 k, .string s, .int .i64 a] 29)).alloc (.cells #[.int .i64 k, .string s, .int .i64 a] 29))) := ((Below.refl _ w).alloc (Nat.le_refl _) _).alloc (by simp) _
 go_enter Tryz.func39, Tryz.ntmps39
 go_wp2
 go_ret
 exact ⟨rfl, HB.out⟩
structure TB (w : World) (q : P) (v v' : Value) (W : World) : Prop where
 make ::
 b1 : Blk w.heap.size (q.cells v) 31 W
 b2 : Blk (w.heap.size + 1) (q.cells v') 31 W
 bw : Below w.heap.size w W
theorem TB.start (w : World) (q : P) (v v' : Value) : TB w q v v' ((w.alloc (.cells (q.cells v) 31)).alloc (.cells (q.cells v') 31)) where
 b1 := Blk.alloc (Blk.new w _ _) _
 b2 := by
  have := Blk.new (w.alloc (.cells (q.cells v) 31)) (q.cells v') 31
  rw [show (w.alloc (Obj.cells (q.cells v) 31)).heap.size = w.heap.size + 1 by simp] at this
  exact this
 bw := ((Below.refl _ w).alloc (Nat.le_refl _) _).alloc (by simp) _
theorem TB.later {w W W' : World} {q : P} {v v' : Value} (h : TB w q v v' W) (b : Below W.heap.size W W') : TB w q v v' W' := ⟨h.b1.below b h.b1.lt, h.b2.below b h.b2.lt, h.bw.trans (b.mono h.bw.size)⟩
theorem eqUrl (q : P) (a a' : Option Addr) (c c' : Nat) (w : World) (h : StrsOf a q.ps.length q.ps w) (h' : StrsOf a' q.ps.length q.ps w) (hl : q.ps.length ≤ 1100000) :
  Calls Tryz.prog 13 #[.agg (q.cells (.slice a q.ps.length c)), .agg (q.cells (.slice a' q.ps.length c'))] w fun e w' => e = .returned (.bool true) ∧ Below w.heap.size w w' := by
 have H0 : Hid (TB w q (.slice a q.ps.length c) (.slice a' q.ps.length c') ((w.alloc (.cells (q.cells (.slice a q.ps.length c)) 31)).alloc (.cells (q.cells (.slice a' q.ps.length c')) 31))) := TB.start w q _ _
 obtain ⟨n, hn⟩ : ∃ n, n = q.ps.length := ⟨_, rfl⟩
 have CH : Hid (∀ W, Calls Tryz.prog 39 #[.agg #[.int .i64 q.hk, .string q.hn, .int .i64 q.ha], .agg #[.int .i64 q.hk, .string q.hn, .int .i64 q.ha]] W fun e w' => e = .returned (.bool true) ∧ Below W.heap.size W w') := fun W => eqHost q.hk q.hn q.ha W
 have CS : Hid (∀ W, Below w.heap.size w W → Calls Tryz.prog 40 #[.slice a n c, .slice a' n c'] W fun e w' => e = .returned (.bool true) ∧ ∃ n, w' = W.drewN n) := fun W b => by
  rw [hn]; exact eqStringS _ _ _ _ _ _ q.ps W (h.later b) (h'.later b) (by omega)
 rw [← hn] at H0 ⊢
 clear h h' hl hn
 unfold P.cells at H0 ⊢
 go_enter Tryz.func13, Tryz.ntmps13
 go_wp2_with fail
 refine (CH.out _).mono ?_
 rintro e W1 ⟨rfl, d1⟩
 have HX1 : Hid (TB w q (.slice a n c) (.slice a' n c') W1) := H0.out.later d1
 clear d1 H0 CH
 obtain ⟨k0, k1, k2, k3, k4, k5, k6, k7, k8, k9, k10, k11, k12⟩ := Blk.cells13 (q := q) HX1.out.b1
 obtain ⟨j0, j1, j2, j3, j4, j5, j6, j7, j8, j9, j10, j11, j12⟩ := Blk.cells13 (q := q) HX1.out.b2
 go_wp2_with fail
 refine (CS.out _ HX1.out.bw).mono ?_
 rintro e W2 ⟨rfl, n2, hW2⟩
 have HX2 : Hid (TB w q (.slice a n c) (.slice a' n c') W2) := by
  have e2 := hW2
  have b2 : Below W1.heap.size W1 W2 := by rw [e2]; exact below_drewN (Below.refl _ _) n2
  exact HX1.out.later b2
 clear hW2 HX1 CS k0 k1 k2 k3 k4 k5 k6 k7 k8 k9 k10 k11 k12 j0 j1 j2 j3 j4 j5 j6 j7 j8 j9 j10 j11 j12
 obtain ⟨k0, k1, k2, k3, k4, k5, k6, k7, k8, k9, k10, k11, k12⟩ := Blk.cells13 (q := q) HX2.out.b1
 obtain ⟨j0, j1, j2, j3, j4, j5, j6, j7, j8, j9, j10, j11, j12⟩ := Blk.cells13 (q := q) HX2.out.b2
 go_wp2
 go_ret
 exact ⟨rfl, HX2.out.bw⟩
end Go.Proofs.YtnfhajhdpdidlaaGreatDoor
end
