/- What Refer answers, plain. impl.isSafe, impl.urlKey, impl.Refer: what an address is told of the one from which one comes. -/
import Derived.Test.YtnfhajhdpdidlaaGreatDoorCFnRefer04
import Derived.Test.YtnfhajhdpdidlaaGreatDoorCFnRefer03
import Derived.Test.YtnfhajhdpdidlaaGreatDoorB16
set_option linter.unusedVariables false
set_option linter.unusedSimpArgs false
set_option maxHeartbeats 8000000
set_option maxRecDepth 100000
section
namespace Go.Proofs.YtnfhajhdpdidlaaGreatDoor
open Go.RowKit Go.Shelf
def refT (y x : Bool) (p : P) : ByteArray := if y = true then (if x = true then mk (writL (keyP p)) else ogT p ++ ⟨#[47]⟩) else ⟨#[]⟩
def Https (s : ByteArray) : Prop := s = ⟨#[104, 116, 116, 112, 115]⟩
theorem not_https {s : ByteArray} (h : ¬ Https s) (ho : 0 ≤ ownZ s) : s = ⟨#[104, 116, 116, 112]⟩ := by
 by_cases h1 : s = ⟨#[104, 116, 116, 112]⟩
 ·exact h1
 ·unfold ownZ at ho
  unfold Https at h
  rw [if_neg h1, if_neg h] at ho
  omega
theorem og_org (q : P) (ho : 0 ≤ ownZ q.sc) : orgV q = #[.string q.sc, .int .i64 q.hk, .string q.hn, .int .i64 q.ha, .int .i64 (ptP q)] := by
 unfold orgV ptP
 rw [if_neg (by omega)]
theorem og_size (q : P) (h : okP q) (ho : 0 ≤ ownZ q.sc) : (ogT q).size ≤ 200 := by
 have e := og_slash q h ho
 have h2 := ((ok_iff _).1 (ok_root q h ho)).2.1
 have e2 := congrArg ByteArray.size e
 rw [mk_size, ByteArray.size_append] at e2
 have : (⟨#[47]⟩ : ByteArray).size = 1 := rfl
 omega
end Go.Proofs.YtnfhajhdpdidlaaGreatDoor
end
section
namespace Go.Proofs.YtnfhajhdpdidlaaGreatDoor
open Go.RowKit Go.Shelf
theorem isSafe (q : P) (v : Value) (b : Bool) (hb : b = true ↔ Https q.sc) (w : World) :
  Calls Tryz.prog 51 #[.agg (q.cells v)] w fun e w' => e = .returned (.bool b) ∧ Below w.heap.size w w' := by
 have H0 : Hid (Below w.heap.size w (w.alloc (.cells #[(.string q.sc), (.string q.us), (.string q.pw), (.int .i64 q.hk), (.string q.hn), (.int .i64 q.ha), (.int .i64 q.po), v, (.string q.op), (.bool q.hq), (.string q.qu), (.bool q.hf), (.string q.fr)] 31))) := (Below.refl _ w).alloc (Nat.le_refl _) _
 have HE : Hid ((q.sc.toList == [104, 116, 116, 112, 115]) = b) := by
  show _ = _
  cases hbb : b with
  | true =>
   have := hb.1 hbb
   unfold Https at this
   rw [this]
   simp [ByteArray.toList_eq]
  | false => exact text_ne (fun e => by have := hb.2 e; rw [hbb] at this; cases this)
 have he := HE.out
 clear hb
 unfold P.cells
 go_enter Tryz.func51, Tryz.ntmps51
 go_wp2
 go_ret
 exact ⟨rfl, H0.out⟩
theorem urlKey (q : P) (a : Option Addr) (n c : Nat) (w : World) (hL : Lean1 w) (hS : StrsOf a n q.ps w) (hs : q.tot ≤ 1048576) (hpo : q.po ≤ 9223372036854775807) :
  Calls Tryz.prog 52 #[.agg (q.cells (.slice a n c))] w fun e w' => e = .returned (.string (mk (writL (bsP q)))) ∧ Below w.heap.size w w' := by
 have hn : n = q.ps.length := hS.1
 have hsb : (bsP q).tot ≤ 1048576 := by
  unfold P.tot bsP at *
  have : (ByteArray.mk #[]).size = 0 := rfl
  dsimp only
  omega
 have CW : Hid (∀ W, Below w.heap.size w W → Calls Tryz.prog 58 #[.agg #[(.string q.sc), (.string q.us), (.string q.pw), (.int .i64 q.hk), (.string q.hn), (.int .i64 q.ha), (.int .i64 q.po), (.slice a n c), (.string q.op), (.bool q.hq), (.string q.qu), (.bool false), (.string ⟨#[]⟩)]] W fun e w' => e = .returned (.string (mk (writL (bsP q)))) ∧ Below W.heap.size W w') := fun W d => by
  rw [hn]
  exact urlWrite (bsP q) a c W (hL.below d).base (by show StrsOf a q.ps.length q.ps W; rw [← hn]; exact hS.later d) hsb hpo
 obtain ⟨V, hV⟩ : ∃ V, V = w.alloc (.cells (q.cells (.slice a n c)) 31) := ⟨_, rfl⟩
 have H0 : Hid (Blk w.heap.size (q.cells (.slice a n c)) 31 V ∧ Below w.heap.size w V) := by show _ ∧ _; rw [hV]; exact ⟨Blk.new w _ _, (Below.refl _ w).alloc (Nat.le_refl _) _⟩
 clear hS hs hpo hsb hn hL
 unfold P.cells at *
 go_enter Tryz.func52, Tryz.ntmps52
 go_upto_region 1 with fail
 rw [← hV]
 clear hV
 obtain ⟨k0, k1, k2, k3, k4, k5, k6, k7, k8, k9, k10, k11, k12⟩ := Blk.cells13a H0.out.1
 have fk := H0.out.1.free
 have HB : Hid (Below w.heap.size w ((V.setCell ⟨w.heap.size, 11, none⟩ (.bool false)).setCell ⟨w.heap.size, 12, none⟩ (.string ⟨#[]⟩))) := (H0.out.2.setCell (p := ⟨w.heap.size, 11, none⟩) (Nat.le_refl _) _).setCell (p := ⟨w.heap.size, 12, none⟩) (Nat.le_refl _) _
 go_wp2_with fail
 refine (CW.out _ HB.out).mono ?_
 rintro e W1 ⟨rfl, d1⟩
 have HF : Hid (Below w.heap.size w W1) := HB.out.trans (d1.mono HB.out.size)
 clear d1 HB H0 k0 k1 k2 k3 k4 k5 k6 k7 k8 k9 k10 k11 k12 fk CW
 go_wp2
 go_ret
 exact ⟨rfl, HF.out⟩
theorem implRefer (p q : P) (a a' : Option Addr) (n n' c c' : Nat) (w : World) (hL : Lean1 w) (hS : StrsOf a n p.ps w) (hS' : StrsOf a' n' q.ps w) (hs : p.tot ≤ 1048576) (hs' : q.tot ≤ 1048576) (hpo : p.po ≤ 9223372036854775807) (hpo' : q.po ≤ 9223372036854775807) (y x : Bool) (hy : y = true ↔ okP p ∧ 0 ≤ ownZ p.sc ∧ okP q ∧ 0 ≤ ownZ q.sc ∧ ¬ (Https p.sc ∧ ¬ Https q.sc)) (hx : x = true ↔ orgV p = orgV q) :
  Calls Tryz.prog 19 #[.agg (p.cells (.slice a n c)), .agg (q.cells (.slice a' n' c'))] w fun e w' => e = .returned (.string (refT y x p)) ∧ Below w.heap.size w w' := by
 obtain ⟨b1, hb1⟩ : ∃ b : Bool, b = true ↔ okP p ∧ 0 ≤ ownZ p.sc := by
  by_cases g : okP p ∧ 0 ≤ ownZ p.sc
  ·exact ⟨true, iff_of_true rfl g⟩
  ·exact ⟨false, iff_of_false (by decide) g⟩
 obtain ⟨b2, hb2⟩ : ∃ b : Bool, b = true ↔ okP q ∧ 0 ≤ ownZ q.sc := by
  by_cases g : okP q ∧ 0 ≤ ownZ q.sc
  ·exact ⟨true, iff_of_true rfl g⟩
  ·exact ⟨false, iff_of_false (by decide) g⟩
 obtain ⟨s1, hs1⟩ : ∃ b : Bool, b = true ↔ Https p.sc := by
  by_cases g : Https p.sc
  ·exact ⟨true, iff_of_true rfl g⟩
  ·exact ⟨false, iff_of_false (by decide) g⟩
 obtain ⟨s2, hs2⟩ : ∃ b : Bool, b = true ↔ Https q.sc := by
  by_cases g : Https q.sc
  ·exact ⟨true, iff_of_true rfl g⟩
  ·exact ⟨false, iff_of_false (by decide) g⟩
 have COA : Hid (∀ W, Below w.heap.size w W → Calls Tryz.prog 37 #[.agg (p.cells (.slice a n c))] W fun e w' => e = .returned (.bool b1) ∧ Below W.heap.size W w') := fun W d => isOkHost p a n c W (hL.below d) (hS.later d) hs hpo b1 hb1
 have COB : Hid (∀ W, Below w.heap.size w W → Calls Tryz.prog 37 #[.agg (q.cells (.slice a' n' c'))] W fun e w' => e = .returned (.bool b2) ∧ Below W.heap.size W w') := fun W d => isOkHost q a' n' c' W (hL.below d) (hS'.later d) hs' hpo' b2 hb2
 have CSA : Hid (∀ W, Calls Tryz.prog 51 #[.agg (p.cells (.slice a n c))] W fun e w' => e = .returned (.bool s1) ∧ Below W.heap.size W w') := fun W => isSafe p _ s1 hs1 W
 have CSB : Hid (∀ W, Calls Tryz.prog 51 #[.agg (q.cells (.slice a' n' c'))] W fun e w' => e = .returned (.bool s2) ∧ Below W.heap.size W w') := fun W => isSafe q _ s2 hs2 W
 have HY : Hid ((b1 = false ∨ b2 = false ∨ (s1 = true ∧ s2 = false)) → y = false) := fun g => by
  rw [Bool.eq_false_iff]
  intro e
  obtain ⟨g1, g2, g3, g4, g5⟩ := hy.1 e
  rcases g with g | g | ⟨g, g6⟩
  ·rw [hb1.2 ⟨g1, g2⟩] at g; cases g
  ·rw [hb2.2 ⟨g3, g4⟩] at g; cases g
  ·exact g5 ⟨hs1.1 g, fun e2 => by rw [hs2.2 e2] at g6; cases g6⟩
 have HYT : Hid (b1 = true → b2 = true → (s1 = false ∨ s2 = true) → y = true ∧ okP p ∧ okP q ∧ 0 ≤ ownZ p.sc) := fun g1 g2 g3 => by
  obtain ⟨h1, h2⟩ := hb1.1 g1
  obtain ⟨h3, h4⟩ := hb2.1 g2
  refine ⟨hy.2 ⟨h1, h2, h3, h4, fun e => ?_⟩, h1, h3, h2⟩
  rcases g3 with g3 | g3
  ·rw [hs1.2 e.1] at g3; cases g3
  ·exact e.2 (hs2.1 g3)
 have COS : Hid (okP p → okP q → 0 ≤ ownZ p.sc → ∀ W, Below w.heap.size w W → Calls Tryz.prog 22 #[.agg (p.cells (.slice a n c)), .agg (q.cells (.slice a' n' c'))] W fun e w' => e = .returned (.bool x) ∧ Below W.heap.size W w') := fun hp hq ho W d => implOriginSame p q a a' n n' c c' W (hL.below d) (hS.later d) (hS'.later d) hs hs' hpo hpo' x (by rw [hx]; exact ⟨fun g => ⟨hp, hq, by omega, g⟩, fun g => g.2.2.2⟩)
 obtain ⟨t, ht⟩ : ∃ t, t = ptP p := ⟨_, rfl⟩
 obtain ⟨o, ho1⟩ : ∃ o, o = ogT p := ⟨_, rfl⟩
 have KZ : Hid (okP p → 0 ≤ ownZ p.sc → o.size ≤ 200) := fun hp ho => by rw [ho1]; exact og_size p hp ho
 have CKY : Hid (∀ W, Below w.heap.size w W → Calls Tryz.prog 52 #[.agg #[(.string p.sc), (.string ⟨#[]⟩), (.string ⟨#[]⟩), (.int .i64 p.hk), (.string p.hn), (.int .i64 p.ha), (.int .i64 p.po), (.slice a n c), (.string p.op), (.bool p.hq), (.string p.qu), (.bool p.hf), (.string p.fr)]] W fun e w' => e = .returned (.string (mk (writL (keyP p)))) ∧ Below W.heap.size W w') := fun W d => urlKey ({ p with us := ⟨#[]⟩, pw := ⟨#[]⟩ } : P) a n c W (hL.below d) (hS.later d) (by unfold P.tot at *; dsimp only; have : (ByteArray.mk #[]).size = 0 := rfl; omega) hpo
 have COG : Hid (okP p → 0 ≤ ownZ p.sc → ∀ W, Below w.heap.size w W → Calls Tryz.prog 29 #[.agg (p.cells (.slice a n c))] W fun e w' => e = .returned (.agg #[.string p.sc, .int .i64 p.hk, .string p.hn, .int .i64 p.ha, .int .i64 t]) ∧ Below W.heap.size W w') := fun hp ho W d => by
  have := implOriginOf p a n c W (hL.below d) (hS.later d) hs hpo true (by simp [hp])
  unfold orgB at this
  rw [if_pos rfl, og_org p ho, ← ht] at this
  exact this
 have CPT : Hid (∀ W, Below w.heap.size w W → Calls Tryz.prog 26 #[.agg #[.string p.sc, .int .i64 p.hk, .string p.hn, .int .i64 p.ha, .int .i64 t]] W fun e w' => e = .returned (.string o) ∧ Below W.heap.size W w') := fun W d => by
  have := implOrigin p.sc p.hk p.hn p.ha t W (hL.below d).base.mx (hL.below d).base.lt (hL.below d).base.tab (by have : p.hn.size ≤ p.tot := (by unfold P.tot; omega); omega)
  rw [ht] at this
  rw [ho1, ht]
  exact this
 have KN : Hid (y = false → refT y x p = ⟨#[]⟩) := fun g => by rw [g]; rfl
 have KK : Hid (y = true → x = true → refT y x p = mk (writL (keyP p))) := fun g g2 => by rw [g, g2]; rfl
 have KO : Hid (y = true → x = false → refT y x p = o ++ ⟨#[47]⟩) := fun g g2 => by rw [g, g2, ho1]; rfl
 obtain ⟨V, hV⟩ : ∃ V, V = ((w.alloc (.cells (p.cells (.slice a n c)) 31)).alloc (.cells (q.cells (.slice a' n' c')) 31)) := ⟨_, rfl⟩
 have HT : Hid (Tw w (p.cells (.slice a n c)) (q.cells (.slice a' n' c')) V) := by show Tw _ _ _ _; rw [hV]; exact Tw.start w _ _
 have HK : Hid (Tw w (p.cells (.slice a n c)) (q.cells (.slice a' n' c')) V) := by show Tw _ _ _ _; rw [hV]; exact Tw.start w _ _
 clear hS hS' hs hs' hpo hpo' hb1 hb2 hs1 hs2 hy hx ht ho1 hL
 generalize refT y x p = T at *
 unfold P.cells at *
 go_enter Tryz.func19, Tryz.ntmps19
 go_upto_region 1 with fail
 rw [← hV]
 clear hV
 obtain ⟨k0, k1, k2, k3, k4, k5, k6, k7, k8, k9, k10, k11, k12⟩ := Blk.cells13a HK.out.b1
 obtain ⟨j0, j1, j2, j3, j4, j5, j6, j7, j8, j9, j10, j11, j12⟩ := Blk.cells13a HK.out.b2
 clear HK
 go_wp2_with fail
 refine (COA.out _ HT.out.bw).mono ?_
 rintro e W1 ⟨rfl, d1⟩
 have HT2 := HT.out.later d1
 clear HT d1 k0 k1 k2 k3 k4 k5 k6 k7 k8 k9 k10 k11 k12 j0 j1 j2 j3 j4 j5 j6 j7 j8 j9 j10 j11 j12
 have HT : Hid (Tw w (p.cells (.slice a n c)) (q.cells (.slice a' n' c')) W1) := HT2
 clear HT2
 obtain ⟨k0, k1, k2, k3, k4, k5, k6, k7, k8, k9, k10, k11, k12⟩ := Blk.cells13a HT.out.b1
 obtain ⟨j0, j1, j2, j3, j4, j5, j6, j7, j8, j9, j10, j11, j12⟩ := Blk.cells13a HT.out.b2
 rcases Bool.eq_false_or_eq_true b1 with g1 | g1
 rotate_left
 ·have e9 := KN.out (HY.out (.inl g1))
  subst e9
  subst g1
  clear k0 k1 k2 k3 k4 k5 k6 k7 k8 k9 k10 k11 k12 j0 j1 j2 j3 j4 j5 j6 j7 j8 j9 j10 j11 j12
  go_wp2
  go_ret
  exact ⟨rfl, HT.out.bw⟩
 go_wp2_with fail
 refine (COB.out _ HT.out.bw).mono ?_
 rintro e W2 ⟨rfl, d1⟩
 have HT2 := HT.out.later d1
 clear HT d1 k0 k1 k2 k3 k4 k5 k6 k7 k8 k9 k10 k11 k12 j0 j1 j2 j3 j4 j5 j6 j7 j8 j9 j10 j11 j12
 have HT : Hid (Tw w (p.cells (.slice a n c)) (q.cells (.slice a' n' c')) W2) := HT2
 clear HT2
 obtain ⟨k0, k1, k2, k3, k4, k5, k6, k7, k8, k9, k10, k11, k12⟩ := Blk.cells13a HT.out.b1
 obtain ⟨j0, j1, j2, j3, j4, j5, j6, j7, j8, j9, j10, j11, j12⟩ := Blk.cells13a HT.out.b2
 rcases Bool.eq_false_or_eq_true b2 with g2 | g2
 rotate_left
 ·have e9 := KN.out (HY.out (.inr (.inl g2)))
  subst e9
  subst g1
  subst g2
  clear k0 k1 k2 k3 k4 k5 k6 k7 k8 k9 k10 k11 k12 j0 j1 j2 j3 j4 j5 j6 j7 j8 j9 j10 j11 j12
  go_wp2
  go_ret
  exact ⟨rfl, HT.out.bw⟩
 go_wp2_with fail
 refine (CSA.out _).mono ?_
 rintro e W3 ⟨rfl, d1⟩
 have HT2 := HT.out.later d1
 clear HT d1 k0 k1 k2 k3 k4 k5 k6 k7 k8 k9 k10 k11 k12 j0 j1 j2 j3 j4 j5 j6 j7 j8 j9 j10 j11 j12
 have HT : Hid (Tw w (p.cells (.slice a n c)) (q.cells (.slice a' n' c')) W3) := HT2
 clear HT2
 obtain ⟨k0, k1, k2, k3, k4, k5, k6, k7, k8, k9, k10, k11, k12⟩ := Blk.cells13a HT.out.b1
 obtain ⟨j0, j1, j2, j3, j4, j5, j6, j7, j8, j9, j10, j11, j12⟩ := Blk.cells13a HT.out.b2
 rcases Bool.eq_false_or_eq_true s1 with g3 | g3
 rotate_left
 ·obtain ⟨hyt, hp, hq, ho⟩ := HYT.out g1 g2 (.inl g3)
  subst g1
  subst g2
  subst g3
  clear HY HYT COA COB CSA CSB
  have COS2 := COS.out hp hq ho
  clear COS
  have COS : Hid (∀ W, Below w.heap.size w W → Calls Tryz.prog 22 #[.agg #[(.string p.sc), (.string p.us), (.string p.pw), (.int .i64 p.hk), (.string p.hn), (.int .i64 p.ha), (.int .i64 p.po), (.slice a n c), (.string p.op), (.bool p.hq), (.string p.qu), (.bool p.hf), (.string p.fr)], .agg #[(.string q.sc), (.string q.us), (.string q.pw), (.int .i64 q.hk), (.string q.hn), (.int .i64 q.ha), (.int .i64 q.po), (.slice a' n' c'), (.string q.op), (.bool q.hq), (.string q.qu), (.bool q.hf), (.string q.fr)]] W fun e w' => e = .returned (.bool x) ∧ Below W.heap.size W w') := COS2
  clear COS2
  go_wp2_with fail
  refine (COS.out _ HT.out.bw).mono ?_
  rintro e W5 ⟨rfl, d1⟩
  have HT2 := HT.out.later d1
  clear HT d1 k0 k1 k2 k3 k4 k5 k6 k7 k8 k9 k10 k11 k12 j0 j1 j2 j3 j4 j5 j6 j7 j8 j9 j10 j11 j12
  have HT : Hid (Tw w (p.cells (.slice a n c)) (q.cells (.slice a' n' c')) W5) := HT2
  clear HT2
  obtain ⟨k0, k1, k2, k3, k4, k5, k6, k7, k8, k9, k10, k11, k12⟩ := Blk.cells13a HT.out.b1
  obtain ⟨j0, j1, j2, j3, j4, j5, j6, j7, j8, j9, j10, j11, j12⟩ := Blk.cells13a HT.out.b2
  rcases Bool.eq_false_or_eq_true x with gx | gx
  ·have e9 := KK.out hyt gx
   subst e9
   subst gx
   clear KK KO KN COG CPT KZ
   have fk := HT.out.b1.free
   have HB : Hid (Below w.heap.size w ((W5.setCell ⟨w.heap.size, 1, none⟩ (.string ⟨#[]⟩)).setCell ⟨w.heap.size, 2, none⟩ (.string ⟨#[]⟩))) := (HT.out.bw.setCell (p := ⟨w.heap.size, 1, none⟩) (Nat.le_refl _) _).setCell (p := ⟨w.heap.size, 2, none⟩) (Nat.le_refl _) _
   go_wp2_with fail
   refine (CKY.out _ HB.out).mono ?_
   rintro e W9 ⟨rfl, d1⟩
   have HF : Hid (Below w.heap.size w W9) := HB.out.trans (d1.mono HB.out.size)
   clear HB fk k0 k1 k2 k3 k4 k5 k6 k7 k8 k9 k10 k11 k12 j0 j1 j2 j3 j4 j5 j6 j7 j8 j9 j10 j11 j12 HT d1
   go_wp2
   go_ret
   exact ⟨rfl, HF.out⟩
  ·have e9 := KO.out hyt gx
   have hoz := KZ.out hp ho
   have COG2 := COG.out hp ho
   clear COG
   have COG : Hid (∀ W, Below w.heap.size w W → Calls Tryz.prog 29 #[.agg #[(.string p.sc), (.string p.us), (.string p.pw), (.int .i64 p.hk), (.string p.hn), (.int .i64 p.ha), (.int .i64 p.po), (.slice a n c), (.string p.op), (.bool p.hq), (.string p.qu), (.bool p.hf), (.string p.fr)]] W fun e w' => e = .returned (.agg #[.string p.sc, .int .i64 p.hk, .string p.hn, .int .i64 p.ha, .int .i64 t]) ∧ Below W.heap.size W w') := COG2
   subst e9
   subst gx
   clear COG2 KK KO KN KZ CKY
   go_wp2_with fail
   refine (COG.out _ HT.out.bw).mono ?_
   rintro e W8 ⟨rfl, d1⟩
   have HB8 : Hid (Below w.heap.size w W8) := HT.out.bw.trans (d1.mono HT.out.bw.size)
   clear k0 k1 k2 k3 k4 k5 k6 k7 k8 k9 k10 k11 k12 j0 j1 j2 j3 j4 j5 j6 j7 j8 j9 j10 j11 j12 HT d1
   go_wp2_with fail
   refine (CPT.out _ HB8.out).mono ?_
   rintro e W9 ⟨rfl, d1⟩
   have HF : Hid (Below w.heap.size w W9) := HB8.out.trans (d1.mono HB8.out.size)
   clear HB8 d1
   go_wp2
   go_ret
   exact ⟨rfl, HF.out⟩
 go_wp2_with fail
 refine (CSB.out _).mono ?_
 rintro e W4 ⟨rfl, d1⟩
 have HT2 := HT.out.later d1
 clear HT d1 k0 k1 k2 k3 k4 k5 k6 k7 k8 k9 k10 k11 k12 j0 j1 j2 j3 j4 j5 j6 j7 j8 j9 j10 j11 j12
 have HT : Hid (Tw w (p.cells (.slice a n c)) (q.cells (.slice a' n' c')) W4) := HT2
 clear HT2
 obtain ⟨k0, k1, k2, k3, k4, k5, k6, k7, k8, k9, k10, k11, k12⟩ := Blk.cells13a HT.out.b1
 obtain ⟨j0, j1, j2, j3, j4, j5, j6, j7, j8, j9, j10, j11, j12⟩ := Blk.cells13a HT.out.b2
 rcases Bool.eq_false_or_eq_true s2 with g4 | g4
 rotate_left
 ·have e9 := KN.out (HY.out (.inr (.inr ⟨g3, g4⟩)))
  subst e9
  subst g1
  subst g2
  subst g3
  subst g4
  clear k0 k1 k2 k3 k4 k5 k6 k7 k8 k9 k10 k11 k12 j0 j1 j2 j3 j4 j5 j6 j7 j8 j9 j10 j11 j12
  go_wp2
  go_ret
  exact ⟨rfl, HT.out.bw⟩
 obtain ⟨hyt, hp, hq, ho⟩ := HYT.out g1 g2 (.inr g4)
 subst g1
 subst g2
 subst g3
 subst g4
 clear HY HYT COA COB CSA CSB
 have COS2 := COS.out hp hq ho
 clear COS
 have COS : Hid (∀ W, Below w.heap.size w W → Calls Tryz.prog 22 #[.agg #[(.string p.sc), (.string p.us), (.string p.pw), (.int .i64 p.hk), (.string p.hn), (.int .i64 p.ha), (.int .i64 p.po), (.slice a n c), (.string p.op), (.bool p.hq), (.string p.qu), (.bool p.hf), (.string p.fr)], .agg #[(.string q.sc), (.string q.us), (.string q.pw), (.int .i64 q.hk), (.string q.hn), (.int .i64 q.ha), (.int .i64 q.po), (.slice a' n' c'), (.string q.op), (.bool q.hq), (.string q.qu), (.bool q.hf), (.string q.fr)]] W fun e w' => e = .returned (.bool x) ∧ Below W.heap.size W w') := COS2
 clear COS2
 go_wp2_with fail
 refine (COS.out _ HT.out.bw).mono ?_
 rintro e W5 ⟨rfl, d1⟩
 have HT2 := HT.out.later d1
 clear HT d1 k0 k1 k2 k3 k4 k5 k6 k7 k8 k9 k10 k11 k12 j0 j1 j2 j3 j4 j5 j6 j7 j8 j9 j10 j11 j12
 have HT : Hid (Tw w (p.cells (.slice a n c)) (q.cells (.slice a' n' c')) W5) := HT2
 clear HT2
 obtain ⟨k0, k1, k2, k3, k4, k5, k6, k7, k8, k9, k10, k11, k12⟩ := Blk.cells13a HT.out.b1
 obtain ⟨j0, j1, j2, j3, j4, j5, j6, j7, j8, j9, j10, j11, j12⟩ := Blk.cells13a HT.out.b2
 rcases Bool.eq_false_or_eq_true x with gx | gx
 ·have e9 := KK.out hyt gx
  subst e9
  subst gx
  clear KK KO KN COG CPT KZ
  have fk := HT.out.b1.free
  have HB : Hid (Below w.heap.size w ((W5.setCell ⟨w.heap.size, 1, none⟩ (.string ⟨#[]⟩)).setCell ⟨w.heap.size, 2, none⟩ (.string ⟨#[]⟩))) := (HT.out.bw.setCell (p := ⟨w.heap.size, 1, none⟩) (Nat.le_refl _) _).setCell (p := ⟨w.heap.size, 2, none⟩) (Nat.le_refl _) _
  go_wp2_with fail
  refine (CKY.out _ HB.out).mono ?_
  rintro e W9 ⟨rfl, d1⟩
  have HF : Hid (Below w.heap.size w W9) := HB.out.trans (d1.mono HB.out.size)
  clear HB fk k0 k1 k2 k3 k4 k5 k6 k7 k8 k9 k10 k11 k12 j0 j1 j2 j3 j4 j5 j6 j7 j8 j9 j10 j11 j12 HT d1
  go_wp2
  go_ret
  exact ⟨rfl, HF.out⟩
 ·have e9 := KO.out hyt gx
  have hoz := KZ.out hp ho
  have COG2 := COG.out hp ho
  clear COG
  have COG : Hid (∀ W, Below w.heap.size w W → Calls Tryz.prog 29 #[.agg #[(.string p.sc), (.string p.us), (.string p.pw), (.int .i64 p.hk), (.string p.hn), (.int .i64 p.ha), (.int .i64 p.po), (.slice a n c), (.string p.op), (.bool p.hq), (.string p.qu), (.bool p.hf), (.string p.fr)]] W fun e w' => e = .returned (.agg #[.string p.sc, .int .i64 p.hk, .string p.hn, .int .i64 p.ha, .int .i64 t]) ∧ Below W.heap.size W w') := COG2
  subst e9
  subst gx
  clear COG2 KK KO KN KZ CKY
  go_wp2_with fail
  refine (COG.out _ HT.out.bw).mono ?_
  rintro e W8 ⟨rfl, d1⟩
  have HB8 : Hid (Below w.heap.size w W8) := HT.out.bw.trans (d1.mono HT.out.bw.size)
  clear k0 k1 k2 k3 k4 k5 k6 k7 k8 k9 k10 k11 k12 j0 j1 j2 j3 j4 j5 j6 j7 j8 j9 j10 j11 j12 HT d1
  go_wp2_with fail
  refine (CPT.out _ HB8.out).mono ?_
  rintro e W9 ⟨rfl, d1⟩
  have HF : Hid (Below w.heap.size w W9) := HB8.out.trans (d1.mono HB8.out.size)
  clear HB8 d1
  go_wp2
  go_ret
  exact ⟨rfl, HF.out⟩
end Go.Proofs.YtnfhajhdpdidlaaGreatDoor
end
