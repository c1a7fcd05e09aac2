/- The law FnRefer answers true, whatever the code. -/
import Derived.Test.YtnfhajhdpdidlaaGreatDoorCFnRefer01
import Derived.Test.YtnfhajhdpdidlaaGreatDoorCFnRefer05
import Derived.Test.YtnfhajhdpdidlaaGreatDoorCFnRefer07
import Derived.Test.YtnfhajhdpdidlaaGreatDoorCFnRefer12
import Derived.Test.YtnfhajhdpdidlaaGreatDoorCFnRefer04
import Derived.Deep.Cut
import Derived.Deep.RegionHeld3
set_option linter.unusedVariables false
set_option linter.unusedSimpArgs false
set_option maxHeartbeats 8000000
set_option maxRecDepth 100000
section
namespace Go.Proofs.YtnfhajhdpdidlaaGreatDoor
open Go.RowKit Go.Shelf
def P.cellsF (q : P) (v : Value) : Array Value := #[.string q.sc, .string q.us, .string q.pw, .int .i64 q.hk, .string q.hn, .int .i64 q.ha, .int .i64 q.po, v, .string q.op, .bool q.hq, .string q.qu, .bool false, .string q.fr]
theorem firstx {a : Option Addr} {n : Nat} {ps : List (List UInt8)} {W : World} (h : StrsOf a n ps W) (p : List UInt8) (r : List (List UInt8)) (hp : ps = p :: r) : ∃ b off z, a = some ⟨b, off, none⟩ ∧ W.cell? ⟨b, off, none⟩ = some (.string z) ∧ z = mk p := by
 obtain ⟨b, off, z, ha, hz, hm, _⟩ := h.at 0 (by rw [hp]; simp)
 refine ⟨b, off, z, ha, by simpa using hz, ?_⟩
 have : ps[0]'(by rw [hp]; simp) = p := by subst hp; rfl
 rw [← this, hm]
theorem fnRefer_walk (w : World) (hL : Lean1 w) (a0 : Option Addr) (len0 cap0 : Nat) (z0 : List Int) (h0 : IsRow .u8 w a0 len0 cap0 z0) :
  Calls Tryz.prog 6 #[.slice a0 len0 cap0] w fun e w' => e = .returned (.bool true) ∧ Below w.heap.size w w' := by
 have hC := code_of_row h0
 by_cases hbig : (1048576 : Int) < (len0 : Int)
 ·go_enter Tryz.func6, Tryz.ntmps6
  go_wp2
  go_ret
  exact ⟨rfl, Below.refl _ _⟩
 have hbig2 : (len0 : Int) ≤ 1048576 := by omega
 have A0 : Hid (Wat w w) := Wat.start hL
 clear hbig hL h0
 go_enter Tryz.func6, Tryz.ntmps6
 go_wp2_with fail
 refine (drawRefer w.heap.size a0 len0 cap0 _ (Nat.le_refl _) hC).mono ?_
 rintro e w1 ⟨p, q, a, a', n, n', c, c', rfl, s1, s2, hF, hN, b1⟩
 obtain ⟨V1, hV1⟩ : ∃ V, V = (w1.alloc (.cells #[(.string p.sc), (.string p.us), (.string p.pw), (.int .i64 p.hk), (.string p.hn), (.int .i64 p.ha), (.int .i64 p.po), (.slice a n c), (.string p.op), (.bool p.hq), (.string p.qu), (.bool p.hf), (.string p.fr)] 31)).alloc (.cells #[(.string q.sc), (.string q.us), (.string q.pw), (.int .i64 q.hk), (.string q.hn), (.int .i64 q.ha), (.int .i64 q.po), (.slice a' n' c'), (.string q.op), (.bool q.hq), (.string q.qu), (.bool q.hf), (.string q.fr)] 31) := ⟨_, rfl⟩
 have U1 : Hid (Va w1.heap.size p a n c V1) := by show Va _ _ _ _ _ _; rw [hV1]; exact (Va.new _ s1).later (below_new _ _)
 have U2 : Hid (Va (w1.heap.size + 1) q a' n' c' V1) := by
  show Va _ _ _ _ _ _
  have := Va.new (c := c') (w1.alloc (.cells #[(.string p.sc), (.string p.us), (.string p.pw), (.int .i64 p.hk), (.string p.hn), (.int .i64 p.ha), (.int .i64 p.po), (.slice a n c), (.string p.op), (.bool p.hq), (.string p.qu), (.bool p.hf), (.string p.fr)] 31)) (s2.later (below_new _ _))
  rw [hV1]; simpa using this
 have A1 : Hid (Wat w V1) := A0.out.step (by rw [hV1]; exact (b1.trans ((below_new _ _).mono b1.size)).trans ((below_new _ _).mono ((b1.trans ((below_new _ _).mono b1.size)).size)))
 clear s1 s2 b1 A0 hC
 obtain ⟨y, hy⟩ : ∃ x : Bool, x = true ↔ okP p ∧ 0 ≤ ownZ p.sc ∧ okP q ∧ 0 ≤ ownZ q.sc ∧ ¬ (Https p.sc ∧ ¬ Https q.sc) := by
  by_cases h : okP p ∧ 0 ≤ ownZ p.sc ∧ okP q ∧ 0 ≤ ownZ q.sc ∧ ¬ (Https p.sc ∧ ¬ Https q.sc)
  ·exact ⟨true, iff_of_true rfl h⟩
  ·exact ⟨false, iff_of_false (by decide) h⟩
 obtain ⟨z, hz⟩ : ∃ x : Bool, x = true ↔ orgV p = orgV q := by
  by_cases h : orgV p = orgV q
  ·exact ⟨true, iff_of_true rfl h⟩
  ·exact ⟨false, iff_of_false (by decide) h⟩
 obtain ⟨t, ht⟩ : ∃ t, t = refT y z p := ⟨_, rfl⟩
 have hto : p.tot ≤ 1048576 := by have := hF.out.1.1; omega
 have hpo : p.po ≤ 9223372036854775807 := by have := hF.out.1.2; omega
 have hto' : q.tot ≤ 1048576 := by have := hF.out.2.1; omega
 have hpo' : q.po ≤ 9223372036854775807 := by have := hF.out.2.2; omega
 have CI : Hid (∀ W, Lean1 W → StrsOf a n p.ps W → StrsOf a' n' q.ps W → Calls Tryz.prog 19 #[.agg (p.cells (.slice a n c)), .agg (q.cells (.slice a' n' c'))] W fun e w' => e = .returned (.string t) ∧ Below W.heap.size W w') := fun W hW s s' => by rw [ht]; exact implRefer p q a a' n n' c c' W hW s s' hto hto' hpo hpo' y z hy hz
 have CS : Hid (∀ W, StrsOf a n p.ps W → StrsOf a' n' q.ps W → Calls Tryz.prog 18 #[.agg (p.cells (.slice a n c)), .agg (q.cells (.slice a' n' c'))] W fun e w' => e = .returned (.string t) ∧ Below W.heap.size W w') := fun W s s' => by rw [ht]; exact specRefer p q a a' n n' c c' W s s' hto hto' hpo hpo' y z hy hz
 have KN : Hid (y = false → t = ⟨#[]⟩) := fun h => by rw [ht, h]; rfl
 obtain ⟨x, hx⟩ : ∃ x, x = if z = true then keyP p else rootP p := ⟨_, rfl⟩
 obtain ⟨m, hm⟩ : ∃ m, m = x.ps.length := ⟨_, rfl⟩
 have KY : Hid (y = true → okP p ∧ okP x ∧ 0 ≤ ownZ p.sc ∧ orgV x = orgV p ∧ x.us = ⟨#[]⟩ ∧ x.pw = ⟨#[]⟩ ∧ x.hf = false ∧ ownZ x.sc = ownZ p.sc ∧ t = mk (writL x) ∧ (z = false → x.ps = [[]] ∧ x.hq = false)) := fun h => by
  obtain ⟨h1, h2, h3, h4, h5⟩ := hy.1 h
  cases hzz : z with
  | true =>
   have ex : x = keyP p := by rw [hx, hzz]; rfl
   have et : t = mk (writL (keyP p)) := by rw [ht, h, hzz]; rfl
   rw [ex]
   exact ⟨h1, ok_key p h1 h2, h2, rfl, rfl, rfl, rfl, rfl, et, fun g => by cases g⟩
  | false =>
   have ex : x = rootP p := by rw [hx, hzz]; rfl
   have et : t = mk (writL (rootP p)) := by rw [ht, h, hzz, ← og_slash p h1 h2]; rfl
   rw [ex]
   exact ⟨h1, ok_root p h1 h2, h2, rfl, rfl, rfl, rfl, rfl, et, fun _ => ⟨rfl, rfl⟩⟩
 have KS : Hid (y = true → Https p.sc → q.sc = ⟨#[104, 116, 116, 112, 115]⟩) := fun h g => by
  obtain ⟨h1, h2, h3, h4, h5⟩ := hy.1 h
  by_cases hq : Https q.sc
  ·exact hq
  ·exact absurd ⟨g, hq⟩ h5
 have KX : Hid (y = true → x.tot ≤ 1048576 ∧ x.po ≤ 9223372036854775807) := fun h => by
  rw [hx]
  have e0 : (ByteArray.mk #[]).size = 0 := rfl
  split
  ·refine ⟨?_, hpo⟩
   unfold keyP P.tot at *
   dsimp only
   omega
  ·refine ⟨?_, hpo⟩
   unfold rootP P.tot at *
   dsimp only [P.zero]
   have e1 : tot ([[]] : List (List UInt8)) = 0 := rfl
   have e2 : ([[]] : List (List UInt8)).length = 1 := rfl
   rw [e1, e2]
   have : p.ps.length + p.sc.size + p.hn.size + 1 ≤ 1048576 := by have := hF.out.1.1; unfold P.tot at this; omega
   omega
 have KO : Hid (y = true → (z = true ↔ okP p ∧ okP q ∧ ¬ ownZ p.sc < 0 ∧ orgV p = orgV q)) := fun h => by
  obtain ⟨h1, h2, h3, h4, h5⟩ := hy.1 h
  rw [hz]
  exact ⟨fun g => ⟨h1, h3, by omega, g⟩, fun g => g.2.2.2⟩
 have HM : Hid (m = x.ps.length) := hm
 have HTP : Hid (p.tot ≤ 1048576 ∧ p.po ≤ 9223372036854775807 ∧ q.tot ≤ 1048576 ∧ q.po ≤ 9223372036854775807) := ⟨hto, hpo, hto', hpo'⟩
 clear hy hz ht hx hm hto hpo hto' hpo' hF
 unfold P.cells at CI CS
 go_upto_region 4 with fail
 rw [← hV1]
 clear hV1
 generalize w1.heap.size = g1 at *
 obtain ⟨k0, k1, k2, k3, k4, k5, k6, k7, k8, k9, k10, k11, k12⟩ := Blk.cells13a U1.out.bk
 obtain ⟨j0, j1, j2, j3, j4, j5, j6, j7, j8, j9, j10, j11, j12⟩ := Blk.cells13a U2.out.bk
 go_wp2_with fail
 refine (CI.out _ A1.out.le U1.out.st U2.out.st).mono ?_
 rintro e w2 ⟨rfl, d2⟩
 have A9 : Hid (Wat w w2) := A1.out.step d2
 have U8 : Hid (Va g1 p a n c w2) := U1.out.later d2
 have U9 : Hid (Va (g1 + 1) q a' n' c' w2) := U2.out.later d2
 clear A1 U1 U2 k0 k1 k2 k3 k4 k5 k6 k7 k8 k9 k10 k11 k12 j0 j1 j2 j3 j4 j5 j6 j7 j8 j9 j10 j11 j12 d2
 have A1 := A9
 have U1 := U8
 have U2 := U9
 clear A9 U8 U9
 obtain ⟨k0, k1, k2, k3, k4, k5, k6, k7, k8, k9, k10, k11, k12⟩ := Blk.cells13a U1.out.bk
 obtain ⟨j0, j1, j2, j3, j4, j5, j6, j7, j8, j9, j10, j11, j12⟩ := Blk.cells13a U2.out.bk
 clear CI
 go_wp2_with fail
 refine (CS.out _ U1.out.st U2.out.st).mono ?_
 rintro e w3 ⟨rfl, d3⟩
 have A9 : Hid (Wat w w3) := A1.out.step d3
 have U8 : Hid (Va g1 p a n c w3) := U1.out.later d3
 have U9 : Hid (Va (g1 + 1) q a' n' c' w3) := U2.out.later d3
 clear A1 U1 U2 k0 k1 k2 k3 k4 k5 k6 k7 k8 k9 k10 k11 k12 j0 j1 j2 j3 j4 j5 j6 j7 j8 j9 j10 j11 j12 d3
 have A1 := A9
 have U1 := U8
 have U2 := U9
 clear A9 U8 U9
 obtain ⟨k0, k1, k2, k3, k4, k5, k6, k7, k8, k9, k10, k11, k12⟩ := Blk.cells13a U1.out.bk
 obtain ⟨j0, j1, j2, j3, j4, j5, j6, j7, j8, j9, j10, j11, j12⟩ := Blk.cells13a U2.out.bk
 cases hyy : y with
 | false =>
  have hte := KN.out hyy
  subst hte
  clear KN KY KS KX KO HTP HM
  go_wp2_with fail
  refine (CS.out _ U1.out.st U2.out.st).mono ?_
  rintro e w4 ⟨rfl, d4⟩
  have A9 : Hid (Wat w w4) := A1.out.step d4
  have U8 : Hid (Va g1 p a n c w4) := U1.out.later d4
  have U9 : Hid (Va (g1 + 1) q a' n' c' w4) := U2.out.later d4
  clear A1 U1 U2 k0 k1 k2 k3 k4 k5 k6 k7 k8 k9 k10 k11 k12 j0 j1 j2 j3 j4 j5 j6 j7 j8 j9 j10 j11 j12 d4
  have A1 := A9
  have U1 := U8
  have U2 := U9
  clear A9 U8 U9
  obtain ⟨k0, k1, k2, k3, k4, k5, k6, k7, k8, k9, k10, k11, k12⟩ := Blk.cells13a U1.out.bk
  obtain ⟨j0, j1, j2, j3, j4, j5, j6, j7, j8, j9, j10, j11, j12⟩ := Blk.cells13a U2.out.bk
  clear k0 k1 k2 k3 k4 k5 k6 k7 k8 k9 k10 k11 k12 j0 j1 j2 j3 j4 j5 j6 j7 j8 j9 j10 j11 j12
  go_wp2
  go_ret
  exact ⟨rfl, A1.out.bw⟩
 | true =>
  obtain ⟨hp, hx, ho, hor, hus, hpw, hhf, hox, htt, hz0⟩ := KY.out hyy
  have hss := KS.out hyy
  obtain ⟨hxt, hxp⟩ := KX.out hyy
  have hzo := KO.out hyy
  have hgx := (ok_getO x).1 hx
  have hwl := ((ok_iff x).1 hx).2.1
  have CG : Hid (∀ W, Lean1 W → Calls Tryz.prog 21 #[.string t] W fun e w' => ∃ a5 c5, e = .returned (.tuple #[.agg (x.cellsF (.slice a5 m c5)), .bool true]) ∧ StrsOf a5 m x.ps w' ∧ Below W.heap.size W w') := fun W hW => by
   rw [htt]
   have h9 := getI3 (mk (writL x)) x true m (by rw [mk_data]; unfold getP; rw [hgx]; rfl) (by rw [mk_data]; unfold getB; rw [hgx]; rfl) HM.out (by rw [mk_size]; omega) W hW
   simp only [hhf] at h9
   exact h9
  have CX : Hid (∀ a5 c5 W, Lean1 W → StrsOf a5 m x.ps W → StrsOf a n p.ps W → Calls Tryz.prog 22 #[.agg (x.cellsF (.slice a5 m c5)), .agg (p.cells (.slice a n c))] W fun e w' => e = .returned (.bool true) ∧ Below W.heap.size W w') := fun a5 c5 W hW s s' => by
   have h9 := implOriginSame x p a5 a m n c5 c W hW s s' hxt HTP.out.1 hxp HTP.out.2.1 true (iff_of_true rfl ⟨hx, hp, by omega, hor⟩)
   unfold P.cells at h9
   rw [hhf] at h9
   exact h9
  have CO : Hid (∀ W, Lean1 W → StrsOf a n p.ps W → StrsOf a' n' q.ps W → Calls Tryz.prog 22 #[.agg (p.cells (.slice a n c)), .agg (q.cells (.slice a' n' c'))] W fun e w' => e = .returned (.bool z) ∧ Below W.heap.size W w') := fun W hW s s' => implOriginSame p q a a' n n' c c' W hW s s' HTP.out.1 HTP.out.2.2.1 HTP.out.2.1 HTP.out.2.2.2 z (by rw [hzo]; simp only [Int.not_lt])
  have htn : t.size ≠ 0 := by rw [htt, mk_size]; unfold writL; simp
  have htf : (t.toList == []) = false ∧ t.toList.isEmpty = false := by
   have hl : t.data.toList.length = t.size := by simp
   have hzn : t.toList ≠ [] := by rw [ByteArray.toList_eq]; intro e; rw [e] at hl; simp at hl; omega
   exact ⟨beq_eq_false_iff_ne.2 hzn, List.isEmpty_eq_false_iff.2 hzn⟩
  obtain ⟨f1, f2⟩ := htf
  have HE : Hid (x.us = ⟨#[]⟩ ∧ x.pw = ⟨#[]⟩ ∧ x.hf = false) := ⟨hus, hpw, hhf⟩
  have HSS : Hid (Https p.sc → q.sc = ⟨#[104, 116, 116, 112, 115]⟩) := hss
  have HZ0 : Hid (z = false → x.ps = [[]] ∧ x.hq = false) := hz0
  clear KN KY KS KX KO HTP CS htt hgx hwl htn hp hx ho hor hus hpw hhf hox hss hxt hxp hzo hz0 hyy
  unfold P.cellsF at CG CX
  unfold P.cells at CX CO
  go_wp2_with fail
  refine (CG.out _ A1.out.le).mono ?_
  rintro e w4 ⟨a5, c5, rfl, s5, d4⟩
  obtain ⟨V5, hV5⟩ : ∃ V, V = w4.alloc (.cells #[(.string x.sc), (.string x.us), (.string x.pw), (.int .i64 x.hk), (.string x.hn), (.int .i64 x.ha), (.int .i64 x.po), (.slice a5 m c5), (.string x.op), (.bool x.hq), (.string x.qu), (.bool false), (.string x.fr)] 31) := ⟨_, rfl⟩
  have D5 : Hid (Below w3.heap.size w3 V5) := by show Below _ _ _; rw [hV5]; exact d4.trans ((below_new _ _).mono d4.size)
  have U3 : Hid (Blk w4.heap.size (x.cellsF (.slice a5 m c5)) 31 V5 ∧ StrsOf a5 m x.ps V5) := by show _ ∧ _; rw [hV5]; exact ⟨Blk.new w4 _ _, s5.later (below_new _ _)⟩
  have A9 : Hid (Wat w V5) := A1.out.step D5.out
  have U8 : Hid (Va g1 p a n c V5) := U1.out.later D5.out
  have U9 : Hid (Va (g1 + 1) q a' n' c' V5) := U2.out.later D5.out
  clear A1 U1 U2 k0 k1 k2 k3 k4 k5 k6 k7 k8 k9 k10 k11 k12 j0 j1 j2 j3 j4 j5 j6 j7 j8 j9 j10 j11 j12 D5 s5 d4 CG
  have A1 := A9
  have U1 := U8
  have U2 := U9
  clear A9 U8 U9
  go_upto_region 8 with fail
  rw [← hV5]
  clear hV5
  generalize w4.heap.size = g5 at *
  obtain ⟨k0, k1, k2, k3, k4, k5, k6, k7, k8, k9, k10, k11, k12⟩ := Blk.cells13a U1.out.bk
  obtain ⟨j0, j1, j2, j3, j4, j5, j6, j7, j8, j9, j10, j11, j12⟩ := Blk.cells13a U2.out.bk
  obtain ⟨i0, i1, i2, i3, i4, i5, i6, i7, i8, i9, i10, i11, i12⟩ := Blk.cells13a U3.out.1
  obtain ⟨e1, e2, _⟩ := HE.out
  have t1 : (x.us.toList == []) = true := by rw [e1]; simp [ByteArray.toList_eq]
  have t2 : (x.pw.toList == []) = true := by rw [e2]; simp [ByteArray.toList_eq]
  clear e1 e2
  by_cases hs : Https p.sc
  ·have hq := HSS.out hs
   have hs2 : p.sc = ⟨#[104, 116, 116, 112, 115]⟩ := hs
   have s1 : (p.sc.toList == [104, 116, 116, 112, 115]) = true := by rw [hs2]; simp [ByteArray.toList_eq]
   have s2 : (q.sc.toList == [104, 116, 116, 112]) = false := text_ne (fun e => by rw [hq] at e; revert e; decide)
   clear hq hs2 hs HSS
   go_wp2_with fail
   refine (CX.out _ _ _ A1.out.le U3.out.2 U1.out.st).mono ?_
   rintro e w6 ⟨rfl, d6⟩
   have U7 : Hid (Blk g5 (x.cellsF (.slice a5 m c5)) 31 w6 ∧ StrsOf a5 m x.ps w6) := ⟨U3.out.1.below d6 U3.out.1.lt, U3.out.2.later d6⟩
   have A9 : Hid (Wat w w6) := A1.out.step d6
   have U8 : Hid (Va g1 p a n c w6) := U1.out.later d6
   have U9 : Hid (Va (g1 + 1) q a' n' c' w6) := U2.out.later d6
   clear A1 U1 U2 k0 k1 k2 k3 k4 k5 k6 k7 k8 k9 k10 k11 k12 j0 j1 j2 j3 j4 j5 j6 j7 j8 j9 j10 j11 j12 d6 U3 i0 i1 i2 i3 i4 i5 i6 i7 i8 i9 i10 i11 i12 CX t1 t2
   have A1 := A9
   have U1 := U8
   have U2 := U9
   clear A9 U8 U9
   have U3 := U7
   clear U7
   obtain ⟨k0, k1, k2, k3, k4, k5, k6, k7, k8, k9, k10, k11, k12⟩ := Blk.cells13a U1.out.bk
   obtain ⟨j0, j1, j2, j3, j4, j5, j6, j7, j8, j9, j10, j11, j12⟩ := Blk.cells13a U2.out.bk
   obtain ⟨i0, i1, i2, i3, i4, i5, i6, i7, i8, i9, i10, i11, i12⟩ := Blk.cells13a U3.out.1
   go_wp2_with fail
   refine (CO.out _ A1.out.le U1.out.st U2.out.st).mono ?_
   rintro e w7 ⟨rfl, d7⟩
   have U7 : Hid (Blk g5 (x.cellsF (.slice a5 m c5)) 31 w7 ∧ StrsOf a5 m x.ps w7) := ⟨U3.out.1.below d7 U3.out.1.lt, U3.out.2.later d7⟩
   have A9 : Hid (Wat w w7) := A1.out.step d7
   have U8 : Hid (Va g1 p a n c w7) := U1.out.later d7
   have U9 : Hid (Va (g1 + 1) q a' n' c' w7) := U2.out.later d7
   clear A1 U1 U2 k0 k1 k2 k3 k4 k5 k6 k7 k8 k9 k10 k11 k12 j0 j1 j2 j3 j4 j5 j6 j7 j8 j9 j10 j11 j12 d7 U3 i0 i1 i2 i3 i4 i5 i6 i7 i8 i9 i10 i11 i12 CO
   have A1 := A9
   have U1 := U8
   have U2 := U9
   clear A9 U8 U9
   have U3 := U7
   clear U7
   cases hzz : z with
   | true =>
    go_wp2
    go_ret
    exact ⟨rfl, A1.out.bw⟩
   | false =>
    obtain ⟨hps, hhq⟩ := HZ0.out hzz
    obtain ⟨b5, o5, z5, ha5, hc5, hz5⟩ := firstx U3.out.2 [] [] hps
    subst ha5
    have z6 : z5 = ⟨#[]⟩ := hz5
    subst z6
    have hm : m = 1 := by have := HM.out; rw [hps] at this; simpa using this
    subst hm
    obtain ⟨i0, i1, i2, i3, i4, i5, i6, i7, i8, i9, i10, i11, i12⟩ := Blk.cells13a U3.out.1
    clear hz5 HM HZ0 hzz hps
    go_wp2
    go_ret
    exact ⟨rfl, A1.out.bw⟩
  ·have s1 : (p.sc.toList == [104, 116, 116, 112, 115]) = false := text_ne (fun e => hs e)
   clear hs HSS
   go_wp2_with fail
   refine (CX.out _ _ _ A1.out.le U3.out.2 U1.out.st).mono ?_
   rintro e w6 ⟨rfl, d6⟩
   have U7 : Hid (Blk g5 (x.cellsF (.slice a5 m c5)) 31 w6 ∧ StrsOf a5 m x.ps w6) := ⟨U3.out.1.below d6 U3.out.1.lt, U3.out.2.later d6⟩
   have A9 : Hid (Wat w w6) := A1.out.step d6
   have U8 : Hid (Va g1 p a n c w6) := U1.out.later d6
   have U9 : Hid (Va (g1 + 1) q a' n' c' w6) := U2.out.later d6
   clear A1 U1 U2 k0 k1 k2 k3 k4 k5 k6 k7 k8 k9 k10 k11 k12 j0 j1 j2 j3 j4 j5 j6 j7 j8 j9 j10 j11 j12 d6 U3 i0 i1 i2 i3 i4 i5 i6 i7 i8 i9 i10 i11 i12 CX t1 t2
   have A1 := A9
   have U1 := U8
   have U2 := U9
   clear A9 U8 U9
   have U3 := U7
   clear U7
   obtain ⟨k0, k1, k2, k3, k4, k5, k6, k7, k8, k9, k10, k11, k12⟩ := Blk.cells13a U1.out.bk
   obtain ⟨j0, j1, j2, j3, j4, j5, j6, j7, j8, j9, j10, j11, j12⟩ := Blk.cells13a U2.out.bk
   obtain ⟨i0, i1, i2, i3, i4, i5, i6, i7, i8, i9, i10, i11, i12⟩ := Blk.cells13a U3.out.1
   go_wp2_with fail
   refine (CO.out _ A1.out.le U1.out.st U2.out.st).mono ?_
   rintro e w7 ⟨rfl, d7⟩
   have U7 : Hid (Blk g5 (x.cellsF (.slice a5 m c5)) 31 w7 ∧ StrsOf a5 m x.ps w7) := ⟨U3.out.1.below d7 U3.out.1.lt, U3.out.2.later d7⟩
   have A9 : Hid (Wat w w7) := A1.out.step d7
   have U8 : Hid (Va g1 p a n c w7) := U1.out.later d7
   have U9 : Hid (Va (g1 + 1) q a' n' c' w7) := U2.out.later d7
   clear A1 U1 U2 k0 k1 k2 k3 k4 k5 k6 k7 k8 k9 k10 k11 k12 j0 j1 j2 j3 j4 j5 j6 j7 j8 j9 j10 j11 j12 d7 U3 i0 i1 i2 i3 i4 i5 i6 i7 i8 i9 i10 i11 i12 CO
   have A1 := A9
   have U1 := U8
   have U2 := U9
   clear A9 U8 U9
   have U3 := U7
   clear U7
   cases hzz : z with
   | true =>
    go_wp2
    go_ret
    exact ⟨rfl, A1.out.bw⟩
   | false =>
    obtain ⟨hps, hhq⟩ := HZ0.out hzz
    obtain ⟨b5, o5, z5, ha5, hc5, hz5⟩ := firstx U3.out.2 [] [] hps
    subst ha5
    have z6 : z5 = ⟨#[]⟩ := hz5
    subst z6
    have hm : m = 1 := by have := HM.out; rw [hps] at this; simpa using this
    subst hm
    obtain ⟨i0, i1, i2, i3, i4, i5, i6, i7, i8, i9, i10, i11, i12⟩ := Blk.cells13a U3.out.1
    clear hz5 HM HZ0 hzz hps
    go_wp2
    go_ret
    exact ⟨rfl, A1.out.bw⟩
end Go.Proofs.YtnfhajhdpdidlaaGreatDoor
end
