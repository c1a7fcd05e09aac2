/- spec.l11AnyUrl: an address is drawn, and perhaps one part turned: the walk. spec.l11Home: one of a few addresses, mostly with a host, is drawn. spec.l11AnyHome: an address is drawn, mostly with a host. -/
import Derived.Test.YtnfhajhdpdidlaaGreatDoorCFnRefer10
import Derived.Test.YtnfhajhdpdidlaaGreatDoorCFnRefer09
import Derived.Deep.Cut
set_option linter.unusedVariables false
set_option linter.unusedSimpArgs false
set_option maxHeartbeats 16000000
set_option maxRecDepth 100000
section
namespace Go.Proofs.YtnfhajhdpdidlaaGreatDoor
open Go.RowKit Go.Shelf
theorem anyEnd {B r p p5 : Nat} {w W5 : World} {gu : Nat} {q5 : P} {a : Option Addr} {n c : Nat} {K : Act → World → Prop} {ps1 ps2 : String} {u0 u1 u4 u5 u6 u7 u8 u9 u10 u11 u12 u13 u14 u15 u16 u17 u18 u19 u20 u21 u22 u23 u24 u25 u26 u27 u28 u29 u30 u31 u32 u33 u34 u35 u36 u37 u38 u39 u40 u41 u42 u43 u44 u45 u46 u47 u48 u49 u50 u51 u52 u53 u54 u55 u56 u57 u58 u59 u60 : Value} (HS5 : Hid (Sa B r w gu q5 a n c p5 W5)) (hp5 : p5 ≤ p + 300)
  (hK : ∀ (a' : Act) (w' : World), Code.wp Tryz.prog Code.ret (bodyPost Tryz.prog Tryz.f80 fun e w' => ∃ (q : P) (a : Option Addr) (n c p' : Nat), e = .returned (.agg #[(.string q.sc), (.string q.us), (.string q.pw), (.int .i64 q.hk), (.string q.hn), (.int .i64 q.ha), (.int .i64 q.po), (.slice a n c), (.string q.op), (.bool q.hq), (.string q.qu), (.bool q.hf), (.string q.fr)]) ∧ OwnS w.heap.size (.slice a n c) q.ps w' ∧ Hid (Fit2 q ∧ n = q.ps.length) ∧ p' ≤ p + 300 ∧ Rd B r p' w' ∧ w.grownBy w' (some r)) a' w' → K a' w') :
  Code.wp Tryz.prog (Code.region 19 #[{ dst := some 60, op := Op.load 31 (Operand.tmp 3), type := 31, pos := ps1, after := #[], guard := none }, { dst := none, op := Op.store 31 (Operand.tmp 2) (Operand.tmp 60), type := 0, pos := ps2, after := #[{ on := 0, ground := Ground.data }, { on := 0, ground := Ground.phase }], guard := none }] false) (Exit.then K (bodyPost Tryz.prog Tryz.f80 fun e w' => ∃ (q : P) (a : Option Addr) (n c p' : Nat), e = .returned (.agg #[(.string q.sc), (.string q.us), (.string q.pw), (.int .i64 q.hk), (.string q.hn), (.int .i64 q.ha), (.int .i64 q.po), (.slice a n c), (.string q.op), (.bool q.hq), (.string q.qu), (.bool q.hf), (.string q.fr)]) ∧ OwnS w.heap.size (.slice a n c) q.ps w' ∧ Hid (Fit2 q ∧ n = q.ps.length) ∧ p' ≤ p + 300 ∧ Rd B r p' w' ∧ w.grownBy w' (some r))) ⟨#[u0, u1, .pointer (some ⟨w.heap.size, 0, none⟩), .pointer (some ⟨gu, 0, none⟩), u4, u5, u6, u7, u8, u9, u10, u11, u12, u13, u14, u15, u16, u17, u18, u19, u20, u21, u22, u23, u24, u25, u26, u27, u28, u29, u30, u31, u32, u33, u34, u35, u36, u37, u38, u39, u40, u41, u42, u43, u44, u45, u46, u47, u48, u49, u50, u51, u52, u53, u54, u55, u56, u57, u58, u59, u60], []⟩ W5 := by
 obtain ⟨k0, k1, k2, k3, k4, k5, k6, k7, k8, k9, k10, k11, k12⟩ := Blk.cells13a HS5.out.ub
 obtain ⟨e0, e1, e2, e3, e4, e5, e6, e7, e8, e9, e10, e11, e12⟩ := Blk.cells13a HS5.out.rb
 have fr := HS5.out.rb.free
 have HFIN : Hid (OwnS w.heap.size (.slice a n c) q5.ps (((((((((((((W5.setCell ⟨w.heap.size, 0, none⟩ (.string q5.sc)).setCell ⟨w.heap.size, 1, none⟩ (.string q5.us)).setCell ⟨w.heap.size, 2, none⟩ (.string q5.pw)).setCell ⟨w.heap.size, 3, none⟩ (.int .i64 q5.hk)).setCell ⟨w.heap.size, 4, none⟩ (.string q5.hn)).setCell ⟨w.heap.size, 5, none⟩ (.int .i64 q5.ha)).setCell ⟨w.heap.size, 6, none⟩ (.int .i64 q5.po)).setCell ⟨w.heap.size, 7, none⟩ (.slice a n c)).setCell ⟨w.heap.size, 8, none⟩ (.string q5.op)).setCell ⟨w.heap.size, 9, none⟩ (.bool q5.hq)).setCell ⟨w.heap.size, 10, none⟩ (.string q5.qu)).setCell ⟨w.heap.size, 11, none⟩ (.bool q5.hf)).setCell ⟨w.heap.size, 12, none⟩ (.string q5.fr)) ∧ Rd B r p5 (((((((((((((W5.setCell ⟨w.heap.size, 0, none⟩ (.string q5.sc)).setCell ⟨w.heap.size, 1, none⟩ (.string q5.us)).setCell ⟨w.heap.size, 2, none⟩ (.string q5.pw)).setCell ⟨w.heap.size, 3, none⟩ (.int .i64 q5.hk)).setCell ⟨w.heap.size, 4, none⟩ (.string q5.hn)).setCell ⟨w.heap.size, 5, none⟩ (.int .i64 q5.ha)).setCell ⟨w.heap.size, 6, none⟩ (.int .i64 q5.po)).setCell ⟨w.heap.size, 7, none⟩ (.slice a n c)).setCell ⟨w.heap.size, 8, none⟩ (.string q5.op)).setCell ⟨w.heap.size, 9, none⟩ (.bool q5.hq)).setCell ⟨w.heap.size, 10, none⟩ (.string q5.qu)).setCell ⟨w.heap.size, 11, none⟩ (.bool q5.hf)).setCell ⟨w.heap.size, 12, none⟩ (.string q5.fr)) ∧ w.grownBy (((((((((((((W5.setCell ⟨w.heap.size, 0, none⟩ (.string q5.sc)).setCell ⟨w.heap.size, 1, none⟩ (.string q5.us)).setCell ⟨w.heap.size, 2, none⟩ (.string q5.pw)).setCell ⟨w.heap.size, 3, none⟩ (.int .i64 q5.hk)).setCell ⟨w.heap.size, 4, none⟩ (.string q5.hn)).setCell ⟨w.heap.size, 5, none⟩ (.int .i64 q5.ha)).setCell ⟨w.heap.size, 6, none⟩ (.int .i64 q5.po)).setCell ⟨w.heap.size, 7, none⟩ (.slice a n c)).setCell ⟨w.heap.size, 8, none⟩ (.string q5.op)).setCell ⟨w.heap.size, 9, none⟩ (.bool q5.hq)).setCell ⟨w.heap.size, 10, none⟩ (.string q5.qu)).setCell ⟨w.heap.size, 11, none⟩ (.bool q5.hf)).setCell ⟨w.heap.size, 12, none⟩ (.string q5.fr)) (some r)) := ⟨(OwnS.put13 HS5.out.ow (by omega)).mono (by omega), rd_put13 HS5.out.rd HS5.out.lt.1 _ _ _ _ _ _ _ _ _ _ _ _ _, grown_put13 HS5.out.gr (Nat.le_refl _) _ _ _ _ _ _ _ _ _ _ _ _ _⟩
 have HFF : Hid (Fit2 q5 ∧ n = q5.ps.length) := ⟨HS5.out.fit, HS5.out.len⟩
 clear HS5
 go_wp2
 refine bodyPost_ret (v := .agg #[(.string q5.sc), (.string q5.us), (.string q5.pw), (.int .i64 q5.hk), (.string q5.hn), (.int .i64 q5.ha), (.int .i64 q5.po), (.slice a n c), (.string q5.op), (.bool q5.hq), (.string q5.qu), (.bool q5.hf), (.string q5.fr)]) (by simp [results, Tryz.results80, go_sem, e0, e1, e2, e3, e4, e5, e6, e7, e8, e9, e10, e11, e12]) rfl ⟨q5, a, n, c, p5, rfl, HFIN.out.1, HFF, by omega, HFIN.out.2.1, HFIN.out.2.2⟩
theorem l11AnyUrl (B r p : Nat) (w : World) (hp : p ≤ 500) (h : Rd B r p w) :
  Calls Tryz.prog 80 #[.pointer (some ⟨r, 0, none⟩)] w fun e w' => ∃ (q : P) (a : Option Addr) (n c p' : Nat), e = .returned (.agg #[(.string q.sc), (.string q.us), (.string q.pw), (.int .i64 q.hk), (.string q.hn), (.int .i64 q.ha), (.int .i64 q.po), (.slice a n c), (.string q.op), (.bool q.hq), (.string q.qu), (.bool q.hf), (.string q.fr)]) ∧ OwnS w.heap.size (.slice a n c) q.ps w' ∧ Hid (Fit2 q ∧ n = q.ps.length) ∧ p' ≤ p + 300 ∧ Rd B r p' w' ∧ w.grownBy w' (some r) := by
 have hrl := h.lt
 obtain ⟨V0, hV0⟩ : ∃ V, V = w.alloc (.cells #[(.string ⟨#[]⟩), (.string ⟨#[]⟩), (.string ⟨#[]⟩), (.int .i64 0), (.string ⟨#[]⟩), (.int .i64 0), (.int .i64 0), (.slice none 0 0), (.string ⟨#[]⟩), (.bool false), (.string ⟨#[]⟩), (.bool false), (.string ⟨#[]⟩)] 31) := ⟨_, rfl⟩
 have HK0 : Hid (Blk w.heap.size #[(.string ⟨#[]⟩), (.string ⟨#[]⟩), (.string ⟨#[]⟩), (.int .i64 0), (.string ⟨#[]⟩), (.int .i64 0), (.int .i64 0), (.slice none 0 0), (.string ⟨#[]⟩), (.bool false), (.string ⟨#[]⟩), (.bool false), (.string ⟨#[]⟩)] 31 V0) := by show Blk _ _ _ _; rw [hV0]; exact Blk.new w _ _
 have HR0 : Hid (Rd B r p V0) := by rw [hV0]; exact rd_more h _
 have HG0 : Hid (w.grownBy V0 (some r)) := by rw [hV0]; exact World.grownBy_alloc w _ _
 have HZ0 : Hid (V0.heap.size = w.heap.size + 1) := by show _ = _; rw [hV0]; simp
 clear h
 go_enter Tryz.func80, Tryz.ntmps80
 go_upto_region 1 with fail
 rw [← hV0]
 clear hV0
 go_wp2_with fail
 refine (l11Url B r p _ (by omega) HR0.out).mono ?_
 rintro e w1 ⟨q, a0, n, c0, p1, rfl, o1, hF, hp1, r1, g1⟩
 have HK1 : Hid (Blk w.heap.size #[(.string ⟨#[]⟩), (.string ⟨#[]⟩), (.string ⟨#[]⟩), (.int .i64 0), (.string ⟨#[]⟩), (.int .i64 0), (.int .i64 0), (.slice none 0 0), (.string ⟨#[]⟩), (.bool false), (.string ⟨#[]⟩), (.bool false), (.string ⟨#[]⟩)] 31 w1) := (g1.block _ HK0.out.lt (by simp; omega)).trans HK0.out
 have HG1 : Hid (w.grownBy w1 (some r)) := grown_trans HG0.out g1
 have HR1 : Hid (Rd B r p1 w1) := r1
 have CL : Hid (Calls Tryz.prog 97 #[.agg #[(.string q.sc), (.string q.us), (.string q.pw), (.int .i64 q.hk), (.string q.hn), (.int .i64 q.ha), (.int .i64 q.po), (.slice a0 n c0), (.string q.op), (.bool q.hq), (.string q.qu), (.bool q.hf), (.string q.fr)]] w1 fun e w' => ∃ a c, e = .returned (.agg #[(.string q.sc), (.string q.us), (.string q.pw), (.int .i64 q.hk), (.string q.hn), (.int .i64 q.ha), (.int .i64 q.po), (.slice a n c), (.string q.op), (.bool q.hq), (.string q.qu), (.bool q.hf), (.string q.fr)]) ∧ OwnS w1.heap.size (.slice a n c) q.ps w' ∧ Below w1.heap.size w1 w') := by
  have hs : StrsOf a0 n q.ps w1 := by
   obtain ⟨a1, c1, h1, h2, s1⟩ := o1.strs
   rw [← hF.out.2] at h1 s1
   injection h1 with e1 e2 e3
   rw [← e1] at s1
   exact s1
  exact l3Copy q a0 n c0 w1 hs (by have := hF.out.2; have := hF.out.1.tot; have : q.ps.length ≤ q.tot := (by unfold P.tot; omega); omega)
 clear o1 r1 g1 HK0 HR0 HG0
 go_wp2_with fail
 refine CL.out.mono ?_
 rintro e W2 ⟨a, c, rfl, o2, d2⟩
 have hsz : w.heap.size < w1.heap.size := HK1.out.lt
 obtain ⟨V, hV⟩ : ∃ V, V = W2.alloc (.cells #[(.string q.sc), (.string q.us), (.string q.pw), (.int .i64 q.hk), (.string q.hn), (.int .i64 q.ha), (.int .i64 q.po), (.slice a n c), (.string q.op), (.bool q.hq), (.string q.qu), (.bool q.hf), (.string q.fr)] 31) := ⟨_, rfl⟩
 have HDV : Hid (Below w1.heap.size w1 V) := by show Below _ _ _; rw [hV]; exact d2.alloc d2.size _
 have HS : Hid (Sa B r w W2.heap.size q a n c p1 V) :=
  ⟨fit2_of q q hF.out.1 0 (by omega) (by decide) (by have := hF.out.1.p1; omega), hF.out.2, by rw [hV]; exact Blk.new W2 _ _, by rw [hV]; exact (o2.later ((Below.refl _ W2).alloc (Nat.le_refl _) _)).mono (by omega), HK1.out.below HDV.out HK1.out.lt, HR1.out.below HDV.out HR1.out.lt, grown_below HG1.out (HDV.out.mono (by have := HG1.out.size; omega)), ⟨hrl, by have := d2.size; omega⟩⟩
 clear o2 d2 HK1 HR1 HG1 HDV CL
 go_upto_region 2 with fail
 rw [← hV]
 clear hV
 generalize W2.heap.size = gu at *
 go_wp2_with fail
 refine (pick B r p1 20 _ (by decide) (by decide) (by omega) HS.out.rd).mono ?_
 rintro e w3 ⟨v, rfl, hv0, hv1, r3, g3⟩
 have HS3 : Hid (Sa B r w gu q a n c (p1 + 1) w3) := HS.out.step g3 r3
 have hr3 : r < w3.heap.size := r3.lt
 clear HS r3 g3
 by_cases hk : v = 0
 ·subst hk
  go_wp2_with fail
  refine (rdOf B r (p1 + 1) w3.heap.size 5 schsL 9 (0, 0) _ _ rfl (heap_alloc_new w3 _) (by omega) (by simp [schsL]) (by simp [schsL]) (by omega) (rd_more HS3.out.rd _)).mono ?_
  rintro e w4 ⟨x, hx, rfl, r4, g4⟩
  have hxs := schsL_size x hx
  obtain ⟨q5, hq5⟩ : ∃ q5, q5 = ({ q with sc := x } : P) := ⟨_, rfl⟩
  have HS4 : Hid (Sa B r w gu q a n c (p1 + 1 + 1) w4) := (HS3.out.alloc _).step g4 r4
  obtain ⟨k0, k1, k2, k3, k4, k5, k6, k7, k8, k9, k10, k11, k12⟩ := Blk.cells13a HS4.out.ub
  have fk := HS4.out.ub.free
  go_upto_region 19 with fail
  obtain ⟨W5, hW5⟩ : ∃ W, W = w4.setCell ⟨gu, 0, none⟩ (.string x) := ⟨_, rfl⟩
  obtain ⟨p5, hp5⟩ : ∃ p5, p5 = p1 + 1 + 1 := ⟨_, rfl⟩
  have HS5 : Hid (Sa B r w gu q5 a n c p5 W5) := by rw [hW5, hp5]; exact HS4.out.put (q' := q5) 0 (.string x) (fit2_of q q5 hF.out.1 5 (by rw [hq5]; unfold P.tot; show _ ≤ _; simp only; omega) (by decide) (by rw [hq5]; have := hF.out.1.p1; show q.po ≤ _; omega)) (by rw [hq5]) (by rw [hq5]; rfl)
  rw [← hW5]
  clear hW5 HS4 HS3 r4 g4 hx hq5 k0 k1 k2 k3 k4 k5 k6 k7 k8 k9 k10 k11 k12 fk
  exact anyEnd (p := p) HS5 (by omega) (by assumption)
 by_cases hk3 : v = 3
 ·have hk := hk3
  clear hk3
  subst hk
  go_wp2_with fail
  refine (rdOf B r (p1 + 1) w3.heap.size 4 qsL 9 (0, 0) _ _ rfl (heap_alloc_new w3 _) (by omega) (by simp [qsL]) (by simp [qsL]) (by omega) (rd_more HS3.out.rd _)).mono ?_
  rintro e w4 ⟨x, hx, rfl, r4, g4⟩
  have hxs := qsL_size x hx
  obtain ⟨q5, hq5⟩ : ∃ q5, q5 = ({ q with qu := x } : P) := ⟨_, rfl⟩
  have HS4 : Hid (Sa B r w gu q a n c (p1 + 1 + 1) w4) := (HS3.out.alloc _).step g4 r4
  obtain ⟨k0, k1, k2, k3, k4, k5, k6, k7, k8, k9, k10, k11, k12⟩ := Blk.cells13a HS4.out.ub
  have fk := HS4.out.ub.free
  go_upto_region 19 with fail
  obtain ⟨W5, hW5⟩ : ∃ W, W = w4.setCell ⟨gu, 10, none⟩ (.string x) := ⟨_, rfl⟩
  obtain ⟨p5, hp5⟩ : ∃ p5, p5 = p1 + 1 + 1 := ⟨_, rfl⟩
  have HS5 : Hid (Sa B r w gu q5 a n c p5 W5) := by rw [hW5, hp5]; exact HS4.out.put (q' := q5) 10 (.string x) (fit2_of q q5 hF.out.1 5 (by rw [hq5]; unfold P.tot; show _ ≤ _; simp only; omega) (by decide) (by rw [hq5]; have := hF.out.1.p1; show q.po ≤ _; omega)) (by rw [hq5]) (by rw [hq5]; rfl)
  rw [← hW5]
  clear hW5 HS4 HS3 r4 g4 hx hq5 k0 k1 k2 k3 k4 k5 k6 k7 k8 k9 k10 k11 k12 fk
  exact anyEnd (p := p) HS5 (by omega) (by assumption)
 by_cases hk6 : v = 6
 ·have hk := hk6
  clear hk6
  subst hk
  go_wp2_with fail
  refine (rdOf B r (p1 + 1) w3.heap.size 4 ussL 9 (0, 0) _ _ rfl (heap_alloc_new w3 _) (by omega) (by simp [ussL]) (by simp [ussL]) (by omega) (rd_more HS3.out.rd _)).mono ?_
  rintro e w4 ⟨x, hx, rfl, r4, g4⟩
  have hxs := ussL_size x hx
  obtain ⟨q5, hq5⟩ : ∃ q5, q5 = ({ q with us := x } : P) := ⟨_, rfl⟩
  have HS4 : Hid (Sa B r w gu q a n c (p1 + 1 + 1) w4) := (HS3.out.alloc _).step g4 r4
  obtain ⟨k0, k1, k2, k3, k4, k5, k6, k7, k8, k9, k10, k11, k12⟩ := Blk.cells13a HS4.out.ub
  have fk := HS4.out.ub.free
  go_upto_region 19 with fail
  obtain ⟨W5, hW5⟩ : ∃ W, W = w4.setCell ⟨gu, 1, none⟩ (.string x) := ⟨_, rfl⟩
  obtain ⟨p5, hp5⟩ : ∃ p5, p5 = p1 + 1 + 1 := ⟨_, rfl⟩
  have HS5 : Hid (Sa B r w gu q5 a n c p5 W5) := by rw [hW5, hp5]; exact HS4.out.put (q' := q5) 1 (.string x) (fit2_of q q5 hF.out.1 5 (by rw [hq5]; unfold P.tot; show _ ≤ _; simp only; omega) (by decide) (by rw [hq5]; have := hF.out.1.p1; show q.po ≤ _; omega)) (by rw [hq5]) (by rw [hq5]; rfl)
  rw [← hW5]
  clear hW5 HS4 HS3 r4 g4 hx hq5 k0 k1 k2 k3 k4 k5 k6 k7 k8 k9 k10 k11 k12 fk
  exact anyEnd (p := p) HS5 (by omega) (by assumption)
 by_cases hk7 : v = 7
 ·have hk := hk7
  clear hk7
  subst hk
  go_wp2_with fail
  refine (rdOf B r (p1 + 1) w3.heap.size 4 opsL 9 (0, 0) _ _ rfl (heap_alloc_new w3 _) (by omega) (by simp [opsL]) (by simp [opsL]) (by omega) (rd_more HS3.out.rd _)).mono ?_
  rintro e w4 ⟨x, hx, rfl, r4, g4⟩
  have hxs := opsL_size x hx
  obtain ⟨q5, hq5⟩ : ∃ q5, q5 = ({ q with op := x } : P) := ⟨_, rfl⟩
  have HS4 : Hid (Sa B r w gu q a n c (p1 + 1 + 1) w4) := (HS3.out.alloc _).step g4 r4
  obtain ⟨k0, k1, k2, k3, k4, k5, k6, k7, k8, k9, k10, k11, k12⟩ := Blk.cells13a HS4.out.ub
  have fk := HS4.out.ub.free
  go_upto_region 19 with fail
  obtain ⟨W5, hW5⟩ : ∃ W, W = w4.setCell ⟨gu, 8, none⟩ (.string x) := ⟨_, rfl⟩
  obtain ⟨p5, hp5⟩ : ∃ p5, p5 = p1 + 1 + 1 := ⟨_, rfl⟩
  have HS5 : Hid (Sa B r w gu q5 a n c p5 W5) := by rw [hW5, hp5]; exact HS4.out.put (q' := q5) 8 (.string x) (fit2_of q q5 hF.out.1 5 (by rw [hq5]; unfold P.tot; show _ ≤ _; simp only; omega) (by decide) (by rw [hq5]; have := hF.out.1.p1; show q.po ≤ _; omega)) (by rw [hq5]) (by rw [hq5]; rfl)
  rw [← hW5]
  clear hW5 HS4 HS3 r4 g4 hx hq5 k0 k1 k2 k3 k4 k5 k6 k7 k8 k9 k10 k11 k12 fk
  exact anyEnd (p := p) HS5 (by omega) (by assumption)
 by_cases hk1 : v = 1
 ·have hk := hk1
  clear hk1
  subst hk
  go_wp2_with fail
  refine (rdOne B r (p1 + 1) w3.heap.size 7 prtsL 3 (0, 0) _ _ rfl (heap_alloc_new w3 _) (by omega) (by simp [prtsL]) (by simp [prtsL]) (by omega) (rd_more HS3.out.rd _)).mono ?_
  rintro e w4 ⟨x, hx, rfl, r4, g4⟩
  have hxs := prtsL_le x hx
  obtain ⟨q5, hq5⟩ : ∃ q5, q5 = ({ q with po := x } : P) := ⟨_, rfl⟩
  have HS4 : Hid (Sa B r w gu q a n c (p1 + 1 + 1) w4) := (HS3.out.alloc _).step g4 r4
  obtain ⟨k0, k1, k2, k3, k4, k5, k6, k7, k8, k9, k10, k11, k12⟩ := Blk.cells13a HS4.out.ub
  have fk := HS4.out.ub.free
  go_upto_region 19 with fail
  obtain ⟨W5, hW5⟩ : ∃ W, W = w4.setCell ⟨gu, 6, none⟩ (.int .i64 x) := ⟨_, rfl⟩
  obtain ⟨p5, hp5⟩ : ∃ p5, p5 = p1 + 1 + 1 := ⟨_, rfl⟩
  have HS5 : Hid (Sa B r w gu q5 a n c p5 W5) := by rw [hW5, hp5]; exact HS4.out.put (q' := q5) 6 (.int .i64 x) (fit2_of q q5 hF.out.1 0 (by rw [hq5]; exact Nat.le_refl _) (by decide) (by rw [hq5]; show x ≤ _; omega)) (by rw [hq5]) (by rw [hq5]; rfl)
  rw [← hW5]
  clear hW5 HS4 HS3 r4 g4 hx hq5 k0 k1 k2 k3 k4 k5 k6 k7 k8 k9 k10 k11 k12 fk
  exact anyEnd (p := p) HS5 (by omega) (by assumption)
 by_cases hk5 : v = 5
 ·have hk := hk5
  clear hk5
  subst hk
  obtain ⟨q5, hq5⟩ : ∃ q5, q5 = ({ q with hf := !q.hf } : P) := ⟨_, rfl⟩
  obtain ⟨k0, k1, k2, k3, k4, k5, k6, k7, k8, k9, k10, k11, k12⟩ := Blk.cells13a HS3.out.ub
  have fk := HS3.out.ub.free
  go_upto_region 19 with fail
  obtain ⟨W5, hW5⟩ : ∃ W, W = w3.setCell ⟨gu, 11, none⟩ (.bool !q.hf) := ⟨_, rfl⟩
  obtain ⟨p5, hp5⟩ : ∃ p5, p5 = p1 + 1 := ⟨_, rfl⟩
  have HS5 : Hid (Sa B r w gu q5 a n c p5 W5) := by rw [hW5, hp5]; exact HS3.out.put (q' := q5) 11 (.bool !q.hf) (fit2_of q q5 hF.out.1 0 (by rw [hq5]; exact Nat.le_refl _) (by decide) (by rw [hq5]; have := hF.out.1.p1; show q.po ≤ _; omega)) (by rw [hq5]) (by rw [hq5]; rfl)
  rw [← hW5]
  clear hW5 HS3 hq5 k0 k1 k2 k3 k4 k5 k6 k7 k8 k9 k10 k11 k12 fk
  exact anyEnd (p := p) HS5 (by omega) (by assumption)
 by_cases hk4 : v = 4
 ·have hk := hk4
  clear hk4
  subst hk
  go_wp2_with fail
  refine (l11AnyHost B r (p1 + 1) _ (by omega) HS3.out.rd).mono ?_
  rintro e w4 ⟨xk, xn, xa, p4, rfl, hxn, hp4, r4, g4⟩
  obtain ⟨q5, hq5⟩ : ∃ q5, q5 = ({ q with hk := xk, hn := xn, ha := xa } : P) := ⟨_, rfl⟩
  have HS4 : Hid (Sa B r w gu q a n c p4 w4) := HS3.out.step g4 r4
  obtain ⟨k0, k1, k2, k3, k4, k5, k6, k7, k8, k9, k10, k11, k12⟩ := Blk.cells13a HS4.out.ub
  have fk := HS4.out.ub.free
  go_upto_region 19 with fail
  obtain ⟨W5, hW5⟩ : ∃ W, W = ((w4.setCell ⟨gu, 3, none⟩ (.int .i64 xk)).setCell ⟨gu, 4, none⟩ (.string xn)).setCell ⟨gu, 5, none⟩ (.int .i64 xa) := ⟨_, rfl⟩
  obtain ⟨p5, hp5⟩ : ∃ p5, p5 = p4 := ⟨_, rfl⟩
  have f1 : Fit2 ({ q with hk := xk } : P) := fit2_of q _ hF.out.1 0 (Nat.le_refl _) (by decide) (by have := hF.out.1.p1; show q.po ≤ _; omega)
  have f2 : Fit2 ({ q with hk := xk, hn := xn } : P) := fit2_of q _ hF.out.1 200 (by unfold P.tot; show _ ≤ _; simp only; omega) (by decide) (by have := hF.out.1.p1; show q.po ≤ _; omega)
  have f3 : Fit2 ({ q with hk := xk, hn := xn, ha := xa } : P) := fit2_of q _ hF.out.1 200 (by unfold P.tot; show _ ≤ _; simp only; omega) (by decide) (by have := hF.out.1.p1; show q.po ≤ _; omega)
  have HS5 : Hid (Sa B r w gu q5 a n c p5 W5) := by
   rw [hW5, hp5, hq5]
   exact ((HS4.out.put (q' := { q with hk := xk }) 3 (.int .i64 xk) f1 rfl rfl).put (q' := { q with hk := xk, hn := xn }) 4 (.string xn) f2 rfl rfl).put (q' := { q with hk := xk, hn := xn, ha := xa }) 5 (.int .i64 xa) f3 rfl rfl
  rw [← hW5]
  clear hW5 HS4 HS3 r4 g4 hq5 f1 f2 f3 k0 k1 k2 k3 k4 k5 k6 k7 k8 k9 k10 k11 k12 fk
  exact anyEnd (p := p) HS5 (by omega) (by assumption)
 by_cases hk2 : v = 2
 ·have hk := hk2
  clear hk2
  subst hk
  have k7 : w3.cell? ⟨gu, 7, none⟩ = some (.slice a n c) := HS3.out.ub.cell 7
  have HC : Hid (∀ W p5, Sa B r w gu q a n c p5 W → W.cell? ⟨gu, 7, none⟩ = some (.slice a n c)) := fun W p5 h => h.ub.cell 7
  have m7 : ∀ o, (w3.alloc o).cell? ⟨gu, 7, none⟩ = some (.slice a n c) := fun o => HC.out _ _ (HS3.out.alloc o)
  have CF : Hid (Calls Tryz.prog 74 #[.pointer (some ⟨r, 0, none⟩), .slice (some ⟨w3.heap.size, 0, none⟩) 6 6] (w3.alloc (.cells #[.string ⟨#[]⟩, .string ⟨#[46, 46]⟩, .string ⟨#[97]⟩, .string ⟨#[97, 47, 98]⟩, .string ⟨#[97, 32, 98]⟩, .string ⟨#[63]⟩] 9)).drew fun e w4 => ∃ x, e = .returned (.string x) ∧ Hid (x.size ≤ 5 ∧ Sa B r w gu q a n c (p1 + 1 + 1) w4)) := by
   refine (rdOf B r (p1 + 1) w3.heap.size 6 pcsL 9 (0, 0) #[.string ⟨#[]⟩, .string ⟨#[46, 46]⟩, .string ⟨#[97]⟩, .string ⟨#[97, 47, 98]⟩, .string ⟨#[97, 32, 98]⟩, .string ⟨#[63]⟩] _ rfl (by exact heap_alloc_new w3 _) (by omega) (by simp [pcsL]) (by simp [pcsL]) (by omega) (by exact rd_more HS3.out.rd _)).mono ?_
   rintro e w4 ⟨x, hx, rfl, r4, g4⟩
   have gd : ∀ o, (w3.alloc o).grownBy ((w3.alloc o).drew) (some r) := fun o => grown_drew ⟨rfl, rfl, rfl, Nat.le_refl _, fun _ _ _ => rfl⟩
   exact ⟨x, rfl, pcsL_size x hx, (HS3.out.alloc _).step (grown_trans (gd _) g4) r4⟩
  go_upto_region 8 with fail
  go_region_law (first
   | (go_simp; go_at_call 74; refine CF.out.mono ?_; rintro e w4 ⟨x, rfl, H4⟩; have k74 : w4.cell? ⟨gu, 7, none⟩ = some (.slice a n c) := HC.out _ _ H4.out.2; have m74 : ∀ o, (w4.alloc o).cell? ⟨gu, 7, none⟩ = some (.slice a n c) := fun o => HC.out _ _ (H4.out.2.alloc o); dsimp only)
   | (refine stepAppendStr (w4.alloc (.cells #[.string x] 9)) (by rfl) (.tmp 24) (.tmp 28) (by rfl) (w.heap.size + 1) (.slice a n c) q.ps x.data.toList x (mk_list x).symm (H4.out.2.alloc _).ow (by rfl) w4.heap.size (0, 0) (by exact heap_alloc_new w4 _) 1 (by rfl) (by have := hF.out.1.tot; have : q.ps.length ≤ q.tot := (by unfold P.tot; omega); omega) (by have := H4.out.2.rb.lt; simp; omega) ?_; intro v5 w5 o5 d5 kp5; obtain ⟨a5, c5, hv5, hc5⟩ := o5.shape; subst hv5; have kb5 := kp5 gu _ (H4.out.2.alloc (.cells #[.string x] 9)).ub; have k75 : w5.cell? ⟨gu, 7, none⟩ = some (.slice a n c) := kb5.cell 7; have f75 := kb5.free)
   | fail)
  all_goals
   obtain ⟨q5, hq5⟩ : ∃ q5, q5 = ({ q with ps := q.ps ++ [x.data.toList] } : P) := ⟨_, rfl⟩
   obtain ⟨W5, hW5⟩ : ∃ W, W = w5.setCell ⟨gu, 7, none⟩ (.slice a5 (q.ps.length + 1) c5) := ⟨_, rfl⟩
   obtain ⟨p5, hp5⟩ : ∃ p5, p5 = p1 + 1 + 1 := ⟨_, rfl⟩
   obtain ⟨n5, hn5⟩ : ∃ n5, n5 = q.ps.length + 1 := ⟨_, rfl⟩
   have hxl : x.data.toList.length ≤ 5 := by have h1 := H4.out.1; have e : x.data.toList.length = x.size := (by simp); omega
   have hft : Fit2 q5 := fit2_of q q5 hF.out.1 6 (by rw [hq5]; unfold P.tot; show _ ≤ _; simp only [List.length_append, List.length_cons, List.length_nil, tot_one]; omega) (by decide) (by rw [hq5]; have := hF.out.1.p1; show q.po ≤ _; omega)
   have HS5 : Hid (Sa B r w gu q5 a5 n5 c5 p5 W5) := by
    rw [hW5, hp5, hn5]
    refine (H4.out.2.alloc (.cells #[.string x] 9)).app x.data.toList hq5 hft (by have := hF.out.2; omega) ?_ d5 kb5
    have := o5
    simp only [List.length_append, List.length_cons, List.length_nil] at this
    exact this
   rw [← hW5]
   clear hW5 H4 HS3 hq5 hn5 o5 d5 kp5 kb5 k75 f75 k74 m74 k7 m7 HC CF hft hc5
   go_upto_region 19 with fail
   exact anyEnd (p := p) HS5 (by omega) (by assumption)
 have z0 : (v == 0) = false := by simpa using hk
 have z1 : (v == 1) = false := by simpa using hk1
 have z2 : (v == 2) = false := by simpa using hk2
 have z3 : (v == 3) = false := by simpa using hk3
 have z4 : (v == 4) = false := by simpa using hk4
 have z5 : (v == 5) = false := by simpa using hk5
 have z6 : (v == 6) = false := by simpa using hk6
 have z7 : (v == 7) = false := by simpa using hk7
 clear hk hk1 hk2 hk3 hk4 hk5 hk6 hk7 hv0 hv1
 go_upto_region 19 with fail
 obtain ⟨p5, hp5⟩ : ∃ p5, p5 = p1 + 1 := ⟨_, rfl⟩
 obtain ⟨q5, hq5⟩ : ∃ q5, q5 = q := ⟨_, rfl⟩
 have HS5 : Hid (Sa B r w gu q5 a n c p5 w3) := by rw [hp5, hq5]; exact HS3.out
 clear HS3 hq5 z0 z1 z2 z3 z4 z5 z6 z7
 exact anyEnd (p := p) HS5 (by omega) (by assumption)
end Go.Proofs.YtnfhajhdpdidlaaGreatDoor
end
section
namespace Go.Proofs.YtnfhajhdpdidlaaGreatDoor
open Go.RowKit Go.Shelf
def homeL : List ByteArray := [⟨#[104, 116, 116, 112, 58, 47, 47, 97, 46, 99, 111, 109, 47]⟩, ⟨#[104, 116, 116, 112, 115, 58, 47, 47, 97, 46, 99, 111, 109, 47, 97, 47, 98]⟩, ⟨#[104, 116, 116, 112, 115, 58, 47, 47, 98, 46, 97, 46, 99, 111, 109, 47, 97]⟩, ⟨#[104, 116, 116, 112, 58, 47, 47, 98, 46, 97, 46, 99, 111, 109, 47, 120, 63, 113]⟩, ⟨#[104, 116, 116, 112, 115, 58, 47, 47, 99, 46, 111, 114, 103, 47]⟩, ⟨#[104, 116, 116, 112, 58, 47, 47, 49, 46, 50, 46, 51, 46, 52, 47, 97, 47]⟩, ⟨#[104, 116, 116, 112, 115, 58, 47, 47, 97, 46, 99, 111, 109, 47, 97, 47, 98, 47, 99, 35, 102]⟩, ⟨#[97, 98, 111, 117, 116, 58, 98, 108, 97, 110, 107]⟩]
theorem homeL_size (x : ByteArray) (h : x ∈ homeL) : x.size ≤ 200 := by
 simp only [homeL, List.mem_cons, List.not_mem_nil, or_false] at h
 rcases h with rfl | rfl | rfl | rfl | rfl | rfl | rfl | rfl <;> decide
theorem l11Home (B r p : Nat) (w : World) (hp : p ≤ 1000) (h : Rd B r p w) :
  Calls Tryz.prog 85 #[.pointer (some ⟨r, 0, none⟩)] w fun e w' => ∃ (q : P) (a : Option Addr) (n c p' : Nat), e = .returned (.agg #[(.string q.sc), (.string q.us), (.string q.pw), (.int .i64 q.hk), (.string q.hn), (.int .i64 q.ha), (.int .i64 q.po), (.slice a n c), (.string q.op), (.bool q.hq), (.string q.qu), (.bool q.hf), (.string q.fr)]) ∧ OwnS w.heap.size (.slice a n c) q.ps w' ∧ Hid (Fit q ∧ n = q.ps.length) ∧ p' ≤ p + 200 ∧ Rd B r p' w' ∧ w.grownBy w' (some r) := by
 have hrl := h.lt
 obtain ⟨V0, hV0⟩ : ∃ V, V = w.alloc (.cells #[(.string ⟨#[]⟩), (.string ⟨#[]⟩), (.string ⟨#[]⟩), (.int .i64 0), (.string ⟨#[]⟩), (.int .i64 0), (.int .i64 0), (.slice none 0 0), (.string ⟨#[]⟩), (.bool false), (.string ⟨#[]⟩), (.bool false), (.string ⟨#[]⟩)] 31) := ⟨_, rfl⟩
 have HK0 : Hid (Blk w.heap.size (P.zero.cells (.slice none 0 0)) 31 V0) := by show Blk _ _ _ _; rw [hV0]; exact Blk.new w _ _
 have HR0 : Hid (Rd B r p V0) := by rw [hV0]; exact rd_more h _
 have HG0 : Hid (w.grownBy V0 (some r)) := by rw [hV0]; exact World.grownBy_alloc w _ _
 clear h
 go_enter Tryz.func85, Tryz.ntmps85
 go_upto_region 1 with fail
 rw [← hV0]
 clear hV0
 have hrw := HR0.out.lt
 go_wp2_with fail
 refine (rdOf B r p V0.heap.size 8 homeL 9 (0, 0) _ _ rfl (heap_alloc_new V0 _) (by omega) (by simp [homeL]) (by simp [homeL]) (by omega) (rd_more HR0.out _)).mono ?_
 rintro e w1 ⟨x, hx, rfl, r1, g1⟩
 have hxs := homeL_size x hx
 have HK1 : Hid (Blk w.heap.size (P.zero.cells (.slice none 0 0)) 31 w1) := by
  have h1 := HK0.out.alloc (.cells (homeL.map Value.string).toArray 9)
  exact (g1.block _ h1.lt (by simp; omega)).trans h1
 have HG1 : Hid (w.grownBy w1 (some r)) := grown_trans (grown_alloc HG0.out _) g1
 have HR1 : Hid (Rd B r (p + 1) w1) := r1
 clear r1 g1 HK0 HR0 HG0 hx
 go_wp2_with fail
 refine (getSome x _ hxs).mono ?_
 rintro e W2 ⟨q, ok, a, n, c, rfl, hF, o2, d2⟩
 have hsz : w.heap.size < w1.heap.size := HK1.out.lt
 obtain ⟨V, hV⟩ : ∃ V, V = W2.alloc (.cells #[(.string q.sc), (.string q.us), (.string q.pw), (.int .i64 q.hk), (.string q.hn), (.int .i64 q.ha), (.int .i64 q.po), (.slice a n c), (.string q.op), (.bool q.hq), (.string q.qu), (.bool q.hf), (.string q.fr)] 31) := ⟨_, rfl⟩
 have HDV : Hid (Below w1.heap.size w1 V) := by show Below _ _ _; rw [hV]; exact d2.alloc d2.size _
 have HK3 : Hid (Blk w.heap.size (P.zero.cells (.slice none 0 0)) 31 V) := HK1.out.below HDV.out HK1.out.lt
 have HR3 : Hid (Rd B r (p + 1) V) := HR1.out.below HDV.out HR1.out.lt
 have HG3 : Hid (w.grownBy V (some r)) := grown_below HG1.out (HDV.out.mono (by have := HG1.out.size; omega))
 have HO3 : Hid (OwnS w1.heap.size (.slice a n c) q.ps V) := by rw [hV]; exact o2.later ((Below.refl _ W2).alloc (Nat.le_refl _) _)
 have HU3 : Hid (Blk W2.heap.size (q.cells (.slice a n c)) 31 V) := by show Blk _ _ _ _; rw [hV]; exact Blk.new W2 _ _
 clear o2 d2 HK1 HR1 HG1 HDV
 go_upto_region 2 with fail
 rw [← hV]
 clear hV
 generalize W2.heap.size = gu at *
 obtain ⟨k0, k1, k2, k3, k4, k5, k6, k7, k8, k9, k10, k11, k12⟩ := Blk.cells13a HU3.out
 obtain ⟨e0, e1, e2, e3, e4, e5, e6, e7, e8, e9, e10, e11, e12⟩ := Blk.cells13a HK3.out
 have fr := HK3.out.free
 have HFIN : Hid (OwnS w.heap.size (.slice a n c) q.ps (((((((((((((V.setCell ⟨w.heap.size, 0, none⟩ (.string q.sc)).setCell ⟨w.heap.size, 1, none⟩ (.string q.us)).setCell ⟨w.heap.size, 2, none⟩ (.string q.pw)).setCell ⟨w.heap.size, 3, none⟩ (.int .i64 q.hk)).setCell ⟨w.heap.size, 4, none⟩ (.string q.hn)).setCell ⟨w.heap.size, 5, none⟩ (.int .i64 q.ha)).setCell ⟨w.heap.size, 6, none⟩ (.int .i64 q.po)).setCell ⟨w.heap.size, 7, none⟩ (.slice a n c)).setCell ⟨w.heap.size, 8, none⟩ (.string q.op)).setCell ⟨w.heap.size, 9, none⟩ (.bool q.hq)).setCell ⟨w.heap.size, 10, none⟩ (.string q.qu)).setCell ⟨w.heap.size, 11, none⟩ (.bool q.hf)).setCell ⟨w.heap.size, 12, none⟩ (.string q.fr)) ∧ Rd B r (p + 1) (((((((((((((V.setCell ⟨w.heap.size, 0, none⟩ (.string q.sc)).setCell ⟨w.heap.size, 1, none⟩ (.string q.us)).setCell ⟨w.heap.size, 2, none⟩ (.string q.pw)).setCell ⟨w.heap.size, 3, none⟩ (.int .i64 q.hk)).setCell ⟨w.heap.size, 4, none⟩ (.string q.hn)).setCell ⟨w.heap.size, 5, none⟩ (.int .i64 q.ha)).setCell ⟨w.heap.size, 6, none⟩ (.int .i64 q.po)).setCell ⟨w.heap.size, 7, none⟩ (.slice a n c)).setCell ⟨w.heap.size, 8, none⟩ (.string q.op)).setCell ⟨w.heap.size, 9, none⟩ (.bool q.hq)).setCell ⟨w.heap.size, 10, none⟩ (.string q.qu)).setCell ⟨w.heap.size, 11, none⟩ (.bool q.hf)).setCell ⟨w.heap.size, 12, none⟩ (.string q.fr)) ∧ w.grownBy (((((((((((((V.setCell ⟨w.heap.size, 0, none⟩ (.string q.sc)).setCell ⟨w.heap.size, 1, none⟩ (.string q.us)).setCell ⟨w.heap.size, 2, none⟩ (.string q.pw)).setCell ⟨w.heap.size, 3, none⟩ (.int .i64 q.hk)).setCell ⟨w.heap.size, 4, none⟩ (.string q.hn)).setCell ⟨w.heap.size, 5, none⟩ (.int .i64 q.ha)).setCell ⟨w.heap.size, 6, none⟩ (.int .i64 q.po)).setCell ⟨w.heap.size, 7, none⟩ (.slice a n c)).setCell ⟨w.heap.size, 8, none⟩ (.string q.op)).setCell ⟨w.heap.size, 9, none⟩ (.bool q.hq)).setCell ⟨w.heap.size, 10, none⟩ (.string q.qu)).setCell ⟨w.heap.size, 11, none⟩ (.bool q.hf)).setCell ⟨w.heap.size, 12, none⟩ (.string q.fr)) (some r)) := ⟨(OwnS.put13 HO3.out (by omega)).mono (by omega), rd_put13 HR3.out hrl _ _ _ _ _ _ _ _ _ _ _ _ _, grown_put13 HG3.out (Nat.le_refl _) _ _ _ _ _ _ _ _ _ _ _ _ _⟩
 clear HK3 HR3 HG3 HO3 HU3
 go_wp2
 refine bodyPost_ret (v := .agg #[(.string q.sc), (.string q.us), (.string q.pw), (.int .i64 q.hk), (.string q.hn), (.int .i64 q.ha), (.int .i64 q.po), (.slice a n c), (.string q.op), (.bool q.hq), (.string q.qu), (.bool q.hf), (.string q.fr)]) (by simp [results, Tryz.results85, go_sem, e0, e1, e2, e3, e4, e5, e6, e7, e8, e9, e10, e11, e12]) rfl ⟨q, a, n, c, p + 1, rfl, HFIN.out.1, hF, by omega, HFIN.out.2.1, HFIN.out.2.2⟩
end Go.Proofs.YtnfhajhdpdidlaaGreatDoor
end
section
namespace Go.Proofs.YtnfhajhdpdidlaaGreatDoor
open Go.RowKit Go.Shelf
theorem l11AnyHome (B r p : Nat) (w : World) (hp : p ≤ 400) (h : Rd B r p w) :
  Calls Tryz.prog 41 #[.pointer (some ⟨r, 0, none⟩)] w fun e w' => ∃ (q : P) (a : Option Addr) (n c p' : Nat), e = .returned (.agg #[(.string q.sc), (.string q.us), (.string q.pw), (.int .i64 q.hk), (.string q.hn), (.int .i64 q.ha), (.int .i64 q.po), (.slice a n c), (.string q.op), (.bool q.hq), (.string q.qu), (.bool q.hf), (.string q.fr)]) ∧ OwnS w.heap.size (.slice a n c) q.ps w' ∧ Hid (Fit2 q ∧ n = q.ps.length) ∧ p' ≤ p + 310 ∧ Rd B r p' w' ∧ w.grownBy w' (some r) := by
 have hrl := h.lt
 obtain ⟨V0, hV0⟩ : ∃ V, V = w.alloc (.cells #[(.string ⟨#[]⟩), (.string ⟨#[]⟩), (.string ⟨#[]⟩), (.int .i64 0), (.string ⟨#[]⟩), (.int .i64 0), (.int .i64 0), (.slice none 0 0), (.string ⟨#[]⟩), (.bool false), (.string ⟨#[]⟩), (.bool false), (.string ⟨#[]⟩)] 31) := ⟨_, rfl⟩
 have HK0 : Hid (Blk w.heap.size #[(.string ⟨#[]⟩), (.string ⟨#[]⟩), (.string ⟨#[]⟩), (.int .i64 0), (.string ⟨#[]⟩), (.int .i64 0), (.int .i64 0), (.slice none 0 0), (.string ⟨#[]⟩), (.bool false), (.string ⟨#[]⟩), (.bool false), (.string ⟨#[]⟩)] 31 V0) := by show Blk _ _ _ _; rw [hV0]; exact Blk.new w _ _
 have HR0 : Hid (Rd B r p V0) := by rw [hV0]; exact rd_more h _
 have HG0 : Hid (w.grownBy V0 (some r)) := by rw [hV0]; exact World.grownBy_alloc w _ _
 have HZ0 : Hid (V0.heap.size = w.heap.size + 1) := by show _ = _; rw [hV0]; simp
 clear h
 go_enter Tryz.func41, Tryz.ntmps41
 go_upto_region 1 with fail
 rw [← hV0]
 clear hV0
 go_wp2_with fail
 refine (pick B r p 8 _ (by decide) (by decide) (by omega) HR0.out).mono ?_
 rintro e w1 ⟨v, rfl, hv0, hv1, r1, g1⟩
 have HK1 : Hid (Blk w.heap.size #[(.string ⟨#[]⟩), (.string ⟨#[]⟩), (.string ⟨#[]⟩), (.int .i64 0), (.string ⟨#[]⟩), (.int .i64 0), (.int .i64 0), (.slice none 0 0), (.string ⟨#[]⟩), (.bool false), (.string ⟨#[]⟩), (.bool false), (.string ⟨#[]⟩)] 31 w1) := (g1.block _ HK0.out.lt (by have := HZ0.out; simp; omega)).trans HK0.out
 have HG1 : Hid (w.grownBy w1 (some r)) := grown_trans HG0.out g1
 have HR1 : Hid (Rd B r (p + 1) w1) := r1
 clear r1 g1 HK0 HR0 HG0
 by_cases hv : v = 0
 ·have e1 : (v == 0) = true := by rw [hv]; rfl
  clear hv0 hv1
  go_wp2_with fail
  refine (l11AnyUrl B r (p + 1) _ (by omega) HR1.out).mono ?_
  rintro e w2 ⟨q, a, n, c, p', rfl, o2, hF, hp2, r2, g2⟩
  have HK2 : Hid (Blk w.heap.size #[(.string ⟨#[]⟩), (.string ⟨#[]⟩), (.string ⟨#[]⟩), (.int .i64 0), (.string ⟨#[]⟩), (.int .i64 0), (.int .i64 0), (.slice none 0 0), (.string ⟨#[]⟩), (.bool false), (.string ⟨#[]⟩), (.bool false), (.string ⟨#[]⟩)] 31 w2) := (g2.block _ HK1.out.lt (by have := HZ0.out; simp; omega)).trans HK1.out
  have HG2 : Hid (w.grownBy w2 (some r)) := grown_trans HG1.out g2
  have HR2 : Hid (Rd B r p' w2) := r2
  have HO2 : Hid (OwnS w1.heap.size (.slice a n c) q.ps w2) := o2
  have HLT : Hid (w.heap.size < w1.heap.size) := HK1.out.lt
  have HF2 : Hid (Fit2 q ∧ n = q.ps.length) := hF
  clear o2 r2 g2 hF HK1 HG1 HR1
  have HFIN : Hid (OwnS w.heap.size (.slice a n c) q.ps (((((((((((((w2.setCell ⟨w.heap.size, 0, none⟩ (.string q.sc)).setCell ⟨w.heap.size, 1, none⟩ (.string q.us)).setCell ⟨w.heap.size, 2, none⟩ (.string q.pw)).setCell ⟨w.heap.size, 3, none⟩ (.int .i64 q.hk)).setCell ⟨w.heap.size, 4, none⟩ (.string q.hn)).setCell ⟨w.heap.size, 5, none⟩ (.int .i64 q.ha)).setCell ⟨w.heap.size, 6, none⟩ (.int .i64 q.po)).setCell ⟨w.heap.size, 7, none⟩ (.slice a n c)).setCell ⟨w.heap.size, 8, none⟩ (.string q.op)).setCell ⟨w.heap.size, 9, none⟩ (.bool q.hq)).setCell ⟨w.heap.size, 10, none⟩ (.string q.qu)).setCell ⟨w.heap.size, 11, none⟩ (.bool q.hf)).setCell ⟨w.heap.size, 12, none⟩ (.string q.fr)) ∧ Rd B r p' (((((((((((((w2.setCell ⟨w.heap.size, 0, none⟩ (.string q.sc)).setCell ⟨w.heap.size, 1, none⟩ (.string q.us)).setCell ⟨w.heap.size, 2, none⟩ (.string q.pw)).setCell ⟨w.heap.size, 3, none⟩ (.int .i64 q.hk)).setCell ⟨w.heap.size, 4, none⟩ (.string q.hn)).setCell ⟨w.heap.size, 5, none⟩ (.int .i64 q.ha)).setCell ⟨w.heap.size, 6, none⟩ (.int .i64 q.po)).setCell ⟨w.heap.size, 7, none⟩ (.slice a n c)).setCell ⟨w.heap.size, 8, none⟩ (.string q.op)).setCell ⟨w.heap.size, 9, none⟩ (.bool q.hq)).setCell ⟨w.heap.size, 10, none⟩ (.string q.qu)).setCell ⟨w.heap.size, 11, none⟩ (.bool q.hf)).setCell ⟨w.heap.size, 12, none⟩ (.string q.fr)) ∧ w.grownBy (((((((((((((w2.setCell ⟨w.heap.size, 0, none⟩ (.string q.sc)).setCell ⟨w.heap.size, 1, none⟩ (.string q.us)).setCell ⟨w.heap.size, 2, none⟩ (.string q.pw)).setCell ⟨w.heap.size, 3, none⟩ (.int .i64 q.hk)).setCell ⟨w.heap.size, 4, none⟩ (.string q.hn)).setCell ⟨w.heap.size, 5, none⟩ (.int .i64 q.ha)).setCell ⟨w.heap.size, 6, none⟩ (.int .i64 q.po)).setCell ⟨w.heap.size, 7, none⟩ (.slice a n c)).setCell ⟨w.heap.size, 8, none⟩ (.string q.op)).setCell ⟨w.heap.size, 9, none⟩ (.bool q.hq)).setCell ⟨w.heap.size, 10, none⟩ (.string q.qu)).setCell ⟨w.heap.size, 11, none⟩ (.bool q.hf)).setCell ⟨w.heap.size, 12, none⟩ (.string q.fr)) (some r)) := ⟨(OwnS.put13 HO2.out HLT.out).mono (by have := HLT.out; omega), rd_put13 HR2.out hrl _ _ _ _ _ _ _ _ _ _ _ _ _, grown_put13 HG2.out (Nat.le_refl _) _ _ _ _ _ _ _ _ _ _ _ _ _⟩
  obtain ⟨e0, e1, e2, e3, e4, e5, e6, e7, e8, e9, e10, e11, e12⟩ := Blk.cells13a HK2.out
  have fr := HK2.out.free
  clear HO2 HLT HK2 HG2 HR2
  go_wp2
  refine bodyPost_ret (v := .agg #[(.string q.sc), (.string q.us), (.string q.pw), (.int .i64 q.hk), (.string q.hn), (.int .i64 q.ha), (.int .i64 q.po), (.slice a n c), (.string q.op), (.bool q.hq), (.string q.qu), (.bool q.hf), (.string q.fr)]) (by simp [results, Tryz.results41, go_sem, e0, e1, e2, e3, e4, e5, e6, e7, e8, e9, e10, e11, e12]) rfl ⟨q, a, n, c, p', rfl, HFIN.out.1, HF2, by omega, HFIN.out.2.1, HFIN.out.2.2⟩
 ·have e1 : (v == 0) = false := beq_eq_false_iff_ne.2 hv
  clear hv0 hv1
  go_wp2_with fail
  refine (l11Home B r (p + 1) _ (by omega) HR1.out).mono ?_
  rintro e w2 ⟨q, a, n, c, p', rfl, o2, hF, hp2, r2, g2⟩
  have HK2 : Hid (Blk w.heap.size #[(.string ⟨#[]⟩), (.string ⟨#[]⟩), (.string ⟨#[]⟩), (.int .i64 0), (.string ⟨#[]⟩), (.int .i64 0), (.int .i64 0), (.slice none 0 0), (.string ⟨#[]⟩), (.bool false), (.string ⟨#[]⟩), (.bool false), (.string ⟨#[]⟩)] 31 w2) := (g2.block _ HK1.out.lt (by have := HZ0.out; simp; omega)).trans HK1.out
  have HG2 : Hid (w.grownBy w2 (some r)) := grown_trans HG1.out g2
  have HR2 : Hid (Rd B r p' w2) := r2
  have HO2 : Hid (OwnS w1.heap.size (.slice a n c) q.ps w2) := o2
  have HLT : Hid (w.heap.size < w1.heap.size) := HK1.out.lt
  have HF2 : Hid (Fit2 q ∧ n = q.ps.length) := ⟨fit2_of q q hF.out.1 0 (by omega) (by decide) (by have := hF.out.1.p1; omega), hF.out.2⟩
  clear o2 r2 g2 hF HK1 HG1 HR1
  have HFIN : Hid (OwnS w.heap.size (.slice a n c) q.ps (((((((((((((w2.setCell ⟨w.heap.size, 0, none⟩ (.string q.sc)).setCell ⟨w.heap.size, 1, none⟩ (.string q.us)).setCell ⟨w.heap.size, 2, none⟩ (.string q.pw)).setCell ⟨w.heap.size, 3, none⟩ (.int .i64 q.hk)).setCell ⟨w.heap.size, 4, none⟩ (.string q.hn)).setCell ⟨w.heap.size, 5, none⟩ (.int .i64 q.ha)).setCell ⟨w.heap.size, 6, none⟩ (.int .i64 q.po)).setCell ⟨w.heap.size, 7, none⟩ (.slice a n c)).setCell ⟨w.heap.size, 8, none⟩ (.string q.op)).setCell ⟨w.heap.size, 9, none⟩ (.bool q.hq)).setCell ⟨w.heap.size, 10, none⟩ (.string q.qu)).setCell ⟨w.heap.size, 11, none⟩ (.bool q.hf)).setCell ⟨w.heap.size, 12, none⟩ (.string q.fr)) ∧ Rd B r p' (((((((((((((w2.setCell ⟨w.heap.size, 0, none⟩ (.string q.sc)).setCell ⟨w.heap.size, 1, none⟩ (.string q.us)).setCell ⟨w.heap.size, 2, none⟩ (.string q.pw)).setCell ⟨w.heap.size, 3, none⟩ (.int .i64 q.hk)).setCell ⟨w.heap.size, 4, none⟩ (.string q.hn)).setCell ⟨w.heap.size, 5, none⟩ (.int .i64 q.ha)).setCell ⟨w.heap.size, 6, none⟩ (.int .i64 q.po)).setCell ⟨w.heap.size, 7, none⟩ (.slice a n c)).setCell ⟨w.heap.size, 8, none⟩ (.string q.op)).setCell ⟨w.heap.size, 9, none⟩ (.bool q.hq)).setCell ⟨w.heap.size, 10, none⟩ (.string q.qu)).setCell ⟨w.heap.size, 11, none⟩ (.bool q.hf)).setCell ⟨w.heap.size, 12, none⟩ (.string q.fr)) ∧ w.grownBy (((((((((((((w2.setCell ⟨w.heap.size, 0, none⟩ (.string q.sc)).setCell ⟨w.heap.size, 1, none⟩ (.string q.us)).setCell ⟨w.heap.size, 2, none⟩ (.string q.pw)).setCell ⟨w.heap.size, 3, none⟩ (.int .i64 q.hk)).setCell ⟨w.heap.size, 4, none⟩ (.string q.hn)).setCell ⟨w.heap.size, 5, none⟩ (.int .i64 q.ha)).setCell ⟨w.heap.size, 6, none⟩ (.int .i64 q.po)).setCell ⟨w.heap.size, 7, none⟩ (.slice a n c)).setCell ⟨w.heap.size, 8, none⟩ (.string q.op)).setCell ⟨w.heap.size, 9, none⟩ (.bool q.hq)).setCell ⟨w.heap.size, 10, none⟩ (.string q.qu)).setCell ⟨w.heap.size, 11, none⟩ (.bool q.hf)).setCell ⟨w.heap.size, 12, none⟩ (.string q.fr)) (some r)) := ⟨(OwnS.put13 HO2.out HLT.out).mono (by have := HLT.out; omega), rd_put13 HR2.out hrl _ _ _ _ _ _ _ _ _ _ _ _ _, grown_put13 HG2.out (Nat.le_refl _) _ _ _ _ _ _ _ _ _ _ _ _ _⟩
  obtain ⟨e0, e1, e2, e3, e4, e5, e6, e7, e8, e9, e10, e11, e12⟩ := Blk.cells13a HK2.out
  have fr := HK2.out.free
  clear HO2 HLT HK2 HG2 HR2
  go_wp2
  refine bodyPost_ret (v := .agg #[(.string q.sc), (.string q.us), (.string q.pw), (.int .i64 q.hk), (.string q.hn), (.int .i64 q.ha), (.int .i64 q.po), (.slice a n c), (.string q.op), (.bool q.hq), (.string q.qu), (.bool q.hf), (.string q.fr)]) (by simp [results, Tryz.results41, go_sem, e0, e1, e2, e3, e4, e5, e6, e7, e8, e9, e10, e11, e12]) rfl ⟨q, a, n, c, p', rfl, HFIN.out.1, HF2, by omega, HFIN.out.2.1, HFIN.out.2.2⟩
end Go.Proofs.YtnfhajhdpdidlaaGreatDoor
end
