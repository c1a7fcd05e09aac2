/- spec.DrawSiteSame draws two addresses. The law FnSiteSame answers true, whatever the code. -/
import Derived.Test.YtfcbjdooijhibaaGreatDoorCFnSiteSame10
import Derived.Test.YtfcbjdooijhibaaGreatDoorCFnSiteSame01
import Derived.Deep.Cut
import Derived.Test.YtfcbjdooijhibaaGreatDoorCFnSiteSame02
import Derived.Test.YtfcbjdooijhibaaGreatDoorCFnSiteSame03
import Derived.Test.YtfcbjdooijhibaaGreatDoorCFnSiteSame05
import Derived.Deep.RegionHeld3
set_option linter.unusedVariables false
set_option linter.unusedSimpArgs false
set_option maxHeartbeats 8000000
set_option maxRecDepth 100000
section
namespace Go.Proofs.YtfcbjdooijhibaaGreatDoor
open Go.RowKit Go.Shelf
theorem drawSiteSame (B : Nat) (a0 : Option Addr) (len cap : Nat) (w : World) (hB : B ≤ w.heap.size) (h : Code B w a0 len cap) :
  Calls Tryz.prog 26 #[.slice a0 len cap] w fun e w' => ∃ (q q' : P) (a a' : Option Addr) (n n' c c' : Nat), e = .returned (.tuple #[.agg #[(.string q.sc), (.string q.us), (.string q.pw), (.int .i64 q.hk), (.string q.hn), (.int .i64 q.ha), (.int .i64 q.po), (.slice a n c), (.string q.op), (.bool q.hq), (.string q.qu), (.bool q.hf), (.string q.fr)], .agg #[(.string q'.sc), (.string q'.us), (.string q'.pw), (.int .i64 q'.hk), (.string q'.hn), (.int .i64 q'.ha), (.int .i64 q'.po), (.slice a' n' c'), (.string q'.op), (.bool q'.hq), (.string q'.qu), (.bool q'.hf), (.string q'.fr)]]) ∧ StrsOf a n q.ps w' ∧ StrsOf a' n' q'.ps w' ∧ Hid (Fit3 q ∧ n = q.ps.length ∧ Fit3 q' ∧ n' = q'.ps.length) ∧ Below w.heap.size w w' := by
 obtain ⟨V0, hV0⟩ : ∃ V, V = (w.alloc (.cells #[(.string ⟨#[]⟩), (.string ⟨#[]⟩), (.string ⟨#[]⟩), (.int .i64 0), (.string ⟨#[]⟩), (.int .i64 0), (.int .i64 0), (.slice none 0 0), (.string ⟨#[]⟩), (.bool false), (.string ⟨#[]⟩), (.bool false), (.string ⟨#[]⟩)] 27)).alloc (.cells #[(.string ⟨#[]⟩), (.string ⟨#[]⟩), (.string ⟨#[]⟩), (.int .i64 0), (.string ⟨#[]⟩), (.int .i64 0), (.int .i64 0), (.slice none 0 0), (.string ⟨#[]⟩), (.bool false), (.string ⟨#[]⟩), (.bool false), (.string ⟨#[]⟩)] 27) := ⟨_, rfl⟩
 have HK0 : Hid (Blk w.heap.size (P.zero.cells (.slice none 0 0)) 27 V0) := by show Blk _ _ _ _; rw [hV0]; exact (Blk.new w _ _).alloc _
 have HJ0 : Hid (Blk (w.heap.size + 1) (P.zero.cells (.slice none 0 0)) 27 V0) := by
  show Blk _ _ _ _
  have := Blk.new (w.alloc (.cells #[(.string ⟨#[]⟩), (.string ⟨#[]⟩), (.string ⟨#[]⟩), (.int .i64 0), (.string ⟨#[]⟩), (.int .i64 0), (.int .i64 0), (.slice none 0 0), (.string ⟨#[]⟩), (.bool false), (.string ⟨#[]⟩), (.bool false), (.string ⟨#[]⟩)] 27)) #[(.string ⟨#[]⟩), (.string ⟨#[]⟩), (.string ⟨#[]⟩), (.int .i64 0), (.string ⟨#[]⟩), (.int .i64 0), (.int .i64 0), (.slice none 0 0), (.string ⟨#[]⟩), (.bool false), (.string ⟨#[]⟩), (.bool false), (.string ⟨#[]⟩)] 27
  rw [hV0]; unfold P.cells P.zero; simpa using this
 have HB0 : Hid (Below w.heap.size w V0) := by show Below _ _ _; rw [hV0]; exact ((Below.refl _ w).alloc (Nat.le_refl _) _).alloc (by simp) _
 have HC0 : Hid (Code B V0 a0 len cap) := by rw [hV0]; exact code_alloc (code_alloc h hB _) (by simp; omega) _
 have HZ0 : Hid (V0.heap.size = w.heap.size + 2) := by show _ = _; rw [hV0]; simp
 clear h
 go_enter Tryz.func26, Tryz.ntmps26
 go_upto_region 1 with fail
 rw [← hV0]
 clear hV0
 go_wp2_with fail
 refine (l1Open B a0 len cap _ (by have := HZ0.out; omega) HC0.out).mono ?_
 rintro e w1 ⟨rfl, hr, b1⟩
 have HR1 : Hid (Rd B V0.heap.size 0 w1) := hr
 have HK1 : Hid (Blk w.heap.size (P.zero.cells (.slice none 0 0)) 27 w1) := HK0.out.below b1 HK0.out.lt
 have HJ1 : Hid (Blk (w.heap.size + 1) (P.zero.cells (.slice none 0 0)) 27 w1) := HJ0.out.below b1 HJ0.out.lt
 have HB1 : Hid (Below w.heap.size w w1) := HB0.out.trans (b1.mono HB0.out.size)
 clear hr b1 HC0 HK0 HJ0 HB0
 go_wp2_with fail
 refine (l11Two B V0.heap.size 0 _ (by decide) HR1.out).mono ?_
 rintro e w2 ⟨q, q', a, a', n, n', c, c', p', rfl, o2, o3, hF, r2, g2⟩
 have HK2 : Hid (Blk w.heap.size (P.zero.cells (.slice none 0 0)) 27 w2) := (g2.block _ HK1.out.lt (by have := HZ0.out; simp; omega)).trans HK1.out
 have HJ2 : Hid (Blk (w.heap.size + 1) (P.zero.cells (.slice none 0 0)) 27 w2) := (g2.block _ HJ1.out.lt (by have := HZ0.out; simp; omega)).trans HJ1.out
 have HB2 : Hid (Below w.heap.size w w2) := HB1.out.trans (below_grown g2 (by have := HZ0.out; omega) HB1.out.size)
 have HO2 : Hid (OwnS (w1.heap.size + 2) (.slice a n c) q.ps w2) := o2
 have HO3 : Hid (OwnS (w1.heap.size + 2) (.slice a' n' c') q'.ps w2) := o3
 have HLT : Hid (w.heap.size + 1 < w1.heap.size) := HJ1.out.lt
 clear o2 o3 r2 g2 HK1 HJ1 HB1 HR1
 have HFIN : Hid (StrsOf a n q.ps ((((((((((((((((((((((((((w2.setCell ⟨w.heap.size, 0, none⟩ (.string q.sc)).setCell ⟨w.heap.size, 1, none⟩ (.string q.us)).setCell ⟨w.heap.size, 2, none⟩ (.string q.pw)).setCell ⟨w.heap.size, 3, none⟩ (.int .i64 q.hk)).setCell ⟨w.heap.size, 4, none⟩ (.string q.hn)).setCell ⟨w.heap.size, 5, none⟩ (.int .i64 q.ha)).setCell ⟨w.heap.size, 6, none⟩ (.int .i64 q.po)).setCell ⟨w.heap.size, 7, none⟩ (.slice a n c)).setCell ⟨w.heap.size, 8, none⟩ (.string q.op)).setCell ⟨w.heap.size, 9, none⟩ (.bool q.hq)).setCell ⟨w.heap.size, 10, none⟩ (.string q.qu)).setCell ⟨w.heap.size, 11, none⟩ (.bool q.hf)).setCell ⟨w.heap.size, 12, none⟩ (.string q.fr)).setCell ⟨(w.heap.size + 1), 0, none⟩ (.string q'.sc)).setCell ⟨(w.heap.size + 1), 1, none⟩ (.string q'.us)).setCell ⟨(w.heap.size + 1), 2, none⟩ (.string q'.pw)).setCell ⟨(w.heap.size + 1), 3, none⟩ (.int .i64 q'.hk)).setCell ⟨(w.heap.size + 1), 4, none⟩ (.string q'.hn)).setCell ⟨(w.heap.size + 1), 5, none⟩ (.int .i64 q'.ha)).setCell ⟨(w.heap.size + 1), 6, none⟩ (.int .i64 q'.po)).setCell ⟨(w.heap.size + 1), 7, none⟩ (.slice a' n' c')).setCell ⟨(w.heap.size + 1), 8, none⟩ (.string q'.op)).setCell ⟨(w.heap.size + 1), 9, none⟩ (.bool q'.hq)).setCell ⟨(w.heap.size + 1), 10, none⟩ (.string q'.qu)).setCell ⟨(w.heap.size + 1), 11, none⟩ (.bool q'.hf)).setCell ⟨(w.heap.size + 1), 12, none⟩ (.string q'.fr)) ∧ StrsOf a' n' q'.ps ((((((((((((((((((((((((((w2.setCell ⟨w.heap.size, 0, none⟩ (.string q.sc)).setCell ⟨w.heap.size, 1, none⟩ (.string q.us)).setCell ⟨w.heap.size, 2, none⟩ (.string q.pw)).setCell ⟨w.heap.size, 3, none⟩ (.int .i64 q.hk)).setCell ⟨w.heap.size, 4, none⟩ (.string q.hn)).setCell ⟨w.heap.size, 5, none⟩ (.int .i64 q.ha)).setCell ⟨w.heap.size, 6, none⟩ (.int .i64 q.po)).setCell ⟨w.heap.size, 7, none⟩ (.slice a n c)).setCell ⟨w.heap.size, 8, none⟩ (.string q.op)).setCell ⟨w.heap.size, 9, none⟩ (.bool q.hq)).setCell ⟨w.heap.size, 10, none⟩ (.string q.qu)).setCell ⟨w.heap.size, 11, none⟩ (.bool q.hf)).setCell ⟨w.heap.size, 12, none⟩ (.string q.fr)).setCell ⟨(w.heap.size + 1), 0, none⟩ (.string q'.sc)).setCell ⟨(w.heap.size + 1), 1, none⟩ (.string q'.us)).setCell ⟨(w.heap.size + 1), 2, none⟩ (.string q'.pw)).setCell ⟨(w.heap.size + 1), 3, none⟩ (.int .i64 q'.hk)).setCell ⟨(w.heap.size + 1), 4, none⟩ (.string q'.hn)).setCell ⟨(w.heap.size + 1), 5, none⟩ (.int .i64 q'.ha)).setCell ⟨(w.heap.size + 1), 6, none⟩ (.int .i64 q'.po)).setCell ⟨(w.heap.size + 1), 7, none⟩ (.slice a' n' c')).setCell ⟨(w.heap.size + 1), 8, none⟩ (.string q'.op)).setCell ⟨(w.heap.size + 1), 9, none⟩ (.bool q'.hq)).setCell ⟨(w.heap.size + 1), 10, none⟩ (.string q'.qu)).setCell ⟨(w.heap.size + 1), 11, none⟩ (.bool q'.hf)).setCell ⟨(w.heap.size + 1), 12, none⟩ (.string q'.fr)) ∧ Below w.heap.size w ((((((((((((((((((((((((((w2.setCell ⟨w.heap.size, 0, none⟩ (.string q.sc)).setCell ⟨w.heap.size, 1, none⟩ (.string q.us)).setCell ⟨w.heap.size, 2, none⟩ (.string q.pw)).setCell ⟨w.heap.size, 3, none⟩ (.int .i64 q.hk)).setCell ⟨w.heap.size, 4, none⟩ (.string q.hn)).setCell ⟨w.heap.size, 5, none⟩ (.int .i64 q.ha)).setCell ⟨w.heap.size, 6, none⟩ (.int .i64 q.po)).setCell ⟨w.heap.size, 7, none⟩ (.slice a n c)).setCell ⟨w.heap.size, 8, none⟩ (.string q.op)).setCell ⟨w.heap.size, 9, none⟩ (.bool q.hq)).setCell ⟨w.heap.size, 10, none⟩ (.string q.qu)).setCell ⟨w.heap.size, 11, none⟩ (.bool q.hf)).setCell ⟨w.heap.size, 12, none⟩ (.string q.fr)).setCell ⟨(w.heap.size + 1), 0, none⟩ (.string q'.sc)).setCell ⟨(w.heap.size + 1), 1, none⟩ (.string q'.us)).setCell ⟨(w.heap.size + 1), 2, none⟩ (.string q'.pw)).setCell ⟨(w.heap.size + 1), 3, none⟩ (.int .i64 q'.hk)).setCell ⟨(w.heap.size + 1), 4, none⟩ (.string q'.hn)).setCell ⟨(w.heap.size + 1), 5, none⟩ (.int .i64 q'.ha)).setCell ⟨(w.heap.size + 1), 6, none⟩ (.int .i64 q'.po)).setCell ⟨(w.heap.size + 1), 7, none⟩ (.slice a' n' c')).setCell ⟨(w.heap.size + 1), 8, none⟩ (.string q'.op)).setCell ⟨(w.heap.size + 1), 9, none⟩ (.bool q'.hq)).setCell ⟨(w.heap.size + 1), 10, none⟩ (.string q'.qu)).setCell ⟨(w.heap.size + 1), 11, none⟩ (.bool q'.hf)).setCell ⟨(w.heap.size + 1), 12, none⟩ (.string q'.fr))) := by
  have hl := HLT.out
  exact ⟨OwnS.strsN2 (OwnS.put13 (OwnS.put13 HO2.out (by omega)) (by omega)) hF.out.2.1, OwnS.strsN2 (OwnS.put13 (OwnS.put13 HO3.out (by omega)) (by omega)) hF.out.2.2.2, below_put13 (below_put13 HB2.out (Nat.le_refl _) _ _ _ _ _ _ _ _ _ _ _ _ _) (by omega) _ _ _ _ _ _ _ _ _ _ _ _ _⟩
 obtain ⟨e0, e1, e2, e3, e4, e5, e6, e7, e8, e9, e10, e11, e12⟩ := Blk.cells13a HK2.out
 have fr := HK2.out.free
 obtain ⟨d0, d1, d2, d3, d4, d5, d6, d7, d8, d9, d10, d11, d12⟩ := Blk.cells13a HJ2.out
 have fd := HJ2.out.free
 clear HO2 HO3 HLT HB2
 go_wp2
 refine bodyPost_ret (v := .tuple #[.agg #[(.string q.sc), (.string q.us), (.string q.pw), (.int .i64 q.hk), (.string q.hn), (.int .i64 q.ha), (.int .i64 q.po), (.slice a n c), (.string q.op), (.bool q.hq), (.string q.qu), (.bool q.hf), (.string q.fr)], .agg #[(.string q'.sc), (.string q'.us), (.string q'.pw), (.int .i64 q'.hk), (.string q'.hn), (.int .i64 q'.ha), (.int .i64 q'.po), (.slice a' n' c'), (.string q'.op), (.bool q'.hq), (.string q'.qu), (.bool q'.hf), (.string q'.fr)]]) (by simp [results, Tryz.results26, go_sem, e0, e1, e2, e3, e4, e5, e6, e7, e8, e9, e10, e11, e12, d0, d1, d2, d3, d4, d5, d6, d7, d8, d9, d10, d11, d12]) rfl ⟨q, q', a, a', n, n', c, c', rfl, HFIN.out.1, HFIN.out.2.1, hF, HFIN.out.2.2⟩
end Go.Proofs.YtfcbjdooijhibaaGreatDoor
end
section
namespace Go.Proofs.YtfcbjdooijhibaaGreatDoor
open Go.RowKit Go.Shelf
theorem fnSiteSame_walk (w : World) (hL : Lean1 w) (a0 : Option Addr) (len0 cap0 : Nat) (z0 : List Int) (h0 : IsRow .u8 w a0 len0 cap0 z0) :
  Calls Tryz.prog 7 #[.slice a0 len0 cap0] w fun e w' => e = .returned (.bool true) ∧ Below w.heap.size w w' := by
 have hC := code_of_row h0
 by_cases hbig : (1048576 : Int) < (len0 : Int)
 ·go_enter Tryz.func7, Tryz.ntmps7
  go_wp2
  go_ret
  exact ⟨rfl, Below.refl _ _⟩
 have hbig2 : (len0 : Int) ≤ 1048576 := by omega
 have A0 : Hid (Wat w w) := Wat.start hL
 clear hbig hL h0
 go_enter Tryz.func7, Tryz.ntmps7
 go_wp2_with fail
 refine (drawSiteSame w.heap.size a0 len0 cap0 _ (Nat.le_refl _) hC).mono ?_
 rintro e w1 ⟨p, q, a, a', n, n', c, c', rfl, s1, s2, hF, b1⟩
 obtain ⟨V1, hV1⟩ : ∃ V, V = (w1.alloc (.cells #[(.string p.sc), (.string p.us), (.string p.pw), (.int .i64 p.hk), (.string p.hn), (.int .i64 p.ha), (.int .i64 p.po), (.slice a n c), (.string p.op), (.bool p.hq), (.string p.qu), (.bool p.hf), (.string p.fr)] 27)).alloc (.cells #[(.string q.sc), (.string q.us), (.string q.pw), (.int .i64 q.hk), (.string q.hn), (.int .i64 q.ha), (.int .i64 q.po), (.slice a' n' c'), (.string q.op), (.bool q.hq), (.string q.qu), (.bool q.hf), (.string q.fr)] 27) := ⟨_, rfl⟩
 have U1 : Hid (Va w1.heap.size p a n c V1) := by show Va _ _ _ _ _ _; rw [hV1]; exact (Va.new _ s1).later (below_new _ _)
 have U2 : Hid (Va (w1.heap.size + 1) q a' n' c' V1) := by
  show Va _ _ _ _ _ _
  have := Va.new (c := c') (w1.alloc (.cells #[(.string p.sc), (.string p.us), (.string p.pw), (.int .i64 p.hk), (.string p.hn), (.int .i64 p.ha), (.int .i64 p.po), (.slice a n c), (.string p.op), (.bool p.hq), (.string p.qu), (.bool p.hf), (.string p.fr)] 27)) (s2.later (below_new _ _))
  rw [hV1]; simpa using this
 have A1 : Hid (Wat w V1) := A0.out.step (by rw [hV1]; exact (b1.trans ((below_new _ _).mono b1.size)).trans ((below_new _ _).mono ((b1.trans ((below_new _ _).mono b1.size)).size)))
 clear s1 s2 b1 A0 hC
 obtain ⟨r, hr⟩ : ∃ r : P, r = { p with po := 8123 } := ⟨_, rfl⟩
 obtain ⟨x, hx⟩ : ∃ x : Bool, x = true ↔ okP p ∧ okP q ∧ 0 ≤ ownZ p.sc ∧ p.sc = q.sc ∧ siteT p.hk p.hn p.ha = siteT q.hk q.hn q.ha := by
  by_cases h : okP p ∧ okP q ∧ 0 ≤ ownZ p.sc ∧ p.sc = q.sc ∧ siteT p.hk p.hn p.ha = siteT q.hk q.hn q.ha
  ·exact ⟨true, iff_of_true rfl h⟩
  ·exact ⟨false, iff_of_false (by decide) h⟩
 have hxs : x = true ↔ okP q ∧ okP p ∧ 0 ≤ ownZ q.sc ∧ q.sc = p.sc ∧ siteT q.hk q.hn q.ha = siteT p.hk p.hn p.ha := by
  rw [hx]
  exact ⟨fun h => ⟨h.2.1, h.1, by rw [← h.2.2.2.1]; exact h.2.2.1, h.2.2.2.1.symm, h.2.2.2.2.symm⟩, fun h => ⟨h.2.1, h.1, by rw [← h.2.2.2.1]; exact h.2.2.1, h.2.2.2.1.symm, h.2.2.2.2.symm⟩⟩
 obtain ⟨y, hy⟩ : ∃ y : Bool, y = true ↔ okP p ∧ okP q ∧ ¬ ownZ p.sc < 0 ∧ orgV p = orgV q := by
  by_cases h : okP p ∧ okP q ∧ ¬ ownZ p.sc < 0 ∧ orgV p = orgV q
  ·exact ⟨true, iff_of_true rfl h⟩
  ·exact ⟨false, iff_of_false (by decide) h⟩
 obtain ⟨z, hz⟩ : ∃ z : Bool, z = true ↔ okP r ∧ okP q ∧ 0 ≤ ownZ r.sc ∧ r.sc = q.sc ∧ siteT r.hk r.hn r.ha = siteT q.hk q.hn q.ha := by
  by_cases h : okP r ∧ okP q ∧ 0 ≤ ownZ r.sc ∧ r.sc = q.sc ∧ siteT r.hk r.hn r.ha = siteT q.hk q.hn q.ha
  ·exact ⟨true, iff_of_true rfl h⟩
  ·exact ⟨false, iff_of_false (by decide) h⟩
 obtain ⟨b, hb⟩ : ∃ b : Bool, b = true ↔ okP r := by
  by_cases h : okP r
  ·exact ⟨true, by simp [h]⟩
  ·exact ⟨false, by simp [h]⟩
 have hto : p.tot ≤ 1048576 := by have := hF.out.1.tot; omega
 have hpo : p.po ≤ 9223372036854775807 := by have := hF.out.1.po; omega
 have hto' : q.tot ≤ 1048576 := by have := hF.out.2.2.1.tot; omega
 have hpo' : q.po ≤ 9223372036854775807 := by have := hF.out.2.2.1.po; omega
 have htr : r.tot ≤ 1048576 := by rw [hr]; exact hto
 have hpr : r.po ≤ 9223372036854775807 := by rw [hr]; show (8123 : Int) ≤ _; omega
 have hps : r.ps = p.ps := by rw [hr]
 have KXY : Hid (y = true → x = true) := fun h => by
  obtain ⟨h1, h2, h3, h4⟩ := hy.1 h
  have ho' : ¬ ownZ q.sc < 0 := fun h5 => by
   have e : orgV q = #[.string ⟨#[]⟩, .int .i64 0, .string ⟨#[]⟩, .int .i64 0, .int .i64 0] := by unfold orgV; rw [if_pos h5]
   rw [e] at h4
   unfold orgV at h4
   rw [if_neg h3] at h4
   simp only [Array.mk.injEq, List.cons.injEq, Value.string.injEq] at h4
   rw [h4.1] at h3
   exact h3 (by decide)
  unfold orgV at h4
  rw [if_neg h3, if_neg ho'] at h4
  simp only [Array.mk.injEq, List.cons.injEq, Value.string.injEq, Value.int.injEq, true_and] at h4
  exact hx.2 ⟨h1, h2, by omega, h4.1, by rw [h4.2.1, h4.2.2.1, h4.2.2.2.1]⟩
 have KZ : Hid (x = true → b = true → z = true) := fun h h' => by
  have h1 := hx.1 h
  exact hz.2 ⟨hb.1 h', h1.2.1, by rw [hr]; exact h1.2.2.1, by rw [hr]; exact h1.2.2.2.1, by rw [hr]; exact h1.2.2.2.2⟩
 have CI : Hid (∀ W, Lean1 W → StrsOf a n p.ps W → StrsOf a' n' q.ps W → Calls Tryz.prog 23 #[.agg #[(.string p.sc), (.string p.us), (.string p.pw), (.int .i64 p.hk), (.string p.hn), (.int .i64 p.ha), (.int .i64 p.po), (.slice a n c), (.string p.op), (.bool p.hq), (.string p.qu), (.bool p.hf), (.string p.fr)], .agg #[(.string q.sc), (.string q.us), (.string q.pw), (.int .i64 q.hk), (.string q.hn), (.int .i64 q.ha), (.int .i64 q.po), (.slice a' n' c'), (.string q.op), (.bool q.hq), (.string q.qu), (.bool q.hf), (.string q.fr)]] W fun e w' => e = .returned (.bool x) ∧ Below W.heap.size W w') := fun W hW s s' => implSiteSame p q a a' n n' c c' W hW s s' hto hto' hpo hpo' x hx
 have CJ : Hid (∀ W, Lean1 W → StrsOf a n p.ps W → StrsOf a' n' q.ps W → Calls Tryz.prog 23 #[.agg #[(.string q.sc), (.string q.us), (.string q.pw), (.int .i64 q.hk), (.string q.hn), (.int .i64 q.ha), (.int .i64 q.po), (.slice a' n' c'), (.string q.op), (.bool q.hq), (.string q.qu), (.bool q.hf), (.string q.fr)], .agg #[(.string p.sc), (.string p.us), (.string p.pw), (.int .i64 p.hk), (.string p.hn), (.int .i64 p.ha), (.int .i64 p.po), (.slice a n c), (.string p.op), (.bool p.hq), (.string p.qu), (.bool p.hf), (.string p.fr)]] W fun e w' => e = .returned (.bool x) ∧ Below W.heap.size W w') := fun W hW s s' => implSiteSame q p a' a n' n c' c W hW s' s hto' hto hpo' hpo x hxs
 have CS : Hid (∀ W, StrsOf a n p.ps W → StrsOf a' n' q.ps W → Calls Tryz.prog 22 #[.agg #[(.string p.sc), (.string p.us), (.string p.pw), (.int .i64 p.hk), (.string p.hn), (.int .i64 p.ha), (.int .i64 p.po), (.slice a n c), (.string p.op), (.bool p.hq), (.string p.qu), (.bool p.hf), (.string p.fr)], .agg #[(.string q.sc), (.string q.us), (.string q.pw), (.int .i64 q.hk), (.string q.hn), (.int .i64 q.ha), (.int .i64 q.po), (.slice a' n' c'), (.string q.op), (.bool q.hq), (.string q.qu), (.bool q.hf), (.string q.fr)]] W fun e w' => e = .returned (.bool x) ∧ Below W.heap.size W w') := fun W s s' => specSiteSame p q a a' n n' c c' W s s' hto hto' hpo hpo' x hx
 have CO : Hid (∀ W, Lean1 W → StrsOf a n p.ps W → StrsOf a' n' q.ps W → Calls Tryz.prog 25 #[.agg #[(.string p.sc), (.string p.us), (.string p.pw), (.int .i64 p.hk), (.string p.hn), (.int .i64 p.ha), (.int .i64 p.po), (.slice a n c), (.string p.op), (.bool p.hq), (.string p.qu), (.bool p.hf), (.string p.fr)], .agg #[(.string q.sc), (.string q.us), (.string q.pw), (.int .i64 q.hk), (.string q.hn), (.int .i64 q.ha), (.int .i64 q.po), (.slice a' n' c'), (.string q.op), (.bool q.hq), (.string q.qu), (.bool q.hf), (.string q.fr)]] W fun e w' => e = .returned (.bool y) ∧ Below W.heap.size W w') := fun W hW s s' => implOriginSame p q a a' n n' c c' W hW s s' hto hto' hpo hpo' y hy
 have CK : Hid (∀ W, Lean1 W → StrsOf a n r.ps W → Calls Tryz.prog 27 #[.agg #[(.string r.sc), (.string r.us), (.string r.pw), (.int .i64 r.hk), (.string r.hn), (.int .i64 r.ha), (.int .i64 r.po), (.slice a n c), (.string r.op), (.bool r.hq), (.string r.qu), (.bool r.hf), (.string r.fr)]] W fun e w' => e = .returned (.bool b) ∧ Below W.heap.size W w') := fun W hW s => implUrlOk r a n c W hW s htr hpr b hb
 have CZ : Hid (∀ W, Lean1 W → StrsOf a n r.ps W → StrsOf a' n' q.ps W → Calls Tryz.prog 23 #[.agg #[(.string r.sc), (.string r.us), (.string r.pw), (.int .i64 r.hk), (.string r.hn), (.int .i64 r.ha), (.int .i64 r.po), (.slice a n c), (.string r.op), (.bool r.hq), (.string r.qu), (.bool r.hf), (.string r.fr)], .agg #[(.string q.sc), (.string q.us), (.string q.pw), (.int .i64 q.hk), (.string q.hn), (.int .i64 q.ha), (.int .i64 q.po), (.slice a' n' c'), (.string q.op), (.bool q.hq), (.string q.qu), (.bool q.hf), (.string q.fr)]] W fun e w' => e = .returned (.bool z) ∧ Below W.heap.size W w') := fun W hW s s' => implSiteSame r q a a' n n' c c' W hW s s' htr hto' hpr hpo' z hz
 have HR : Hid (r = { p with po := 8123 }) := hr
 clear hb hx hxs hy hz hto hpo hto' hpo' htr hpr hF hr hps
 go_upto_region 4 with fail
 rw [← hV1]
 clear hV1
 generalize w1.heap.size = g1 at *
 obtain ⟨k0, k1, k2, k3, k4, k5, k6, k7, k8, k9, k10, k11, k12⟩ := Blk.cells13a U1.out.bk
 obtain ⟨j0, j1, j2, j3, j4, j5, j6, j7, j8, j9, j10, j11, j12⟩ := Blk.cells13a U2.out.bk
 go_wp2_with fail
 refine (CI.out _ A1.out.le U1.out.st U2.out.st).mono ?_
 rintro e w2 ⟨rfl, d2⟩
 have A9 : Hid (Wat w w2) := A1.out.step d2
 have U8 : Hid (Va g1 p a n c w2) := U1.out.later d2
 have U9 : Hid (Va (g1 + 1) q a' n' c' w2) := U2.out.later d2
 clear d2 A1 U1 U2 k0 k1 k2 k3 k4 k5 k6 k7 k8 k9 k10 k11 k12 j0 j1 j2 j3 j4 j5 j6 j7 j8 j9 j10 j11 j12
 have A1 := A9
 have U1 := U8
 have U2 := U9
 clear A9 U8 U9
 obtain ⟨k0, k1, k2, k3, k4, k5, k6, k7, k8, k9, k10, k11, k12⟩ := Blk.cells13a U1.out.bk
 obtain ⟨j0, j1, j2, j3, j4, j5, j6, j7, j8, j9, j10, j11, j12⟩ := Blk.cells13a U2.out.bk
 go_wp2_with fail
 refine (CS.out _ U1.out.st U2.out.st).mono ?_
 rintro e w3 ⟨rfl, d3⟩
 have A9 : Hid (Wat w w3) := A1.out.step d3
 have U8 : Hid (Va g1 p a n c w3) := U1.out.later d3
 have U9 : Hid (Va (g1 + 1) q a' n' c' w3) := U2.out.later d3
 clear d3 A1 U1 U2 k0 k1 k2 k3 k4 k5 k6 k7 k8 k9 k10 k11 k12 j0 j1 j2 j3 j4 j5 j6 j7 j8 j9 j10 j11 j12
 have A1 := A9
 have U1 := U8
 have U2 := U9
 clear A9 U8 U9
 obtain ⟨k0, k1, k2, k3, k4, k5, k6, k7, k8, k9, k10, k11, k12⟩ := Blk.cells13a U1.out.bk
 obtain ⟨j0, j1, j2, j3, j4, j5, j6, j7, j8, j9, j10, j11, j12⟩ := Blk.cells13a U2.out.bk
 go_wp2_with fail
 refine (CJ.out _ A1.out.le U1.out.st U2.out.st).mono ?_
 rintro e w4 ⟨rfl, d4⟩
 have A9 : Hid (Wat w w4) := A1.out.step d4
 have U8 : Hid (Va g1 p a n c w4) := U1.out.later d4
 have U9 : Hid (Va (g1 + 1) q a' n' c' w4) := U2.out.later d4
 clear d4 A1 U1 U2 k0 k1 k2 k3 k4 k5 k6 k7 k8 k9 k10 k11 k12 j0 j1 j2 j3 j4 j5 j6 j7 j8 j9 j10 j11 j12
 have A1 := A9
 have U1 := U8
 have U2 := U9
 clear A9 U8 U9
 obtain ⟨k0, k1, k2, k3, k4, k5, k6, k7, k8, k9, k10, k11, k12⟩ := Blk.cells13a U1.out.bk
 obtain ⟨j0, j1, j2, j3, j4, j5, j6, j7, j8, j9, j10, j11, j12⟩ := Blk.cells13a U2.out.bk
 clear CI CS CJ
 obtain ⟨V6, hV6⟩ : ∃ V, V = w4.alloc (.cells #[(.string p.sc), (.string p.us), (.string p.pw), (.int .i64 p.hk), (.string p.hn), (.int .i64 p.ha), (.int .i64 8123), (.slice a n c), (.string p.op), (.bool p.hq), (.string p.qu), (.bool p.hf), (.string p.fr)] 27) := ⟨_, rfl⟩
 have D6 : Hid (Below w4.heap.size w4 V6) := by show Below _ _ _; rw [hV6]; exact below_new w4 _
 have U3 : Hid (Va w4.heap.size r a n c V6) := by
  have hs6 := U1.out.st.later D6.out
  refine ⟨?_, by rw [HR.out]; exact hs6⟩
  rw [HR.out, hV6]
  exact Blk.new w4 _ _
 have A6 : Hid (Wat w V6) := A1.out.step D6.out
 have U8 : Hid (Va g1 p a n c V6) := U1.out.later D6.out
 have U9 : Hid (Va (g1 + 1) q a' n' c' V6) := U2.out.later D6.out
 have kn : ∀ j, (w4.alloc (.cells #[(.string p.sc), (.string p.us), (.string p.pw), (.int .i64 p.hk), (.string p.hn), (.int .i64 p.ha), (.int .i64 p.po), (.slice a n c), (.string p.op), (.bool p.hq), (.string p.qu), (.bool p.hf), (.string p.fr)] 27)).cell? ⟨w4.heap.size, j, none⟩ = (#[(.string p.sc), (.string p.us), (.string p.pw), (.int .i64 p.hk), (.string p.hn), (.int .i64 p.ha), (.int .i64 p.po), (.slice a n c), (.string p.op), (.bool p.hq), (.string p.qu), (.bool p.hf), (.string p.fr)] : Array Value)[j]? := fun j => (Blk.new w4 _ _).cell j
 have k6n := kn 6
 have fn : ∀ j, (w4.alloc (.cells #[(.string p.sc), (.string p.us), (.string p.pw), (.int .i64 p.hk), (.string p.hn), (.int .i64 p.ha), (.int .i64 p.po), (.slice a n c), (.string p.op), (.bool p.hq), (.string p.qu), (.bool p.hf), (.string p.fr)] 27)).frozen? ⟨w4.heap.size, j, none⟩ = false := fun j => (Blk.new w4 _ _).free j
 clear D6 HR kn
 go_upto_region 9 with fail
 rw [← hV6]
 clear hV6 A1 U1 U2 k6n fn k0 k1 k2 k3 k4 k5 k6 k7 k8 k9 k10 k11 k12 j0 j1 j2 j3 j4 j5 j6 j7 j8 j9 j10 j11 j12
 have A1 := A6
 have U1 := U8
 have U2 := U9
 clear A6 U8 U9
 generalize w4.heap.size = g3 at *
 obtain ⟨k0, k1, k2, k3, k4, k5, k6, k7, k8, k9, k10, k11, k12⟩ := Blk.cells13a U1.out.bk
 obtain ⟨j0, j1, j2, j3, j4, j5, j6, j7, j8, j9, j10, j11, j12⟩ := Blk.cells13a U2.out.bk
 obtain ⟨i0, i1, i2, i3, i4, i5, i6, i7, i8, i9, i10, i11, i12⟩ := Blk.cells13a U3.out.bk
 go_wp2_with fail
 refine (CO.out _ A1.out.le U1.out.st U2.out.st).mono ?_
 rintro e w7 ⟨rfl, d7⟩
 have A9 : Hid (Wat w w7) := A1.out.step d7
 have U8 : Hid (Va g1 p a n c w7) := U1.out.later d7
 have U9 : Hid (Va (g1 + 1) q a' n' c' w7) := U2.out.later d7
 have U7 : Hid (Va g3 r a n c w7) := U3.out.later d7
 clear d7 A1 U1 U2 k0 k1 k2 k3 k4 k5 k6 k7 k8 k9 k10 k11 k12 j0 j1 j2 j3 j4 j5 j6 j7 j8 j9 j10 j11 j12 U3 i0 i1 i2 i3 i4 i5 i6 i7 i8 i9 i10 i11 i12
 have A1 := A9
 have U1 := U8
 have U2 := U9
 clear A9 U8 U9
 have U3 := U7
 clear U7
 obtain ⟨k0, k1, k2, k3, k4, k5, k6, k7, k8, k9, k10, k11, k12⟩ := Blk.cells13a U1.out.bk
 obtain ⟨j0, j1, j2, j3, j4, j5, j6, j7, j8, j9, j10, j11, j12⟩ := Blk.cells13a U2.out.bk
 obtain ⟨i0, i1, i2, i3, i4, i5, i6, i7, i8, i9, i10, i11, i12⟩ := Blk.cells13a U3.out.bk
 clear CO
 cases hxx : x with
 | false =>
  have hyy : y = false := by
   cases hyy : y with
   | false => rfl
   | true => have := KXY.out hyy; rw [hxx] at this; cases this
  subst hxx
  subst hyy
  clear KXY KZ CK CZ
  go_wp2
  go_ret
  exact ⟨rfl, A1.out.bw⟩
 | true =>
  subst hxx
  clear KXY
  cases hyy : y with
  | false =>
   subst hyy
   go_wp2_with fail
   refine (CK.out _ A1.out.le U3.out.st).mono ?_
   rintro e w8 ⟨rfl, d8⟩
   have A9 : Hid (Wat w w8) := A1.out.step d8
   have U8 : Hid (Va g1 p a n c w8) := U1.out.later d8
   have U9 : Hid (Va (g1 + 1) q a' n' c' w8) := U2.out.later d8
   have U7 : Hid (Va g3 r a n c w8) := U3.out.later d8
   clear d8 A1 U1 U2 k0 k1 k2 k3 k4 k5 k6 k7 k8 k9 k10 k11 k12 j0 j1 j2 j3 j4 j5 j6 j7 j8 j9 j10 j11 j12 U3 i0 i1 i2 i3 i4 i5 i6 i7 i8 i9 i10 i11 i12
   have A1 := A9
   have U1 := U8
   have U2 := U9
   clear A9 U8 U9
   have U3 := U7
   clear U7
   obtain ⟨k0, k1, k2, k3, k4, k5, k6, k7, k8, k9, k10, k11, k12⟩ := Blk.cells13a U1.out.bk
   obtain ⟨j0, j1, j2, j3, j4, j5, j6, j7, j8, j9, j10, j11, j12⟩ := Blk.cells13a U2.out.bk
   obtain ⟨i0, i1, i2, i3, i4, i5, i6, i7, i8, i9, i10, i11, i12⟩ := Blk.cells13a U3.out.bk
   cases hbb : b with
   | false =>
    subst hbb
    clear KZ CZ CK
    go_wp2
    go_ret
    exact ⟨rfl, A1.out.bw⟩
   | true =>
    have hzz := KZ.out (by first | trivial | rfl) hbb
    subst hbb
    subst hzz
    clear KZ CK
    go_wp2_with fail
    refine (CZ.out _ A1.out.le U3.out.st U2.out.st).mono ?_
    rintro e w9 ⟨rfl, d9⟩
    have A9 : Hid (Wat w w9) := A1.out.step d9
    have U8 : Hid (Va g1 p a n c w9) := U1.out.later d9
    have U9 : Hid (Va (g1 + 1) q a' n' c' w9) := U2.out.later d9
    have U7 : Hid (Va g3 r a n c w9) := U3.out.later d9
    clear d9 A1 U1 U2 k0 k1 k2 k3 k4 k5 k6 k7 k8 k9 k10 k11 k12 j0 j1 j2 j3 j4 j5 j6 j7 j8 j9 j10 j11 j12 U3 i0 i1 i2 i3 i4 i5 i6 i7 i8 i9 i10 i11 i12
    have A1 := A9
    have U1 := U8
    have U2 := U9
    clear A9 U8 U9
    have U3 := U7
    clear U7
    obtain ⟨k0, k1, k2, k3, k4, k5, k6, k7, k8, k9, k10, k11, k12⟩ := Blk.cells13a U1.out.bk
    obtain ⟨j0, j1, j2, j3, j4, j5, j6, j7, j8, j9, j10, j11, j12⟩ := Blk.cells13a U2.out.bk
    obtain ⟨i0, i1, i2, i3, i4, i5, i6, i7, i8, i9, i10, i11, i12⟩ := Blk.cells13a U3.out.bk
    clear CZ
    go_wp2
    go_ret
    exact ⟨rfl, A1.out.bw⟩
  | true =>
   subst hyy
   go_wp2_with fail
   refine (CK.out _ A1.out.le U3.out.st).mono ?_
   rintro e w8 ⟨rfl, d8⟩
   have A9 : Hid (Wat w w8) := A1.out.step d8
   have U8 : Hid (Va g1 p a n c w8) := U1.out.later d8
   have U9 : Hid (Va (g1 + 1) q a' n' c' w8) := U2.out.later d8
   have U7 : Hid (Va g3 r a n c w8) := U3.out.later d8
   clear d8 A1 U1 U2 k0 k1 k2 k3 k4 k5 k6 k7 k8 k9 k10 k11 k12 j0 j1 j2 j3 j4 j5 j6 j7 j8 j9 j10 j11 j12 U3 i0 i1 i2 i3 i4 i5 i6 i7 i8 i9 i10 i11 i12
   have A1 := A9
   have U1 := U8
   have U2 := U9
   clear A9 U8 U9
   have U3 := U7
   clear U7
   obtain ⟨k0, k1, k2, k3, k4, k5, k6, k7, k8, k9, k10, k11, k12⟩ := Blk.cells13a U1.out.bk
   obtain ⟨j0, j1, j2, j3, j4, j5, j6, j7, j8, j9, j10, j11, j12⟩ := Blk.cells13a U2.out.bk
   obtain ⟨i0, i1, i2, i3, i4, i5, i6, i7, i8, i9, i10, i11, i12⟩ := Blk.cells13a U3.out.bk
   cases hbb : b with
   | false =>
    subst hbb
    clear KZ CZ CK
    go_wp2
    go_ret
    exact ⟨rfl, A1.out.bw⟩
   | true =>
    have hzz := KZ.out (by first | trivial | rfl) hbb
    subst hbb
    subst hzz
    clear KZ CK
    go_wp2_with fail
    refine (CZ.out _ A1.out.le U3.out.st U2.out.st).mono ?_
    rintro e w9 ⟨rfl, d9⟩
    have A9 : Hid (Wat w w9) := A1.out.step d9
    have U8 : Hid (Va g1 p a n c w9) := U1.out.later d9
    have U9 : Hid (Va (g1 + 1) q a' n' c' w9) := U2.out.later d9
    have U7 : Hid (Va g3 r a n c w9) := U3.out.later d9
    clear d9 A1 U1 U2 k0 k1 k2 k3 k4 k5 k6 k7 k8 k9 k10 k11 k12 j0 j1 j2 j3 j4 j5 j6 j7 j8 j9 j10 j11 j12 U3 i0 i1 i2 i3 i4 i5 i6 i7 i8 i9 i10 i11 i12
    have A1 := A9
    have U1 := U8
    have U2 := U9
    clear A9 U8 U9
    have U3 := U7
    clear U7
    obtain ⟨k0, k1, k2, k3, k4, k5, k6, k7, k8, k9, k10, k11, k12⟩ := Blk.cells13a U1.out.bk
    obtain ⟨j0, j1, j2, j3, j4, j5, j6, j7, j8, j9, j10, j11, j12⟩ := Blk.cells13a U2.out.bk
    obtain ⟨i0, i1, i2, i3, i4, i5, i6, i7, i8, i9, i10, i11, i12⟩ := Blk.cells13a U3.out.bk
    clear CZ
    go_wp2
    go_ret
    exact ⟨rfl, A1.out.bw⟩
end Go.Proofs.YtfcbjdooijhibaaGreatDoor
end
