/- The law FnOriginSame answers true at all codes and leaves its arguments as they were; the five tables of the library and io.EOF, which its row lays, are tied to the program's text by the card. -/
import Derived.Test.YtfcbjdooijhibaaGreatDoorCFnOriginSame09
import Derived.Test.YtfcbjdooijhibaaGreatDoorCFnOriginSame01
import Derived.Deep.Cut
import Derived.Test.YtfcbjdooijhibaaGreatDoorCFnOriginSame02
import Derived.Test.YtfcbjdooijhibaaGreatDoorCFnOriginSame04
import Derived.Test.YtfcbjdooijhibaaGreatDoorD38
import Derived.Deep.RegionHeld3
import Derived.Test.YtfcbjdooijhibaaGreatDoorCards
import Derived.Test.YtfcbjdooijhibaaGreatDoorTie
import Derived.Test.YtfcbjdooijhibaaGreatDoorD16
import Derived.WalkKit
import Derived.ProofKit
import Derived.OpenShut
import Derived.ShutString
import Derived.ChangeOld
import Derived.Below
import Derived.Deep.DeepHandedRow
import Derived.Deep.DeepLaidRun
set_option linter.unusedVariables false
set_option linter.unusedSimpArgs false
set_option maxHeartbeats 8000000
set_option maxRecDepth 100000
section
namespace Go.Proofs.YtfcbjdooijhibaaGreatDoor
open Go.RowKit Go.Shelf
theorem drawOriginSame (B : Nat) (a0 : Option Addr) (len cap : Nat) (w : World) (hB : B ≤ w.heap.size) (h : Code B w a0 len cap) :
  Calls Tryz.prog 28 #[.slice a0 len cap] w fun e w' => ∃ (q q' : P) (a a' : Option Addr) (n n' c c' : Nat), e = .returned (.tuple #[.agg #[(.string q.sc), (.string q.us), (.string q.pw), (.int .i64 q.hk), (.string q.hn), (.int .i64 q.ha), (.int .i64 q.po), (.slice a n c), (.string q.op), (.bool q.hq), (.string q.qu), (.bool q.hf), (.string q.fr)], .agg #[(.string q'.sc), (.string q'.us), (.string q'.pw), (.int .i64 q'.hk), (.string q'.hn), (.int .i64 q'.ha), (.int .i64 q'.po), (.slice a' n' c'), (.string q'.op), (.bool q'.hq), (.string q'.qu), (.bool q'.hf), (.string q'.fr)]]) ∧ StrsOf a n q.ps w' ∧ StrsOf a' n' q'.ps w' ∧ Hid (Fit3 q ∧ n = q.ps.length ∧ Fit3 q' ∧ n' = q'.ps.length) ∧ Below w.heap.size w w' := by
 obtain ⟨V0, hV0⟩ : ∃ V, V = (w.alloc (.cells #[(.string ⟨#[]⟩), (.string ⟨#[]⟩), (.string ⟨#[]⟩), (.int .i64 0), (.string ⟨#[]⟩), (.int .i64 0), (.int .i64 0), (.slice none 0 0), (.string ⟨#[]⟩), (.bool false), (.string ⟨#[]⟩), (.bool false), (.string ⟨#[]⟩)] 27)).alloc (.cells #[(.string ⟨#[]⟩), (.string ⟨#[]⟩), (.string ⟨#[]⟩), (.int .i64 0), (.string ⟨#[]⟩), (.int .i64 0), (.int .i64 0), (.slice none 0 0), (.string ⟨#[]⟩), (.bool false), (.string ⟨#[]⟩), (.bool false), (.string ⟨#[]⟩)] 27) := ⟨_, rfl⟩
 have HK0 : Hid (Blk w.heap.size (P.zero.cells (.slice none 0 0)) 27 V0) := by show Blk _ _ _ _; rw [hV0]; exact (Blk.new w _ _).alloc _
 have HJ0 : Hid (Blk (w.heap.size + 1) (P.zero.cells (.slice none 0 0)) 27 V0) := by
  show Blk _ _ _ _
  have := Blk.new (w.alloc (.cells #[(.string ⟨#[]⟩), (.string ⟨#[]⟩), (.string ⟨#[]⟩), (.int .i64 0), (.string ⟨#[]⟩), (.int .i64 0), (.int .i64 0), (.slice none 0 0), (.string ⟨#[]⟩), (.bool false), (.string ⟨#[]⟩), (.bool false), (.string ⟨#[]⟩)] 27)) #[(.string ⟨#[]⟩), (.string ⟨#[]⟩), (.string ⟨#[]⟩), (.int .i64 0), (.string ⟨#[]⟩), (.int .i64 0), (.int .i64 0), (.slice none 0 0), (.string ⟨#[]⟩), (.bool false), (.string ⟨#[]⟩), (.bool false), (.string ⟨#[]⟩)] 27
  rw [hV0]; unfold P.cells P.zero; simpa using this
 have HB0 : Hid (Below w.heap.size w V0) := by show Below _ _ _; rw [hV0]; exact ((Below.refl _ w).alloc (Nat.le_refl _) _).alloc (by simp) _
 have HC0 : Hid (Code B V0 a0 len cap) := by rw [hV0]; exact code_alloc (code_alloc h hB _) (by simp; omega) _
 have HZ0 : Hid (V0.heap.size = w.heap.size + 2) := by show _ = _; rw [hV0]; simp
 clear h
 go_enter Tryz.func28, Tryz.ntmps28
 go_upto_region 1 with fail
 rw [← hV0]
 clear hV0
 go_wp2_with fail
 refine (l1Open B a0 len cap _ (by have := HZ0.out; omega) HC0.out).mono ?_
 rintro e w1 ⟨rfl, hr, b1⟩
 have HR1 : Hid (Rd B V0.heap.size 0 w1) := hr
 have HK1 : Hid (Blk w.heap.size (P.zero.cells (.slice none 0 0)) 27 w1) := HK0.out.below b1 HK0.out.lt
 have HJ1 : Hid (Blk (w.heap.size + 1) (P.zero.cells (.slice none 0 0)) 27 w1) := HJ0.out.below b1 HJ0.out.lt
 have HB1 : Hid (Below w.heap.size w w1) := HB0.out.trans (b1.mono HB0.out.size)
 clear hr b1 HC0 HK0 HJ0 HB0
 go_wp2_with fail
 refine (l11Two B V0.heap.size 0 _ (by decide) HR1.out).mono ?_
 rintro e w2 ⟨q, q', a, a', n, n', c, c', p', rfl, o2, o3, hF, r2, g2⟩
 have HK2 : Hid (Blk w.heap.size (P.zero.cells (.slice none 0 0)) 27 w2) := (g2.block _ HK1.out.lt (by have := HZ0.out; simp; omega)).trans HK1.out
 have HJ2 : Hid (Blk (w.heap.size + 1) (P.zero.cells (.slice none 0 0)) 27 w2) := (g2.block _ HJ1.out.lt (by have := HZ0.out; simp; omega)).trans HJ1.out
 have HB2 : Hid (Below w.heap.size w w2) := HB1.out.trans (below_grown g2 (by have := HZ0.out; omega) HB1.out.size)
 have HO2 : Hid (OwnS (w1.heap.size + 2) (.slice a n c) q.ps w2) := o2
 have HO3 : Hid (OwnS (w1.heap.size + 2) (.slice a' n' c') q'.ps w2) := o3
 have HLT : Hid (w.heap.size + 1 < w1.heap.size) := HJ1.out.lt
 clear o2 o3 r2 g2 HK1 HJ1 HB1 HR1
 have HFIN : Hid (StrsOf a n q.ps ((((((((((((((((((((((((((w2.setCell ⟨w.heap.size, 0, none⟩ (.string q.sc)).setCell ⟨w.heap.size, 1, none⟩ (.string q.us)).setCell ⟨w.heap.size, 2, none⟩ (.string q.pw)).setCell ⟨w.heap.size, 3, none⟩ (.int .i64 q.hk)).setCell ⟨w.heap.size, 4, none⟩ (.string q.hn)).setCell ⟨w.heap.size, 5, none⟩ (.int .i64 q.ha)).setCell ⟨w.heap.size, 6, none⟩ (.int .i64 q.po)).setCell ⟨w.heap.size, 7, none⟩ (.slice a n c)).setCell ⟨w.heap.size, 8, none⟩ (.string q.op)).setCell ⟨w.heap.size, 9, none⟩ (.bool q.hq)).setCell ⟨w.heap.size, 10, none⟩ (.string q.qu)).setCell ⟨w.heap.size, 11, none⟩ (.bool q.hf)).setCell ⟨w.heap.size, 12, none⟩ (.string q.fr)).setCell ⟨(w.heap.size + 1), 0, none⟩ (.string q'.sc)).setCell ⟨(w.heap.size + 1), 1, none⟩ (.string q'.us)).setCell ⟨(w.heap.size + 1), 2, none⟩ (.string q'.pw)).setCell ⟨(w.heap.size + 1), 3, none⟩ (.int .i64 q'.hk)).setCell ⟨(w.heap.size + 1), 4, none⟩ (.string q'.hn)).setCell ⟨(w.heap.size + 1), 5, none⟩ (.int .i64 q'.ha)).setCell ⟨(w.heap.size + 1), 6, none⟩ (.int .i64 q'.po)).setCell ⟨(w.heap.size + 1), 7, none⟩ (.slice a' n' c')).setCell ⟨(w.heap.size + 1), 8, none⟩ (.string q'.op)).setCell ⟨(w.heap.size + 1), 9, none⟩ (.bool q'.hq)).setCell ⟨(w.heap.size + 1), 10, none⟩ (.string q'.qu)).setCell ⟨(w.heap.size + 1), 11, none⟩ (.bool q'.hf)).setCell ⟨(w.heap.size + 1), 12, none⟩ (.string q'.fr)) ∧ StrsOf a' n' q'.ps ((((((((((((((((((((((((((w2.setCell ⟨w.heap.size, 0, none⟩ (.string q.sc)).setCell ⟨w.heap.size, 1, none⟩ (.string q.us)).setCell ⟨w.heap.size, 2, none⟩ (.string q.pw)).setCell ⟨w.heap.size, 3, none⟩ (.int .i64 q.hk)).setCell ⟨w.heap.size, 4, none⟩ (.string q.hn)).setCell ⟨w.heap.size, 5, none⟩ (.int .i64 q.ha)).setCell ⟨w.heap.size, 6, none⟩ (.int .i64 q.po)).setCell ⟨w.heap.size, 7, none⟩ (.slice a n c)).setCell ⟨w.heap.size, 8, none⟩ (.string q.op)).setCell ⟨w.heap.size, 9, none⟩ (.bool q.hq)).setCell ⟨w.heap.size, 10, none⟩ (.string q.qu)).setCell ⟨w.heap.size, 11, none⟩ (.bool q.hf)).setCell ⟨w.heap.size, 12, none⟩ (.string q.fr)).setCell ⟨(w.heap.size + 1), 0, none⟩ (.string q'.sc)).setCell ⟨(w.heap.size + 1), 1, none⟩ (.string q'.us)).setCell ⟨(w.heap.size + 1), 2, none⟩ (.string q'.pw)).setCell ⟨(w.heap.size + 1), 3, none⟩ (.int .i64 q'.hk)).setCell ⟨(w.heap.size + 1), 4, none⟩ (.string q'.hn)).setCell ⟨(w.heap.size + 1), 5, none⟩ (.int .i64 q'.ha)).setCell ⟨(w.heap.size + 1), 6, none⟩ (.int .i64 q'.po)).setCell ⟨(w.heap.size + 1), 7, none⟩ (.slice a' n' c')).setCell ⟨(w.heap.size + 1), 8, none⟩ (.string q'.op)).setCell ⟨(w.heap.size + 1), 9, none⟩ (.bool q'.hq)).setCell ⟨(w.heap.size + 1), 10, none⟩ (.string q'.qu)).setCell ⟨(w.heap.size + 1), 11, none⟩ (.bool q'.hf)).setCell ⟨(w.heap.size + 1), 12, none⟩ (.string q'.fr)) ∧ Below w.heap.size w ((((((((((((((((((((((((((w2.setCell ⟨w.heap.size, 0, none⟩ (.string q.sc)).setCell ⟨w.heap.size, 1, none⟩ (.string q.us)).setCell ⟨w.heap.size, 2, none⟩ (.string q.pw)).setCell ⟨w.heap.size, 3, none⟩ (.int .i64 q.hk)).setCell ⟨w.heap.size, 4, none⟩ (.string q.hn)).setCell ⟨w.heap.size, 5, none⟩ (.int .i64 q.ha)).setCell ⟨w.heap.size, 6, none⟩ (.int .i64 q.po)).setCell ⟨w.heap.size, 7, none⟩ (.slice a n c)).setCell ⟨w.heap.size, 8, none⟩ (.string q.op)).setCell ⟨w.heap.size, 9, none⟩ (.bool q.hq)).setCell ⟨w.heap.size, 10, none⟩ (.string q.qu)).setCell ⟨w.heap.size, 11, none⟩ (.bool q.hf)).setCell ⟨w.heap.size, 12, none⟩ (.string q.fr)).setCell ⟨(w.heap.size + 1), 0, none⟩ (.string q'.sc)).setCell ⟨(w.heap.size + 1), 1, none⟩ (.string q'.us)).setCell ⟨(w.heap.size + 1), 2, none⟩ (.string q'.pw)).setCell ⟨(w.heap.size + 1), 3, none⟩ (.int .i64 q'.hk)).setCell ⟨(w.heap.size + 1), 4, none⟩ (.string q'.hn)).setCell ⟨(w.heap.size + 1), 5, none⟩ (.int .i64 q'.ha)).setCell ⟨(w.heap.size + 1), 6, none⟩ (.int .i64 q'.po)).setCell ⟨(w.heap.size + 1), 7, none⟩ (.slice a' n' c')).setCell ⟨(w.heap.size + 1), 8, none⟩ (.string q'.op)).setCell ⟨(w.heap.size + 1), 9, none⟩ (.bool q'.hq)).setCell ⟨(w.heap.size + 1), 10, none⟩ (.string q'.qu)).setCell ⟨(w.heap.size + 1), 11, none⟩ (.bool q'.hf)).setCell ⟨(w.heap.size + 1), 12, none⟩ (.string q'.fr))) := by
  have hl := HLT.out
  exact ⟨OwnS.strsN2 (OwnS.put13 (OwnS.put13 HO2.out (by omega)) (by omega)) hF.out.2.1, OwnS.strsN2 (OwnS.put13 (OwnS.put13 HO3.out (by omega)) (by omega)) hF.out.2.2.2, below_put13 (below_put13 HB2.out (Nat.le_refl _) _ _ _ _ _ _ _ _ _ _ _ _ _) (by omega) _ _ _ _ _ _ _ _ _ _ _ _ _⟩
 obtain ⟨e0, e1, e2, e3, e4, e5, e6, e7, e8, e9, e10, e11, e12⟩ := Blk.cells13a HK2.out
 have fr := HK2.out.free
 obtain ⟨d0, d1, d2, d3, d4, d5, d6, d7, d8, d9, d10, d11, d12⟩ := Blk.cells13a HJ2.out
 have fd := HJ2.out.free
 clear HO2 HO3 HLT HB2
 go_wp2
 refine bodyPost_ret (v := .tuple #[.agg #[(.string q.sc), (.string q.us), (.string q.pw), (.int .i64 q.hk), (.string q.hn), (.int .i64 q.ha), (.int .i64 q.po), (.slice a n c), (.string q.op), (.bool q.hq), (.string q.qu), (.bool q.hf), (.string q.fr)], .agg #[(.string q'.sc), (.string q'.us), (.string q'.pw), (.int .i64 q'.hk), (.string q'.hn), (.int .i64 q'.ha), (.int .i64 q'.po), (.slice a' n' c'), (.string q'.op), (.bool q'.hq), (.string q'.qu), (.bool q'.hf), (.string q'.fr)]]) (by simp [results, Tryz.results28, go_sem, e0, e1, e2, e3, e4, e5, e6, e7, e8, e9, e10, e11, e12, d0, d1, d2, d3, d4, d5, d6, d7, d8, d9, d10, d11, d12]) rfl ⟨q, q', a, a', n, n', c, c', rfl, HFIN.out.1, HFIN.out.2.1, hF, HFIN.out.2.2⟩
end Go.Proofs.YtfcbjdooijhibaaGreatDoor
end
section
namespace Go.Proofs.YtfcbjdooijhibaaGreatDoor
open Go.RowKit Go.Shelf
theorem code_below2 {B : Nat} {w w' : World} {a : Option Addr} {len cap : Nat} (h : Code B w a len cap) (hb : Below B w w') : Code B w' a len cap := by
 obtain ⟨hl, hm, hc⟩ := h
 refine ⟨hl, hm, ?_⟩
 rcases hc with hc | ⟨b, off, ha, hlt, z, hc⟩
 ·exact .inl hc
 ·exact .inr ⟨b, off, ha, hlt, z, fun i hi => ⟨(hb.cell (p := ⟨b, off + i, none⟩) hlt).trans (hc i hi).1, (hc i hi).2⟩⟩
def NoH (p q : P) : Prop := ¬ (p.hk = q.hk ∧ p.hn = q.hn ∧ p.ha = q.ha)
def YesH (p q : P) : Prop := p.hk = q.hk ∧ p.hn = q.hn ∧ p.ha = q.ha
theorem own_of_orgV (p q : P) (h : 0 ≤ ownZ p.sc) (e : orgV p = orgV q) : 0 ≤ ownZ q.sc := by
 rcases Int.lt_or_le (ownZ q.sc) 0 with h5 | h5
 rotate_left
 ·exact h5
 have e2 : orgV q = #[.string ⟨#[]⟩, .int .i64 0, .string ⟨#[]⟩, .int .i64 0, .int .i64 0] := by unfold orgV; rw [if_pos h5]
 rw [e2] at e
 unfold orgV at e
 rw [if_neg (by omega)] at e
 simp only [Array.mk.injEq, List.cons.injEq, Value.string.injEq] at e
 rw [e.1] at h
 exact absurd h (by decide)
theorem orgV_eq (p q : P) (ho : 0 ≤ ownZ p.sc) : orgV p = orgV q ↔ p.sc = q.sc ∧ (p.hk = q.hk ∧ p.hn = q.hn ∧ p.ha = q.ha) ∧ (if p.po < 0 then ownZ p.sc else p.po) = (if q.po < 0 then ownZ q.sc else q.po) := by
 constructor
 ·intro e
  have ho' := own_of_orgV p q ho e
  have n1 : ¬ ownZ p.sc < 0 := by omega
  have n2 : ¬ ownZ q.sc < 0 := by omega
  unfold orgV at e
  rw [if_neg n1, if_neg n2] at e
  simp only [Array.mk.injEq, List.cons.injEq, Value.string.injEq, Value.int.injEq, true_and, and_true] at e
  exact ⟨e.1, ⟨e.2.1, e.2.2.1, e.2.2.2.1⟩, e.2.2.2.2⟩
 ·intro ⟨h1, ⟨h2, h3, h4⟩, h5⟩
  have ho' : 0 ≤ ownZ q.sc := by rw [← h1]; exact ho
  have n1 : ¬ ownZ p.sc < 0 := by omega
  have n2 : ¬ ownZ q.sc < 0 := by omega
  unfold orgV
  rw [if_neg n1, if_neg n2, h5, h1, h2, h3, h4]
theorem port_own (p : P) (hp : okP p) : 0 ≤ (if p.po < 0 then ownZ p.sc else p.po) ↔ 0 ≤ ownZ p.sc := by
 rcases (ok_nf p hp).main with ⟨h0, _, _, _, _, _, h, _⟩ | ⟨h0, _, _, _, _, h, _⟩
 ·rw [if_pos (by omega)]
 ·rcases h with h | ⟨h1, h2, h3⟩
  ·rw [if_pos (by omega)]
  ·rw [if_neg (by omega)]; omega
theorem three_if {u1 v1 : Int} {u2 v2 : ByteArray} {u3 v3 : Int} {x : Bool} (hx : x = true ↔ (u1 = v1 ∧ u2 = v2 ∧ u3 = v3)) (w : World) :
  (if u1 = v1 then (if u2.toList = v2.toList then (if u3 = v3 then Result.ok (Next.value (Value.bool true)) w else Result.ok (Next.value (Value.bool false)) w) else Result.ok (Next.value (Value.bool false)) w) else Result.ok (Next.value (Value.bool false)) w) = Result.ok (Next.value (Value.bool x)) w := by
 cases hxx : x with
 | true =>
  obtain ⟨h1, h2, h3⟩ := hx.1 hxx
  rw [if_pos h1, if_pos (by rw [h2]), if_pos h3]
 | false =>
  by_cases g1 : u1 = v1
  ·rw [if_pos g1]
   by_cases g2 : u2.toList = v2.toList
   ·rw [if_pos g2]
    by_cases g3 : u3 = v3
    ·have := hx.2 ⟨g1, tl_eq g2, g3⟩
     rw [hxx] at this; cases this
    ·rw [if_neg g3]
   ·rw [if_neg g2]
  ·rw [if_neg g1]
theorem fnOriginSame_walk (w : World) (hL : Lean1 w) (a0 : Option Addr) (len0 cap0 : Nat) (z0 : List Int) (h0 : IsRow .u8 w a0 len0 cap0 z0) (a1 : Option Addr) (len1 cap1 : Nat) (z1 : List Int) (h1 : IsRow .u8 w a1 len1 cap1 z1) :
  Calls Tryz.prog 8 #[.slice a0 len0 cap0, .slice a1 len1 cap1] w fun e w' => e = .returned (.bool true) ∧ Below w.heap.size w w' := by
 have hC := code_of_row h0
 have hD := code_of_row h1
 by_cases hbig : (1048576 : Int) < (len0 : Int)
 ·go_enter Tryz.func8, Tryz.ntmps8
  go_wp2
  go_ret
  exact ⟨rfl, Below.refl _ _⟩
 by_cases hbig1 : (1048576 : Int) < (len1 : Int)
 ·go_enter Tryz.func8, Tryz.ntmps8
  go_wp2
  go_ret
  exact ⟨rfl, Below.refl _ _⟩
 have hbig2 : (len0 : Int) ≤ 1048576 := by omega
 have hbig3 : (len1 : Int) ≤ 1048576 := by omega
 have A0 : Hid (Wat w w) := Wat.start hL
 clear hbig hbig1 hL h0 h1
 go_enter Tryz.func8, Tryz.ntmps8
 go_wp2_with fail
 refine (drawOriginSame w.heap.size a0 len0 cap0 _ (Nat.le_refl _) hC).mono ?_
 rintro e w1 ⟨p, q, a, a', n, n', c, c', rfl, s1, s2, hF, b1⟩
 obtain ⟨V1, hV1⟩ : ∃ V, V = (w1.alloc (.cells #[(.string p.sc), (.string p.us), (.string p.pw), (.int .i64 p.hk), (.string p.hn), (.int .i64 p.ha), (.int .i64 p.po), (.slice a n c), (.string p.op), (.bool p.hq), (.string p.qu), (.bool p.hf), (.string p.fr)] 27)).alloc (.cells #[(.string q.sc), (.string q.us), (.string q.pw), (.int .i64 q.hk), (.string q.hn), (.int .i64 q.ha), (.int .i64 q.po), (.slice a' n' c'), (.string q.op), (.bool q.hq), (.string q.qu), (.bool q.hf), (.string q.fr)] 27) := ⟨_, rfl⟩
 have U1 : Hid (Va w1.heap.size p a n c V1) := by show Va _ _ _ _ _ _; rw [hV1]; exact (Va.new _ s1).later (below_new _ _)
 have U2 : Hid (Va (w1.heap.size + 1) q a' n' c' V1) := by
  show Va _ _ _ _ _ _
  have := Va.new (c := c') (w1.alloc (.cells #[(.string p.sc), (.string p.us), (.string p.pw), (.int .i64 p.hk), (.string p.hn), (.int .i64 p.ha), (.int .i64 p.po), (.slice a n c), (.string p.op), (.bool p.hq), (.string p.qu), (.bool p.hf), (.string p.fr)] 27)) (s2.later (below_new _ _))
  rw [hV1]; simpa using this
 have A1 : Hid (Wat w V1) := A0.out.step (by rw [hV1]; exact (b1.trans ((below_new _ _).mono b1.size)).trans ((below_new _ _).mono ((b1.trans ((below_new _ _).mono b1.size)).size)))
 have HD : Hid (∀ W, Below w.heap.size w W → Code w.heap.size W a1 len1 cap1) := fun W d => code_below2 hD d
 clear s1 s2 b1 A0 hC hD
 obtain ⟨x, hx⟩ : ∃ x : Bool, x = true ↔ okP p ∧ okP q ∧ ¬ ownZ p.sc < 0 ∧ orgV p = orgV q := by
  by_cases h : okP p ∧ okP q ∧ ¬ ownZ p.sc < 0 ∧ orgV p = orgV q
  ·exact ⟨true, iff_of_true rfl h⟩
  ·exact ⟨false, iff_of_false (by decide) h⟩
 have hxs : x = true ↔ okP q ∧ okP p ∧ ¬ ownZ q.sc < 0 ∧ orgV q = orgV p := by
  rw [hx]
  exact ⟨fun h => ⟨h.2.1, h.1, by have := own_of_orgV p q (by have := h.2.2.1; omega) h.2.2.2; omega, h.2.2.2.symm⟩, fun h => ⟨h.2.1, h.1, by have := own_of_orgV q p (by have := h.2.2.1; omega) h.2.2.2; omega, h.2.2.2.symm⟩⟩
 obtain ⟨b, hb⟩ : ∃ b : Bool, b = true ↔ okP p := by
  by_cases h : okP p
  ·exact ⟨true, by simp [h]⟩
  ·exact ⟨false, by simp [h]⟩
 obtain ⟨b', hb'⟩ : ∃ b : Bool, b = true ↔ okP q := by
  by_cases h : okP q
  ·exact ⟨true, by simp [h]⟩
  ·exact ⟨false, by simp [h]⟩
 have hto : p.tot ≤ 1048576 := by have := hF.out.1.tot; omega
 have hpo : p.po ≤ 9223372036854775807 := by have := hF.out.1.po; omega
 have hto' : q.tot ≤ 1048576 := by have := hF.out.2.2.1.tot; omega
 have hpo' : q.po ≤ 9223372036854775807 := by have := hF.out.2.2.1.po; omega
 have CI : Hid (∀ W, Lean1 W → StrsOf a n p.ps W → StrsOf a' n' q.ps W → Calls Tryz.prog 25 #[.agg #[(.string p.sc), (.string p.us), (.string p.pw), (.int .i64 p.hk), (.string p.hn), (.int .i64 p.ha), (.int .i64 p.po), (.slice a n c), (.string p.op), (.bool p.hq), (.string p.qu), (.bool p.hf), (.string p.fr)], .agg #[(.string q.sc), (.string q.us), (.string q.pw), (.int .i64 q.hk), (.string q.hn), (.int .i64 q.ha), (.int .i64 q.po), (.slice a' n' c'), (.string q.op), (.bool q.hq), (.string q.qu), (.bool q.hf), (.string q.fr)]] W fun e w' => e = .returned (.bool x) ∧ Below W.heap.size W w') := fun W hW s s' => implOriginSame p q a a' n n' c c' W hW s s' hto hto' hpo hpo' x hx
 have CJ : Hid (∀ W, Lean1 W → StrsOf a n p.ps W → StrsOf a' n' q.ps W → Calls Tryz.prog 25 #[.agg #[(.string q.sc), (.string q.us), (.string q.pw), (.int .i64 q.hk), (.string q.hn), (.int .i64 q.ha), (.int .i64 q.po), (.slice a' n' c'), (.string q.op), (.bool q.hq), (.string q.qu), (.bool q.hf), (.string q.fr)], .agg #[(.string p.sc), (.string p.us), (.string p.pw), (.int .i64 p.hk), (.string p.hn), (.int .i64 p.ha), (.int .i64 p.po), (.slice a n c), (.string p.op), (.bool p.hq), (.string p.qu), (.bool p.hf), (.string p.fr)]] W fun e w' => e = .returned (.bool x) ∧ Below W.heap.size W w') := fun W hW s s' => implOriginSame q p a' a n' n c' c W hW s' s hto' hto hpo' hpo x hxs
 have CS : Hid (∀ W, StrsOf a n p.ps W → StrsOf a' n' q.ps W → Calls Tryz.prog 24 #[.agg #[(.string p.sc), (.string p.us), (.string p.pw), (.int .i64 p.hk), (.string p.hn), (.int .i64 p.ha), (.int .i64 p.po), (.slice a n c), (.string p.op), (.bool p.hq), (.string p.qu), (.bool p.hf), (.string p.fr)], .agg #[(.string q.sc), (.string q.us), (.string q.pw), (.int .i64 q.hk), (.string q.hn), (.int .i64 q.ha), (.int .i64 q.po), (.slice a' n' c'), (.string q.op), (.bool q.hq), (.string q.qu), (.bool q.hf), (.string q.fr)]] W fun e w' => e = .returned (.bool x) ∧ Below W.heap.size W w') := fun W s s' => specOriginSame p q a a' n n' c c' W s s' hto hto' hpo hpo' x hx
 have CO : Hid (∀ W, StrsOf a n p.ps W → Calls Tryz.prog 12 #[.agg #[(.string p.sc), (.string p.us), (.string p.pw), (.int .i64 p.hk), (.string p.hn), (.int .i64 p.ha), (.int .i64 p.po), (.slice a n c), (.string p.op), (.bool p.hq), (.string p.qu), (.bool p.hf), (.string p.fr)]] W fun e w' => e = .returned (.bool b) ∧ Below W.heap.size W w') := fun W s => specUrlOk p a n c W s hto hpo b hb
 have CO2 : Hid (∀ W, StrsOf a' n' q.ps W → Calls Tryz.prog 12 #[.agg #[(.string q.sc), (.string q.us), (.string q.pw), (.int .i64 q.hk), (.string q.hn), (.int .i64 q.ha), (.int .i64 q.po), (.slice a' n' c'), (.string q.op), (.bool q.hq), (.string q.qu), (.bool q.hf), (.string q.fr)]] W fun e w' => e = .returned (.bool b') ∧ Below W.heap.size W w') := fun W s => specUrlOk q a' n' c' W s hto' hpo' b' hb'
 have KR : Hid (b = true → b' = true → okP p ∧ okP q ∧ (x = true ↔ 0 ≤ ownZ p.sc ∧ orgV p = orgV q)) := fun h h' => by
  have h1 := hb.1 h
  have h2 := hb'.1 h'
  exact ⟨h1, h2, by rw [hx]; exact ⟨fun k => ⟨by have := k.2.2.1; omega, k.2.2.2⟩, fun k => ⟨h1, h2, by have := k.1; omega, k.2⟩⟩⟩
 have HTP : Hid (p.tot ≤ 1048576 ∧ p.po ≤ 9223372036854775807 ∧ q.tot ≤ 1048576 ∧ q.po ≤ 9223372036854775807) := ⟨hto, hpo, hto', hpo'⟩
 clear hb hb' hx hxs hto hpo hto' hpo' hF
 go_upto_region 4 with fail
 rw [← hV1]
 clear hV1
 generalize w1.heap.size = g1 at *
 obtain ⟨k0, k1, k2, k3, k4, k5, k6, k7, k8, k9, k10, k11, k12⟩ := Blk.cells13a U1.out.bk
 obtain ⟨j0, j1, j2, j3, j4, j5, j6, j7, j8, j9, j10, j11, j12⟩ := Blk.cells13a U2.out.bk
 go_wp2_with fail
 refine (CI.out _ A1.out.le U1.out.st U2.out.st).mono ?_
 rintro e w2 ⟨rfl, d2⟩
 have A9 : Hid (Wat w w2) := A1.out.step d2
 have U8 : Hid (Va g1 p a n c w2) := U1.out.later d2
 have U9 : Hid (Va (g1 + 1) q a' n' c' w2) := U2.out.later d2
 clear d2 A1 U1 U2 k0 k1 k2 k3 k4 k5 k6 k7 k8 k9 k10 k11 k12 j0 j1 j2 j3 j4 j5 j6 j7 j8 j9 j10 j11 j12
 have A1 := A9
 have U1 := U8
 have U2 := U9
 clear A9 U8 U9
 obtain ⟨k0, k1, k2, k3, k4, k5, k6, k7, k8, k9, k10, k11, k12⟩ := Blk.cells13a U1.out.bk
 obtain ⟨j0, j1, j2, j3, j4, j5, j6, j7, j8, j9, j10, j11, j12⟩ := Blk.cells13a U2.out.bk
 go_wp2_with fail
 refine (CS.out _ U1.out.st U2.out.st).mono ?_
 rintro e w3 ⟨rfl, d3⟩
 have A9 : Hid (Wat w w3) := A1.out.step d3
 have U8 : Hid (Va g1 p a n c w3) := U1.out.later d3
 have U9 : Hid (Va (g1 + 1) q a' n' c' w3) := U2.out.later d3
 clear d3 A1 U1 U2 k0 k1 k2 k3 k4 k5 k6 k7 k8 k9 k10 k11 k12 j0 j1 j2 j3 j4 j5 j6 j7 j8 j9 j10 j11 j12
 have A1 := A9
 have U1 := U8
 have U2 := U9
 clear A9 U8 U9
 obtain ⟨k0, k1, k2, k3, k4, k5, k6, k7, k8, k9, k10, k11, k12⟩ := Blk.cells13a U1.out.bk
 obtain ⟨j0, j1, j2, j3, j4, j5, j6, j7, j8, j9, j10, j11, j12⟩ := Blk.cells13a U2.out.bk
 go_wp2_with fail
 refine (CJ.out _ A1.out.le U1.out.st U2.out.st).mono ?_
 rintro e w4 ⟨rfl, d4⟩
 have A9 : Hid (Wat w w4) := A1.out.step d4
 have U8 : Hid (Va g1 p a n c w4) := U1.out.later d4
 have U9 : Hid (Va (g1 + 1) q a' n' c' w4) := U2.out.later d4
 clear d4 A1 U1 U2 k0 k1 k2 k3 k4 k5 k6 k7 k8 k9 k10 k11 k12 j0 j1 j2 j3 j4 j5 j6 j7 j8 j9 j10 j11 j12
 have A1 := A9
 have U1 := U8
 have U2 := U9
 clear A9 U8 U9
 obtain ⟨k0, k1, k2, k3, k4, k5, k6, k7, k8, k9, k10, k11, k12⟩ := Blk.cells13a U1.out.bk
 obtain ⟨j0, j1, j2, j3, j4, j5, j6, j7, j8, j9, j10, j11, j12⟩ := Blk.cells13a U2.out.bk
 go_wp2_with fail
 refine (CO.out _ U1.out.st).mono ?_
 rintro e w5 ⟨rfl, d5⟩
 have A9 : Hid (Wat w w5) := A1.out.step d5
 have U8 : Hid (Va g1 p a n c w5) := U1.out.later d5
 have U9 : Hid (Va (g1 + 1) q a' n' c' w5) := U2.out.later d5
 clear d5 A1 U1 U2 k0 k1 k2 k3 k4 k5 k6 k7 k8 k9 k10 k11 k12 j0 j1 j2 j3 j4 j5 j6 j7 j8 j9 j10 j11 j12
 have A1 := A9
 have U1 := U8
 have U2 := U9
 clear A9 U8 U9
 obtain ⟨k0, k1, k2, k3, k4, k5, k6, k7, k8, k9, k10, k11, k12⟩ := Blk.cells13a U1.out.bk
 obtain ⟨j0, j1, j2, j3, j4, j5, j6, j7, j8, j9, j10, j11, j12⟩ := Blk.cells13a U2.out.bk
 rcases Bool.eq_false_or_eq_true b with hbb | hbb
 rotate_left
 ·subst hbb
  clear KR HTP CO CO2 CI HD
  go_wp2_with fail
  refine (CS.out _ U1.out.st U2.out.st).mono ?_
  rintro e w6 ⟨rfl, d6⟩
  have A9 : Hid (Wat w w6) := A1.out.step d6
  have U8 : Hid (Va g1 p a n c w6) := U1.out.later d6
  have U9 : Hid (Va (g1 + 1) q a' n' c' w6) := U2.out.later d6
  clear d6 A1 U1 U2 k0 k1 k2 k3 k4 k5 k6 k7 k8 k9 k10 k11 k12 j0 j1 j2 j3 j4 j5 j6 j7 j8 j9 j10 j11 j12
  have A1 := A9
  have U1 := U8
  have U2 := U9
  clear A9 U8 U9
  obtain ⟨k0, k1, k2, k3, k4, k5, k6, k7, k8, k9, k10, k11, k12⟩ := Blk.cells13a U1.out.bk
  obtain ⟨j0, j1, j2, j3, j4, j5, j6, j7, j8, j9, j10, j11, j12⟩ := Blk.cells13a U2.out.bk
  go_wp2_with fail
  refine (CJ.out _ A1.out.le U1.out.st U2.out.st).mono ?_
  rintro e w7 ⟨rfl, d7⟩
  have A9 : Hid (Wat w w7) := A1.out.step d7
  have U8 : Hid (Va g1 p a n c w7) := U1.out.later d7
  have U9 : Hid (Va (g1 + 1) q a' n' c' w7) := U2.out.later d7
  clear d7 A1 U1 U2 k0 k1 k2 k3 k4 k5 k6 k7 k8 k9 k10 k11 k12 j0 j1 j2 j3 j4 j5 j6 j7 j8 j9 j10 j11 j12
  have A1 := A9
  have U1 := U8
  have U2 := U9
  clear A9 U8 U9
  obtain ⟨k0, k1, k2, k3, k4, k5, k6, k7, k8, k9, k10, k11, k12⟩ := Blk.cells13a U1.out.bk
  obtain ⟨j0, j1, j2, j3, j4, j5, j6, j7, j8, j9, j10, j11, j12⟩ := Blk.cells13a U2.out.bk
  go_wp2
  go_ret
  exact ⟨rfl, A1.out.bw⟩
 ·have KT := KR.out hbb
  subst hbb
  clear KR CO
  go_wp2_with fail
  refine (CO2.out _ U2.out.st).mono ?_
  rintro e w7 ⟨rfl, d7⟩
  have A9 : Hid (Wat w w7) := A1.out.step d7
  have U8 : Hid (Va g1 p a n c w7) := U1.out.later d7
  have U9 : Hid (Va (g1 + 1) q a' n' c' w7) := U2.out.later d7
  clear d7 A1 U1 U2 k0 k1 k2 k3 k4 k5 k6 k7 k8 k9 k10 k11 k12 j0 j1 j2 j3 j4 j5 j6 j7 j8 j9 j10 j11 j12
  have A1 := A9
  have U1 := U8
  have U2 := U9
  clear A9 U8 U9
  obtain ⟨k0, k1, k2, k3, k4, k5, k6, k7, k8, k9, k10, k11, k12⟩ := Blk.cells13a U1.out.bk
  obtain ⟨j0, j1, j2, j3, j4, j5, j6, j7, j8, j9, j10, j11, j12⟩ := Blk.cells13a U2.out.bk
  rcases Bool.eq_false_or_eq_true b' with hbb | hbb
  rotate_left
  ·subst hbb
   clear KT HTP CO2 CI HD
   go_wp2_with fail
   refine (CS.out _ U1.out.st U2.out.st).mono ?_
   rintro e w8 ⟨rfl, d8⟩
   have A9 : Hid (Wat w w8) := A1.out.step d8
   have U8 : Hid (Va g1 p a n c w8) := U1.out.later d8
   have U9 : Hid (Va (g1 + 1) q a' n' c' w8) := U2.out.later d8
   clear d8 A1 U1 U2 k0 k1 k2 k3 k4 k5 k6 k7 k8 k9 k10 k11 k12 j0 j1 j2 j3 j4 j5 j6 j7 j8 j9 j10 j11 j12
   have A1 := A9
   have U1 := U8
   have U2 := U9
   clear A9 U8 U9
   obtain ⟨k0, k1, k2, k3, k4, k5, k6, k7, k8, k9, k10, k11, k12⟩ := Blk.cells13a U1.out.bk
   obtain ⟨j0, j1, j2, j3, j4, j5, j6, j7, j8, j9, j10, j11, j12⟩ := Blk.cells13a U2.out.bk
   go_wp2_with fail
   refine (CJ.out _ A1.out.le U1.out.st U2.out.st).mono ?_
   rintro e w9 ⟨rfl, d9⟩
   have A9 : Hid (Wat w w9) := A1.out.step d9
   have U8 : Hid (Va g1 p a n c w9) := U1.out.later d9
   have U9 : Hid (Va (g1 + 1) q a' n' c' w9) := U2.out.later d9
   clear d9 A1 U1 U2 k0 k1 k2 k3 k4 k5 k6 k7 k8 k9 k10 k11 k12 j0 j1 j2 j3 j4 j5 j6 j7 j8 j9 j10 j11 j12
   have A1 := A9
   have U1 := U8
   have U2 := U9
   clear A9 U8 U9
   obtain ⟨k0, k1, k2, k3, k4, k5, k6, k7, k8, k9, k10, k11, k12⟩ := Blk.cells13a U1.out.bk
   obtain ⟨j0, j1, j2, j3, j4, j5, j6, j7, j8, j9, j10, j11, j12⟩ := Blk.cells13a U2.out.bk
   go_wp2
   go_ret
   exact ⟨rfl, A1.out.bw⟩
  ·have KT2 := KT hbb
   subst hbb
   clear KT CO2 CS CJ CI
   obtain ⟨hp, hq, hx⟩ := KT2
   obtain ⟨tp, htp⟩ : ∃ tp : Int, tp = if p.po < 0 then ownZ p.sc else p.po := ⟨_, rfl⟩
   obtain ⟨tq, htq⟩ : ∃ tq : Int, tq = if q.po < 0 then ownZ q.sc else q.po := ⟨_, rfl⟩
   obtain ⟨h, hh⟩ : ∃ h : Bool, h = true ↔ 0 ≤ ownZ p.sc := by
    by_cases g : 0 ≤ ownZ p.sc
    ·exact ⟨true, iff_of_true rfl g⟩
    ·exact ⟨false, iff_of_false (by decide) g⟩
   have HH : Hid (decide (0 ≤ tp) = h) := by
    show _ = _
    rw [Bool.eq_iff_iff, decide_eq_true_iff, hh, htp]
    exact port_own p hp
   have CPA : Hid (∀ W, Lean1 W → StrsOf a n p.ps W → Calls Tryz.prog 29 #[.agg #[(.string p.sc), (.string p.us), (.string p.pw), (.int .i64 p.hk), (.string p.hn), (.int .i64 p.ha), (.int .i64 p.po), (.slice a n c), (.string p.op), (.bool p.hq), (.string p.qu), (.bool p.hf), (.string p.fr)]] W fun e w' => e = .returned (.int .i64 tp) ∧ Below W.heap.size W w') := fun W hW s => by
    have := implPortOf p a n c W hW s HTP.out.1 HTP.out.2.1 true (by simp [hp])
    rw [if_pos rfl, ← htp] at this
    exact this
   have CPB : Hid (∀ W, Lean1 W → StrsOf a' n' q.ps W → Calls Tryz.prog 29 #[.agg #[(.string q.sc), (.string q.us), (.string q.pw), (.int .i64 q.hk), (.string q.hn), (.int .i64 q.ha), (.int .i64 q.po), (.slice a' n' c'), (.string q.op), (.bool q.hq), (.string q.qu), (.bool q.hf), (.string q.fr)]] W fun e w' => e = .returned (.int .i64 tq) ∧ Below W.heap.size W w') := fun W hW s => by
    have := implPortOf q a' n' c' W hW s HTP.out.2.2.1 HTP.out.2.2.2 true (by simp [hq])
    rw [if_pos rfl, ← htq] at this
    exact this
   have CAA : Hid (∀ W, Lean1 W → StrsOf a n p.ps W → Calls Tryz.prog 25 #[.agg #[(.string p.sc), (.string p.us), (.string p.pw), (.int .i64 p.hk), (.string p.hn), (.int .i64 p.ha), (.int .i64 p.po), (.slice a n c), (.string p.op), (.bool p.hq), (.string p.qu), (.bool p.hf), (.string p.fr)], .agg #[(.string p.sc), (.string p.us), (.string p.pw), (.int .i64 p.hk), (.string p.hn), (.int .i64 p.ha), (.int .i64 p.po), (.slice a n c), (.string p.op), (.bool p.hq), (.string p.qu), (.bool p.hf), (.string p.fr)]] W fun e w' => e = .returned (.bool h) ∧ Below W.heap.size W w') := fun W hW s => implOriginSame p p a a n n c c W hW s s HTP.out.1 HTP.out.1 HTP.out.2.1 HTP.out.2.1 h (by rw [hh]; exact ⟨fun k => ⟨hp, hp, by omega, rfl⟩, fun k => by have := k.2.2.1; omega⟩)
   go_wp2_with fail
   refine (drawOriginSame w.heap.size a1 len1 cap1 _ A1.out.bw.size (HD.out _ A1.out.bw)).mono ?_
   rintro e v1 ⟨r, s, ar, as', nr, ns', cr, cs', rfl, s1, s2, hG, b1⟩
   obtain ⟨V7, hV7⟩ : ∃ V, V = (v1.alloc (.cells #[(.string r.sc), (.string r.us), (.string r.pw), (.int .i64 r.hk), (.string r.hn), (.int .i64 r.ha), (.int .i64 r.po), (.slice ar nr cr), (.string r.op), (.bool r.hq), (.string r.qu), (.bool r.hf), (.string r.fr)] 27)).alloc (.cells #[(.string s.sc), (.string s.us), (.string s.pw), (.int .i64 s.hk), (.string s.hn), (.int .i64 s.ha), (.int .i64 s.po), (.slice as' ns' cs'), (.string s.op), (.bool s.hq), (.string s.qu), (.bool s.hf), (.string s.fr)] 27) := ⟨_, rfl⟩
   have D7 : Hid (Below w7.heap.size w7 V7) := by show Below _ _ _; rw [hV7]; exact (b1.trans ((below_new _ _).mono b1.size)).trans ((below_new _ _).mono ((b1.trans ((below_new _ _).mono b1.size)).size))
   have U3 : Hid (Va v1.heap.size r ar nr cr V7) := by show Va _ _ _ _ _ _; rw [hV7]; exact (Va.new _ s1).later (below_new _ _)
   have A9 : Hid (Wat w V7) := A1.out.step D7.out
   have U8 : Hid (Va g1 p a n c V7) := U1.out.later D7.out
   have U9 : Hid (Va (g1 + 1) q a' n' c' V7) := U2.out.later D7.out
   clear D7 A1 U1 U2 HD s1 s2 b1 k0 k1 k2 k3 k4 k5 k6 k7 k8 k9 k10 k11 k12 j0 j1 j2 j3 j4 j5 j6 j7 j8 j9 j10 j11 j12
   have A1 := A9
   have U1 := U8
   have U2 := U9
   clear A9 U8 U9
   have htr : r.tot ≤ 1048576 := by have := hG.out.1.tot; omega
   have hpr : r.po ≤ 9223372036854775807 := by have := hG.out.1.po; omega
   obtain ⟨y, hy⟩ : ∃ y : Bool, y = true ↔ okP p ∧ okP r ∧ ¬ ownZ p.sc < 0 ∧ orgV p = orgV r := by
    by_cases g : okP p ∧ okP r ∧ ¬ ownZ p.sc < 0 ∧ orgV p = orgV r
    ·exact ⟨true, iff_of_true rfl g⟩
    ·exact ⟨false, iff_of_false (by decide) g⟩
   have CY : Hid (∀ W, Lean1 W → StrsOf a n p.ps W → StrsOf ar nr r.ps W → Calls Tryz.prog 25 #[.agg #[(.string p.sc), (.string p.us), (.string p.pw), (.int .i64 p.hk), (.string p.hn), (.int .i64 p.ha), (.int .i64 p.po), (.slice a n c), (.string p.op), (.bool p.hq), (.string p.qu), (.bool p.hf), (.string p.fr)], .agg #[(.string r.sc), (.string r.us), (.string r.pw), (.int .i64 r.hk), (.string r.hn), (.int .i64 r.ha), (.int .i64 r.po), (.slice ar nr cr), (.string r.op), (.bool r.hq), (.string r.qu), (.bool r.hf), (.string r.fr)]] W fun e w' => e = .returned (.bool y) ∧ Below W.heap.size W w') := fun W hW t t' => implOriginSame p r a ar n nr c cr W hW t t' HTP.out.1 htr HTP.out.2.1 hpr y hy
   have CY2 : Hid (x = true → ∀ W, Lean1 W → StrsOf a' n' q.ps W → StrsOf ar nr r.ps W → Calls Tryz.prog 25 #[.agg #[(.string q.sc), (.string q.us), (.string q.pw), (.int .i64 q.hk), (.string q.hn), (.int .i64 q.ha), (.int .i64 q.po), (.slice a' n' c'), (.string q.op), (.bool q.hq), (.string q.qu), (.bool q.hf), (.string q.fr)], .agg #[(.string r.sc), (.string r.us), (.string r.pw), (.int .i64 r.hk), (.string r.hn), (.int .i64 r.ha), (.int .i64 r.po), (.slice ar nr cr), (.string r.op), (.bool r.hq), (.string r.qu), (.bool r.hf), (.string r.fr)]] W fun e w' => e = .returned (.bool y) ∧ Below W.heap.size W w') := fun hxt W hW t t' => implOriginSame q r a' ar n' nr c' cr W hW t t' HTP.out.2.2.1 htr HTP.out.2.2.2 hpr y (by
    have h1 := hx.1 hxt
    have h2 := own_of_orgV p q h1.1 h1.2
    rw [hy, h1.2]
    exact ⟨fun g => ⟨hq, g.2.1, by omega, g.2.2.2⟩, fun g => ⟨hp, g.2.1, by have := h1.1; omega, g.2.2.2⟩⟩)
   have KH : Hid (h = false → x = false) := fun g => by
    rw [Bool.eq_false_iff]; intro e
    have := hh.2 (hx.1 e).1
    rw [g] at this; cases this
   have KE : Hid (h = true → (x = true ↔ p.sc = q.sc ∧ (p.hk = q.hk ∧ p.hn = q.hn ∧ p.ha = q.ha) ∧ tp = tq)) := fun g => by
    have ho := hh.1 g
    rw [hx, htp, htq]
    exact ⟨fun e => (orgV_eq p q ho).1 e.2, fun e => ⟨ho, (orgV_eq p q ho).2 e⟩⟩
   clear hp hq hx hh htp htq hy htr hpr hG HTP
   go_upto_region 8 with fail
   rw [← hV7]
   clear hV7
   generalize v1.heap.size = g3 at *
   obtain ⟨k0, k1, k2, k3, k4, k5, k6, k7, k8, k9, k10, k11, k12⟩ := Blk.cells13a U1.out.bk
   obtain ⟨j0, j1, j2, j3, j4, j5, j6, j7, j8, j9, j10, j11, j12⟩ := Blk.cells13a U2.out.bk
   go_wp2_with fail
   refine (CPA.out _ A1.out.le U1.out.st).mono ?_
   rintro e w9 ⟨rfl, d9⟩
   have A9 : Hid (Wat w w9) := A1.out.step d9
   have U8 : Hid (Va g1 p a n c w9) := U1.out.later d9
   have U9 : Hid (Va (g1 + 1) q a' n' c' w9) := U2.out.later d9
   have U7 : Hid (Va g3 r ar nr cr w9) := U3.out.later d9
   clear d9 A1 U1 U2 U3 k0 k1 k2 k3 k4 k5 k6 k7 k8 k9 k10 k11 k12 j0 j1 j2 j3 j4 j5 j6 j7 j8 j9 j10 j11 j12
   have A1 := A9
   have U1 := U8
   have U2 := U9
   have U3 := U7
   clear A9 U8 U9 U7
   have HS : Hid (∀ W, Below w9.heap.size w9 W → (fun W => Below w9.heap.size w9 W ∧ Sc g1 p a n c W ∧ Sc (g1 + 1) q a' n' c' W ∧ Sc g3 r ar nr cr W) W) := fun W d => ⟨d, Sc.of (U1.out.later d).bk, Sc.of (U2.out.later d).bk, Sc.of (U3.out.later d).bk⟩
   cases hhh : h with
   | false =>
    as_aux_lemma =>
     have hxx := KH.out hhh
     subst hhh
     subst hxx
     clear KH KE CY CY2 CPA CPB
     go_wp2
     refine wp_region_held_drew (S := (fun W => Below w9.heap.size w9 W ∧ Sc g1 p a n c W ∧ Sc (g1 + 1) q a' n' c' W ∧ Sc g3 r ar nr cr W)) (by kernel_rfl) (HS.out _ ((Below.refl _ _).drew)) (fun hHeld => ?_)
     refine tk 0 rfl (by kernel_rfl) (fun _ _ _ h => h) (by rfl) (fun w hSw => by (try dsimp only [Sc] at hSw); go_simp; try (with_reducible rfl)) (by assumption) ?_
     simp only [Act.put, x1, x2, x3, x4, x5, x6]
     refine tk (v := .bool false) 1 rfl (by kernel_rfl) (fun _ _ _ h => h) (by rfl) (fun w hSw => by (try dsimp only [Sc] at hSw); go_simp; first | exact HH.out | (have g := HH.out; simpa using g)) (by assumption) ?_
     simp only [Act.put, x1, x2, x3, x4, x5, x6]
     refine tk 2 rfl (by kernel_rfl) (fun _ _ _ h => h) (by rfl) (fun w hSw => by (try dsimp only [Sc] at hSw); go_simp; try (with_reducible rfl)) (by assumption) ?_
     simp only [Act.put, x1, x2, x3, x4, x5, x6]
     refine wpAnyH_take (i := 3) (oi := _) (v := undef) rfl (by kernel_rfl) (by kernel_rfl) (by kernel_rfl) (fun _ _ _ h => h) (Or.inr ⟨by simp [Region.wanted, yielded, undef, Act.put], rfl⟩) (by assumption) ?_
     simp only [Act.put, x1, x2, x3, x4, x5, x6]
     refine wpAnyH_take (i := 4) (oi := _) (v := undef) rfl (by kernel_rfl) (by kernel_rfl) (by kernel_rfl) (fun _ _ _ h => h) (Or.inr ⟨by simp [Region.wanted, yielded, undef, Act.put], rfl⟩) (by assumption) ?_
     simp only [Act.put, x1, x2, x3, x4, x5, x6]
     refine wpAnyH_take (i := 5) (oi := _) (v := undef) rfl (by kernel_rfl) (by kernel_rfl) (by kernel_rfl) (fun _ _ _ h => h) (Or.inr ⟨by simp [Region.wanted, yielded, undef, Act.put], rfl⟩) (by assumption) ?_
     simp only [Act.put, x1, x2, x3, x4, x5, x6]
     refine wpAnyH_take (i := 6) (oi := _) (v := undef) rfl (by kernel_rfl) (by kernel_rfl) (by kernel_rfl) (fun _ _ _ h => h) (Or.inr ⟨by simp [Region.wanted, yielded, undef, Act.put], rfl⟩) (by assumption) ?_
     simp only [Act.put, x1, x2, x3, x4, x5, x6]
     refine wpAnyH_take (i := 7) (oi := _) (v := undef) rfl (by kernel_rfl) (by kernel_rfl) (by kernel_rfl) (fun _ _ _ h => h) (Or.inr ⟨by simp [Region.wanted, yielded, undef, Act.put], rfl⟩) (by assumption) ?_
     simp only [Act.put, x1, x2, x3, x4, x5, x6]
     refine tk 8 rfl (by kernel_rfl) (fun _ _ _ h => h) (by rfl) (fun w hSw => by (try dsimp only [Sc] at hSw); go_simp; try (with_reducible rfl)) (by assumption) ?_
     simp only [Act.put, x1, x2, x3, x4, x5, x6]
     refine tk 9 rfl (by kernel_rfl) (fun _ _ _ h => h) (by rfl) (fun w hSw => by (try dsimp only [Sc] at hSw); go_simp; try (with_reducible rfl)) (by assumption) ?_
     simp only [Act.put, x1, x2, x3, x4, x5, x6]
     refine wpAnyH_take (i := 10) (oi := _) (v := undef) rfl (by kernel_rfl) (by kernel_rfl) (by kernel_rfl) (fun _ _ _ h => h) (Or.inr ⟨by simp [Region.wanted, yielded, undef, Act.put], rfl⟩) (by assumption) ?_
     simp only [Act.put, x1, x2, x3, x4, x5, x6]
     refine wpAnyH_take (i := 11) (oi := _) (v := undef) rfl (by kernel_rfl) (by kernel_rfl) (by kernel_rfl) (fun _ _ _ h => h) (Or.inr ⟨by simp [Region.wanted, yielded, undef, Act.put], rfl⟩) (by assumption) ?_
     simp only [Act.put, x1, x2, x3, x4, x5, x6]
     refine wpAnyH_take (i := 12) (oi := _) (v := undef) rfl (by kernel_rfl) (by kernel_rfl) (by kernel_rfl) (fun _ _ _ h => h) (Or.inr ⟨by simp [Region.wanted, yielded, undef, Act.put], rfl⟩) (by assumption) ?_
     simp only [Act.put, x1, x2, x3, x4, x5, x6]
     refine wpAnyH_take (i := 13) (oi := _) (v := undef) rfl (by kernel_rfl) (by kernel_rfl) (by kernel_rfl) (fun _ _ _ h => h) (Or.inr ⟨by simp [Region.wanted, yielded, undef, Act.put], rfl⟩) (by assumption) ?_
     simp only [Act.put, x1, x2, x3, x4, x5, x6]
     refine wpAnyH_take (i := 14) (oi := _) (v := undef) rfl (by kernel_rfl) (by kernel_rfl) (by kernel_rfl) (fun _ _ _ h => h) (Or.inr ⟨by simp [Region.wanted, yielded, undef, Act.put], rfl⟩) (by assumption) ?_
     simp only [Act.put, x1, x2, x3, x4, x5, x6]
     refine tk 15 rfl (by kernel_rfl) (fun _ _ _ h => h) (by rfl) (fun w hSw => by (try dsimp only [Sc] at hSw); go_simp; try (with_reducible rfl)) (by assumption) ?_
     simp only [Act.put, x1, x2, x3, x4, x5, x6]
     refine tk 16 rfl (by kernel_rfl) (fun _ _ _ h => h) (by rfl) (fun w hSw => by (try dsimp only [Sc] at hSw); go_simp; try (with_reducible rfl)) (by assumption) ?_
     simp only [Act.put, x1, x2, x3, x4, x5, x6]
     refine wpAnyH_take (i := 17) (oi := _) (v := undef) rfl (by kernel_rfl) (by kernel_rfl) (by kernel_rfl) (fun _ _ _ h => h) (Or.inr ⟨by simp [Region.wanted, yielded, undef, Act.put], rfl⟩) (by assumption) ?_
     simp only [Act.put, x1, x2, x3, x4, x5, x6]
     refine wpAnyH_take (i := 18) (oi := _) (v := undef) rfl (by kernel_rfl) (by kernel_rfl) (by kernel_rfl) (fun _ _ _ h => h) (Or.inr ⟨by simp [Region.wanted, yielded, undef, Act.put], rfl⟩) (by assumption) ?_
     simp only [Act.put, x1, x2, x3, x4, x5, x6]
     refine wpAnyH_take (i := 19) (oi := _) (v := undef) rfl (by kernel_rfl) (by kernel_rfl) (by kernel_rfl) (fun _ _ _ h => h) (Or.inr ⟨by simp [Region.wanted, yielded, undef, Act.put], rfl⟩) (by assumption) ?_
     simp only [Act.put, x1, x2, x3, x4, x5, x6]
     refine wpAnyH_take (i := 20) (oi := _) (v := undef) rfl (by kernel_rfl) (by kernel_rfl) (by kernel_rfl) (fun _ _ _ h => h) (Or.inr ⟨by simp [Region.wanted, yielded, undef, Act.put], rfl⟩) (by assumption) ?_
     simp only [Act.put, x1, x2, x3, x4, x5, x6]
     refine wpAnyH_take (i := 21) (oi := _) (v := undef) rfl (by kernel_rfl) (by kernel_rfl) (by kernel_rfl) (fun _ _ _ h => h) (Or.inr ⟨by simp [Region.wanted, yielded, undef, Act.put], rfl⟩) (by assumption) ?_
     simp only [Act.put, x1, x2, x3, x4, x5, x6]
     refine tk 22 rfl (by kernel_rfl) (fun _ _ _ h => h) (by rfl) (fun w hSw => by (try dsimp only [Sc] at hSw); go_simp; try (with_reducible rfl)) (by assumption) ?_
     simp only [Act.put, x1, x2, x3, x4, x5, x6]
     refine tk (v := .bool false) 23 rfl (by kernel_rfl) (fun _ _ _ h => h) (by rfl) (fun w hSw => by (try dsimp only [Sc] at hSw); go_simp; try rfl) (by assumption) ?_
     simp only [Act.put, x1, x2, x3, x4, x5, x6]
     refine tk 24 rfl (by kernel_rfl) (fun _ _ _ h => h) (by rfl) (fun w hSw => by (try dsimp only [Sc] at hSw); go_simp; try (with_reducible rfl)) (by assumption) ?_
     simp only [Act.put, x1, x2, x3, x4, x5, x6]
     refine tk (v := .bool false) 25 rfl (by kernel_rfl) (fun _ _ _ h => h) (by rfl) (fun w hSw => by (try dsimp only [Sc] at hSw); go_simp; first | exact HH.out | (have g := HH.out; simpa using g)) (by assumption) ?_
     simp only [Act.put, x1, x2, x3, x4, x5, x6]
     refine tk 26 rfl (by kernel_rfl) (fun _ _ _ h => h) (by rfl) (fun w hSw => by (try dsimp only [Sc] at hSw); go_simp; try (with_reducible rfl)) (by assumption) ?_
     simp only [Act.put, x1, x2, x3, x4, x5, x6]
     refine tk 27 rfl (by kernel_rfl) (fun _ _ _ h => h) (by rfl) (fun w hSw => by (try dsimp only [Sc] at hSw); go_simp; try (with_reducible rfl)) (by assumption) ?_
     simp only [Act.put, x1, x2, x3, x4, x5, x6]
     refine wpAnyH_ready (rs := [28]) (by kernel_rfl) (by simp) ?_
     refine AllReadyH.cons (o := _) rfl (fun K hK => ?_) AllReadyH.nil
     go_simp
     refine (CAA.out _ (A1.out.step hHeld.1).le (U1.out.later hHeld.1).st).mono ?_
     rintro e w20 ⟨rfl, d20⟩
     refine hK.out _ _ (HS.out _ (hHeld.1.trans (d20.mono hHeld.1.size))) (fun hHeld => ?_)
     clear hK K
     try simp only [Act.put, x1, x2, x3, x4, x5, x6]
     refine tk (v := .bool false) 29 rfl (by kernel_rfl) (fun _ _ _ h => h) (by rfl) (fun w hSw => by (try dsimp only [Sc] at hSw); go_simp; try rfl) (by assumption) ?_
     simp only [Act.put, x1, x2, x3, x4, x5, x6]
     refine tk 30 rfl (by kernel_rfl) (fun _ _ _ h => h) (by rfl) (fun w hSw => by (try dsimp only [Sc] at hSw); go_simp; try (with_reducible rfl)) (by assumption) ?_
     simp only [Act.put, x1, x2, x3, x4, x5, x6]
     refine wpAnyH_done (by kernel_rfl) ?_ _
     have A2 := A1.out.step hHeld.1
     go_wp2
     refine wp_region_held_drew (S := (fun W => Below w9.heap.size w9 W ∧ Sc g1 p a n c W ∧ Sc (g1 + 1) q a' n' c' W ∧ Sc g3 r ar nr cr W)) (by kernel_rfl) (HS.out _ (hHeld.1.trans ((Below.refl _ _).drew.mono hHeld.1.size))) (fun hHeld => ?_)
     refine tk 0 rfl (by kernel_rfl) (fun _ _ _ h => h) (by rfl) (fun w hSw => by (try dsimp only [Sc] at hSw); go_simp; try (with_reducible rfl)) (by assumption) ?_
     simp only [Act.put, x1, x2, x3, x4, x5, x6]
     refine tk 1 rfl (by kernel_rfl) (fun _ _ _ h => h) (by rfl) (fun w hSw => by (try dsimp only [Sc] at hSw); go_simp; try (with_reducible rfl)) (by assumption) ?_
     simp only [Act.put, x1, x2, x3, x4, x5, x6]
     refine tk 2 rfl (by kernel_rfl) (fun _ _ _ h => h) (by rfl) (fun w hSw => by (try dsimp only [Sc] at hSw); go_simp; try (with_reducible rfl)) (by assumption) ?_
     simp only [Act.put, x1, x2, x3, x4, x5, x6]
     refine wpAnyH_take (i := 3) (oi := _) (v := undef) rfl (by kernel_rfl) (by kernel_rfl) (by kernel_rfl) (fun _ _ _ h => h) (Or.inr ⟨by simp [Region.wanted, yielded, undef, Act.put], rfl⟩) (by assumption) ?_
     simp only [Act.put, x1, x2, x3, x4, x5, x6]
     refine wpAnyH_take (i := 4) (oi := _) (v := undef) rfl (by kernel_rfl) (by kernel_rfl) (by kernel_rfl) (fun _ _ _ h => h) (Or.inr ⟨by simp [Region.wanted, yielded, undef, Act.put], rfl⟩) (by assumption) ?_
     simp only [Act.put, x1, x2, x3, x4, x5, x6]
     refine wpAnyH_take (i := 5) (oi := _) (v := undef) rfl (by kernel_rfl) (by kernel_rfl) (by kernel_rfl) (fun _ _ _ h => h) (Or.inr ⟨by simp [Region.wanted, yielded, undef, Act.put], rfl⟩) (by assumption) ?_
     simp only [Act.put, x1, x2, x3, x4, x5, x6]
     refine wpAnyH_take (i := 6) (oi := _) (v := undef) rfl (by kernel_rfl) (by kernel_rfl) (by kernel_rfl) (fun _ _ _ h => h) (Or.inr ⟨by simp [Region.wanted, yielded, undef, Act.put], rfl⟩) (by assumption) ?_
     simp only [Act.put, x1, x2, x3, x4, x5, x6]
     refine wpAnyH_take (i := 7) (oi := _) (v := undef) rfl (by kernel_rfl) (by kernel_rfl) (by kernel_rfl) (fun _ _ _ h => h) (Or.inr ⟨by simp [Region.wanted, yielded, undef, Act.put], rfl⟩) (by assumption) ?_
     simp only [Act.put, x1, x2, x3, x4, x5, x6]
     refine wpAnyH_take (i := 8) (oi := _) (v := undef) rfl (by kernel_rfl) (by kernel_rfl) (by kernel_rfl) (fun _ _ _ h => h) (Or.inr ⟨by simp [Region.wanted, yielded, undef, Act.put], rfl⟩) (by assumption) ?_
     simp only [Act.put, x1, x2, x3, x4, x5, x6]
     refine wpAnyH_take (i := 9) (oi := _) (v := undef) rfl (by kernel_rfl) (by kernel_rfl) (by kernel_rfl) (fun _ _ _ h => h) (Or.inr ⟨by simp [Region.wanted, yielded, undef, Act.put], rfl⟩) (by assumption) ?_
     simp only [Act.put, x1, x2, x3, x4, x5, x6]
     refine tk 10 rfl (by kernel_rfl) (fun _ _ _ h => h) (by rfl) (fun w hSw => by (try dsimp only [Sc] at hSw); go_simp; try (with_reducible rfl)) (by assumption) ?_
     simp only [Act.put, x1, x2, x3, x4, x5, x6]
     refine tk 11 rfl (by kernel_rfl) (fun _ _ _ h => h) (by rfl) (fun w hSw => by (try dsimp only [Sc] at hSw); go_simp; try (with_reducible rfl)) (by assumption) ?_
     simp only [Act.put, x1, x2, x3, x4, x5, x6]
     refine wpAnyH_done (by kernel_rfl) ?_ _
     go_wp2
     go_ret
     exact ⟨rfl, (A1.out.step hHeld.1).bw⟩
   | true =>
    have KF := KE.out hhh
    subst hhh
    clear KH KE
    by_cases hsc : p.sc = q.sc
    rotate_left
    ·have hxx : x = false := by rw [Bool.eq_false_iff]; intro e; exact hsc (KF.1 e).1
     as_aux_lemma =>
      have HSC : Hid ((p.sc.toList == q.sc.toList) = false) := tlb_ne hsc
      subst hxx
      clear KF CY CY2 CPA CPB hsc
      go_wp2
      refine wp_region_held_drew (S := (fun W => Below w9.heap.size w9 W ∧ Sc g1 p a n c W ∧ Sc (g1 + 1) q a' n' c' W ∧ Sc g3 r ar nr cr W)) (by kernel_rfl) (HS.out _ ((Below.refl _ _).drew)) (fun hHeld => ?_)
      refine tk 0 rfl (by kernel_rfl) (fun _ _ _ h => h) (by rfl) (fun w hSw => by (try dsimp only [Sc] at hSw); go_simp; try (with_reducible rfl)) (by assumption) ?_
      simp only [Act.put, x1, x2, x3, x4, x5, x6]
      refine tk (v := .bool true) 1 rfl (by kernel_rfl) (fun _ _ _ h => h) (by rfl) (fun w hSw => by (try dsimp only [Sc] at hSw); go_simp; first | exact HH.out | (have g := HH.out; simpa using g)) (by assumption) ?_
      simp only [Act.put, x1, x2, x3, x4, x5, x6]
      refine tk 2 rfl (by kernel_rfl) (fun _ _ _ h => h) (by rfl) (fun w hSw => by (try dsimp only [Sc] at hSw); go_simp; try (with_reducible rfl)) (by assumption) ?_
      simp only [Act.put, x1, x2, x3, x4, x5, x6]
      refine tk 3 rfl (by kernel_rfl) (fun _ _ _ h => h) (by rfl) (fun w hSw => by (try dsimp only [Sc] at hSw); go_simp; try (with_reducible rfl)) (by assumption) ?_
      simp only [Act.put, x1, x2, x3, x4, x5, x6]
      refine tk 4 rfl (by kernel_rfl) (fun _ _ _ h => h) (by rfl) (fun w hSw => by (try dsimp only [Sc] at hSw); go_simp; try (with_reducible rfl)) (by assumption) ?_
      simp only [Act.put, x1, x2, x3, x4, x5, x6]
      refine tk 5 rfl (by kernel_rfl) (fun _ _ _ h => h) (by rfl) (fun w hSw => by (try dsimp only [Sc] at hSw); go_simp; try (with_reducible rfl)) (by assumption) ?_
      simp only [Act.put, x1, x2, x3, x4, x5, x6]
      refine tk 6 rfl (by kernel_rfl) (fun _ _ _ h => h) (by rfl) (fun w hSw => by (try dsimp only [Sc] at hSw); go_simp; try (with_reducible rfl)) (by assumption) ?_
      simp only [Act.put, x1, x2, x3, x4, x5, x6]
      refine tk (v := .bool false) 7 rfl (by kernel_rfl) (fun _ _ _ h => h) (by rfl) (fun w hSw => by (try dsimp only [Sc] at hSw); go_simp; first | exact HSC.out | (have g := HSC.out; simpa using g)) (by assumption) ?_
      simp only [Act.put, x1, x2, x3, x4, x5, x6]
      refine tk 8 rfl (by kernel_rfl) (fun _ _ _ h => h) (by rfl) (fun w hSw => by (try dsimp only [Sc] at hSw); go_simp; try (with_reducible rfl)) (by assumption) ?_
      simp only [Act.put, x1, x2, x3, x4, x5, x6]
      refine tk 9 rfl (by kernel_rfl) (fun _ _ _ h => h) (by rfl) (fun w hSw => by (try dsimp only [Sc] at hSw); go_simp; try (with_reducible rfl)) (by assumption) ?_
      simp only [Act.put, x1, x2, x3, x4, x5, x6]
      refine wpAnyH_take (i := 10) (oi := _) (v := undef) rfl (by kernel_rfl) (by kernel_rfl) (by kernel_rfl) (fun _ _ _ h => h) (Or.inr ⟨by simp [Region.wanted, yielded, undef, Act.put], rfl⟩) (by assumption) ?_
      simp only [Act.put, x1, x2, x3, x4, x5, x6]
      refine wpAnyH_take (i := 11) (oi := _) (v := undef) rfl (by kernel_rfl) (by kernel_rfl) (by kernel_rfl) (fun _ _ _ h => h) (Or.inr ⟨by simp [Region.wanted, yielded, undef, Act.put], rfl⟩) (by assumption) ?_
      simp only [Act.put, x1, x2, x3, x4, x5, x6]
      refine wpAnyH_take (i := 12) (oi := _) (v := undef) rfl (by kernel_rfl) (by kernel_rfl) (by kernel_rfl) (fun _ _ _ h => h) (Or.inr ⟨by simp [Region.wanted, yielded, undef, Act.put], rfl⟩) (by assumption) ?_
      simp only [Act.put, x1, x2, x3, x4, x5, x6]
      refine wpAnyH_take (i := 13) (oi := _) (v := undef) rfl (by kernel_rfl) (by kernel_rfl) (by kernel_rfl) (fun _ _ _ h => h) (Or.inr ⟨by simp [Region.wanted, yielded, undef, Act.put], rfl⟩) (by assumption) ?_
      simp only [Act.put, x1, x2, x3, x4, x5, x6]
      refine wpAnyH_take (i := 14) (oi := _) (v := undef) rfl (by kernel_rfl) (by kernel_rfl) (by kernel_rfl) (fun _ _ _ h => h) (Or.inr ⟨by simp [Region.wanted, yielded, undef, Act.put], rfl⟩) (by assumption) ?_
      simp only [Act.put, x1, x2, x3, x4, x5, x6]
      refine tk 15 rfl (by kernel_rfl) (fun _ _ _ h => h) (by rfl) (fun w hSw => by (try dsimp only [Sc] at hSw); go_simp; try (with_reducible rfl)) (by assumption) ?_
      simp only [Act.put, x1, x2, x3, x4, x5, x6]
      refine tk 16 rfl (by kernel_rfl) (fun _ _ _ h => h) (by rfl) (fun w hSw => by (try dsimp only [Sc] at hSw); go_simp; try (with_reducible rfl)) (by assumption) ?_
      simp only [Act.put, x1, x2, x3, x4, x5, x6]
      refine wpAnyH_take (i := 17) (oi := _) (v := undef) rfl (by kernel_rfl) (by kernel_rfl) (by kernel_rfl) (fun _ _ _ h => h) (Or.inr ⟨by simp [Region.wanted, yielded, undef, Act.put], rfl⟩) (by assumption) ?_
      simp only [Act.put, x1, x2, x3, x4, x5, x6]
      refine wpAnyH_take (i := 18) (oi := _) (v := undef) rfl (by kernel_rfl) (by kernel_rfl) (by kernel_rfl) (fun _ _ _ h => h) (Or.inr ⟨by simp [Region.wanted, yielded, undef, Act.put], rfl⟩) (by assumption) ?_
      simp only [Act.put, x1, x2, x3, x4, x5, x6]
      refine wpAnyH_take (i := 19) (oi := _) (v := undef) rfl (by kernel_rfl) (by kernel_rfl) (by kernel_rfl) (fun _ _ _ h => h) (Or.inr ⟨by simp [Region.wanted, yielded, undef, Act.put], rfl⟩) (by assumption) ?_
      simp only [Act.put, x1, x2, x3, x4, x5, x6]
      refine wpAnyH_take (i := 20) (oi := _) (v := undef) rfl (by kernel_rfl) (by kernel_rfl) (by kernel_rfl) (fun _ _ _ h => h) (Or.inr ⟨by simp [Region.wanted, yielded, undef, Act.put], rfl⟩) (by assumption) ?_
      simp only [Act.put, x1, x2, x3, x4, x5, x6]
      refine wpAnyH_take (i := 21) (oi := _) (v := undef) rfl (by kernel_rfl) (by kernel_rfl) (by kernel_rfl) (fun _ _ _ h => h) (Or.inr ⟨by simp [Region.wanted, yielded, undef, Act.put], rfl⟩) (by assumption) ?_
      simp only [Act.put, x1, x2, x3, x4, x5, x6]
      refine tk 22 rfl (by kernel_rfl) (fun _ _ _ h => h) (by rfl) (fun w hSw => by (try dsimp only [Sc] at hSw); go_simp; try (with_reducible rfl)) (by assumption) ?_
      simp only [Act.put, x1, x2, x3, x4, x5, x6]
      refine tk (v := .bool false) 23 rfl (by kernel_rfl) (fun _ _ _ h => h) (by rfl) (fun w hSw => by (try dsimp only [Sc] at hSw); go_simp; try rfl) (by assumption) ?_
      simp only [Act.put, x1, x2, x3, x4, x5, x6]
      refine tk 24 rfl (by kernel_rfl) (fun _ _ _ h => h) (by rfl) (fun w hSw => by (try dsimp only [Sc] at hSw); go_simp; try (with_reducible rfl)) (by assumption) ?_
      simp only [Act.put, x1, x2, x3, x4, x5, x6]
      refine tk (v := .bool true) 25 rfl (by kernel_rfl) (fun _ _ _ h => h) (by rfl) (fun w hSw => by (try dsimp only [Sc] at hSw); go_simp; first | exact HH.out | (have g := HH.out; simpa using g)) (by assumption) ?_
      simp only [Act.put, x1, x2, x3, x4, x5, x6]
      refine tk 26 rfl (by kernel_rfl) (fun _ _ _ h => h) (by rfl) (fun w hSw => by (try dsimp only [Sc] at hSw); go_simp; try (with_reducible rfl)) (by assumption) ?_
      simp only [Act.put, x1, x2, x3, x4, x5, x6]
      refine tk 27 rfl (by kernel_rfl) (fun _ _ _ h => h) (by rfl) (fun w hSw => by (try dsimp only [Sc] at hSw); go_simp; try (with_reducible rfl)) (by assumption) ?_
      simp only [Act.put, x1, x2, x3, x4, x5, x6]
      refine wpAnyH_ready (rs := [28]) (by kernel_rfl) (by simp) ?_
      refine AllReadyH.cons (o := _) rfl (fun K hK => ?_) AllReadyH.nil
      go_simp
      refine (CAA.out _ (A1.out.step hHeld.1).le (U1.out.later hHeld.1).st).mono ?_
      rintro e w20 ⟨rfl, d20⟩
      refine hK.out _ _ (HS.out _ (hHeld.1.trans (d20.mono hHeld.1.size))) (fun hHeld => ?_)
      clear hK K
      try simp only [Act.put, x1, x2, x3, x4, x5, x6]
      refine tk (v := .bool false) 29 rfl (by kernel_rfl) (fun _ _ _ h => h) (by rfl) (fun w hSw => by (try dsimp only [Sc] at hSw); go_simp; try rfl) (by assumption) ?_
      simp only [Act.put, x1, x2, x3, x4, x5, x6]
      refine tk 30 rfl (by kernel_rfl) (fun _ _ _ h => h) (by rfl) (fun w hSw => by (try dsimp only [Sc] at hSw); go_simp; try (with_reducible rfl)) (by assumption) ?_
      simp only [Act.put, x1, x2, x3, x4, x5, x6]
      refine wpAnyH_done (by kernel_rfl) ?_ _
      have A2 := A1.out.step hHeld.1
      go_wp2
      refine wp_region_held_drew (S := (fun W => Below w9.heap.size w9 W ∧ Sc g1 p a n c W ∧ Sc (g1 + 1) q a' n' c' W ∧ Sc g3 r ar nr cr W)) (by kernel_rfl) (HS.out _ (hHeld.1.trans ((Below.refl _ _).drew.mono hHeld.1.size))) (fun hHeld => ?_)
      refine tk 0 rfl (by kernel_rfl) (fun _ _ _ h => h) (by rfl) (fun w hSw => by (try dsimp only [Sc] at hSw); go_simp; try (with_reducible rfl)) (by assumption) ?_
      simp only [Act.put, x1, x2, x3, x4, x5, x6]
      refine tk 1 rfl (by kernel_rfl) (fun _ _ _ h => h) (by rfl) (fun w hSw => by (try dsimp only [Sc] at hSw); go_simp; try (with_reducible rfl)) (by assumption) ?_
      simp only [Act.put, x1, x2, x3, x4, x5, x6]
      refine tk 2 rfl (by kernel_rfl) (fun _ _ _ h => h) (by rfl) (fun w hSw => by (try dsimp only [Sc] at hSw); go_simp; try (with_reducible rfl)) (by assumption) ?_
      simp only [Act.put, x1, x2, x3, x4, x5, x6]
      refine wpAnyH_take (i := 3) (oi := _) (v := undef) rfl (by kernel_rfl) (by kernel_rfl) (by kernel_rfl) (fun _ _ _ h => h) (Or.inr ⟨by simp [Region.wanted, yielded, undef, Act.put], rfl⟩) (by assumption) ?_
      simp only [Act.put, x1, x2, x3, x4, x5, x6]
      refine wpAnyH_take (i := 4) (oi := _) (v := undef) rfl (by kernel_rfl) (by kernel_rfl) (by kernel_rfl) (fun _ _ _ h => h) (Or.inr ⟨by simp [Region.wanted, yielded, undef, Act.put], rfl⟩) (by assumption) ?_
      simp only [Act.put, x1, x2, x3, x4, x5, x6]
      refine wpAnyH_take (i := 5) (oi := _) (v := undef) rfl (by kernel_rfl) (by kernel_rfl) (by kernel_rfl) (fun _ _ _ h => h) (Or.inr ⟨by simp [Region.wanted, yielded, undef, Act.put], rfl⟩) (by assumption) ?_
      simp only [Act.put, x1, x2, x3, x4, x5, x6]
      refine wpAnyH_take (i := 6) (oi := _) (v := undef) rfl (by kernel_rfl) (by kernel_rfl) (by kernel_rfl) (fun _ _ _ h => h) (Or.inr ⟨by simp [Region.wanted, yielded, undef, Act.put], rfl⟩) (by assumption) ?_
      simp only [Act.put, x1, x2, x3, x4, x5, x6]
      refine wpAnyH_take (i := 7) (oi := _) (v := undef) rfl (by kernel_rfl) (by kernel_rfl) (by kernel_rfl) (fun _ _ _ h => h) (Or.inr ⟨by simp [Region.wanted, yielded, undef, Act.put], rfl⟩) (by assumption) ?_
      simp only [Act.put, x1, x2, x3, x4, x5, x6]
      refine wpAnyH_take (i := 8) (oi := _) (v := undef) rfl (by kernel_rfl) (by kernel_rfl) (by kernel_rfl) (fun _ _ _ h => h) (Or.inr ⟨by simp [Region.wanted, yielded, undef, Act.put], rfl⟩) (by assumption) ?_
      simp only [Act.put, x1, x2, x3, x4, x5, x6]
      refine wpAnyH_take (i := 9) (oi := _) (v := undef) rfl (by kernel_rfl) (by kernel_rfl) (by kernel_rfl) (fun _ _ _ h => h) (Or.inr ⟨by simp [Region.wanted, yielded, undef, Act.put], rfl⟩) (by assumption) ?_
      simp only [Act.put, x1, x2, x3, x4, x5, x6]
      refine tk 10 rfl (by kernel_rfl) (fun _ _ _ h => h) (by rfl) (fun w hSw => by (try dsimp only [Sc] at hSw); go_simp; try (with_reducible rfl)) (by assumption) ?_
      simp only [Act.put, x1, x2, x3, x4, x5, x6]
      refine tk 11 rfl (by kernel_rfl) (fun _ _ _ h => h) (by rfl) (fun w hSw => by (try dsimp only [Sc] at hSw); go_simp; try (with_reducible rfl)) (by assumption) ?_
      simp only [Act.put, x1, x2, x3, x4, x5, x6]
      refine wpAnyH_done (by kernel_rfl) ?_ _
      go_wp2
      go_ret
      exact ⟨rfl, (A1.out.step hHeld.1).bw⟩
    ·have HSC : Hid ((p.sc.toList == q.sc.toList) = true) := by show _ = _; rw [hsc]; exact beq_self_eq_true _
     by_cases hho : p.hk = q.hk ∧ p.hn = q.hn ∧ p.ha = q.ha
     rotate_left
     ·have hxx : x = false := by rw [Bool.eq_false_iff]; intro e; exact hho (KF.1 e).2.1
      as_aux_lemma =>
       have H3 : Hid (NoH p q) := hho
       subst hxx
       clear KF CY CY2 CPA CPB hsc hho
       go_wp2
       refine wp_region_held_drew (S := (fun W => Below w9.heap.size w9 W ∧ Sc g1 p a n c W ∧ Sc (g1 + 1) q a' n' c' W ∧ Sc g3 r ar nr cr W)) (by kernel_rfl) (HS.out _ ((Below.refl _ _).drew)) (fun hHeld => ?_)
       refine tk 0 rfl (by kernel_rfl) (fun _ _ _ h => h) (by rfl) (fun w hSw => by (try dsimp only [Sc] at hSw); go_simp; try (with_reducible rfl)) (by assumption) ?_
       simp only [Act.put, x1, x2, x3, x4, x5, x6]
       refine tk (v := .bool true) 1 rfl (by kernel_rfl) (fun _ _ _ h => h) (by rfl) (fun w hSw => by (try dsimp only [Sc] at hSw); go_simp; first | exact HH.out | (have g := HH.out; simpa using g)) (by assumption) ?_
       simp only [Act.put, x1, x2, x3, x4, x5, x6]
       refine tk 2 rfl (by kernel_rfl) (fun _ _ _ h => h) (by rfl) (fun w hSw => by (try dsimp only [Sc] at hSw); go_simp; try (with_reducible rfl)) (by assumption) ?_
       simp only [Act.put, x1, x2, x3, x4, x5, x6]
       refine tk 3 rfl (by kernel_rfl) (fun _ _ _ h => h) (by rfl) (fun w hSw => by (try dsimp only [Sc] at hSw); go_simp; try (with_reducible rfl)) (by assumption) ?_
       simp only [Act.put, x1, x2, x3, x4, x5, x6]
       refine tk 4 rfl (by kernel_rfl) (fun _ _ _ h => h) (by rfl) (fun w hSw => by (try dsimp only [Sc] at hSw); go_simp; try (with_reducible rfl)) (by assumption) ?_
       simp only [Act.put, x1, x2, x3, x4, x5, x6]
       refine tk 5 rfl (by kernel_rfl) (fun _ _ _ h => h) (by rfl) (fun w hSw => by (try dsimp only [Sc] at hSw); go_simp; try (with_reducible rfl)) (by assumption) ?_
       simp only [Act.put, x1, x2, x3, x4, x5, x6]
       refine tk 6 rfl (by kernel_rfl) (fun _ _ _ h => h) (by rfl) (fun w hSw => by (try dsimp only [Sc] at hSw); go_simp; try (with_reducible rfl)) (by assumption) ?_
       simp only [Act.put, x1, x2, x3, x4, x5, x6]
       refine tk (v := .bool true) 7 rfl (by kernel_rfl) (fun _ _ _ h => h) (by rfl) (fun w hSw => by (try dsimp only [Sc] at hSw); go_simp; first | exact HSC.out | (have g := HSC.out; simpa using g)) (by assumption) ?_
       simp only [Act.put, x1, x2, x3, x4, x5, x6]
       refine tk 8 rfl (by kernel_rfl) (fun _ _ _ h => h) (by rfl) (fun w hSw => by (try dsimp only [Sc] at hSw); go_simp; try (with_reducible rfl)) (by assumption) ?_
       simp only [Act.put, x1, x2, x3, x4, x5, x6]
       refine tk 9 rfl (by kernel_rfl) (fun _ _ _ h => h) (by rfl) (fun w hSw => by (try dsimp only [Sc] at hSw); go_simp; try (with_reducible rfl)) (by assumption) ?_
       simp only [Act.put, x1, x2, x3, x4, x5, x6]
       refine tk 10 rfl (by kernel_rfl) (fun _ _ _ h => h) (by rfl) (fun w hSw => by (try dsimp only [Sc] at hSw); go_simp; try (with_reducible rfl)) (by assumption) ?_
       simp only [Act.put, x1, x2, x3, x4, x5, x6]
       refine tk 11 rfl (by kernel_rfl) (fun _ _ _ h => h) (by rfl) (fun w hSw => by (try dsimp only [Sc] at hSw); go_simp; try (with_reducible rfl)) (by assumption) ?_
       simp only [Act.put, x1, x2, x3, x4, x5, x6]
       refine tk 12 rfl (by kernel_rfl) (fun _ _ _ h => h) (by rfl) (fun w hSw => by (try dsimp only [Sc] at hSw); go_simp; try (with_reducible rfl)) (by assumption) ?_
       simp only [Act.put, x1, x2, x3, x4, x5, x6]
       refine tk 13 rfl (by kernel_rfl) (fun _ _ _ h => h) (by rfl) (fun w hSw => by (try dsimp only [Sc] at hSw); go_simp; try (with_reducible rfl)) (by assumption) ?_
       simp only [Act.put, x1, x2, x3, x4, x5, x6]
       refine tk (v := .bool false) 14 rfl (by kernel_rfl) (fun _ _ _ h => h) (by rfl) (fun w hSw => by (try dsimp only [Sc] at hSw); go_simp; first | exact three_if (x := false) (iff_of_false (by decide) H3.out) w | exact fun e1 e2 e3 => (show ¬ (p.hk = q.hk ∧ p.hn = q.hn ∧ p.ha = q.ha) from H3.out) ⟨e1, tl_eq e2, e3⟩) (by assumption) ?_
       simp only [Act.put, x1, x2, x3, x4, x5, x6]
       refine tk 15 rfl (by kernel_rfl) (fun _ _ _ h => h) (by rfl) (fun w hSw => by (try dsimp only [Sc] at hSw); go_simp; try (with_reducible rfl)) (by assumption) ?_
       simp only [Act.put, x1, x2, x3, x4, x5, x6]
       refine tk 16 rfl (by kernel_rfl) (fun _ _ _ h => h) (by rfl) (fun w hSw => by (try dsimp only [Sc] at hSw); go_simp; try (with_reducible rfl)) (by assumption) ?_
       simp only [Act.put, x1, x2, x3, x4, x5, x6]
       refine wpAnyH_take (i := 17) (oi := _) (v := undef) rfl (by kernel_rfl) (by kernel_rfl) (by kernel_rfl) (fun _ _ _ h => h) (Or.inr ⟨by simp [Region.wanted, yielded, undef, Act.put], rfl⟩) (by assumption) ?_
       simp only [Act.put, x1, x2, x3, x4, x5, x6]
       refine wpAnyH_take (i := 18) (oi := _) (v := undef) rfl (by kernel_rfl) (by kernel_rfl) (by kernel_rfl) (fun _ _ _ h => h) (Or.inr ⟨by simp [Region.wanted, yielded, undef, Act.put], rfl⟩) (by assumption) ?_
       simp only [Act.put, x1, x2, x3, x4, x5, x6]
       refine wpAnyH_take (i := 19) (oi := _) (v := undef) rfl (by kernel_rfl) (by kernel_rfl) (by kernel_rfl) (fun _ _ _ h => h) (Or.inr ⟨by simp [Region.wanted, yielded, undef, Act.put], rfl⟩) (by assumption) ?_
       simp only [Act.put, x1, x2, x3, x4, x5, x6]
       refine wpAnyH_take (i := 20) (oi := _) (v := undef) rfl (by kernel_rfl) (by kernel_rfl) (by kernel_rfl) (fun _ _ _ h => h) (Or.inr ⟨by simp [Region.wanted, yielded, undef, Act.put], rfl⟩) (by assumption) ?_
       simp only [Act.put, x1, x2, x3, x4, x5, x6]
       refine wpAnyH_take (i := 21) (oi := _) (v := undef) rfl (by kernel_rfl) (by kernel_rfl) (by kernel_rfl) (fun _ _ _ h => h) (Or.inr ⟨by simp [Region.wanted, yielded, undef, Act.put], rfl⟩) (by assumption) ?_
       simp only [Act.put, x1, x2, x3, x4, x5, x6]
       refine tk 22 rfl (by kernel_rfl) (fun _ _ _ h => h) (by rfl) (fun w hSw => by (try dsimp only [Sc] at hSw); go_simp; try (with_reducible rfl)) (by assumption) ?_
       simp only [Act.put, x1, x2, x3, x4, x5, x6]
       refine tk (v := .bool false) 23 rfl (by kernel_rfl) (fun _ _ _ h => h) (by rfl) (fun w hSw => by (try dsimp only [Sc] at hSw); go_simp; try rfl) (by assumption) ?_
       simp only [Act.put, x1, x2, x3, x4, x5, x6]
       refine tk 24 rfl (by kernel_rfl) (fun _ _ _ h => h) (by rfl) (fun w hSw => by (try dsimp only [Sc] at hSw); go_simp; try (with_reducible rfl)) (by assumption) ?_
       simp only [Act.put, x1, x2, x3, x4, x5, x6]
       refine tk (v := .bool true) 25 rfl (by kernel_rfl) (fun _ _ _ h => h) (by rfl) (fun w hSw => by (try dsimp only [Sc] at hSw); go_simp; first | exact HH.out | (have g := HH.out; simpa using g)) (by assumption) ?_
       simp only [Act.put, x1, x2, x3, x4, x5, x6]
       refine tk 26 rfl (by kernel_rfl) (fun _ _ _ h => h) (by rfl) (fun w hSw => by (try dsimp only [Sc] at hSw); go_simp; try (with_reducible rfl)) (by assumption) ?_
       simp only [Act.put, x1, x2, x3, x4, x5, x6]
       refine tk 27 rfl (by kernel_rfl) (fun _ _ _ h => h) (by rfl) (fun w hSw => by (try dsimp only [Sc] at hSw); go_simp; try (with_reducible rfl)) (by assumption) ?_
       simp only [Act.put, x1, x2, x3, x4, x5, x6]
       refine wpAnyH_ready (rs := [28]) (by kernel_rfl) (by simp) ?_
       refine AllReadyH.cons (o := _) rfl (fun K hK => ?_) AllReadyH.nil
       go_simp
       refine (CAA.out _ (A1.out.step hHeld.1).le (U1.out.later hHeld.1).st).mono ?_
       rintro e w20 ⟨rfl, d20⟩
       refine hK.out _ _ (HS.out _ (hHeld.1.trans (d20.mono hHeld.1.size))) (fun hHeld => ?_)
       clear hK K
       try simp only [Act.put, x1, x2, x3, x4, x5, x6]
       refine tk (v := .bool false) 29 rfl (by kernel_rfl) (fun _ _ _ h => h) (by rfl) (fun w hSw => by (try dsimp only [Sc] at hSw); go_simp; try rfl) (by assumption) ?_
       simp only [Act.put, x1, x2, x3, x4, x5, x6]
       refine tk 30 rfl (by kernel_rfl) (fun _ _ _ h => h) (by rfl) (fun w hSw => by (try dsimp only [Sc] at hSw); go_simp; try (with_reducible rfl)) (by assumption) ?_
       simp only [Act.put, x1, x2, x3, x4, x5, x6]
       refine wpAnyH_done (by kernel_rfl) ?_ _
       have A2 := A1.out.step hHeld.1
       go_wp2
       refine wp_region_held_drew (S := (fun W => Below w9.heap.size w9 W ∧ Sc g1 p a n c W ∧ Sc (g1 + 1) q a' n' c' W ∧ Sc g3 r ar nr cr W)) (by kernel_rfl) (HS.out _ (hHeld.1.trans ((Below.refl _ _).drew.mono hHeld.1.size))) (fun hHeld => ?_)
       refine tk 0 rfl (by kernel_rfl) (fun _ _ _ h => h) (by rfl) (fun w hSw => by (try dsimp only [Sc] at hSw); go_simp; try (with_reducible rfl)) (by assumption) ?_
       simp only [Act.put, x1, x2, x3, x4, x5, x6]
       refine tk 1 rfl (by kernel_rfl) (fun _ _ _ h => h) (by rfl) (fun w hSw => by (try dsimp only [Sc] at hSw); go_simp; try (with_reducible rfl)) (by assumption) ?_
       simp only [Act.put, x1, x2, x3, x4, x5, x6]
       refine tk 2 rfl (by kernel_rfl) (fun _ _ _ h => h) (by rfl) (fun w hSw => by (try dsimp only [Sc] at hSw); go_simp; try (with_reducible rfl)) (by assumption) ?_
       simp only [Act.put, x1, x2, x3, x4, x5, x6]
       refine wpAnyH_take (i := 3) (oi := _) (v := undef) rfl (by kernel_rfl) (by kernel_rfl) (by kernel_rfl) (fun _ _ _ h => h) (Or.inr ⟨by simp [Region.wanted, yielded, undef, Act.put], rfl⟩) (by assumption) ?_
       simp only [Act.put, x1, x2, x3, x4, x5, x6]
       refine wpAnyH_take (i := 4) (oi := _) (v := undef) rfl (by kernel_rfl) (by kernel_rfl) (by kernel_rfl) (fun _ _ _ h => h) (Or.inr ⟨by simp [Region.wanted, yielded, undef, Act.put], rfl⟩) (by assumption) ?_
       simp only [Act.put, x1, x2, x3, x4, x5, x6]
       refine wpAnyH_take (i := 5) (oi := _) (v := undef) rfl (by kernel_rfl) (by kernel_rfl) (by kernel_rfl) (fun _ _ _ h => h) (Or.inr ⟨by simp [Region.wanted, yielded, undef, Act.put], rfl⟩) (by assumption) ?_
       simp only [Act.put, x1, x2, x3, x4, x5, x6]
       refine wpAnyH_take (i := 6) (oi := _) (v := undef) rfl (by kernel_rfl) (by kernel_rfl) (by kernel_rfl) (fun _ _ _ h => h) (Or.inr ⟨by simp [Region.wanted, yielded, undef, Act.put], rfl⟩) (by assumption) ?_
       simp only [Act.put, x1, x2, x3, x4, x5, x6]
       refine wpAnyH_take (i := 7) (oi := _) (v := undef) rfl (by kernel_rfl) (by kernel_rfl) (by kernel_rfl) (fun _ _ _ h => h) (Or.inr ⟨by simp [Region.wanted, yielded, undef, Act.put], rfl⟩) (by assumption) ?_
       simp only [Act.put, x1, x2, x3, x4, x5, x6]
       refine wpAnyH_take (i := 8) (oi := _) (v := undef) rfl (by kernel_rfl) (by kernel_rfl) (by kernel_rfl) (fun _ _ _ h => h) (Or.inr ⟨by simp [Region.wanted, yielded, undef, Act.put], rfl⟩) (by assumption) ?_
       simp only [Act.put, x1, x2, x3, x4, x5, x6]
       refine wpAnyH_take (i := 9) (oi := _) (v := undef) rfl (by kernel_rfl) (by kernel_rfl) (by kernel_rfl) (fun _ _ _ h => h) (Or.inr ⟨by simp [Region.wanted, yielded, undef, Act.put], rfl⟩) (by assumption) ?_
       simp only [Act.put, x1, x2, x3, x4, x5, x6]
       refine tk 10 rfl (by kernel_rfl) (fun _ _ _ h => h) (by rfl) (fun w hSw => by (try dsimp only [Sc] at hSw); go_simp; try (with_reducible rfl)) (by assumption) ?_
       simp only [Act.put, x1, x2, x3, x4, x5, x6]
       refine tk 11 rfl (by kernel_rfl) (fun _ _ _ h => h) (by rfl) (fun w hSw => by (try dsimp only [Sc] at hSw); go_simp; try (with_reducible rfl)) (by assumption) ?_
       simp only [Act.put, x1, x2, x3, x4, x5, x6]
       refine wpAnyH_done (by kernel_rfl) ?_ _
       go_wp2
       go_ret
       exact ⟨rfl, (A1.out.step hHeld.1).bw⟩
     ·have H3 : Hid (YesH p q) := hho
      by_cases hpt : tp = tq
      ·have hxx : x = true := KF.2 ⟨hsc, hho, hpt⟩
       as_aux_lemma =>
        have HP : Hid ((tp == tq) = true) := by show _ = _; rw [hpt]; exact beq_self_eq_true _
        have CY3 : Hid (∀ W, Lean1 W → StrsOf a' n' q.ps W → StrsOf ar nr r.ps W → Calls Tryz.prog 25 #[.agg #[(.string q.sc), (.string q.us), (.string q.pw), (.int .i64 q.hk), (.string q.hn), (.int .i64 q.ha), (.int .i64 q.po), (.slice a' n' c'), (.string q.op), (.bool q.hq), (.string q.qu), (.bool q.hf), (.string q.fr)], .agg #[(.string r.sc), (.string r.us), (.string r.pw), (.int .i64 r.hk), (.string r.hn), (.int .i64 r.ha), (.int .i64 r.po), (.slice ar nr cr), (.string r.op), (.bool r.hq), (.string r.qu), (.bool r.hf), (.string r.fr)]] W fun e w' => e = .returned (.bool y) ∧ Below W.heap.size W w') := CY2.out hxx
        subst hxx
        clear KF CY2 hsc hho hpt
        have CY2 := CY3
        clear CY3
        go_wp2
        refine wp_region_held_drew (S := (fun W => Below w9.heap.size w9 W ∧ Sc g1 p a n c W ∧ Sc (g1 + 1) q a' n' c' W ∧ Sc g3 r ar nr cr W)) (by kernel_rfl) (HS.out _ ((Below.refl _ _).drew)) (fun hHeld => ?_)
        refine tk 0 rfl (by kernel_rfl) (fun _ _ _ h => h) (by rfl) (fun w hSw => by (try dsimp only [Sc] at hSw); go_simp; try (with_reducible rfl)) (by assumption) ?_
        simp only [Act.put, x1, x2, x3, x4, x5, x6]
        refine tk (v := .bool true) 1 rfl (by kernel_rfl) (fun _ _ _ h => h) (by rfl) (fun w hSw => by (try dsimp only [Sc] at hSw); go_simp; first | exact HH.out | (have g := HH.out; simpa using g)) (by assumption) ?_
        simp only [Act.put, x1, x2, x3, x4, x5, x6]
        refine tk 2 rfl (by kernel_rfl) (fun _ _ _ h => h) (by rfl) (fun w hSw => by (try dsimp only [Sc] at hSw); go_simp; try (with_reducible rfl)) (by assumption) ?_
        simp only [Act.put, x1, x2, x3, x4, x5, x6]
        refine tk 3 rfl (by kernel_rfl) (fun _ _ _ h => h) (by rfl) (fun w hSw => by (try dsimp only [Sc] at hSw); go_simp; try (with_reducible rfl)) (by assumption) ?_
        simp only [Act.put, x1, x2, x3, x4, x5, x6]
        refine tk 4 rfl (by kernel_rfl) (fun _ _ _ h => h) (by rfl) (fun w hSw => by (try dsimp only [Sc] at hSw); go_simp; try (with_reducible rfl)) (by assumption) ?_
        simp only [Act.put, x1, x2, x3, x4, x5, x6]
        refine tk 5 rfl (by kernel_rfl) (fun _ _ _ h => h) (by rfl) (fun w hSw => by (try dsimp only [Sc] at hSw); go_simp; try (with_reducible rfl)) (by assumption) ?_
        simp only [Act.put, x1, x2, x3, x4, x5, x6]
        refine tk 6 rfl (by kernel_rfl) (fun _ _ _ h => h) (by rfl) (fun w hSw => by (try dsimp only [Sc] at hSw); go_simp; try (with_reducible rfl)) (by assumption) ?_
        simp only [Act.put, x1, x2, x3, x4, x5, x6]
        refine tk (v := .bool true) 7 rfl (by kernel_rfl) (fun _ _ _ h => h) (by rfl) (fun w hSw => by (try dsimp only [Sc] at hSw); go_simp; first | exact HSC.out | (have g := HSC.out; simpa using g)) (by assumption) ?_
        simp only [Act.put, x1, x2, x3, x4, x5, x6]
        refine tk 8 rfl (by kernel_rfl) (fun _ _ _ h => h) (by rfl) (fun w hSw => by (try dsimp only [Sc] at hSw); go_simp; try (with_reducible rfl)) (by assumption) ?_
        simp only [Act.put, x1, x2, x3, x4, x5, x6]
        refine tk 9 rfl (by kernel_rfl) (fun _ _ _ h => h) (by rfl) (fun w hSw => by (try dsimp only [Sc] at hSw); go_simp; try (with_reducible rfl)) (by assumption) ?_
        simp only [Act.put, x1, x2, x3, x4, x5, x6]
        refine tk 10 rfl (by kernel_rfl) (fun _ _ _ h => h) (by rfl) (fun w hSw => by (try dsimp only [Sc] at hSw); go_simp; try (with_reducible rfl)) (by assumption) ?_
        simp only [Act.put, x1, x2, x3, x4, x5, x6]
        refine tk 11 rfl (by kernel_rfl) (fun _ _ _ h => h) (by rfl) (fun w hSw => by (try dsimp only [Sc] at hSw); go_simp; try (with_reducible rfl)) (by assumption) ?_
        simp only [Act.put, x1, x2, x3, x4, x5, x6]
        refine tk 12 rfl (by kernel_rfl) (fun _ _ _ h => h) (by rfl) (fun w hSw => by (try dsimp only [Sc] at hSw); go_simp; try (with_reducible rfl)) (by assumption) ?_
        simp only [Act.put, x1, x2, x3, x4, x5, x6]
        refine tk 13 rfl (by kernel_rfl) (fun _ _ _ h => h) (by rfl) (fun w hSw => by (try dsimp only [Sc] at hSw); go_simp; try (with_reducible rfl)) (by assumption) ?_
        simp only [Act.put, x1, x2, x3, x4, x5, x6]
        refine tk (v := .bool true) 14 rfl (by kernel_rfl) (fun _ _ _ h => h) (by rfl) (fun w hSw => by (try dsimp only [Sc] at hSw); go_simp; first | exact three_if (x := true) (iff_of_true rfl H3.out) w | (have g : p.hk = q.hk ∧ p.hn = q.hn ∧ p.ha = q.ha := H3.out; simp [g.1, g.2.1, g.2.2])) (by assumption) ?_
        simp only [Act.put, x1, x2, x3, x4, x5, x6]
        refine tk 15 rfl (by kernel_rfl) (fun _ _ _ h => h) (by rfl) (fun w hSw => by (try dsimp only [Sc] at hSw); go_simp; try (with_reducible rfl)) (by assumption) ?_
        simp only [Act.put, x1, x2, x3, x4, x5, x6]
        refine tk 16 rfl (by kernel_rfl) (fun _ _ _ h => h) (by rfl) (fun w hSw => by (try dsimp only [Sc] at hSw); go_simp; try (with_reducible rfl)) (by assumption) ?_
        simp only [Act.put, x1, x2, x3, x4, x5, x6]
        refine tk 17 rfl (by kernel_rfl) (fun _ _ _ h => h) (by rfl) (fun w hSw => by (try dsimp only [Sc] at hSw); go_simp; try (with_reducible rfl)) (by assumption) ?_
        simp only [Act.put, x1, x2, x3, x4, x5, x6]
        refine tk 19 rfl (by kernel_rfl) (fun _ _ _ h => h) (by rfl) (fun w hSw => by (try dsimp only [Sc] at hSw); go_simp; try (with_reducible rfl)) (by assumption) ?_
        simp only [Act.put, x1, x2, x3, x4, x5, x6]
        refine wpAnyH_ready (rs := [18]) (by kernel_rfl) (by simp) ?_
        refine AllReadyH.cons (o := _) rfl (fun K hK => ?_) AllReadyH.nil
        go_simp
        refine (CPA.out _ (A1.out.step hHeld.1).le (U1.out.later hHeld.1).st).mono ?_
        rintro e w18 ⟨rfl, d18⟩
        refine hK.out _ _ (HS.out _ (hHeld.1.trans (d18.mono hHeld.1.size))) (fun hHeld => ?_)
        clear hK K
        try simp only [Act.put, x1, x2, x3, x4, x5, x6]
        refine wpAnyH_ready (rs := [20]) (by kernel_rfl) (by simp) ?_
        refine AllReadyH.cons (o := _) rfl (fun K hK => ?_) AllReadyH.nil
        go_simp
        refine (CPB.out _ (A1.out.step hHeld.1).le (U2.out.later hHeld.1).st).mono ?_
        rintro e w19 ⟨rfl, d19⟩
        refine hK.out _ _ (HS.out _ (hHeld.1.trans (d19.mono hHeld.1.size))) (fun hHeld => ?_)
        clear hK K
        try simp only [Act.put, x1, x2, x3, x4, x5, x6]
        refine tk (v := .bool true) 21 rfl (by kernel_rfl) (fun _ _ _ h => h) (by rfl) (fun w hSw => by (try dsimp only [Sc] at hSw); go_simp; first | exact HP.out | (have g := HP.out; simpa using g)) (by assumption) ?_
        simp only [Act.put, x1, x2, x3, x4, x5, x6]
        refine tk 22 rfl (by kernel_rfl) (fun _ _ _ h => h) (by rfl) (fun w hSw => by (try dsimp only [Sc] at hSw); go_simp; try (with_reducible rfl)) (by assumption) ?_
        simp only [Act.put, x1, x2, x3, x4, x5, x6]
        refine tk (v := .bool false) 23 rfl (by kernel_rfl) (fun _ _ _ h => h) (by rfl) (fun w hSw => by (try dsimp only [Sc] at hSw); go_simp; try rfl) (by assumption) ?_
        simp only [Act.put, x1, x2, x3, x4, x5, x6]
        refine tk 24 rfl (by kernel_rfl) (fun _ _ _ h => h) (by rfl) (fun w hSw => by (try dsimp only [Sc] at hSw); go_simp; try (with_reducible rfl)) (by assumption) ?_
        simp only [Act.put, x1, x2, x3, x4, x5, x6]
        refine tk (v := .bool true) 25 rfl (by kernel_rfl) (fun _ _ _ h => h) (by rfl) (fun w hSw => by (try dsimp only [Sc] at hSw); go_simp; first | exact HH.out | (have g := HH.out; simpa using g)) (by assumption) ?_
        simp only [Act.put, x1, x2, x3, x4, x5, x6]
        refine tk 26 rfl (by kernel_rfl) (fun _ _ _ h => h) (by rfl) (fun w hSw => by (try dsimp only [Sc] at hSw); go_simp; try (with_reducible rfl)) (by assumption) ?_
        simp only [Act.put, x1, x2, x3, x4, x5, x6]
        refine tk 27 rfl (by kernel_rfl) (fun _ _ _ h => h) (by rfl) (fun w hSw => by (try dsimp only [Sc] at hSw); go_simp; try (with_reducible rfl)) (by assumption) ?_
        simp only [Act.put, x1, x2, x3, x4, x5, x6]
        refine wpAnyH_ready (rs := [28]) (by kernel_rfl) (by simp) ?_
        refine AllReadyH.cons (o := _) rfl (fun K hK => ?_) AllReadyH.nil
        go_simp
        refine (CAA.out _ (A1.out.step hHeld.1).le (U1.out.later hHeld.1).st).mono ?_
        rintro e w20 ⟨rfl, d20⟩
        refine hK.out _ _ (HS.out _ (hHeld.1.trans (d20.mono hHeld.1.size))) (fun hHeld => ?_)
        clear hK K
        try simp only [Act.put, x1, x2, x3, x4, x5, x6]
        refine tk (v := .bool false) 29 rfl (by kernel_rfl) (fun _ _ _ h => h) (by rfl) (fun w hSw => by (try dsimp only [Sc] at hSw); go_simp; try rfl) (by assumption) ?_
        simp only [Act.put, x1, x2, x3, x4, x5, x6]
        refine tk 30 rfl (by kernel_rfl) (fun _ _ _ h => h) (by rfl) (fun w hSw => by (try dsimp only [Sc] at hSw); go_simp; try (with_reducible rfl)) (by assumption) ?_
        simp only [Act.put, x1, x2, x3, x4, x5, x6]
        refine wpAnyH_done (by kernel_rfl) ?_ _
        have A2 := A1.out.step hHeld.1
        go_wp2
        refine wp_region_held_drew (S := (fun W => Below w9.heap.size w9 W ∧ Sc g1 p a n c W ∧ Sc (g1 + 1) q a' n' c' W ∧ Sc g3 r ar nr cr W)) (by kernel_rfl) (HS.out _ (hHeld.1.trans ((Below.refl _ _).drew.mono hHeld.1.size))) (fun hHeld => ?_)
        refine tk 0 rfl (by kernel_rfl) (fun _ _ _ h => h) (by rfl) (fun w hSw => by (try dsimp only [Sc] at hSw); go_simp; try (with_reducible rfl)) (by assumption) ?_
        simp only [Act.put, x1, x2, x3, x4, x5, x6]
        refine tk 1 rfl (by kernel_rfl) (fun _ _ _ h => h) (by rfl) (fun w hSw => by (try dsimp only [Sc] at hSw); go_simp; try (with_reducible rfl)) (by assumption) ?_
        simp only [Act.put, x1, x2, x3, x4, x5, x6]
        refine tk 2 rfl (by kernel_rfl) (fun _ _ _ h => h) (by rfl) (fun w hSw => by (try dsimp only [Sc] at hSw); go_simp; try (with_reducible rfl)) (by assumption) ?_
        simp only [Act.put, x1, x2, x3, x4, x5, x6]
        refine tk 3 rfl (by kernel_rfl) (fun _ _ _ h => h) (by rfl) (fun w hSw => by (try dsimp only [Sc] at hSw); go_simp; try (with_reducible rfl)) (by assumption) ?_
        simp only [Act.put, x1, x2, x3, x4, x5, x6]
        refine tk 4 rfl (by kernel_rfl) (fun _ _ _ h => h) (by rfl) (fun w hSw => by (try dsimp only [Sc] at hSw); go_simp; try (with_reducible rfl)) (by assumption) ?_
        simp only [Act.put, x1, x2, x3, x4, x5, x6]
        refine tk 6 rfl (by kernel_rfl) (fun _ _ _ h => h) (by rfl) (fun w hSw => by (try dsimp only [Sc] at hSw); go_simp; try (with_reducible rfl)) (by assumption) ?_
        simp only [Act.put, x1, x2, x3, x4, x5, x6]
        refine tk 7 rfl (by kernel_rfl) (fun _ _ _ h => h) (by rfl) (fun w hSw => by (try dsimp only [Sc] at hSw); go_simp; try (with_reducible rfl)) (by assumption) ?_
        simp only [Act.put, x1, x2, x3, x4, x5, x6]
        refine wpAnyH_ready (rs := [5]) (by kernel_rfl) (by simp) ?_
        refine AllReadyH.cons (o := _) rfl (fun K hK => ?_) AllReadyH.nil
        go_simp
        refine (CY.out _ (A1.out.step hHeld.1).le (U1.out.later hHeld.1).st (U3.out.later hHeld.1).st).mono ?_
        rintro e w21 ⟨rfl, d21⟩
        refine hK.out _ _ (HS.out _ (hHeld.1.trans (d21.mono hHeld.1.size))) (fun hHeld => ?_)
        clear hK K
        try simp only [Act.put, x1, x2, x3, x4, x5, x6]
        refine wpAnyH_ready (rs := [8]) (by kernel_rfl) (by simp) ?_
        refine AllReadyH.cons (o := _) rfl (fun K hK => ?_) AllReadyH.nil
        go_simp
        refine (CY2.out _ (A1.out.step hHeld.1).le (U2.out.later hHeld.1).st (U3.out.later hHeld.1).st).mono ?_
        rintro e w22 ⟨rfl, d22⟩
        refine hK.out _ _ (HS.out _ (hHeld.1.trans (d22.mono hHeld.1.size))) (fun hHeld => ?_)
        clear hK K
        try simp only [Act.put, x1, x2, x3, x4, x5, x6]
        refine tk (v := .bool true) 9 rfl (by kernel_rfl) (fun _ _ _ h => h) (by rfl) (fun w hSw => by (try dsimp only [Sc] at hSw); go_simp; try rfl) (by assumption) ?_
        simp only [Act.put, x1, x2, x3, x4, x5, x6]
        refine tk 10 rfl (by kernel_rfl) (fun _ _ _ h => h) (by rfl) (fun w hSw => by (try dsimp only [Sc] at hSw); go_simp; try (with_reducible rfl)) (by assumption) ?_
        simp only [Act.put, x1, x2, x3, x4, x5, x6]
        refine tk 11 rfl (by kernel_rfl) (fun _ _ _ h => h) (by rfl) (fun w hSw => by (try dsimp only [Sc] at hSw); go_simp; try (with_reducible rfl)) (by assumption) ?_
        simp only [Act.put, x1, x2, x3, x4, x5, x6]
        refine wpAnyH_done (by kernel_rfl) ?_ _
        go_wp2
        go_ret
        exact ⟨rfl, (A1.out.step hHeld.1).bw⟩
      ·have hxx : x = false := by rw [Bool.eq_false_iff]; intro e; exact hpt (KF.1 e).2.2
       as_aux_lemma =>
        have HP : Hid ((tp == tq) = false) := beq_eq_false_iff_ne.2 hpt
        skip
        subst hxx
        clear KF CY2 hsc hho hpt CY
        go_wp2
        refine wp_region_held_drew (S := (fun W => Below w9.heap.size w9 W ∧ Sc g1 p a n c W ∧ Sc (g1 + 1) q a' n' c' W ∧ Sc g3 r ar nr cr W)) (by kernel_rfl) (HS.out _ ((Below.refl _ _).drew)) (fun hHeld => ?_)
        refine tk 0 rfl (by kernel_rfl) (fun _ _ _ h => h) (by rfl) (fun w hSw => by (try dsimp only [Sc] at hSw); go_simp; try (with_reducible rfl)) (by assumption) ?_
        simp only [Act.put, x1, x2, x3, x4, x5, x6]
        refine tk (v := .bool true) 1 rfl (by kernel_rfl) (fun _ _ _ h => h) (by rfl) (fun w hSw => by (try dsimp only [Sc] at hSw); go_simp; first | exact HH.out | (have g := HH.out; simpa using g)) (by assumption) ?_
        simp only [Act.put, x1, x2, x3, x4, x5, x6]
        refine tk 2 rfl (by kernel_rfl) (fun _ _ _ h => h) (by rfl) (fun w hSw => by (try dsimp only [Sc] at hSw); go_simp; try (with_reducible rfl)) (by assumption) ?_
        simp only [Act.put, x1, x2, x3, x4, x5, x6]
        refine tk 3 rfl (by kernel_rfl) (fun _ _ _ h => h) (by rfl) (fun w hSw => by (try dsimp only [Sc] at hSw); go_simp; try (with_reducible rfl)) (by assumption) ?_
        simp only [Act.put, x1, x2, x3, x4, x5, x6]
        refine tk 4 rfl (by kernel_rfl) (fun _ _ _ h => h) (by rfl) (fun w hSw => by (try dsimp only [Sc] at hSw); go_simp; try (with_reducible rfl)) (by assumption) ?_
        simp only [Act.put, x1, x2, x3, x4, x5, x6]
        refine tk 5 rfl (by kernel_rfl) (fun _ _ _ h => h) (by rfl) (fun w hSw => by (try dsimp only [Sc] at hSw); go_simp; try (with_reducible rfl)) (by assumption) ?_
        simp only [Act.put, x1, x2, x3, x4, x5, x6]
        refine tk 6 rfl (by kernel_rfl) (fun _ _ _ h => h) (by rfl) (fun w hSw => by (try dsimp only [Sc] at hSw); go_simp; try (with_reducible rfl)) (by assumption) ?_
        simp only [Act.put, x1, x2, x3, x4, x5, x6]
        refine tk (v := .bool true) 7 rfl (by kernel_rfl) (fun _ _ _ h => h) (by rfl) (fun w hSw => by (try dsimp only [Sc] at hSw); go_simp; first | exact HSC.out | (have g := HSC.out; simpa using g)) (by assumption) ?_
        simp only [Act.put, x1, x2, x3, x4, x5, x6]
        refine tk 8 rfl (by kernel_rfl) (fun _ _ _ h => h) (by rfl) (fun w hSw => by (try dsimp only [Sc] at hSw); go_simp; try (with_reducible rfl)) (by assumption) ?_
        simp only [Act.put, x1, x2, x3, x4, x5, x6]
        refine tk 9 rfl (by kernel_rfl) (fun _ _ _ h => h) (by rfl) (fun w hSw => by (try dsimp only [Sc] at hSw); go_simp; try (with_reducible rfl)) (by assumption) ?_
        simp only [Act.put, x1, x2, x3, x4, x5, x6]
        refine tk 10 rfl (by kernel_rfl) (fun _ _ _ h => h) (by rfl) (fun w hSw => by (try dsimp only [Sc] at hSw); go_simp; try (with_reducible rfl)) (by assumption) ?_
        simp only [Act.put, x1, x2, x3, x4, x5, x6]
        refine tk 11 rfl (by kernel_rfl) (fun _ _ _ h => h) (by rfl) (fun w hSw => by (try dsimp only [Sc] at hSw); go_simp; try (with_reducible rfl)) (by assumption) ?_
        simp only [Act.put, x1, x2, x3, x4, x5, x6]
        refine tk 12 rfl (by kernel_rfl) (fun _ _ _ h => h) (by rfl) (fun w hSw => by (try dsimp only [Sc] at hSw); go_simp; try (with_reducible rfl)) (by assumption) ?_
        simp only [Act.put, x1, x2, x3, x4, x5, x6]
        refine tk 13 rfl (by kernel_rfl) (fun _ _ _ h => h) (by rfl) (fun w hSw => by (try dsimp only [Sc] at hSw); go_simp; try (with_reducible rfl)) (by assumption) ?_
        simp only [Act.put, x1, x2, x3, x4, x5, x6]
        refine tk (v := .bool true) 14 rfl (by kernel_rfl) (fun _ _ _ h => h) (by rfl) (fun w hSw => by (try dsimp only [Sc] at hSw); go_simp; first | exact three_if (x := true) (iff_of_true rfl H3.out) w | (have g : p.hk = q.hk ∧ p.hn = q.hn ∧ p.ha = q.ha := H3.out; simp [g.1, g.2.1, g.2.2])) (by assumption) ?_
        simp only [Act.put, x1, x2, x3, x4, x5, x6]
        refine tk 15 rfl (by kernel_rfl) (fun _ _ _ h => h) (by rfl) (fun w hSw => by (try dsimp only [Sc] at hSw); go_simp; try (with_reducible rfl)) (by assumption) ?_
        simp only [Act.put, x1, x2, x3, x4, x5, x6]
        refine tk 16 rfl (by kernel_rfl) (fun _ _ _ h => h) (by rfl) (fun w hSw => by (try dsimp only [Sc] at hSw); go_simp; try (with_reducible rfl)) (by assumption) ?_
        simp only [Act.put, x1, x2, x3, x4, x5, x6]
        refine tk 17 rfl (by kernel_rfl) (fun _ _ _ h => h) (by rfl) (fun w hSw => by (try dsimp only [Sc] at hSw); go_simp; try (with_reducible rfl)) (by assumption) ?_
        simp only [Act.put, x1, x2, x3, x4, x5, x6]
        refine tk 19 rfl (by kernel_rfl) (fun _ _ _ h => h) (by rfl) (fun w hSw => by (try dsimp only [Sc] at hSw); go_simp; try (with_reducible rfl)) (by assumption) ?_
        simp only [Act.put, x1, x2, x3, x4, x5, x6]
        refine wpAnyH_ready (rs := [18]) (by kernel_rfl) (by simp) ?_
        refine AllReadyH.cons (o := _) rfl (fun K hK => ?_) AllReadyH.nil
        go_simp
        refine (CPA.out _ (A1.out.step hHeld.1).le (U1.out.later hHeld.1).st).mono ?_
        rintro e w18 ⟨rfl, d18⟩
        refine hK.out _ _ (HS.out _ (hHeld.1.trans (d18.mono hHeld.1.size))) (fun hHeld => ?_)
        clear hK K
        try simp only [Act.put, x1, x2, x3, x4, x5, x6]
        refine wpAnyH_ready (rs := [20]) (by kernel_rfl) (by simp) ?_
        refine AllReadyH.cons (o := _) rfl (fun K hK => ?_) AllReadyH.nil
        go_simp
        refine (CPB.out _ (A1.out.step hHeld.1).le (U2.out.later hHeld.1).st).mono ?_
        rintro e w19 ⟨rfl, d19⟩
        refine hK.out _ _ (HS.out _ (hHeld.1.trans (d19.mono hHeld.1.size))) (fun hHeld => ?_)
        clear hK K
        try simp only [Act.put, x1, x2, x3, x4, x5, x6]
        refine tk (v := .bool false) 21 rfl (by kernel_rfl) (fun _ _ _ h => h) (by rfl) (fun w hSw => by (try dsimp only [Sc] at hSw); go_simp; first | exact HP.out | (have g := HP.out; simpa using g)) (by assumption) ?_
        simp only [Act.put, x1, x2, x3, x4, x5, x6]
        refine tk 22 rfl (by kernel_rfl) (fun _ _ _ h => h) (by rfl) (fun w hSw => by (try dsimp only [Sc] at hSw); go_simp; try (with_reducible rfl)) (by assumption) ?_
        simp only [Act.put, x1, x2, x3, x4, x5, x6]
        refine tk (v := .bool false) 23 rfl (by kernel_rfl) (fun _ _ _ h => h) (by rfl) (fun w hSw => by (try dsimp only [Sc] at hSw); go_simp; try rfl) (by assumption) ?_
        simp only [Act.put, x1, x2, x3, x4, x5, x6]
        refine tk 24 rfl (by kernel_rfl) (fun _ _ _ h => h) (by rfl) (fun w hSw => by (try dsimp only [Sc] at hSw); go_simp; try (with_reducible rfl)) (by assumption) ?_
        simp only [Act.put, x1, x2, x3, x4, x5, x6]
        refine tk (v := .bool true) 25 rfl (by kernel_rfl) (fun _ _ _ h => h) (by rfl) (fun w hSw => by (try dsimp only [Sc] at hSw); go_simp; first | exact HH.out | (have g := HH.out; simpa using g)) (by assumption) ?_
        simp only [Act.put, x1, x2, x3, x4, x5, x6]
        refine tk 26 rfl (by kernel_rfl) (fun _ _ _ h => h) (by rfl) (fun w hSw => by (try dsimp only [Sc] at hSw); go_simp; try (with_reducible rfl)) (by assumption) ?_
        simp only [Act.put, x1, x2, x3, x4, x5, x6]
        refine tk 27 rfl (by kernel_rfl) (fun _ _ _ h => h) (by rfl) (fun w hSw => by (try dsimp only [Sc] at hSw); go_simp; try (with_reducible rfl)) (by assumption) ?_
        simp only [Act.put, x1, x2, x3, x4, x5, x6]
        refine wpAnyH_ready (rs := [28]) (by kernel_rfl) (by simp) ?_
        refine AllReadyH.cons (o := _) rfl (fun K hK => ?_) AllReadyH.nil
        go_simp
        refine (CAA.out _ (A1.out.step hHeld.1).le (U1.out.later hHeld.1).st).mono ?_
        rintro e w20 ⟨rfl, d20⟩
        refine hK.out _ _ (HS.out _ (hHeld.1.trans (d20.mono hHeld.1.size))) (fun hHeld => ?_)
        clear hK K
        try simp only [Act.put, x1, x2, x3, x4, x5, x6]
        refine tk (v := .bool false) 29 rfl (by kernel_rfl) (fun _ _ _ h => h) (by rfl) (fun w hSw => by (try dsimp only [Sc] at hSw); go_simp; try rfl) (by assumption) ?_
        simp only [Act.put, x1, x2, x3, x4, x5, x6]
        refine tk 30 rfl (by kernel_rfl) (fun _ _ _ h => h) (by rfl) (fun w hSw => by (try dsimp only [Sc] at hSw); go_simp; try (with_reducible rfl)) (by assumption) ?_
        simp only [Act.put, x1, x2, x3, x4, x5, x6]
        refine wpAnyH_done (by kernel_rfl) ?_ _
        have A2 := A1.out.step hHeld.1
        go_wp2
        refine wp_region_held_drew (S := (fun W => Below w9.heap.size w9 W ∧ Sc g1 p a n c W ∧ Sc (g1 + 1) q a' n' c' W ∧ Sc g3 r ar nr cr W)) (by kernel_rfl) (HS.out _ (hHeld.1.trans ((Below.refl _ _).drew.mono hHeld.1.size))) (fun hHeld => ?_)
        refine tk 0 rfl (by kernel_rfl) (fun _ _ _ h => h) (by rfl) (fun w hSw => by (try dsimp only [Sc] at hSw); go_simp; try (with_reducible rfl)) (by assumption) ?_
        simp only [Act.put, x1, x2, x3, x4, x5, x6]
        refine tk 1 rfl (by kernel_rfl) (fun _ _ _ h => h) (by rfl) (fun w hSw => by (try dsimp only [Sc] at hSw); go_simp; try (with_reducible rfl)) (by assumption) ?_
        simp only [Act.put, x1, x2, x3, x4, x5, x6]
        refine tk 2 rfl (by kernel_rfl) (fun _ _ _ h => h) (by rfl) (fun w hSw => by (try dsimp only [Sc] at hSw); go_simp; try (with_reducible rfl)) (by assumption) ?_
        simp only [Act.put, x1, x2, x3, x4, x5, x6]
        refine wpAnyH_take (i := 3) (oi := _) (v := undef) rfl (by kernel_rfl) (by kernel_rfl) (by kernel_rfl) (fun _ _ _ h => h) (Or.inr ⟨by simp [Region.wanted, yielded, undef, Act.put], rfl⟩) (by assumption) ?_
        simp only [Act.put, x1, x2, x3, x4, x5, x6]
        refine wpAnyH_take (i := 4) (oi := _) (v := undef) rfl (by kernel_rfl) (by kernel_rfl) (by kernel_rfl) (fun _ _ _ h => h) (Or.inr ⟨by simp [Region.wanted, yielded, undef, Act.put], rfl⟩) (by assumption) ?_
        simp only [Act.put, x1, x2, x3, x4, x5, x6]
        refine wpAnyH_take (i := 5) (oi := _) (v := undef) rfl (by kernel_rfl) (by kernel_rfl) (by kernel_rfl) (fun _ _ _ h => h) (Or.inr ⟨by simp [Region.wanted, yielded, undef, Act.put], rfl⟩) (by assumption) ?_
        simp only [Act.put, x1, x2, x3, x4, x5, x6]
        refine wpAnyH_take (i := 6) (oi := _) (v := undef) rfl (by kernel_rfl) (by kernel_rfl) (by kernel_rfl) (fun _ _ _ h => h) (Or.inr ⟨by simp [Region.wanted, yielded, undef, Act.put], rfl⟩) (by assumption) ?_
        simp only [Act.put, x1, x2, x3, x4, x5, x6]
        refine wpAnyH_take (i := 7) (oi := _) (v := undef) rfl (by kernel_rfl) (by kernel_rfl) (by kernel_rfl) (fun _ _ _ h => h) (Or.inr ⟨by simp [Region.wanted, yielded, undef, Act.put], rfl⟩) (by assumption) ?_
        simp only [Act.put, x1, x2, x3, x4, x5, x6]
        refine wpAnyH_take (i := 8) (oi := _) (v := undef) rfl (by kernel_rfl) (by kernel_rfl) (by kernel_rfl) (fun _ _ _ h => h) (Or.inr ⟨by simp [Region.wanted, yielded, undef, Act.put], rfl⟩) (by assumption) ?_
        simp only [Act.put, x1, x2, x3, x4, x5, x6]
        refine wpAnyH_take (i := 9) (oi := _) (v := undef) rfl (by kernel_rfl) (by kernel_rfl) (by kernel_rfl) (fun _ _ _ h => h) (Or.inr ⟨by simp [Region.wanted, yielded, undef, Act.put], rfl⟩) (by assumption) ?_
        simp only [Act.put, x1, x2, x3, x4, x5, x6]
        refine tk 10 rfl (by kernel_rfl) (fun _ _ _ h => h) (by rfl) (fun w hSw => by (try dsimp only [Sc] at hSw); go_simp; try (with_reducible rfl)) (by assumption) ?_
        simp only [Act.put, x1, x2, x3, x4, x5, x6]
        refine tk 11 rfl (by kernel_rfl) (fun _ _ _ h => h) (by rfl) (fun w hSw => by (try dsimp only [Sc] at hSw); go_simp; try (with_reducible rfl)) (by assumption) ?_
        simp only [Act.put, x1, x2, x3, x4, x5, x6]
        refine wpAnyH_done (by kernel_rfl) ?_ _
        go_wp2
        go_ret
        exact ⟨rfl, (A1.out.step hHeld.1).bw⟩
end Go.Proofs.YtfcbjdooijhibaaGreatDoor
end
section
namespace Go.Proofs.YtfcbjdooijhibaaGreatDoor
open Go.ChangeShapes Go.WideShapes Go.ChangeAt Go.RowKit
open Go.ChangeMaps (open_string shut_string)
theorem fnOriginSame_own : ownKnob Tryz.prog.godebug = none := by kernel_rfl
theorem fnOriginSame_laidOut : laidOutB Tryz.prog = true := by kernel_rfl
theorem fnOriginSame_contract (H : Type) (enc : TypeId × Value → H) (W : World) (base : Nat) (args : Array Value) (ds gs : List (DataW H)) (before : List MemPlace)
  (hval : ∀ (j : Nat) t v, Tryz.f8.params[j]? = some t → args[j]? = some v → Value.okWide Tryz.prog W .any base t v)
  (hW : DataW.Whole enc Tryz.prog Tryz.f8.params.toList Rows.fnOriginSameSpec.vars false W args.toList ds gs before) (hL : Lean1 W) :
  Calls Tryz.prog 8 args W fun e W' => ∃ v, e = .returned v ∧ Rows.fnOriginSameSpec.post enc Tryz.prog Tryz.f8 false true false false W args v W' := by
 have hW' := hW
 obtain ⟨p, q, hA0, hV, rfl, hfz, hnd⟩ := hW
 have hA : DataW.TrodAll enc Tryz.prog W 0 (fun _ => true) true Tryz.f8.params.toList args.toList ds p := hA0
 rw [Tryz.params8] at hA hval
 obtain ⟨v0, vs0, d0, ds0, p0, q0, hargs, rfl, rfl, h0, r0⟩ := trodAll_cons hA
 obtain ⟨v1, vs1, d1, ds1, p1, q1, rfl, rfl, rfl, h1, r1⟩ := trodAll_cons r0
 obtain ⟨rfl, rfl, rfl⟩ := trodAll_nil r1
 obtain rfl : args = #[v0, v1] := by cases args; simp_all
 obtain ⟨rfl, rfl⟩ := trodVars_none hV
 obtain ⟨a0, len0, cap0, rfl⟩ := okWide_slice Tryz.underlying22 (hval 0 22 v0 rfl rfl)
 have k0 := h0
 have lt0 : ∀ x ∈ p0, x.block < W.heap.size := by obtain ⟨m, hm⟩ := k0; exact DataW.trod_lt m _ _ _ hm
 obtain ⟨z0, w0⟩ : ∃ zs, IsRow .u8 W a0 len0 cap0 zs := by
  obtain ⟨fuel, hf⟩ := h0
  rcases open_ints Tryz.underlying22 Tryz.underlying5 (by kernel_rfl) hf with ⟨hcs, _⟩ | ⟨x, l, c, zs, hcs, _, hl, hm, hz, _, hcell, hwz⟩
  ·simp [Value.cells] at hcs
   obtain ⟨rfl, rfl, rfl⟩ := hcs
   exact ⟨[], .inl ⟨rfl, rfl, rfl, rfl⟩⟩
  ·simp [Value.cells] at hcs
   obtain ⟨rfl, rfl, rfl⟩ := hcs
   exact ⟨zs, .inr ⟨_, rfl, hl, hm, by simpa using hz, hcell, hwz⟩⟩
 obtain ⟨a1, len1, cap1, rfl⟩ := okWide_slice Tryz.underlying22 (hval 1 22 v1 rfl rfl)
 have k1 := h1
 have lt1 : ∀ x ∈ p1, x.block < W.heap.size := by obtain ⟨m, hm⟩ := k1; exact DataW.trod_lt m _ _ _ hm
 obtain ⟨z1, w1⟩ : ∃ zs, IsRow .u8 W a1 len1 cap1 zs := by
  obtain ⟨fuel, hf⟩ := h1
  rcases open_ints Tryz.underlying22 Tryz.underlying5 (by kernel_rfl) hf with ⟨hcs, _⟩ | ⟨x, l, c, zs, hcs, _, hl, hm, hz, _, hcell, hwz⟩
  ·simp [Value.cells] at hcs
   obtain ⟨rfl, rfl, rfl⟩ := hcs
   exact ⟨[], .inl ⟨rfl, rfl, rfl, rfl⟩⟩
  ·simp [Value.cells] at hcs
   obtain ⟨rfl, rfl, rfl⟩ := hcs
   exact ⟨zs, .inr ⟨_, rfl, hl, hm, by simpa using hz, hcell, hwz⟩⟩
 clear hA0
 refine (fnOriginSame_walk W hL a0 len0 cap0 z0 w0 a1 len1 cap1 z1 w1).mono fun e W' ⟨he, bel⟩ => ?_
 subst he
 exact ⟨_, rfl, _, _, _, [], _, [], hW', trodAll_mk1 (shut_bool Tryz.underlying4 _), (trodAll_cons_mk (Below.trod fnOriginSame_laidOut (by kernel_rfl) (of_decide_eq_true (by kernel_rfl)) k0 bel lt0) (trodAll_cons_mk (Below.trod fnOriginSame_laidOut (by kernel_rfl) (of_decide_eq_true (by kernel_rfl)) k1 bel lt1) trodAll_mk0)), rfl, bel.frame _, fun h => by cases h⟩
theorem fnOriginSame_met (os : Os) : laidMet Tryz.prog Rows.fnOriginSameRow.laid (({ World.holding Tryz.prog os ⟨#[.cells #[.string { data := #[69, 79, 70] }] 156], #[], []⟩ with heap := ((((((World.holding Tryz.prog os ⟨#[.cells #[.string { data := #[69, 79, 70] }] 156], #[], []⟩).heap.modify 3 (laidRow .u8 (Go.Pinned.utf8FirstZ.map Int.ofNat))).modify 4 (laidRow .u8 [128, 191, 160, 191, 128, 159, 144, 191, 128, 143, 0, 0, 0, 0, 0, 0, 0, 0, 0, 0, 0, 0, 0, 0, 0, 0, 0, 0, 0, 0, 0, 0])).modify 5 (laidRow .u8 [0, 1, 28, 2, 29, 14, 24, 3, 30, 22, 20, 15, 25, 17, 4, 8, 31, 27, 13, 23, 21, 19, 16, 7, 26, 12, 18, 6, 11, 5, 10, 9])).modify 6 (laidRow .u8 [0, 1, 56, 2, 57, 49, 28, 3, 61, 58, 42, 50, 38, 29, 17, 4, 62, 47, 59, 36, 45, 43, 51, 22, 53, 39, 33, 30, 24, 18, 12, 5, 63, 55, 48, 27, 60, 41, 37, 16, 46, 35, 44, 21, 52, 32, 23, 11, 54, 26, 40, 15, 34, 20, 31, 10, 25, 14, 19, 9, 13, 8, 7, 6])).modify 1 (laidRow .u64 Lib.pow10Tab)).modify 0 (eofRow (World.holding Tryz.prog default ⟨#[], #[], []⟩).heap.size) } : World).forCall (fun _ _ => 0) ⟨#[], #[.slice none 0 0, .slice none 0 0], []⟩).memory :=
 laidMet_of_run3 8 (by kernel_rfl) (by kernel_rfl) (by kernel_rfl)
theorem fnOriginSame_reads (os : Os) {H : Type} (enc : TypeId × Value → H) : ∃ places, DataW.whole enc Tryz.prog (({ World.holding Tryz.prog os ⟨#[.cells #[.string { data := #[69, 79, 70] }] 156], #[], []⟩ with heap := ((((((World.holding Tryz.prog os ⟨#[.cells #[.string { data := #[69, 79, 70] }] 156], #[], []⟩).heap.modify 3 (laidRow .u8 (Go.Pinned.utf8FirstZ.map Int.ofNat))).modify 4 (laidRow .u8 [128, 191, 160, 191, 128, 159, 144, 191, 128, 143, 0, 0, 0, 0, 0, 0, 0, 0, 0, 0, 0, 0, 0, 0, 0, 0, 0, 0, 0, 0, 0, 0])).modify 5 (laidRow .u8 [0, 1, 28, 2, 29, 14, 24, 3, 30, 22, 20, 15, 25, 17, 4, 8, 31, 27, 13, 23, 21, 19, 16, 7, 26, 12, 18, 6, 11, 5, 10, 9])).modify 6 (laidRow .u8 [0, 1, 56, 2, 57, 49, 28, 3, 61, 58, 42, 50, 38, 29, 17, 4, 62, 47, 59, 36, 45, 43, 51, 22, 53, 39, 33, 30, 24, 18, 12, 5, 63, 55, 48, 27, 60, 41, 37, 16, 46, 35, 44, 21, 52, 32, 23, 11, 54, 26, 40, 15, 34, 20, 31, 10, 25, 14, 19, 9, 13, 8, 7, 6])).modify 1 (laidRow .u64 Lib.pow10Tab)).modify 0 (eofRow (World.holding Tryz.prog default ⟨#[], #[], []⟩).heap.size) } : World).forCall (fun _ _ => 0) ⟨#[], #[.slice none 0 0, .slice none 0 0], []⟩).memory Tryz.f8.params.toList Rows.fnOriginSameSpec.vars false #[Value.slice none 0 0, .slice none 0 0].toList 8 = some ([.nil, .nil], [], places) :=
 ⟨[], by kernel_rfl⟩
theorem fnOriginSame_lifted (os : Os) (started : os.Started) (H : Type) (enc : TypeId × Value → H) (F : Stop.Interp) :
  ReturnsInHanded {} Tryz.checked os 8 .any ((OpenSpec.ofChange Rows.fnOriginSameSpec).preRow enc Tryz.prog Tryz.f8 Rows.fnOriginSameRow.domain false Rows.fnOriginSameRow.laid) (((OpenSpec.ofChange Rows.fnOriginSameSpec).at F).post enc Tryz.prog Tryz.f8 false true false false) := by
 obtain ⟨places, hx⟩ := fnOriginSame_reads os enc
 refine returnsInHanded_of_row (C := Tryz.checked) (s := OpenSpec.ofChange Rows.fnOriginSameSpec) fnOriginSame_own started (by kernel_rfl) Tryz.func8
  (witness_row_at (enc := enc) (C := Tryz.checked) false ({ World.holding Tryz.prog os ⟨#[.cells #[.string { data := #[69, 79, 70] }] 156], #[], []⟩ with heap := ((((((World.holding Tryz.prog os ⟨#[.cells #[.string { data := #[69, 79, 70] }] 156], #[], []⟩).heap.modify 3 (laidRow .u8 (Go.Pinned.utf8FirstZ.map Int.ofNat))).modify 4 (laidRow .u8 [128, 191, 160, 191, 128, 159, 144, 191, 128, 143, 0, 0, 0, 0, 0, 0, 0, 0, 0, 0, 0, 0, 0, 0, 0, 0, 0, 0, 0, 0, 0, 0])).modify 5 (laidRow .u8 [0, 1, 28, 2, 29, 14, 24, 3, 30, 22, 20, 15, 25, 17, 4, 8, 31, 27, 13, 23, 21, 19, 16, 7, 26, 12, 18, 6, 11, 5, 10, 9])).modify 6 (laidRow .u8 [0, 1, 56, 2, 57, 49, 28, 3, 61, 58, 42, 50, 38, 29, 17, 4, 62, 47, 59, 36, 45, 43, 51, 22, 53, 39, 33, 30, 24, 18, 12, 5, 63, 55, 48, 27, 60, 41, 37, 16, 46, 35, 44, 21, 52, 32, 23, 11, 54, 26, 40, 15, 34, 20, 31, 10, 25, 14, 19, 9, 13, 8, 7, 6])).modify 1 (laidRow .u64 Lib.pow10Tab)).modify 0 (eofRow (World.holding Tryz.prog default ⟨#[], #[], []⟩).heap.size) } : World) #[.slice none 0 0, .slice none 0 0] rfl (by kernel_rfl) (by kernel_rfl) (by kernel_rfl)
   (OpenSpec.preRow_of_cond 8 hx (by kernel_rfl) (fun k hk => by cases hk) (by kernel_rfl) (fnOriginSame_met os))) ?_
 intro W base args ds gs before hval hW _ _ _ hL hsh _
 exact fnOriginSame_contract H enc W base args ds gs before hval hW (lean1_laid hL hsh)
theorem fnOriginSame_said : Rows.FnOriginSameSaid :=
 OpenClaim.holds_of_cond 8 Tryz.f8 rfl rfl rfl rfl rfl rfl rfl ⟨rfl, rfl, rfl, rfl, rfl⟩ rfl rfl rfl rfl rfl (by kernel_rfl) Tryz.func8 (by kernel_rfl)
  (of_decide_eq_true (by kernel_rfl)) (by unfold Func.isWrapper; first | (rw [if_pos (by decide +kernel)]; kernel_rfl) | (rw [if_neg (by decide +kernel)]; exact ⟨rfl, rfl⟩))
  (fun os started H enc _ F => by rw [OpenClaim.pre_eq_preRow]; exact fnOriginSame_lifted os started H enc F)
theorem fnOriginSame_plain (f : FuncId) (fn : Func) (hf : Tryz.pinned.checked.prog.funcNamed Rows.fnOriginSameRow.func = some f) (hfn : Tryz.pinned.checked.prog.funcs[f]? = some fn) :
  true = Tryz.pinned.checked.prog.looks [] ∧ ∀ (j : Nat) t, fn.params[j]? = some t → Tryz.pinned.checked.prog.wantsStandIn t = false := by
 obtain rfl : f = 8 := Option.some.inj ((show Tryz.prog.funcNamed Rows.fnOriginSameRow.func = some 8 by kernel_rfl).symm.trans hf) |>.symm
 obtain rfl : fn = Tryz.f8 := (Option.some.inj (Tryz.func8.symm.trans hfn)).symm
 refine ⟨by kernel_rfl, fun j t ht => ?_⟩
 rw [Tryz.params8] at ht
 obtain rfl : t = 22 := by simpa using Array.mem_of_getElem? ht
 exact (show Tryz.prog.wantsStandIn 22 = false by kernel_rfl)
theorem fnOriginSame_proved : Rows.FnOriginSameCardSaid :=
 Claim7.holds_tied_plain_at .later [] _ _ _ _ fnOriginSame_said (fun _ h => by cases h) (by kernel_rfl) (fun _ h => by cases h) fnOriginSame_row_tie rfl ⟨rfl, rfl⟩ (by kernel_rfl) rfl fnOriginSame_plain (by kernel_rfl)
#print axioms fnOriginSame_proved
end Go.Proofs.YtfcbjdooijhibaaGreatDoor
end
