/- The law FnUrlSame answers true at every code and leaves its argument as it was; the five tables of the library and io.EOF, which its row lays, are tied to the program's text by the card. -/
import Derived.Test.YtfcbjdooijhibaaGreatDoorCFnUrlSame12
import Derived.Test.YtfcbjdooijhibaaGreatDoorCFnUrlSame01
import Derived.Deep.Cut
import Derived.Test.YtfcbjdooijhibaaGreatDoorCFnUrlSame02
import Derived.Test.YtfcbjdooijhibaaGreatDoorCFnUrlSame03
import Derived.Test.YtfcbjdooijhibaaGreatDoorCFnUrlSame04
import Derived.Test.YtfcbjdooijhibaaGreatDoorCFnUrlSame05
import Derived.Test.YtfcbjdooijhibaaGreatDoorB38
import Derived.Test.YtfcbjdooijhibaaGreatDoorCFnUrlSame07
import Derived.Deep.RegionHeld3
import Derived.Test.YtfcbjdooijhibaaGreatDoorCards
import Derived.Test.YtfcbjdooijhibaaGreatDoorTie
import Derived.Test.YtfcbjdooijhibaaGreatDoorB16
import Derived.WalkKit
import Derived.ProofKit
import Derived.OpenShut
import Derived.ShutString
import Derived.ChangeOld
import Derived.Below
import Derived.Deep.DeepHandedRow
import Derived.Deep.DeepLaidRun
set_option linter.unusedVariables false
set_option linter.unusedSimpArgs false
set_option maxHeartbeats 8000000
set_option maxRecDepth 100000
section
namespace Go.Proofs.YtfcbjdooijhibaaGreatDoor
open Go.RowKit Go.Shelf
theorem drawUrlSame (B : Nat) (a0 : Option Addr) (len cap : Nat) (w : World) (hB : B ≤ w.heap.size) (h : Code B w a0 len cap) :
  Calls Tryz.prog 9 #[.slice a0 len cap] w fun e w' => ∃ (q q' : P) (a a' : Option Addr) (n n' c c' : Nat), e = .returned (.tuple #[.agg #[(.string q.sc), (.string q.us), (.string q.pw), (.int .i64 q.hk), (.string q.hn), (.int .i64 q.ha), (.int .i64 q.po), (.slice a n c), (.string q.op), (.bool q.hq), (.string q.qu), (.bool q.hf), (.string q.fr)], .agg #[(.string q'.sc), (.string q'.us), (.string q'.pw), (.int .i64 q'.hk), (.string q'.hn), (.int .i64 q'.ha), (.int .i64 q'.po), (.slice a' n' c'), (.string q'.op), (.bool q'.hq), (.string q'.qu), (.bool q'.hf), (.string q'.fr)]]) ∧ StrsOf a n q.ps w' ∧ StrsOf a' n' q'.ps w' ∧ Hid (Fit3 q ∧ n = q.ps.length ∧ Fit3 q' ∧ n' = q'.ps.length) ∧ Below w.heap.size w w' := by
 obtain ⟨V0, hV0⟩ : ∃ V, V = (w.alloc (.cells #[(.string ⟨#[]⟩), (.string ⟨#[]⟩), (.string ⟨#[]⟩), (.int .i64 0), (.string ⟨#[]⟩), (.int .i64 0), (.int .i64 0), (.slice none 0 0), (.string ⟨#[]⟩), (.bool false), (.string ⟨#[]⟩), (.bool false), (.string ⟨#[]⟩)] 27)).alloc (.cells #[(.string ⟨#[]⟩), (.string ⟨#[]⟩), (.string ⟨#[]⟩), (.int .i64 0), (.string ⟨#[]⟩), (.int .i64 0), (.int .i64 0), (.slice none 0 0), (.string ⟨#[]⟩), (.bool false), (.string ⟨#[]⟩), (.bool false), (.string ⟨#[]⟩)] 27) := ⟨_, rfl⟩
 have HK0 : Hid (Blk w.heap.size #[(.string ⟨#[]⟩), (.string ⟨#[]⟩), (.string ⟨#[]⟩), (.int .i64 0), (.string ⟨#[]⟩), (.int .i64 0), (.int .i64 0), (.slice none 0 0), (.string ⟨#[]⟩), (.bool false), (.string ⟨#[]⟩), (.bool false), (.string ⟨#[]⟩)] 27 V0) := by show Blk _ _ _ _; rw [hV0]; exact (Blk.new w _ _).alloc _
 have HJ0 : Hid (Blk (w.heap.size + 1) #[(.string ⟨#[]⟩), (.string ⟨#[]⟩), (.string ⟨#[]⟩), (.int .i64 0), (.string ⟨#[]⟩), (.int .i64 0), (.int .i64 0), (.slice none 0 0), (.string ⟨#[]⟩), (.bool false), (.string ⟨#[]⟩), (.bool false), (.string ⟨#[]⟩)] 27 V0) := by
  show Blk _ _ _ _
  have := Blk.new (w.alloc (.cells #[(.string ⟨#[]⟩), (.string ⟨#[]⟩), (.string ⟨#[]⟩), (.int .i64 0), (.string ⟨#[]⟩), (.int .i64 0), (.int .i64 0), (.slice none 0 0), (.string ⟨#[]⟩), (.bool false), (.string ⟨#[]⟩), (.bool false), (.string ⟨#[]⟩)] 27)) #[(.string ⟨#[]⟩), (.string ⟨#[]⟩), (.string ⟨#[]⟩), (.int .i64 0), (.string ⟨#[]⟩), (.int .i64 0), (.int .i64 0), (.slice none 0 0), (.string ⟨#[]⟩), (.bool false), (.string ⟨#[]⟩), (.bool false), (.string ⟨#[]⟩)] 27
  rw [hV0]; simpa using this
 have HB0 : Hid (Below w.heap.size w V0) := by show Below _ _ _; rw [hV0]; exact ((Below.refl _ w).alloc (Nat.le_refl _) _).alloc (by simp) _
 have HC0 : Hid (Code B V0 a0 len cap) := by rw [hV0]; exact code_alloc (code_alloc h hB _) (by simp; omega) _
 have HZ0 : Hid (V0.heap.size = w.heap.size + 2) := by show _ = _; rw [hV0]; simp
 clear h
 go_enter Tryz.func9, Tryz.ntmps9
 go_upto_region 1 with fail
 rw [← hV0]
 clear hV0
 go_wp2_with fail
 refine (l1Open B a0 len cap _ (by have := HZ0.out; omega) HC0.out).mono ?_
 rintro e w1 ⟨rfl, hr, b1⟩
 have HR1 : Hid (Rd B V0.heap.size 0 w1) := hr
 have HK1 : Hid (Blk w.heap.size #[(.string ⟨#[]⟩), (.string ⟨#[]⟩), (.string ⟨#[]⟩), (.int .i64 0), (.string ⟨#[]⟩), (.int .i64 0), (.int .i64 0), (.slice none 0 0), (.string ⟨#[]⟩), (.bool false), (.string ⟨#[]⟩), (.bool false), (.string ⟨#[]⟩)] 27 w1) := HK0.out.below b1 HK0.out.lt
 have HJ1 : Hid (Blk (w.heap.size + 1) #[(.string ⟨#[]⟩), (.string ⟨#[]⟩), (.string ⟨#[]⟩), (.int .i64 0), (.string ⟨#[]⟩), (.int .i64 0), (.int .i64 0), (.slice none 0 0), (.string ⟨#[]⟩), (.bool false), (.string ⟨#[]⟩), (.bool false), (.string ⟨#[]⟩)] 27 w1) := HJ0.out.below b1 HJ0.out.lt
 have HB1 : Hid (Below w.heap.size w w1) := HB0.out.trans (b1.mono HB0.out.size)
 clear hr b1 HC0 HK0 HJ0 HB0
 go_wp2_with fail
 refine (l11Two B V0.heap.size 0 _ (by decide) HR1.out).mono ?_
 rintro e w2 ⟨q, q', a, a', n, n', c, c', p', rfl, o2, o3, hF, r2, g2⟩
 have HK2 : Hid (Blk w.heap.size #[(.string ⟨#[]⟩), (.string ⟨#[]⟩), (.string ⟨#[]⟩), (.int .i64 0), (.string ⟨#[]⟩), (.int .i64 0), (.int .i64 0), (.slice none 0 0), (.string ⟨#[]⟩), (.bool false), (.string ⟨#[]⟩), (.bool false), (.string ⟨#[]⟩)] 27 w2) := (g2.block _ HK1.out.lt (by have := HZ0.out; simp; omega)).trans HK1.out
 have HJ2 : Hid (Blk (w.heap.size + 1) #[(.string ⟨#[]⟩), (.string ⟨#[]⟩), (.string ⟨#[]⟩), (.int .i64 0), (.string ⟨#[]⟩), (.int .i64 0), (.int .i64 0), (.slice none 0 0), (.string ⟨#[]⟩), (.bool false), (.string ⟨#[]⟩), (.bool false), (.string ⟨#[]⟩)] 27 w2) := (g2.block _ HJ1.out.lt (by have := HZ0.out; simp; omega)).trans HJ1.out
 have HB2 : Hid (Below w.heap.size w w2) := HB1.out.trans (below_grown g2 (by have := HZ0.out; omega) HB1.out.size)
 have HO2 : Hid (OwnS (w1.heap.size + 2) (.slice a n c) q.ps w2) := o2
 have HO3 : Hid (OwnS (w1.heap.size + 2) (.slice a' n' c') q'.ps w2) := o3
 have HLT : Hid (w.heap.size + 1 < w1.heap.size) := HJ1.out.lt
 clear o2 o3 r2 g2 HK1 HJ1 HB1 HR1
 have HFIN : Hid (StrsOf a n q.ps ((((((((((((((((((((((((((w2.setCell ⟨w.heap.size, 0, none⟩ (.string q.sc)).setCell ⟨w.heap.size, 1, none⟩ (.string q.us)).setCell ⟨w.heap.size, 2, none⟩ (.string q.pw)).setCell ⟨w.heap.size, 3, none⟩ (.int .i64 q.hk)).setCell ⟨w.heap.size, 4, none⟩ (.string q.hn)).setCell ⟨w.heap.size, 5, none⟩ (.int .i64 q.ha)).setCell ⟨w.heap.size, 6, none⟩ (.int .i64 q.po)).setCell ⟨w.heap.size, 7, none⟩ (.slice a n c)).setCell ⟨w.heap.size, 8, none⟩ (.string q.op)).setCell ⟨w.heap.size, 9, none⟩ (.bool q.hq)).setCell ⟨w.heap.size, 10, none⟩ (.string q.qu)).setCell ⟨w.heap.size, 11, none⟩ (.bool q.hf)).setCell ⟨w.heap.size, 12, none⟩ (.string q.fr)).setCell ⟨(w.heap.size + 1), 0, none⟩ (.string q'.sc)).setCell ⟨(w.heap.size + 1), 1, none⟩ (.string q'.us)).setCell ⟨(w.heap.size + 1), 2, none⟩ (.string q'.pw)).setCell ⟨(w.heap.size + 1), 3, none⟩ (.int .i64 q'.hk)).setCell ⟨(w.heap.size + 1), 4, none⟩ (.string q'.hn)).setCell ⟨(w.heap.size + 1), 5, none⟩ (.int .i64 q'.ha)).setCell ⟨(w.heap.size + 1), 6, none⟩ (.int .i64 q'.po)).setCell ⟨(w.heap.size + 1), 7, none⟩ (.slice a' n' c')).setCell ⟨(w.heap.size + 1), 8, none⟩ (.string q'.op)).setCell ⟨(w.heap.size + 1), 9, none⟩ (.bool q'.hq)).setCell ⟨(w.heap.size + 1), 10, none⟩ (.string q'.qu)).setCell ⟨(w.heap.size + 1), 11, none⟩ (.bool q'.hf)).setCell ⟨(w.heap.size + 1), 12, none⟩ (.string q'.fr)) ∧ StrsOf a' n' q'.ps ((((((((((((((((((((((((((w2.setCell ⟨w.heap.size, 0, none⟩ (.string q.sc)).setCell ⟨w.heap.size, 1, none⟩ (.string q.us)).setCell ⟨w.heap.size, 2, none⟩ (.string q.pw)).setCell ⟨w.heap.size, 3, none⟩ (.int .i64 q.hk)).setCell ⟨w.heap.size, 4, none⟩ (.string q.hn)).setCell ⟨w.heap.size, 5, none⟩ (.int .i64 q.ha)).setCell ⟨w.heap.size, 6, none⟩ (.int .i64 q.po)).setCell ⟨w.heap.size, 7, none⟩ (.slice a n c)).setCell ⟨w.heap.size, 8, none⟩ (.string q.op)).setCell ⟨w.heap.size, 9, none⟩ (.bool q.hq)).setCell ⟨w.heap.size, 10, none⟩ (.string q.qu)).setCell ⟨w.heap.size, 11, none⟩ (.bool q.hf)).setCell ⟨w.heap.size, 12, none⟩ (.string q.fr)).setCell ⟨(w.heap.size + 1), 0, none⟩ (.string q'.sc)).setCell ⟨(w.heap.size + 1), 1, none⟩ (.string q'.us)).setCell ⟨(w.heap.size + 1), 2, none⟩ (.string q'.pw)).setCell ⟨(w.heap.size + 1), 3, none⟩ (.int .i64 q'.hk)).setCell ⟨(w.heap.size + 1), 4, none⟩ (.string q'.hn)).setCell ⟨(w.heap.size + 1), 5, none⟩ (.int .i64 q'.ha)).setCell ⟨(w.heap.size + 1), 6, none⟩ (.int .i64 q'.po)).setCell ⟨(w.heap.size + 1), 7, none⟩ (.slice a' n' c')).setCell ⟨(w.heap.size + 1), 8, none⟩ (.string q'.op)).setCell ⟨(w.heap.size + 1), 9, none⟩ (.bool q'.hq)).setCell ⟨(w.heap.size + 1), 10, none⟩ (.string q'.qu)).setCell ⟨(w.heap.size + 1), 11, none⟩ (.bool q'.hf)).setCell ⟨(w.heap.size + 1), 12, none⟩ (.string q'.fr)) ∧ Below w.heap.size w ((((((((((((((((((((((((((w2.setCell ⟨w.heap.size, 0, none⟩ (.string q.sc)).setCell ⟨w.heap.size, 1, none⟩ (.string q.us)).setCell ⟨w.heap.size, 2, none⟩ (.string q.pw)).setCell ⟨w.heap.size, 3, none⟩ (.int .i64 q.hk)).setCell ⟨w.heap.size, 4, none⟩ (.string q.hn)).setCell ⟨w.heap.size, 5, none⟩ (.int .i64 q.ha)).setCell ⟨w.heap.size, 6, none⟩ (.int .i64 q.po)).setCell ⟨w.heap.size, 7, none⟩ (.slice a n c)).setCell ⟨w.heap.size, 8, none⟩ (.string q.op)).setCell ⟨w.heap.size, 9, none⟩ (.bool q.hq)).setCell ⟨w.heap.size, 10, none⟩ (.string q.qu)).setCell ⟨w.heap.size, 11, none⟩ (.bool q.hf)).setCell ⟨w.heap.size, 12, none⟩ (.string q.fr)).setCell ⟨(w.heap.size + 1), 0, none⟩ (.string q'.sc)).setCell ⟨(w.heap.size + 1), 1, none⟩ (.string q'.us)).setCell ⟨(w.heap.size + 1), 2, none⟩ (.string q'.pw)).setCell ⟨(w.heap.size + 1), 3, none⟩ (.int .i64 q'.hk)).setCell ⟨(w.heap.size + 1), 4, none⟩ (.string q'.hn)).setCell ⟨(w.heap.size + 1), 5, none⟩ (.int .i64 q'.ha)).setCell ⟨(w.heap.size + 1), 6, none⟩ (.int .i64 q'.po)).setCell ⟨(w.heap.size + 1), 7, none⟩ (.slice a' n' c')).setCell ⟨(w.heap.size + 1), 8, none⟩ (.string q'.op)).setCell ⟨(w.heap.size + 1), 9, none⟩ (.bool q'.hq)).setCell ⟨(w.heap.size + 1), 10, none⟩ (.string q'.qu)).setCell ⟨(w.heap.size + 1), 11, none⟩ (.bool q'.hf)).setCell ⟨(w.heap.size + 1), 12, none⟩ (.string q'.fr))) := by
  have hl := HLT.out
  exact ⟨OwnS.strsN2 (OwnS.put13 (OwnS.put13 HO2.out (by omega)) (by omega)) hF.out.2.1, OwnS.strsN2 (OwnS.put13 (OwnS.put13 HO3.out (by omega)) (by omega)) hF.out.2.2.2, below_put13 (below_put13 HB2.out (Nat.le_refl _) _ _ _ _ _ _ _ _ _ _ _ _ _) (by omega) _ _ _ _ _ _ _ _ _ _ _ _ _⟩
 obtain ⟨e0, e1, e2, e3, e4, e5, e6, e7, e8, e9, e10, e11, e12⟩ := Blk.cells13a HK2.out
 have fr := HK2.out.free
 obtain ⟨d0, d1, d2, d3, d4, d5, d6, d7, d8, d9, d10, d11, d12⟩ := Blk.cells13a HJ2.out
 have fd := HJ2.out.free
 clear HO2 HO3 HLT HB2
 go_wp2
 refine bodyPost_ret (v := .tuple #[.agg #[(.string q.sc), (.string q.us), (.string q.pw), (.int .i64 q.hk), (.string q.hn), (.int .i64 q.ha), (.int .i64 q.po), (.slice a n c), (.string q.op), (.bool q.hq), (.string q.qu), (.bool q.hf), (.string q.fr)], .agg #[(.string q'.sc), (.string q'.us), (.string q'.pw), (.int .i64 q'.hk), (.string q'.hn), (.int .i64 q'.ha), (.int .i64 q'.po), (.slice a' n' c'), (.string q'.op), (.bool q'.hq), (.string q'.qu), (.bool q'.hf), (.string q'.fr)]]) (by simp [results, Tryz.results9, go_sem, e0, e1, e2, e3, e4, e5, e6, e7, e8, e9, e10, e11, e12, d0, d1, d2, d3, d4, d5, d6, d7, d8, d9, d10, d11, d12]) rfl ⟨q, q', a, a', n, n', c, c', rfl, HFIN.out.1, HFIN.out.2.1, hF, HFIN.out.2.2⟩
end Go.Proofs.YtfcbjdooijhibaaGreatDoor
end
section
namespace Go.Proofs.YtfcbjdooijhibaaGreatDoor
open Go.RowKit Go.Shelf
def Su (g : Nat) (q : P) (a : Option Addr) (n c : Nat) (W : World) : Prop := W.cell? ⟨g, 0, none⟩ = some (.string q.sc) ∧ W.cell? ⟨g, 1, none⟩ = some (.string q.us) ∧ W.cell? ⟨g, 2, none⟩ = some (.string q.pw) ∧ W.cell? ⟨g, 3, none⟩ = some (.int .i64 q.hk) ∧ W.cell? ⟨g, 4, none⟩ = some (.string q.hn) ∧ W.cell? ⟨g, 5, none⟩ = some (.int .i64 q.ha) ∧ W.cell? ⟨g, 6, none⟩ = some (.int .i64 q.po) ∧ W.cell? ⟨g, 7, none⟩ = some (.slice a n c) ∧ W.cell? ⟨g, 8, none⟩ = some (.string q.op) ∧ W.cell? ⟨g, 9, none⟩ = some (.bool q.hq) ∧ W.cell? ⟨g, 10, none⟩ = some (.string q.qu) ∧ W.cell? ⟨g, 11, none⟩ = some (.bool q.hf) ∧ W.cell? ⟨g, 12, none⟩ = some (.string q.fr)
theorem bsP_tot (q : P) : (bsP q).tot ≤ q.tot := by
 show q.sc.size + q.us.size + q.pw.size + q.hn.size + q.op.size + q.qu.size + (⟨#[]⟩ : ByteArray).size + q.ps.length + tot q.ps ≤ q.sc.size + q.us.size + q.pw.size + q.hn.size + q.op.size + q.qu.size + q.fr.size + q.ps.length + tot q.ps
 have : (⟨#[]⟩ : ByteArray).size = 0 := rfl
 omega
theorem Su.of {g n c : Nat} {q : P} {a : Option Addr} {W : World} (h : Va g q a n c W) : Su g q a n c W := Blk.cells13a h.bk
theorem tk {P : Program} {ops : Array Oper} {Q : Exit → Act → World → Prop} {md : Region.Mode} {S : World → Prop} (i : Nat) {oi : Oper} {v : Value} {fuel : Nat} {listed : Array Bool} {a : Act} {w : World} (hi : ops[i]? = some oi) (h3 : (Region.noSelect ops && Region.free md ops listed i && (Region.ready md ops listed).contains i) = true) (hQ : ∀ c a w, Q (.panic c) (a.put oi.dst v) w → Q (.panic c) a w) (hw : Region.wanted oi (yielded ops a.tmps) = true) (hy : ∀ w, S w → (execOp a.eval oi).run P w = .ok (.value v) w) (hS : S w) (h : wpAnyH P md ops Q S fuel (listed.setIfInBounds i true) (a.put oi.dst v) w) : wpAnyH P md ops Q S (fuel + 1) listed a w := by
 rw [Bool.and_eq_true, Bool.and_eq_true] at h3
 exact wpAnyH_take hi h3.1.1 h3.1.2 h3.2 hQ (Or.inl ⟨hw, hy⟩) hS h
theorem fnUrlSame_walk (w : World) (hL : Lean1 w) (a0 : Option Addr) (len0 cap0 : Nat) (z0 : List Int) (h0 : IsRow .u8 w a0 len0 cap0 z0) :
  Calls Tryz.prog 3 #[.slice a0 len0 cap0] w fun e w' => e = .returned (.bool true) ∧ Below w.heap.size w w' := by
 have hC := code_of_row h0
 by_cases hbig : (1048576 : Int) < (len0 : Int)
 ·go_enter Tryz.func3, Tryz.ntmps3
  go_wp2
  go_ret
  exact ⟨rfl, Below.refl _ _⟩
 have hbig2 : (len0 : Int) ≤ 1048576 := by omega
 have A0 : Hid (Wat w w) := Wat.start hL
 clear hbig hL h0
 go_enter Tryz.func3, Tryz.ntmps3
 go_wp2_with fail
 refine (drawUrlSame w.heap.size a0 len0 cap0 _ (Nat.le_refl _) hC).mono ?_
 rintro e w1 ⟨p, q, a, a', n, n', c, c', rfl, s1, s2, hF, b1⟩
 obtain ⟨V1, hV1⟩ : ∃ V, V = (w1.alloc (.cells #[(.string p.sc), (.string p.us), (.string p.pw), (.int .i64 p.hk), (.string p.hn), (.int .i64 p.ha), (.int .i64 p.po), (.slice a n c), (.string p.op), (.bool p.hq), (.string p.qu), (.bool p.hf), (.string p.fr)] 27)).alloc (.cells #[(.string q.sc), (.string q.us), (.string q.pw), (.int .i64 q.hk), (.string q.hn), (.int .i64 q.ha), (.int .i64 q.po), (.slice a' n' c'), (.string q.op), (.bool q.hq), (.string q.qu), (.bool q.hf), (.string q.fr)] 27) := ⟨_, rfl⟩
 have U1 : Hid (Va w1.heap.size p a n c V1) := by show Va _ _ _ _ _ _; rw [hV1]; exact (Va.new _ s1).later (below_new _ _)
 have U2 : Hid (Va (w1.heap.size + 1) q a' n' c' V1) := by
  show Va _ _ _ _ _ _
  have := Va.new (c := c') (w1.alloc (.cells #[(.string p.sc), (.string p.us), (.string p.pw), (.int .i64 p.hk), (.string p.hn), (.int .i64 p.ha), (.int .i64 p.po), (.slice a n c), (.string p.op), (.bool p.hq), (.string p.qu), (.bool p.hf), (.string p.fr)] 27)) (s2.later (below_new _ _))
  rw [hV1]; simpa using this
 have A1 : Hid (Wat w V1) := A0.out.step (by rw [hV1]; exact (b1.trans ((below_new _ _).mono b1.size)).trans ((below_new _ _).mono ((b1.trans ((below_new _ _).mono b1.size)).size)))
 clear s1 s2 b1 A0 hC
 obtain ⟨x, hx⟩ : ∃ x : Bool, x = true ↔ okP p ∧ okP q ∧ bsP p = bsP q := by
  by_cases h : okP p ∧ okP q ∧ bsP p = bsP q
  ·exact ⟨true, by simp [h]⟩
  ·exact ⟨false, by simp [h]⟩
 have hxs : x = true ↔ okP q ∧ okP p ∧ bsP q = bsP p := by rw [hx]; exact ⟨fun h => ⟨h.2.1, h.1, h.2.2.symm⟩, fun h => ⟨h.2.1, h.1, h.2.2.symm⟩⟩
 obtain ⟨b, hb⟩ : ∃ b : Bool, b = true ↔ okP p := by
  by_cases h : okP p
  ·exact ⟨true, by simp [h]⟩
  ·exact ⟨false, by simp [h]⟩
 obtain ⟨b', hb'⟩ : ∃ b : Bool, b = true ↔ okP q := by
  by_cases h : okP q
  ·exact ⟨true, by simp [h]⟩
  ·exact ⟨false, by simp [h]⟩
 have hto : p.tot ≤ 1048576 := by have := hF.out.1.tot; omega
 have hpo : p.po ≤ 9223372036854775807 := by have := hF.out.1.po; omega
 have hto' : q.tot ≤ 1048576 := by have := hF.out.2.2.1.tot; omega
 have hpo' : q.po ≤ 9223372036854775807 := by have := hF.out.2.2.1.po; omega
 have CI : Hid (∀ W, Lean1 W → StrsOf a n p.ps W → StrsOf a' n' q.ps W → Calls Tryz.prog 10 #[.agg #[(.string p.sc), (.string p.us), (.string p.pw), (.int .i64 p.hk), (.string p.hn), (.int .i64 p.ha), (.int .i64 p.po), (.slice a n c), (.string p.op), (.bool p.hq), (.string p.qu), (.bool p.hf), (.string p.fr)], .agg #[(.string q.sc), (.string q.us), (.string q.pw), (.int .i64 q.hk), (.string q.hn), (.int .i64 q.ha), (.int .i64 q.po), (.slice a' n' c'), (.string q.op), (.bool q.hq), (.string q.qu), (.bool q.hf), (.string q.fr)]] W fun e w' => e = .returned (.bool x) ∧ Below W.heap.size W w') := fun W hW s s' => implUrlSame p q a a' n n' c c' W hW s s' hto hto' hpo hpo' x hx
 have CJ : Hid (∀ W, Lean1 W → StrsOf a n p.ps W → StrsOf a' n' q.ps W → Calls Tryz.prog 10 #[.agg #[(.string q.sc), (.string q.us), (.string q.pw), (.int .i64 q.hk), (.string q.hn), (.int .i64 q.ha), (.int .i64 q.po), (.slice a' n' c'), (.string q.op), (.bool q.hq), (.string q.qu), (.bool q.hf), (.string q.fr)], .agg #[(.string p.sc), (.string p.us), (.string p.pw), (.int .i64 p.hk), (.string p.hn), (.int .i64 p.ha), (.int .i64 p.po), (.slice a n c), (.string p.op), (.bool p.hq), (.string p.qu), (.bool p.hf), (.string p.fr)]] W fun e w' => e = .returned (.bool x) ∧ Below W.heap.size W w') := fun W hW s s' => implUrlSame q p a' a n' n c' c W hW s' s hto' hto hpo' hpo x hxs
 have CS : Hid (∀ W, StrsOf a n p.ps W → StrsOf a' n' q.ps W → Calls Tryz.prog 11 #[.agg #[(.string p.sc), (.string p.us), (.string p.pw), (.int .i64 p.hk), (.string p.hn), (.int .i64 p.ha), (.int .i64 p.po), (.slice a n c), (.string p.op), (.bool p.hq), (.string p.qu), (.bool p.hf), (.string p.fr)], .agg #[(.string q.sc), (.string q.us), (.string q.pw), (.int .i64 q.hk), (.string q.hn), (.int .i64 q.ha), (.int .i64 q.po), (.slice a' n' c'), (.string q.op), (.bool q.hq), (.string q.qu), (.bool q.hf), (.string q.fr)]] W fun e w' => e = .returned (.bool x) ∧ Below W.heap.size W w') := fun W s s' => specUrlSame p q a a' n n' c c' W s s' hto hto' hpo hpo' x hx
 have CO : Hid (∀ W, StrsOf a n p.ps W → Calls Tryz.prog 12 #[.agg #[(.string p.sc), (.string p.us), (.string p.pw), (.int .i64 p.hk), (.string p.hn), (.int .i64 p.ha), (.int .i64 p.po), (.slice a n c), (.string p.op), (.bool p.hq), (.string p.qu), (.bool p.hf), (.string p.fr)]] W fun e w' => e = .returned (.bool b) ∧ Below W.heap.size W w') := fun W s => specUrlOk p a n c W s hto hpo b hb
 have CO2 : Hid (∀ W, StrsOf a' n' q.ps W → Calls Tryz.prog 12 #[.agg #[(.string q.sc), (.string q.us), (.string q.pw), (.int .i64 q.hk), (.string q.hn), (.int .i64 q.ha), (.int .i64 q.po), (.slice a' n' c'), (.string q.op), (.bool q.hq), (.string q.qu), (.bool q.hf), (.string q.fr)]] W fun e w' => e = .returned (.bool b') ∧ Below W.heap.size W w') := fun W s => specUrlOk q a' n' c' W s hto' hpo' b' hb'
 have KR : Hid (b = true → b' = true → okP p ∧ okP q ∧ (x = true ↔ bsP p = bsP q)) := fun h h' => by
  have h1 := hb.1 h
  have h2 := hb'.1 h'
  exact ⟨h1, h2, by rw [hx]; simp [h1, h2]⟩
 have HTP : Hid (p.tot ≤ 1048576 ∧ p.po ≤ 9223372036854775807 ∧ q.tot ≤ 1048576 ∧ q.po ≤ 9223372036854775807) := ⟨hto, hpo, hto', hpo'⟩
 have HN : Hid (n = p.ps.length ∧ n' = q.ps.length) := ⟨hF.out.2.1, hF.out.2.2.2⟩
 clear hb hb' hx hxs hto hpo hto' hpo' hF
 go_upto_region 4 with fail
 rw [← hV1]
 clear hV1
 generalize w1.heap.size = g1 at *
 obtain ⟨k0, k1, k2, k3, k4, k5, k6, k7, k8, k9, k10, k11, k12⟩ := Blk.cells13a U1.out.bk
 obtain ⟨j0, j1, j2, j3, j4, j5, j6, j7, j8, j9, j10, j11, j12⟩ := Blk.cells13a U2.out.bk
 go_wp2_with fail
 refine (CI.out _ A1.out.le U1.out.st U2.out.st).mono ?_
 rintro e w2 ⟨rfl, d2⟩
 have A9 : Hid (Wat w w2) := A1.out.step d2
 have U8 : Hid (Va g1 p a n c w2) := U1.out.later d2
 have U9 : Hid (Va (g1 + 1) q a' n' c' w2) := U2.out.later d2
 clear d2 A1 U1 U2 k0 k1 k2 k3 k4 k5 k6 k7 k8 k9 k10 k11 k12 j0 j1 j2 j3 j4 j5 j6 j7 j8 j9 j10 j11 j12
 have A1 := A9
 have U1 := U8
 have U2 := U9
 clear A9 U8 U9
 obtain ⟨k0, k1, k2, k3, k4, k5, k6, k7, k8, k9, k10, k11, k12⟩ := Blk.cells13a U1.out.bk
 obtain ⟨j0, j1, j2, j3, j4, j5, j6, j7, j8, j9, j10, j11, j12⟩ := Blk.cells13a U2.out.bk
 go_wp2_with fail
 refine (CS.out _ U1.out.st U2.out.st).mono ?_
 rintro e w3 ⟨rfl, d3⟩
 have A9 : Hid (Wat w w3) := A1.out.step d3
 have U8 : Hid (Va g1 p a n c w3) := U1.out.later d3
 have U9 : Hid (Va (g1 + 1) q a' n' c' w3) := U2.out.later d3
 clear d3 A1 U1 U2 k0 k1 k2 k3 k4 k5 k6 k7 k8 k9 k10 k11 k12 j0 j1 j2 j3 j4 j5 j6 j7 j8 j9 j10 j11 j12
 have A1 := A9
 have U1 := U8
 have U2 := U9
 clear A9 U8 U9
 obtain ⟨k0, k1, k2, k3, k4, k5, k6, k7, k8, k9, k10, k11, k12⟩ := Blk.cells13a U1.out.bk
 obtain ⟨j0, j1, j2, j3, j4, j5, j6, j7, j8, j9, j10, j11, j12⟩ := Blk.cells13a U2.out.bk
 go_wp2_with fail
 refine (CJ.out _ A1.out.le U1.out.st U2.out.st).mono ?_
 rintro e w4 ⟨rfl, d4⟩
 have A9 : Hid (Wat w w4) := A1.out.step d4
 have U8 : Hid (Va g1 p a n c w4) := U1.out.later d4
 have U9 : Hid (Va (g1 + 1) q a' n' c' w4) := U2.out.later d4
 clear d4 A1 U1 U2 k0 k1 k2 k3 k4 k5 k6 k7 k8 k9 k10 k11 k12 j0 j1 j2 j3 j4 j5 j6 j7 j8 j9 j10 j11 j12
 have A1 := A9
 have U1 := U8
 have U2 := U9
 clear A9 U8 U9
 obtain ⟨k0, k1, k2, k3, k4, k5, k6, k7, k8, k9, k10, k11, k12⟩ := Blk.cells13a U1.out.bk
 obtain ⟨j0, j1, j2, j3, j4, j5, j6, j7, j8, j9, j10, j11, j12⟩ := Blk.cells13a U2.out.bk
 go_wp2_with fail
 refine (CO.out _ U1.out.st).mono ?_
 rintro e w5 ⟨rfl, d5⟩
 have A9 : Hid (Wat w w5) := A1.out.step d5
 have U8 : Hid (Va g1 p a n c w5) := U1.out.later d5
 have U9 : Hid (Va (g1 + 1) q a' n' c' w5) := U2.out.later d5
 clear d5 A1 U1 U2 k0 k1 k2 k3 k4 k5 k6 k7 k8 k9 k10 k11 k12 j0 j1 j2 j3 j4 j5 j6 j7 j8 j9 j10 j11 j12
 have A1 := A9
 have U1 := U8
 have U2 := U9
 clear A9 U8 U9
 obtain ⟨k0, k1, k2, k3, k4, k5, k6, k7, k8, k9, k10, k11, k12⟩ := Blk.cells13a U1.out.bk
 obtain ⟨j0, j1, j2, j3, j4, j5, j6, j7, j8, j9, j10, j11, j12⟩ := Blk.cells13a U2.out.bk
 rcases Bool.eq_false_or_eq_true b with hbb | hbb
 rotate_left
 ·subst hbb
  clear KR HTP HN CO CO2 CI
  go_wp2_with fail
  refine (CS.out _ U1.out.st U2.out.st).mono ?_
  rintro e w6 ⟨rfl, d6⟩
  have A9 : Hid (Wat w w6) := A1.out.step d6
  have U8 : Hid (Va g1 p a n c w6) := U1.out.later d6
  have U9 : Hid (Va (g1 + 1) q a' n' c' w6) := U2.out.later d6
  clear d6 A1 U1 U2 k0 k1 k2 k3 k4 k5 k6 k7 k8 k9 k10 k11 k12 j0 j1 j2 j3 j4 j5 j6 j7 j8 j9 j10 j11 j12
  have A1 := A9
  have U1 := U8
  have U2 := U9
  clear A9 U8 U9
  obtain ⟨k0, k1, k2, k3, k4, k5, k6, k7, k8, k9, k10, k11, k12⟩ := Blk.cells13a U1.out.bk
  obtain ⟨j0, j1, j2, j3, j4, j5, j6, j7, j8, j9, j10, j11, j12⟩ := Blk.cells13a U2.out.bk
  go_wp2_with fail
  refine (CJ.out _ A1.out.le U1.out.st U2.out.st).mono ?_
  rintro e w7 ⟨rfl, d7⟩
  have A9 : Hid (Wat w w7) := A1.out.step d7
  have U8 : Hid (Va g1 p a n c w7) := U1.out.later d7
  have U9 : Hid (Va (g1 + 1) q a' n' c' w7) := U2.out.later d7
  clear d7 A1 U1 U2 k0 k1 k2 k3 k4 k5 k6 k7 k8 k9 k10 k11 k12 j0 j1 j2 j3 j4 j5 j6 j7 j8 j9 j10 j11 j12
  have A1 := A9
  have U1 := U8
  have U2 := U9
  clear A9 U8 U9
  obtain ⟨k0, k1, k2, k3, k4, k5, k6, k7, k8, k9, k10, k11, k12⟩ := Blk.cells13a U1.out.bk
  obtain ⟨j0, j1, j2, j3, j4, j5, j6, j7, j8, j9, j10, j11, j12⟩ := Blk.cells13a U2.out.bk
  go_wp2
  go_ret
  exact ⟨rfl, A1.out.bw⟩
 ·have KT := KR.out hbb
  subst hbb
  clear KR CO
  go_wp2_with fail
  refine (CO2.out _ U2.out.st).mono ?_
  rintro e w7 ⟨rfl, d7⟩
  have A9 : Hid (Wat w w7) := A1.out.step d7
  have U8 : Hid (Va g1 p a n c w7) := U1.out.later d7
  have U9 : Hid (Va (g1 + 1) q a' n' c' w7) := U2.out.later d7
  clear d7 A1 U1 U2 k0 k1 k2 k3 k4 k5 k6 k7 k8 k9 k10 k11 k12 j0 j1 j2 j3 j4 j5 j6 j7 j8 j9 j10 j11 j12
  have A1 := A9
  have U1 := U8
  have U2 := U9
  clear A9 U8 U9
  obtain ⟨k0, k1, k2, k3, k4, k5, k6, k7, k8, k9, k10, k11, k12⟩ := Blk.cells13a U1.out.bk
  obtain ⟨j0, j1, j2, j3, j4, j5, j6, j7, j8, j9, j10, j11, j12⟩ := Blk.cells13a U2.out.bk
  rcases Bool.eq_false_or_eq_true b' with hbb | hbb
  rotate_left
  ·subst hbb
   clear KT HTP HN CO2 CI
   go_wp2_with fail
   refine (CS.out _ U1.out.st U2.out.st).mono ?_
   rintro e w8 ⟨rfl, d8⟩
   have A9 : Hid (Wat w w8) := A1.out.step d8
   have U8 : Hid (Va g1 p a n c w8) := U1.out.later d8
   have U9 : Hid (Va (g1 + 1) q a' n' c' w8) := U2.out.later d8
   clear d8 A1 U1 U2 k0 k1 k2 k3 k4 k5 k6 k7 k8 k9 k10 k11 k12 j0 j1 j2 j3 j4 j5 j6 j7 j8 j9 j10 j11 j12
   have A1 := A9
   have U1 := U8
   have U2 := U9
   clear A9 U8 U9
   obtain ⟨k0, k1, k2, k3, k4, k5, k6, k7, k8, k9, k10, k11, k12⟩ := Blk.cells13a U1.out.bk
   obtain ⟨j0, j1, j2, j3, j4, j5, j6, j7, j8, j9, j10, j11, j12⟩ := Blk.cells13a U2.out.bk
   go_wp2_with fail
   refine (CJ.out _ A1.out.le U1.out.st U2.out.st).mono ?_
   rintro e w9 ⟨rfl, d9⟩
   have A9 : Hid (Wat w w9) := A1.out.step d9
   have U8 : Hid (Va g1 p a n c w9) := U1.out.later d9
   have U9 : Hid (Va (g1 + 1) q a' n' c' w9) := U2.out.later d9
   clear d9 A1 U1 U2 k0 k1 k2 k3 k4 k5 k6 k7 k8 k9 k10 k11 k12 j0 j1 j2 j3 j4 j5 j6 j7 j8 j9 j10 j11 j12
   have A1 := A9
   have U1 := U8
   have U2 := U9
   clear A9 U8 U9
   obtain ⟨k0, k1, k2, k3, k4, k5, k6, k7, k8, k9, k10, k11, k12⟩ := Blk.cells13a U1.out.bk
   obtain ⟨j0, j1, j2, j3, j4, j5, j6, j7, j8, j9, j10, j11, j12⟩ := Blk.cells13a U2.out.bk
   go_wp2
   go_ret
   exact ⟨rfl, A1.out.bw⟩
  ·have KT2 := KT hbb
   subst hbb
   clear KT CO2 CS CI CJ
   obtain ⟨hp, hq, hx⟩ := KT2
   obtain ⟨t1, ht1⟩ : ∃ t1, t1 = mk (writL (bsP p)) := ⟨_, rfl⟩
   obtain ⟨t2, ht2⟩ : ∃ t2, t2 = mk (writL (bsP q)) := ⟨_, rfl⟩
   have HX : Hid ((t1.toList == t2.toList) = x) := by
    show _ = _
    cases hxx : x with
    | true => rw [ht1, ht2, hx.1 hxx]; exact beq_self_eq_true _
    | false =>
     refine tlb_ne (fun e => ?_)
     have e2 : writL (bsP p) = writL (bsP q) := by
      rw [ht1, ht2] at e
      have := congrArg (fun b : ByteArray => b.data.toList) e
      simpa only [mk_data] using this
     have h1 := (ok_base p hp).2
     rw [e2, (ok_base q hq).2] at h1
     rw [hx.2 h1.symm] at hxx
     cases hxx
   have CBA : Hid (∀ W, Lean1 W → StrsOf a n p.ps W → Calls Tryz.prog 14 #[.agg #[(.string p.sc), (.string p.us), (.string p.pw), (.int .i64 p.hk), (.string p.hn), (.int .i64 p.ha), (.int .i64 p.po), (.slice a n c), (.string p.op), (.bool p.hq), (.string p.qu), (.bool p.hf), (.string p.fr)]] W fun e w' => ∃ a3 c3, e = .returned (.agg #[(.string p.sc), (.string p.us), (.string p.pw), (.int .i64 p.hk), (.string p.hn), (.int .i64 p.ha), (.int .i64 p.po), (.slice a3 n c3), (.string p.op), (.bool p.hq), (.string p.qu), (.bool false), (.string ⟨#[]⟩)]) ∧ StrsOf a3 n p.ps w' ∧ Below W.heap.size W w') := fun W hW s => by
    refine (implUrlBaseYes p a n c W hW s HTP.out.1 HTP.out.2.1 hp).mono ?_
    rintro e w' ⟨a3, c3, rfl, o, d⟩
    exact ⟨a3, c3, rfl, o.strsN HN.out.1, d⟩
   have CBB : Hid (∀ W, Lean1 W → StrsOf a' n' q.ps W → Calls Tryz.prog 14 #[.agg #[(.string q.sc), (.string q.us), (.string q.pw), (.int .i64 q.hk), (.string q.hn), (.int .i64 q.ha), (.int .i64 q.po), (.slice a' n' c'), (.string q.op), (.bool q.hq), (.string q.qu), (.bool q.hf), (.string q.fr)]] W fun e w' => ∃ a3 c3, e = .returned (.agg #[(.string q.sc), (.string q.us), (.string q.pw), (.int .i64 q.hk), (.string q.hn), (.int .i64 q.ha), (.int .i64 q.po), (.slice a3 n' c3), (.string q.op), (.bool q.hq), (.string q.qu), (.bool false), (.string ⟨#[]⟩)]) ∧ StrsOf a3 n' q.ps w' ∧ Below W.heap.size W w') := fun W hW s => by
    refine (implUrlBaseYes q a' n' c' W hW s HTP.out.2.2.1 HTP.out.2.2.2 hq).mono ?_
    rintro e w' ⟨a3, c3, rfl, o, d⟩
    exact ⟨a3, c3, rfl, o.strsN HN.out.2, d⟩
   have CG : Hid (∀ a3 c3 a4 c4 W, StrsOf a3 n p.ps W → StrsOf a4 n' q.ps W → Calls Tryz.prog 13 #[.agg #[(.string p.sc), (.string p.us), (.string p.pw), (.int .i64 p.hk), (.string p.hn), (.int .i64 p.ha), (.int .i64 p.po), (.slice a3 n c3), (.string p.op), (.bool p.hq), (.string p.qu), (.bool false), (.string ⟨#[]⟩)], .agg #[(.string q.sc), (.string q.us), (.string q.pw), (.int .i64 q.hk), (.string q.hn), (.int .i64 q.ha), (.int .i64 q.po), (.slice a4 n' c4), (.string q.op), (.bool q.hq), (.string q.qu), (.bool false), (.string ⟨#[]⟩)]] W fun e w' => e = .returned (.bool x) ∧ Below W.heap.size W w') := fun a3 c3 a4 c4 W s s' => guUrlAny (bsP p) (bsP q) a3 a4 n n' c3 c4 W s s' (by have : p.ps.length ≤ p.tot := (by unfold P.tot; omega); have := HTP.out.1; have := HN.out.1; omega) (by have : q.ps.length ≤ q.tot := (by unfold P.tot; omega); have := HTP.out.2.2.1; have := HN.out.2; omega) x hx
   have CPA : Hid (∀ a3 c3 W, Lean1 W → StrsOf a3 n p.ps W → Calls Tryz.prog 15 #[.agg #[(.string p.sc), (.string p.us), (.string p.pw), (.int .i64 p.hk), (.string p.hn), (.int .i64 p.ha), (.int .i64 p.po), (.slice a3 n c3), (.string p.op), (.bool p.hq), (.string p.qu), (.bool false), (.string ⟨#[]⟩)]] W fun e w' => e = .returned (.string t1) ∧ Below W.heap.size W w') := fun a3 c3 W hW s => by
    have := implUrlPut (bsP p) a3 n c3 W hW s (Nat.le_trans (bsP_tot p) HTP.out.1) HTP.out.2.1 true (by simp [ok_base p hp])
    rw [if_pos rfl, ← ht1] at this
    exact this
   have CPB : Hid (∀ a3 c3 W, Lean1 W → StrsOf a3 n' q.ps W → Calls Tryz.prog 15 #[.agg #[(.string q.sc), (.string q.us), (.string q.pw), (.int .i64 q.hk), (.string q.hn), (.int .i64 q.ha), (.int .i64 q.po), (.slice a3 n' c3), (.string q.op), (.bool q.hq), (.string q.qu), (.bool false), (.string ⟨#[]⟩)]] W fun e w' => e = .returned (.string t2) ∧ Below W.heap.size W w') := fun a3 c3 W hW s => by
    have := implUrlPut (bsP q) a3 n' c3 W hW s (Nat.le_trans (bsP_tot q) HTP.out.2.2.1) HTP.out.2.2.2 true (by simp [ok_base q hq])
    rw [if_pos rfl, ← ht2] at this
    exact this
   have CE : Hid (∀ W, Lean1 W → StrsOf a n p.ps W → Calls Tryz.prog 10 #[.agg #[(.string p.sc), (.string p.us), (.string p.pw), (.int .i64 p.hk), (.string p.hn), (.int .i64 p.ha), (.int .i64 p.po), (.slice a n c), (.string p.op), (.bool p.hq), (.string p.qu), (.bool p.hf), (.string p.fr)], .agg #[(.string p.sc), (.string p.us), (.string p.pw), (.int .i64 p.hk), (.string p.hn), (.int .i64 p.ha), (.int .i64 p.po), (.slice a n c), (.string p.op), (.bool p.hq), (.string p.qu), (.bool p.hf), (.string p.fr)]] W fun e w' => e = .returned (.bool true) ∧ Below W.heap.size W w') := fun W hW s => implUrlSame p p a a n n c c W hW s s HTP.out.1 HTP.out.1 HTP.out.2.1 HTP.out.2.1 true (by simp [hp])
   clear hp hq hx ht1 ht2 HTP HN k0 k1 k2 k3 k4 k5 k6 k7 k8 k9 k10 k11 k12 j0 j1 j2 j3 j4 j5 j6 j7 j8 j9 j10 j11 j12
   have HS : Hid (∀ W, Below w7.heap.size w7 W → (fun W => Below w7.heap.size w7 W ∧ Su g1 p a n c W ∧ Su (g1 + 1) q a' n' c' W) W) := fun W d => ⟨d, Su.of (U1.out.later d), Su.of (U2.out.later d)⟩
   try go_wp2_with fail
   refine wp_region_held_drew (S := (fun W => Below w7.heap.size w7 W ∧ Su g1 p a n c W ∧ Su (g1 + 1) q a' n' c' W)) (by kernel_rfl) (HS.out _ ((Below.refl _ _).drew)) (fun hHeld => ?_)
   refine tk 0 rfl (by kernel_rfl) (fun _ _ _ h => h) (by rfl) (fun w hSw => by (try dsimp only [Su] at hSw); go_simp; try (with_reducible rfl)) (by assumption) ?_
   simp only [Act.put, List.getElem_toArray, List.getElem_cons_zero, List.getElem_cons_succ, List.setIfInBounds_toArray, List.set_cons_zero, List.set_cons_succ]
   refine tk 1 rfl (by kernel_rfl) (fun _ _ _ h => h) (by rfl) (fun w hSw => by (try dsimp only [Su] at hSw); go_simp; try (with_reducible rfl)) (by assumption) ?_
   simp only [Act.put, List.getElem_toArray, List.getElem_cons_zero, List.getElem_cons_succ, List.setIfInBounds_toArray, List.set_cons_zero, List.set_cons_succ]
   refine tk 3 rfl (by kernel_rfl) (fun _ _ _ h => h) (by rfl) (fun w hSw => by (try dsimp only [Su] at hSw); go_simp; try (with_reducible rfl)) (by assumption) ?_
   simp only [Act.put, List.getElem_toArray, List.getElem_cons_zero, List.getElem_cons_succ, List.setIfInBounds_toArray, List.set_cons_zero, List.set_cons_succ]
   refine wpAnyH_ready (rs := [2]) (by kernel_rfl) (by simp) ?_
   refine AllReadyH.cons (o := _) rfl (fun K hK => ?_) AllReadyH.nil
   go_simp
   refine (CBA.out _ (A1.out.step hHeld.1).le (U1.out.later hHeld.1).st).mono ?_
   rintro e w8 ⟨a3, c3, rfl, s3, d8⟩
   refine hK.out _ _ (HS.out _ (hHeld.1.trans (d8.mono hHeld.1.size))) (fun hHeld => ?_)
   clear hK K
   try simp only [Act.put, List.getElem_toArray, List.getElem_cons_zero, List.getElem_cons_succ, List.setIfInBounds_toArray, List.set_cons_zero, List.set_cons_succ]
   refine wpAnyH_ready (rs := [4]) (by kernel_rfl) (by simp) ?_
   refine AllReadyH.cons (o := _) rfl (fun K hK => ?_) AllReadyH.nil
   go_simp
   refine (CBB.out _ (A1.out.step hHeld.1).le (U2.out.later hHeld.1).st).mono ?_
   rintro e w9 ⟨a4, c4, rfl, s4, d9⟩
   have s3b := s3.later d9
   refine hK.out _ _ (HS.out _ (hHeld.1.trans (d9.mono hHeld.1.size))) (fun hHeld => ?_)
   clear hK K
   try simp only [Act.put, List.getElem_toArray, List.getElem_cons_zero, List.getElem_cons_succ, List.setIfInBounds_toArray, List.set_cons_zero, List.set_cons_succ]
   refine wpAnyH_ready (rs := [5]) (by kernel_rfl) (by simp) ?_
   refine AllReadyH.cons (o := _) rfl (fun K hK => ?_) AllReadyH.nil
   go_simp
   refine (CG.out _ _ _ _ _ s3b s4).mono ?_
   rintro e w10 ⟨rfl, d10⟩
   refine hK.out _ _ (HS.out _ (hHeld.1.trans (d10.mono hHeld.1.size))) (fun hHeld => ?_)
   clear hK K
   try simp only [Act.put, List.getElem_toArray, List.getElem_cons_zero, List.getElem_cons_succ, List.setIfInBounds_toArray, List.set_cons_zero, List.set_cons_succ]
   refine tk (v := .bool true) 6 rfl (by kernel_rfl) (fun _ _ _ h => h) (by rfl) (fun w hSw => by (try dsimp only [Su] at hSw); go_simp; try rfl) (by assumption) ?_
   simp only [Act.put, List.getElem_toArray, List.getElem_cons_zero, List.getElem_cons_succ, List.setIfInBounds_toArray, List.set_cons_zero, List.set_cons_succ]
   refine tk 7 rfl (by kernel_rfl) (fun _ _ _ h => h) (by rfl) (fun w hSw => by (try dsimp only [Su] at hSw); go_simp; try (with_reducible rfl)) (by assumption) ?_
   simp only [Act.put, List.getElem_toArray, List.getElem_cons_zero, List.getElem_cons_succ, List.setIfInBounds_toArray, List.set_cons_zero, List.set_cons_succ]
   refine tk 8 rfl (by kernel_rfl) (fun _ _ _ h => h) (by rfl) (fun w hSw => by (try dsimp only [Su] at hSw); go_simp; try (with_reducible rfl)) (by assumption) ?_
   simp only [Act.put, List.getElem_toArray, List.getElem_cons_zero, List.getElem_cons_succ, List.setIfInBounds_toArray, List.set_cons_zero, List.set_cons_succ]
   refine tk 9 rfl (by kernel_rfl) (fun _ _ _ h => h) (by rfl) (fun w hSw => by (try dsimp only [Su] at hSw); go_simp; try (with_reducible rfl)) (by assumption) ?_
   simp only [Act.put, List.getElem_toArray, List.getElem_cons_zero, List.getElem_cons_succ, List.setIfInBounds_toArray, List.set_cons_zero, List.set_cons_succ]
   refine tk 12 rfl (by kernel_rfl) (fun _ _ _ h => h) (by rfl) (fun w hSw => by (try dsimp only [Su] at hSw); go_simp; try (with_reducible rfl)) (by assumption) ?_
   simp only [Act.put, List.getElem_toArray, List.getElem_cons_zero, List.getElem_cons_succ, List.setIfInBounds_toArray, List.set_cons_zero, List.set_cons_succ]
   refine wpAnyH_ready (rs := [10]) (by kernel_rfl) (by simp) ?_
   refine AllReadyH.cons (o := _) rfl (fun K hK => ?_) AllReadyH.nil
   go_simp
   refine (CBA.out _ (A1.out.step hHeld.1).le (U1.out.later hHeld.1).st).mono ?_
   rintro e w11 ⟨a5, c5, rfl, s5, d11⟩
   refine hK.out _ _ (HS.out _ (hHeld.1.trans (d11.mono hHeld.1.size))) (fun hHeld => ?_)
   clear hK K
   try simp only [Act.put, List.getElem_toArray, List.getElem_cons_zero, List.getElem_cons_succ, List.setIfInBounds_toArray, List.set_cons_zero, List.set_cons_succ]
   refine wpAnyH_ready (rs := [11]) (by kernel_rfl) (by simp) ?_
   refine AllReadyH.cons (o := _) rfl (fun K hK => ?_) AllReadyH.nil
   go_simp
   refine (CPA.out _ _ _ (A1.out.step hHeld.1).le s5).mono ?_
   rintro e w12 ⟨rfl, d12⟩
   refine hK.out _ _ (HS.out _ (hHeld.1.trans (d12.mono hHeld.1.size))) (fun hHeld => ?_)
   clear hK K
   try simp only [Act.put, List.getElem_toArray, List.getElem_cons_zero, List.getElem_cons_succ, List.setIfInBounds_toArray, List.set_cons_zero, List.set_cons_succ]
   refine wpAnyH_ready (rs := [13]) (by kernel_rfl) (by simp) ?_
   refine AllReadyH.cons (o := _) rfl (fun K hK => ?_) AllReadyH.nil
   go_simp
   refine (CBB.out _ (A1.out.step hHeld.1).le (U2.out.later hHeld.1).st).mono ?_
   rintro e w13 ⟨a6, c6, rfl, s6, d13⟩
   refine hK.out _ _ (HS.out _ (hHeld.1.trans (d13.mono hHeld.1.size))) (fun hHeld => ?_)
   clear hK K
   try simp only [Act.put, List.getElem_toArray, List.getElem_cons_zero, List.getElem_cons_succ, List.setIfInBounds_toArray, List.set_cons_zero, List.set_cons_succ]
   refine wpAnyH_ready (rs := [14]) (by kernel_rfl) (by simp) ?_
   refine AllReadyH.cons (o := _) rfl (fun K hK => ?_) AllReadyH.nil
   go_simp
   refine (CPB.out _ _ _ (A1.out.step hHeld.1).le s6).mono ?_
   rintro e w14 ⟨rfl, d14⟩
   refine hK.out _ _ (HS.out _ (hHeld.1.trans (d14.mono hHeld.1.size))) (fun hHeld => ?_)
   clear hK K
   try simp only [Act.put, List.getElem_toArray, List.getElem_cons_zero, List.getElem_cons_succ, List.setIfInBounds_toArray, List.set_cons_zero, List.set_cons_succ]
   refine tk (v := .bool x) 15 rfl (by kernel_rfl) (fun _ _ _ h => h) (by rfl) (fun w hSw => by (try dsimp only [Su] at hSw); go_simp; first | exact HX.out | (have h := HX.out; simpa using h)) (by assumption) ?_
   simp only [Act.put, List.getElem_toArray, List.getElem_cons_zero, List.getElem_cons_succ, List.setIfInBounds_toArray, List.set_cons_zero, List.set_cons_succ]
   refine tk (v := .bool true) 16 rfl (by kernel_rfl) (fun _ _ _ h => h) (by rfl) (fun w hSw => by (try dsimp only [Su] at hSw); go_simp; try rfl) (by assumption) ?_
   simp only [Act.put, List.getElem_toArray, List.getElem_cons_zero, List.getElem_cons_succ, List.setIfInBounds_toArray, List.set_cons_zero, List.set_cons_succ]
   refine tk 17 rfl (by kernel_rfl) (fun _ _ _ h => h) (by rfl) (fun w hSw => by (try dsimp only [Su] at hSw); go_simp; try (with_reducible rfl)) (by assumption) ?_
   simp only [Act.put, List.getElem_toArray, List.getElem_cons_zero, List.getElem_cons_succ, List.setIfInBounds_toArray, List.set_cons_zero, List.set_cons_succ]
   refine tk 18 rfl (by kernel_rfl) (fun _ _ _ h => h) (by rfl) (fun w hSw => by (try dsimp only [Su] at hSw); go_simp; try (with_reducible rfl)) (by assumption) ?_
   simp only [Act.put, List.getElem_toArray, List.getElem_cons_zero, List.getElem_cons_succ, List.setIfInBounds_toArray, List.set_cons_zero, List.set_cons_succ]
   refine tk 19 rfl (by kernel_rfl) (fun _ _ _ h => h) (by rfl) (fun w hSw => by (try dsimp only [Su] at hSw); go_simp; try (with_reducible rfl)) (by assumption) ?_
   simp only [Act.put, List.getElem_toArray, List.getElem_cons_zero, List.getElem_cons_succ, List.setIfInBounds_toArray, List.set_cons_zero, List.set_cons_succ]
   refine tk 20 rfl (by kernel_rfl) (fun _ _ _ h => h) (by rfl) (fun w hSw => by (try dsimp only [Su] at hSw); go_simp; try (with_reducible rfl)) (by assumption) ?_
   simp only [Act.put, List.getElem_toArray, List.getElem_cons_zero, List.getElem_cons_succ, List.setIfInBounds_toArray, List.set_cons_zero, List.set_cons_succ]
   refine wpAnyH_ready (rs := [21]) (by kernel_rfl) (by simp) ?_
   refine AllReadyH.cons (o := _) rfl (fun K hK => ?_) AllReadyH.nil
   go_simp
   refine (CE.out _ (A1.out.step hHeld.1).le (U1.out.later hHeld.1).st).mono ?_
   rintro e w15 ⟨rfl, d15⟩
   refine hK.out _ _ (HS.out _ (hHeld.1.trans (d15.mono hHeld.1.size))) (fun hHeld => ?_)
   clear hK K
   try simp only [Act.put, List.getElem_toArray, List.getElem_cons_zero, List.getElem_cons_succ, List.setIfInBounds_toArray, List.set_cons_zero, List.set_cons_succ]
   refine tk 22 rfl (by kernel_rfl) (fun _ _ _ h => h) (by rfl) (fun w hSw => by (try dsimp only [Su] at hSw); go_simp; try (with_reducible rfl)) (by assumption) ?_
   simp only [Act.put, List.getElem_toArray, List.getElem_cons_zero, List.getElem_cons_succ, List.setIfInBounds_toArray, List.set_cons_zero, List.set_cons_succ]
   refine tk 23 rfl (by kernel_rfl) (fun _ _ _ h => h) (by rfl) (fun w hSw => by (try dsimp only [Su] at hSw); go_simp; try (with_reducible rfl)) (by assumption) ?_
   simp only [Act.put, List.getElem_toArray, List.getElem_cons_zero, List.getElem_cons_succ, List.setIfInBounds_toArray, List.set_cons_zero, List.set_cons_succ]
   refine wpAnyH_done (by kernel_rfl) ?_ _
   clear HS
   go_wp2
   go_ret
   exact ⟨rfl, (A1.out.step hHeld.1).bw⟩
end Go.Proofs.YtfcbjdooijhibaaGreatDoor
end
section
namespace Go.Proofs.YtfcbjdooijhibaaGreatDoor
open Go.ChangeShapes Go.WideShapes Go.ChangeAt Go.RowKit
open Go.ChangeMaps (open_string shut_string)
theorem fnUrlSame_own : ownKnob Tryz.prog.godebug = none := by kernel_rfl
theorem fnUrlSame_laidOut : laidOutB Tryz.prog = true := by kernel_rfl
theorem fnUrlSame_contract (H : Type) (enc : TypeId × Value → H) (W : World) (base : Nat) (args : Array Value) (ds gs : List (DataW H)) (before : List MemPlace)
  (hval : ∀ (j : Nat) t v, Tryz.f3.params[j]? = some t → args[j]? = some v → Value.okWide Tryz.prog W .any base t v)
  (hW : DataW.Whole enc Tryz.prog Tryz.f3.params.toList Rows.fnUrlSameSpec.vars false W args.toList ds gs before) (hL : Lean1 W) :
  Calls Tryz.prog 3 args W fun e W' => ∃ v, e = .returned v ∧ Rows.fnUrlSameSpec.post enc Tryz.prog Tryz.f3 false true false false W args v W' := by
 have hW' := hW
 obtain ⟨p, q, hA0, hV, rfl, hfz, hnd⟩ := hW
 have hA : DataW.TrodAll enc Tryz.prog W 0 (fun _ => true) true Tryz.f3.params.toList args.toList ds p := hA0
 rw [Tryz.params3] at hA hval
 obtain ⟨v0, vs0, d0, ds0, p0, q0, hargs, rfl, rfl, h0, r0⟩ := trodAll_cons hA
 obtain ⟨rfl, rfl, rfl⟩ := trodAll_nil r0
 obtain rfl : args = #[v0] := by cases args; simp_all
 obtain ⟨rfl, rfl⟩ := trodVars_none hV
 obtain ⟨a0, len0, cap0, rfl⟩ := okWide_slice Tryz.underlying22 (hval 0 22 v0 rfl rfl)
 have k0 := h0
 have lt0 : ∀ x ∈ p0, x.block < W.heap.size := by obtain ⟨m, hm⟩ := k0; exact DataW.trod_lt m _ _ _ hm
 obtain ⟨z0, w0⟩ : ∃ zs, IsRow .u8 W a0 len0 cap0 zs := by
  obtain ⟨fuel, hf⟩ := h0
  rcases open_ints Tryz.underlying22 Tryz.underlying5 (by kernel_rfl) hf with ⟨hcs, _⟩ | ⟨x, l, c, zs, hcs, _, hl, hm, hz, _, hcell, hwz⟩
  ·simp [Value.cells] at hcs
   obtain ⟨rfl, rfl, rfl⟩ := hcs
   exact ⟨[], .inl ⟨rfl, rfl, rfl, rfl⟩⟩
  ·simp [Value.cells] at hcs
   obtain ⟨rfl, rfl, rfl⟩ := hcs
   exact ⟨zs, .inr ⟨_, rfl, hl, hm, by simpa using hz, hcell, hwz⟩⟩
 clear hA0
 refine (fnUrlSame_walk W hL a0 len0 cap0 z0 w0).mono fun e W' ⟨he, bel⟩ => ?_
 subst he
 exact ⟨_, rfl, _, _, _, [], _, [], hW', trodAll_mk1 (shut_bool Tryz.underlying4 _), (trodAll_cons_mk (Below.trod fnUrlSame_laidOut (by kernel_rfl) (of_decide_eq_true (by kernel_rfl)) k0 bel lt0) trodAll_mk0), rfl, bel.frame _, fun h => by cases h⟩
theorem fnUrlSame_met (os : Os) : laidMet Tryz.prog Rows.fnUrlSameRow.laid (({ World.holding Tryz.prog os ⟨#[.cells #[.string { data := #[69, 79, 70] }] 156], #[], []⟩ with heap := ((((((World.holding Tryz.prog os ⟨#[.cells #[.string { data := #[69, 79, 70] }] 156], #[], []⟩).heap.modify 3 (laidRow .u8 (Go.Pinned.utf8FirstZ.map Int.ofNat))).modify 4 (laidRow .u8 [128, 191, 160, 191, 128, 159, 144, 191, 128, 143, 0, 0, 0, 0, 0, 0, 0, 0, 0, 0, 0, 0, 0, 0, 0, 0, 0, 0, 0, 0, 0, 0])).modify 5 (laidRow .u8 [0, 1, 28, 2, 29, 14, 24, 3, 30, 22, 20, 15, 25, 17, 4, 8, 31, 27, 13, 23, 21, 19, 16, 7, 26, 12, 18, 6, 11, 5, 10, 9])).modify 6 (laidRow .u8 [0, 1, 56, 2, 57, 49, 28, 3, 61, 58, 42, 50, 38, 29, 17, 4, 62, 47, 59, 36, 45, 43, 51, 22, 53, 39, 33, 30, 24, 18, 12, 5, 63, 55, 48, 27, 60, 41, 37, 16, 46, 35, 44, 21, 52, 32, 23, 11, 54, 26, 40, 15, 34, 20, 31, 10, 25, 14, 19, 9, 13, 8, 7, 6])).modify 1 (laidRow .u64 Lib.pow10Tab)).modify 0 (eofRow (World.holding Tryz.prog default ⟨#[], #[], []⟩).heap.size) } : World).forCall (fun _ _ => 0) ⟨#[], #[.slice none 0 0], []⟩).memory :=
 laidMet_of_run3 8 (by kernel_rfl) (by kernel_rfl) (by kernel_rfl)
theorem fnUrlSame_reads (os : Os) {H : Type} (enc : TypeId × Value → H) : ∃ places, DataW.whole enc Tryz.prog (({ World.holding Tryz.prog os ⟨#[.cells #[.string { data := #[69, 79, 70] }] 156], #[], []⟩ with heap := ((((((World.holding Tryz.prog os ⟨#[.cells #[.string { data := #[69, 79, 70] }] 156], #[], []⟩).heap.modify 3 (laidRow .u8 (Go.Pinned.utf8FirstZ.map Int.ofNat))).modify 4 (laidRow .u8 [128, 191, 160, 191, 128, 159, 144, 191, 128, 143, 0, 0, 0, 0, 0, 0, 0, 0, 0, 0, 0, 0, 0, 0, 0, 0, 0, 0, 0, 0, 0, 0])).modify 5 (laidRow .u8 [0, 1, 28, 2, 29, 14, 24, 3, 30, 22, 20, 15, 25, 17, 4, 8, 31, 27, 13, 23, 21, 19, 16, 7, 26, 12, 18, 6, 11, 5, 10, 9])).modify 6 (laidRow .u8 [0, 1, 56, 2, 57, 49, 28, 3, 61, 58, 42, 50, 38, 29, 17, 4, 62, 47, 59, 36, 45, 43, 51, 22, 53, 39, 33, 30, 24, 18, 12, 5, 63, 55, 48, 27, 60, 41, 37, 16, 46, 35, 44, 21, 52, 32, 23, 11, 54, 26, 40, 15, 34, 20, 31, 10, 25, 14, 19, 9, 13, 8, 7, 6])).modify 1 (laidRow .u64 Lib.pow10Tab)).modify 0 (eofRow (World.holding Tryz.prog default ⟨#[], #[], []⟩).heap.size) } : World).forCall (fun _ _ => 0) ⟨#[], #[.slice none 0 0], []⟩).memory Tryz.f3.params.toList Rows.fnUrlSameSpec.vars false #[Value.slice none 0 0].toList 8 = some ([.nil], [], places) :=
 ⟨[], by kernel_rfl⟩
theorem fnUrlSame_lifted (os : Os) (started : os.Started) (H : Type) (enc : TypeId × Value → H) (F : Stop.Interp) :
  ReturnsInHanded {} Tryz.checked os 3 .any ((OpenSpec.ofChange Rows.fnUrlSameSpec).preRow enc Tryz.prog Tryz.f3 Rows.fnUrlSameRow.domain false Rows.fnUrlSameRow.laid) (((OpenSpec.ofChange Rows.fnUrlSameSpec).at F).post enc Tryz.prog Tryz.f3 false true false false) := by
 obtain ⟨places, hx⟩ := fnUrlSame_reads os enc
 refine returnsInHanded_of_row (C := Tryz.checked) (s := OpenSpec.ofChange Rows.fnUrlSameSpec) fnUrlSame_own started (by kernel_rfl) Tryz.func3
  (witness_row_at (enc := enc) (C := Tryz.checked) false ({ World.holding Tryz.prog os ⟨#[.cells #[.string { data := #[69, 79, 70] }] 156], #[], []⟩ with heap := ((((((World.holding Tryz.prog os ⟨#[.cells #[.string { data := #[69, 79, 70] }] 156], #[], []⟩).heap.modify 3 (laidRow .u8 (Go.Pinned.utf8FirstZ.map Int.ofNat))).modify 4 (laidRow .u8 [128, 191, 160, 191, 128, 159, 144, 191, 128, 143, 0, 0, 0, 0, 0, 0, 0, 0, 0, 0, 0, 0, 0, 0, 0, 0, 0, 0, 0, 0, 0, 0])).modify 5 (laidRow .u8 [0, 1, 28, 2, 29, 14, 24, 3, 30, 22, 20, 15, 25, 17, 4, 8, 31, 27, 13, 23, 21, 19, 16, 7, 26, 12, 18, 6, 11, 5, 10, 9])).modify 6 (laidRow .u8 [0, 1, 56, 2, 57, 49, 28, 3, 61, 58, 42, 50, 38, 29, 17, 4, 62, 47, 59, 36, 45, 43, 51, 22, 53, 39, 33, 30, 24, 18, 12, 5, 63, 55, 48, 27, 60, 41, 37, 16, 46, 35, 44, 21, 52, 32, 23, 11, 54, 26, 40, 15, 34, 20, 31, 10, 25, 14, 19, 9, 13, 8, 7, 6])).modify 1 (laidRow .u64 Lib.pow10Tab)).modify 0 (eofRow (World.holding Tryz.prog default ⟨#[], #[], []⟩).heap.size) } : World) #[.slice none 0 0] rfl (by kernel_rfl) (by kernel_rfl) (by kernel_rfl)
   (OpenSpec.preRow_of_cond 8 hx (by kernel_rfl) (fun k hk => by cases hk) (by kernel_rfl) (fnUrlSame_met os))) ?_
 intro W base args ds gs before hval hW _ _ _ hL hsh _
 exact fnUrlSame_contract H enc W base args ds gs before hval hW (lean1_laid hL hsh)
theorem fnUrlSame_said : Rows.FnUrlSameSaid :=
 OpenClaim.holds_of_cond 3 Tryz.f3 rfl rfl rfl rfl rfl rfl rfl ⟨rfl, rfl, rfl, rfl, rfl⟩ rfl rfl rfl rfl rfl (by kernel_rfl) Tryz.func3 (by kernel_rfl)
  (of_decide_eq_true (by kernel_rfl)) (by unfold Func.isWrapper; first | (rw [if_pos (by decide +kernel)]; kernel_rfl) | (rw [if_neg (by decide +kernel)]; exact ⟨rfl, rfl⟩))
  (fun os started H enc _ F => by rw [OpenClaim.pre_eq_preRow]; exact fnUrlSame_lifted os started H enc F)
theorem fnUrlSame_plain (f : FuncId) (fn : Func) (hf : Tryz.pinned.checked.prog.funcNamed Rows.fnUrlSameRow.func = some f) (hfn : Tryz.pinned.checked.prog.funcs[f]? = some fn) :
  true = Tryz.pinned.checked.prog.looks [] ∧ ∀ (j : Nat) t, fn.params[j]? = some t → Tryz.pinned.checked.prog.wantsStandIn t = false := by
 obtain rfl : f = 3 := Option.some.inj ((show Tryz.prog.funcNamed Rows.fnUrlSameRow.func = some 3 by kernel_rfl).symm.trans hf) |>.symm
 obtain rfl : fn = Tryz.f3 := (Option.some.inj (Tryz.func3.symm.trans hfn)).symm
 refine ⟨by kernel_rfl, fun j t ht => ?_⟩
 rw [Tryz.params3] at ht
 obtain rfl : t = 22 := by simpa using Array.mem_of_getElem? ht
 exact (show Tryz.prog.wantsStandIn 22 = false by kernel_rfl)
theorem fnUrlSame_proved : Rows.FnUrlSameCardSaid :=
 Claim7.holds_tied_plain_at .later [] _ _ _ _ fnUrlSame_said (fun _ h => by cases h) (by kernel_rfl) (fun _ h => by cases h) fnUrlSame_row_tie rfl ⟨rfl, rfl⟩ (by kernel_rfl) rfl fnUrlSame_plain (by kernel_rfl)
#print axioms fnUrlSame_proved
end Go.Proofs.YtfcbjdooijhibaaGreatDoor
end
