/- spec.DrawRefer draws two addresses. -/
import Derived.Test.YtnfhajhdpdidlaaGreatDoorCFnRefer11
import Derived.Test.YtnfhajhdpdidlaaGreatDoorCFnRefer10
import Derived.Test.YtnfhajhdpdidlaaGreatDoorCFnRefer01
import Derived.Deep.RegionHeld3
set_option linter.unusedVariables false
set_option linter.unusedSimpArgs false
set_option maxHeartbeats 8000000
set_option maxRecDepth 100000
section
namespace Go.Proofs.YtnfhajhdpdidlaaGreatDoor
open Go.RowKit Go.Shelf
def sets13 (W : World) (g : Nat) (q : P) (v : Value) : World := (((((((((((((W.setCell ⟨g, 0, none⟩ (.string q.sc)).setCell ⟨g, 1, none⟩ (.string q.us)).setCell ⟨g, 2, none⟩ (.string q.pw)).setCell ⟨g, 3, none⟩ (.int .i64 q.hk)).setCell ⟨g, 4, none⟩ (.string q.hn)).setCell ⟨g, 5, none⟩ (.int .i64 q.ha)).setCell ⟨g, 6, none⟩ (.int .i64 q.po)).setCell ⟨g, 7, none⟩ v).setCell ⟨g, 8, none⟩ (.string q.op)).setCell ⟨g, 9, none⟩ (.bool q.hq)).setCell ⟨g, 10, none⟩ (.string q.qu)).setCell ⟨g, 11, none⟩ (.bool q.hf)).setCell ⟨g, 12, none⟩ (.string q.fr))
theorem sets_blk {g : Nat} {q : P} {v : Value} {W : World} (h : Blk g #[(.string ⟨#[]⟩), (.string ⟨#[]⟩), (.string ⟨#[]⟩), (.int .i64 0), (.string ⟨#[]⟩), (.int .i64 0), (.int .i64 0), (.slice none 0 0), (.string ⟨#[]⟩), (.bool false), (.string ⟨#[]⟩), (.bool false), (.string ⟨#[]⟩)] 31 W) : Blk g (q.cells v) 31 (sets13 W g q v) := Blk.put13 h _ _ _ _ _ _ _ _ _ _ _ _ _
theorem sets_else {k g : Nat} {A : Array Value} {t : TypeId} {q : P} {v : Value} {W : World} (hk : k ≠ g) (h : Blk k A t W) : Blk k A t (sets13 W g q v) := by
 unfold Blk sets13 at *
 rw [setCell_else _ _ _ _ _ hk, setCell_else _ _ _ _ _ hk, setCell_else _ _ _ _ _ hk, setCell_else _ _ _ _ _ hk, setCell_else _ _ _ _ _ hk, setCell_else _ _ _ _ _ hk, setCell_else _ _ _ _ _ hk, setCell_else _ _ _ _ _ hk, setCell_else _ _ _ _ _ hk, setCell_else _ _ _ _ _ hk, setCell_else _ _ _ _ _ hk, setCell_else _ _ _ _ _ hk, setCell_else _ _ _ _ _ hk]
 exact h
theorem two_endB {B1 B2 n n' c c' : Nat} {q q' : P} {a a' : Option Addr} {w W : World} (k1 : Blk w.heap.size (P.zero.cells (.slice none 0 0)) 31 W) (k2 : Blk (w.heap.size + 1) (P.zero.cells (.slice none 0 0)) 31 W) (o : OwnS B1 (.slice a n c) q.ps W) (o' : OwnS B2 (.slice a' n' c') q'.ps W) (h1 : w.heap.size + 1 < B1) (h2 : w.heap.size + 1 < B2) (hn : n = q.ps.length) (hn' : n' = q'.ps.length) (hb : Below w.heap.size w W) :
  ∃ WF, WF = sets13 (sets13 W w.heap.size q (.slice a n c)) (w.heap.size + 1) q' (.slice a' n' c') ∧ Blk w.heap.size (q.cells (.slice a n c)) 31 WF ∧ Blk (w.heap.size + 1) (q'.cells (.slice a' n' c')) 31 WF ∧ StrsOf a n q.ps WF ∧ StrsOf a' n' q'.ps WF ∧ Below w.heap.size w WF := by
 have e1 : ∀ {a : Option Addr} {n c : Nat} {ps : List (List UInt8)} {B : Nat} {W : World}, OwnS B (.slice a n c) ps W → n = ps.length → StrsOf a n ps W := by
  intro a n c ps B W h hn
  obtain ⟨a1, c1, h1, h2, s1⟩ := h.strs
  rw [← hn] at h1 s1
  injection h1 with e1 e2 e3
  rw [← e1] at s1
  exact s1
 refine ⟨_, rfl, sets_else (by omega) (sets_blk k1), sets_blk (sets_else (by omega) k2), e1 (OwnS.put13 (OwnS.put13 o (by omega)) h1) hn, e1 (OwnS.put13 (OwnS.put13 o' (by omega)) h2) hn', ?_⟩
 exact below_put13 (below_put13 hb (Nat.le_refl _) _ _ _ _ _ _ _ _ _ _ _ _ _) (by omega) _ _ _ _ _ _ _ _ _ _ _ _ _
theorem drawRefer (B : Nat) (a0 : Option Addr) (len cap : Nat) (w : World) (hB : B ≤ w.heap.size) (h : Code B w a0 len cap) :
  Calls Tryz.prog 20 #[.slice a0 len cap] w fun e w' => ∃ (q q' : P) (a a' : Option Addr) (n n' c c' : Nat), e = .returned (.tuple #[.agg #[(.string q.sc), (.string q.us), (.string q.pw), (.int .i64 q.hk), (.string q.hn), (.int .i64 q.ha), (.int .i64 q.po), (.slice a n c), (.string q.op), (.bool q.hq), (.string q.qu), (.bool q.hf), (.string q.fr)], .agg #[(.string q'.sc), (.string q'.us), (.string q'.pw), (.int .i64 q'.hk), (.string q'.hn), (.int .i64 q'.ha), (.int .i64 q'.po), (.slice a' n' c'), (.string q'.op), (.bool q'.hq), (.string q'.qu), (.bool q'.hf), (.string q'.fr)]]) ∧ StrsOf a n q.ps w' ∧ StrsOf a' n' q'.ps w' ∧ Hid ((q.tot ≤ 20000 ∧ q.po ≤ 70000) ∧ q'.tot ≤ 20000 ∧ q'.po ≤ 70000) ∧ Hid (n = q.ps.length ∧ n' = q'.ps.length) ∧ Below w.heap.size w w' := by
 obtain ⟨V0, hV0⟩ : ∃ V, V = (w.alloc (.cells #[(.string ⟨#[]⟩), (.string ⟨#[]⟩), (.string ⟨#[]⟩), (.int .i64 0), (.string ⟨#[]⟩), (.int .i64 0), (.int .i64 0), (.slice none 0 0), (.string ⟨#[]⟩), (.bool false), (.string ⟨#[]⟩), (.bool false), (.string ⟨#[]⟩)] 31)).alloc (.cells #[(.string ⟨#[]⟩), (.string ⟨#[]⟩), (.string ⟨#[]⟩), (.int .i64 0), (.string ⟨#[]⟩), (.int .i64 0), (.int .i64 0), (.slice none 0 0), (.string ⟨#[]⟩), (.bool false), (.string ⟨#[]⟩), (.bool false), (.string ⟨#[]⟩)] 31) := ⟨_, rfl⟩
 have KA : Hid (Blk w.heap.size (P.zero.cells (.slice none 0 0)) 31 V0) := by show Blk _ _ _ _; rw [hV0]; exact (Blk.new w _ _).alloc _
 have KB : Hid (Blk (w.heap.size + 1) (P.zero.cells (.slice none 0 0)) 31 V0) := by
  show Blk _ _ _ _
  have := Blk.new (w.alloc (.cells #[(.string ⟨#[]⟩), (.string ⟨#[]⟩), (.string ⟨#[]⟩), (.int .i64 0), (.string ⟨#[]⟩), (.int .i64 0), (.int .i64 0), (.slice none 0 0), (.string ⟨#[]⟩), (.bool false), (.string ⟨#[]⟩), (.bool false), (.string ⟨#[]⟩)] 31)) #[(.string ⟨#[]⟩), (.string ⟨#[]⟩), (.string ⟨#[]⟩), (.int .i64 0), (.string ⟨#[]⟩), (.int .i64 0), (.int .i64 0), (.slice none 0 0), (.string ⟨#[]⟩), (.bool false), (.string ⟨#[]⟩), (.bool false), (.string ⟨#[]⟩)] 31
  rw [show (w.alloc (.cells #[(.string ⟨#[]⟩), (.string ⟨#[]⟩), (.string ⟨#[]⟩), (.int .i64 0), (.string ⟨#[]⟩), (.int .i64 0), (.int .i64 0), (.slice none 0 0), (.string ⟨#[]⟩), (.bool false), (.string ⟨#[]⟩), (.bool false), (.string ⟨#[]⟩)] 31)).heap.size = w.heap.size + 1 by simp] at this
  rw [hV0]; exact this
 have HC0 : Hid (Code B V0 a0 len cap) := by rw [hV0]; exact code_alloc (code_alloc h hB _) (by simp; omega) _
 have HB0 : Hid (Below w.heap.size w V0) := by show Below _ _ _; rw [hV0]; exact ((Below.refl _ w).alloc (Nat.le_refl _) _).alloc (by simp) _
 have HZ0 : Hid (V0.heap.size = w.heap.size + 2) := by show _ = _; rw [hV0]; simp
 clear h
 go_enter Tryz.func20, Tryz.ntmps20
 go_upto_region 1 with fail
 rw [← hV0]
 clear hV0
 go_wp2_with fail
 refine (l1Open B a0 len cap _ (by have := HZ0.out; omega) HC0.out).mono ?_
 rintro e w1 ⟨rfl, hr, b1⟩
 have HR1 : Hid (Rd B V0.heap.size 0 w1) := hr
 have KA1 : Hid (Blk w.heap.size (P.zero.cells (.slice none 0 0)) 31 w1) := KA.out.below b1 KA.out.lt
 have KB1 : Hid (Blk (w.heap.size + 1) (P.zero.cells (.slice none 0 0)) 31 w1) := KB.out.below b1 KB.out.lt
 have HB1 : Hid (Below w.heap.size w w1) := HB0.out.trans (b1.mono HB0.out.size)
 clear hr b1 HC0 KA KB HB0
 generalize V0.heap.size = r at *
 go_wp2_with fail
 refine (l11AnyHome B r 0 _ (by decide) HR1.out).mono ?_
 rintro e w2 ⟨q, a, n, c, p2, rfl, o2, hF, hp2, r2, g2⟩
 obtain ⟨V2, hV2⟩ : ∃ V, V = w2.alloc (.cells #[(.string q.sc), (.string q.us), (.string q.pw), (.int .i64 q.hk), (.string q.hn), (.int .i64 q.ha), (.int .i64 q.po), (.slice a n c), (.string q.op), (.bool q.hq), (.string q.qu), (.bool q.hf), (.string q.fr)] 31) := ⟨_, rfl⟩
 have X2 : Hid (Blk w2.heap.size (q.cells (.slice a n c)) 31 V2) := by show Blk _ _ _ _; rw [hV2]; exact Blk.new w2 _ _
 have G2 : Hid (w1.grownBy V2 (some r)) := by rw [hV2]; exact grown_alloc g2 _
 have KA2 : Hid (Blk w.heap.size (P.zero.cells (.slice none 0 0)) 31 V2) := (G2.out.block _ KA1.out.lt (by have := HZ0.out; simp; omega)).trans KA1.out
 have KB2 : Hid (Blk (w.heap.size + 1) (P.zero.cells (.slice none 0 0)) 31 V2) := (G2.out.block _ KB1.out.lt (by have := HZ0.out; simp; omega)).trans KB1.out
 have HR2 : Hid (Rd B r p2 V2) := by rw [hV2]; exact rd_more r2 _
 have HO2 : Hid (OwnS w1.heap.size (.slice a n c) q.ps V2) := by rw [hV2]; exact o2.later ((Below.refl _ w2).alloc (Nat.le_refl _) _)
 have HB2 : Hid (Below w.heap.size w V2) := HB1.out.trans (below_grown G2.out (by have := HZ0.out; omega) HB1.out.size)
 have HF2 : Hid (Fit2 q ∧ n = q.ps.length) := hF
 have HP : Hid (p2 ≤ 310) := by show _ ≤ _; omega
 have HLT : Hid (r = w.heap.size + 2 ∧ r < w1.heap.size ∧ w1.heap.size ≤ w2.heap.size) := ⟨HZ0.out, HR1.out.lt, by have := g2.size; omega⟩
 clear o2 r2 g2 hF hp2 KA1 KB1 HR1 HB1 G2 HZ0
 go_upto_region 3 with fail
 rw [← hV2]
 clear hV2
 generalize w2.heap.size = gu at *
 generalize w1.heap.size = B1 at *
 go_wp2_with fail
 refine (pick B r p2 4 _ (by decide) (by decide) (by have := HP.out; omega) HR2.out).mono ?_
 rintro e w3 ⟨v, rfl, hv0, hv1, R3, g3⟩
 have X3 : Blk gu (q.cells (.slice a n c)) 31 w3 := (g3.block _ X2.out.lt (by have := HLT.out; simp; omega)).trans X2.out
 have KA3 : Blk w.heap.size (P.zero.cells (.slice none 0 0)) 31 w3 := (g3.block _ KA2.out.lt (by have := HLT.out; simp; omega)).trans KA2.out
 have KB3 : Blk (w.heap.size + 1) (P.zero.cells (.slice none 0 0)) 31 w3 := (g3.block _ KB2.out.lt (by have := HLT.out; simp; omega)).trans KB2.out
 have O3 : OwnS B1 (.slice a n c) q.ps w3 := OwnS.grownR HO2.out g3 (by have := HLT.out; omega)
 have B3 : Below w.heap.size w w3 := HB2.out.trans (below_grown g3 (by have := HLT.out; omega) HB2.out.size)
 clear g3 X2 KA2 KB2 HR2 HO2 HB2
 by_cases hv : v = 0
 ·have e1 : (v == 0) = true := by rw [hv]; rfl
  clear hv0 hv1
  obtain ⟨V4, hV4⟩ : ∃ V, V = w3.setCell ⟨gu, 1, none⟩ (.string ⟨#[117]⟩) := ⟨_, rfl⟩
  have X4 : Hid (Blk gu (({ q with us := ⟨#[117]⟩ } : P).cells (.slice a n c)) 31 V4) := by show Blk _ _ _ _; rw [hV4]; exact X3.set 1 (.string ⟨#[117]⟩)
  have KA4 : Hid (Blk w.heap.size (P.zero.cells (.slice none 0 0)) 31 V4) := by show Blk _ _ _ _; rw [hV4]; exact KA3.other gu 1 _ (by have := HLT.out; omega)
  have KB4 : Hid (Blk (w.heap.size + 1) (P.zero.cells (.slice none 0 0)) 31 V4) := by show Blk _ _ _ _; rw [hV4]; exact KB3.other gu 1 _ (by have := HLT.out; omega)
  have R4 : Hid (Rd B r (p2 + 1) V4) := by rw [hV4]; exact R3.new 1 _ (by have := HLT.out; omega)
  have O4 : Hid (OwnS B1 (.slice a n c) q.ps V4) := by rw [hV4]; exact O3.off X3 (by decide) 1 _
  have B4 : Hid (Below w.heap.size w V4) := by show Below _ _ _; rw [hV4]; exact B3.setCell (p := ⟨gu, 1, none⟩) (show w.heap.size ≤ gu by have := HLT.out; omega) _
  obtain ⟨u0, u1, u2, u3, u4, u5, u6, u7, u8, u9, u10, u11, u12⟩ := Blk.cells13a X3
  have fu := X3.free
  clear X3 KA3 KB3 R3 O3 B3
  go_upto_region 6 with fail
  rw [← hV4]
  clear hV4 fu u0 u1 u2 u3 u4 u5 u6 u7 u8 u9 u10 u11 u12
  obtain ⟨X3, KA3, KB3, R3, O3, B3⟩ : Blk gu (({ q with us := ⟨#[117]⟩ } : P).cells (.slice a n c)) 31 V4 ∧ Blk w.heap.size (P.zero.cells (.slice none 0 0)) 31 V4 ∧ Blk (w.heap.size + 1) (P.zero.cells (.slice none 0 0)) 31 V4 ∧ Rd B r (p2 + 1) V4 ∧ OwnS B1 (.slice a n c) q.ps V4 ∧ Below w.heap.size w V4 := ⟨X4.out, KA4.out, KB4.out, R4.out, O4.out, B4.out⟩
  clear X4 KA4 KB4 R4 O4 B4
  have HS3 : Hid (∀ W, V4.grownBy W (some r) → Blk gu (({ q with us := ⟨#[117]⟩ } : P).cells (.slice a n c)) 31 W ∧ Blk w.heap.size (P.zero.cells (.slice none 0 0)) 31 W ∧ Blk (w.heap.size + 1) (P.zero.cells (.slice none 0 0)) 31 W) := fun W g => ⟨(g.block _ X3.lt (by have := HLT.out; simp; omega)).trans X3, (g.block _ KA3.lt (by have := HLT.out; simp; omega)).trans KA3, (g.block _ KB3.lt (by have := HLT.out; simp; omega)).trans KB3⟩
  have HB3 : Hid (Below w.heap.size w V4) := B3
  have HR3 : Hid (Rd B r (p2 + 1) V4) := R3
  have HO3 : Hid (OwnS B1 (.slice a n c) q.ps V4) := O3
  obtain ⟨u0, u1, u2, u3, u4, u5, u6, u7, u8, u9, u10, u11, u12⟩ := Blk.cells13a X3
  clear X3 KA3 KB3 B3 R3 O3
  go_wp2
  go_region_with (first
   | (go_at_call 41; refine (l11AnyHome B r (p2 + 1) _ (by have := HP.out; omega) ?hr).mono ?_; (case hr => first | exact HR3.out | exact (show Rd B r (p2 + 1) V4.drew from HR3.out)); rintro e w4 ⟨q', a', n', c', p4, rfl, o4, hF', hp4, r4, g4⟩; have G4 : Hid (V4.grownBy w4 (some r)) := (by first | exact g4 | exact grown_trans (grown_drew (World.grownBy.refl V4 _)) g4); have HO4 : Hid (OwnS V4.heap.size (.slice a' n' c') q'.ps w4) := (by first | exact o4 | exact (show OwnS V4.drew.heap.size (.slice a' n' c') q'.ps w4 from o4)); have HF' : Hid (Fit2 q' ∧ n' = q'.ps.length) := hF'; have HR4 : Hid (Rd B r p4 w4) := r4; clear o4 r4 g4 hF' hp4 u0 u1 u2 u3 u4 u5 u6 u7 u8 u9 u10 u11 u12; obtain ⟨u0, u1, u2, u3, u4, u5, u6, u7, u8, u9, u10, u11, u12⟩ := Blk.cells13a (HS3.out _ G4.out).1; obtain ⟨k0, k1, k2, k3, k4, k5, k6, k7, k8, k9, k10, k11, k12⟩ := Blk.cells13a (HS3.out _ G4.out).2.1; have fk := (HS3.out _ G4.out).2.1.free; obtain ⟨x0, x1, x2, x3, x4, x5, x6, x7, x8, x9, x10, x11, x12⟩ := Blk.cells13a (HS3.out _ G4.out).2.2; have fx := (HS3.out _ G4.out).2.2.free)
   | fail)
  all_goals
   have HO1 : Hid (OwnS B1 (.slice a n c) q.ps w4) := OwnS.grownR HO3.out G4.out (by have := HLT.out; omega)
   obtain ⟨X4, KA4, KB4⟩ := HS3.out _ G4.out
   have HB4 : Hid (Below w.heap.size w w4) := HB3.out.trans (below_grown G4.out (by have := HLT.out; omega) HB3.out.size)
   have HE := two_endB (q := ({ q with us := ⟨#[117]⟩ } : P)) KA4 KB4 HO1.out HO4.out (by have := HLT.out; omega) (by have := HLT.out; have := HB3.out.size; have := (HS3.out _ (World.grownBy.refl _ _)).2.2.lt; omega) HF2.out.2 HF'.out.2 HB4.out
   obtain ⟨WF, hWF, f1, f2, s1, s2, bF⟩ := HE
   obtain ⟨v0, v1, v2, v3, v4, v5, v6, v7, v8, v9, v10, v11, v12⟩ := Blk.cells13a f1
   obtain ⟨y0, y1, y2, y3, y4, y5, y6, y7, y8, y9, y10, y11, y12⟩ := Blk.cells13a f2
   have HWF : Hid (WF = sets13 (sets13 w4 w.heap.size ({ q with us := ⟨#[117]⟩ } : P) (.slice a n c)) (w.heap.size + 1) q' (.slice a' n' c')) := hWF
   have HS : Hid (StrsOf a n q.ps WF ∧ StrsOf a' n' q'.ps WF ∧ Below w.heap.size w WF) := ⟨s1, s2, bF⟩
   clear HO1 X4 KA4 KB4 HB4 HO4 HS3 HB3 HR3 HO3 HR4 G4 f1 f2 s1 s2 bF hWF u0 u1 u2 u3 u4 u5 u6 u7 u8 u9 u10 u11 u12
   go_wp2
   have e9 := HWF.out
   unfold sets13 at e9
   rw [← e9]
   clear e9 HWF fk fx k0 k1 k2 k3 k4 k5 k6 k7 k8 k9 k10 k11 k12 x0 x1 x2 x3 x4 x5 x6 x7 x8 x9 x10 x11 x12
   exact bodyPost_ret (v := .tuple #[.agg #[(.string q.sc), (.string ⟨#[117]⟩), (.string q.pw), (.int .i64 q.hk), (.string q.hn), (.int .i64 q.ha), (.int .i64 q.po), (.slice a n c), (.string q.op), (.bool q.hq), (.string q.qu), (.bool q.hf), (.string q.fr)], .agg #[(.string q'.sc), (.string q'.us), (.string q'.pw), (.int .i64 q'.hk), (.string q'.hn), (.int .i64 q'.ha), (.int .i64 q'.po), (.slice a' n' c'), (.string q'.op), (.bool q'.hq), (.string q'.qu), (.bool q'.hf), (.string q'.fr)]]) (by simp [results, Tryz.results20, go_sem, v0, v1, v2, v3, v4, v5, v6, v7, v8, v9, v10, v11, v12, y0, y1, y2, y3, y4, y5, y6, y7, y8, y9, y10, y11, y12]) rfl (by
    have HFT : Hid ((((({ q with us := ⟨#[117]⟩ } : P)).tot ≤ 20000 ∧ (({ q with us := ⟨#[117]⟩ } : P)).po ≤ 70000)) ∧ q'.tot ≤ 20000 ∧ q'.po ≤ 70000) := ⟨⟨by have := HF2.out.1.tot; unfold P.tot at *; dsimp only; have : (ByteArray.mk #[117]).size = 1 := rfl; omega, HF2.out.1.po⟩, Nat.le_trans HF'.out.1.tot (by decide), HF'.out.1.po⟩
    first
     | exact ⟨({ q with us := ⟨#[117]⟩ } : P), q', a, a', n, n', c, c', rfl, HS.out.1, HS.out.2.1, HFT, ⟨HF2.out.2, HF'.out.2⟩, HS.out.2.2⟩
     | exact ⟨({ q with us := ⟨#[117]⟩ } : P), q', a, a', n, n', ⟨c, c', rfl⟩, HS.out.1, HS.out.2.1, HFT, ⟨HF2.out.2, HF'.out.2⟩, HS.out.2.2⟩)
 ·have e1 : (v == 0) = false := beq_eq_false_iff_ne.2 hv
  clear hv0 hv1
  have HS3 : Hid (∀ W, w3.grownBy W (some r) → Blk gu (q.cells (.slice a n c)) 31 W ∧ Blk w.heap.size (P.zero.cells (.slice none 0 0)) 31 W ∧ Blk (w.heap.size + 1) (P.zero.cells (.slice none 0 0)) 31 W) := fun W g => ⟨(g.block _ X3.lt (by have := HLT.out; simp; omega)).trans X3, (g.block _ KA3.lt (by have := HLT.out; simp; omega)).trans KA3, (g.block _ KB3.lt (by have := HLT.out; simp; omega)).trans KB3⟩
  have HB3 : Hid (Below w.heap.size w w3) := B3
  have HR3 : Hid (Rd B r (p2 + 1) w3) := R3
  have HO3 : Hid (OwnS B1 (.slice a n c) q.ps w3) := O3
  obtain ⟨u0, u1, u2, u3, u4, u5, u6, u7, u8, u9, u10, u11, u12⟩ := Blk.cells13a X3
  clear X3 KA3 KB3 B3 R3 O3
  go_wp2
  go_region_with (first
   | (go_at_call 41; refine (l11AnyHome B r (p2 + 1) _ (by have := HP.out; omega) ?hr).mono ?_; (case hr => first | exact HR3.out | exact (show Rd B r (p2 + 1) w3.drew from HR3.out)); rintro e w4 ⟨q', a', n', c', p4, rfl, o4, hF', hp4, r4, g4⟩; have G4 : Hid (w3.grownBy w4 (some r)) := (by first | exact g4 | exact grown_trans (grown_drew (World.grownBy.refl w3 _)) g4); have HO4 : Hid (OwnS w3.heap.size (.slice a' n' c') q'.ps w4) := (by first | exact o4 | exact (show OwnS w3.drew.heap.size (.slice a' n' c') q'.ps w4 from o4)); have HF' : Hid (Fit2 q' ∧ n' = q'.ps.length) := hF'; have HR4 : Hid (Rd B r p4 w4) := r4; clear o4 r4 g4 hF' hp4 u0 u1 u2 u3 u4 u5 u6 u7 u8 u9 u10 u11 u12; obtain ⟨u0, u1, u2, u3, u4, u5, u6, u7, u8, u9, u10, u11, u12⟩ := Blk.cells13a (HS3.out _ G4.out).1; obtain ⟨k0, k1, k2, k3, k4, k5, k6, k7, k8, k9, k10, k11, k12⟩ := Blk.cells13a (HS3.out _ G4.out).2.1; have fk := (HS3.out _ G4.out).2.1.free; obtain ⟨x0, x1, x2, x3, x4, x5, x6, x7, x8, x9, x10, x11, x12⟩ := Blk.cells13a (HS3.out _ G4.out).2.2; have fx := (HS3.out _ G4.out).2.2.free)
   | fail)
  all_goals
   have HO1 : Hid (OwnS B1 (.slice a n c) q.ps w4) := OwnS.grownR HO3.out G4.out (by have := HLT.out; omega)
   obtain ⟨X4, KA4, KB4⟩ := HS3.out _ G4.out
   have HB4 : Hid (Below w.heap.size w w4) := HB3.out.trans (below_grown G4.out (by have := HLT.out; omega) HB3.out.size)
   have HE := two_endB (q := q) KA4 KB4 HO1.out HO4.out (by have := HLT.out; omega) (by have := HLT.out; have := HB3.out.size; have := (HS3.out _ (World.grownBy.refl _ _)).2.2.lt; omega) HF2.out.2 HF'.out.2 HB4.out
   obtain ⟨WF, hWF, f1, f2, s1, s2, bF⟩ := HE
   obtain ⟨v0, v1, v2, v3, v4, v5, v6, v7, v8, v9, v10, v11, v12⟩ := Blk.cells13a f1
   obtain ⟨y0, y1, y2, y3, y4, y5, y6, y7, y8, y9, y10, y11, y12⟩ := Blk.cells13a f2
   have HWF : Hid (WF = sets13 (sets13 w4 w.heap.size q (.slice a n c)) (w.heap.size + 1) q' (.slice a' n' c')) := hWF
   have HS : Hid (StrsOf a n q.ps WF ∧ StrsOf a' n' q'.ps WF ∧ Below w.heap.size w WF) := ⟨s1, s2, bF⟩
   clear HO1 X4 KA4 KB4 HB4 HO4 HS3 HB3 HR3 HO3 HR4 G4 f1 f2 s1 s2 bF hWF u0 u1 u2 u3 u4 u5 u6 u7 u8 u9 u10 u11 u12
   go_wp2
   have e9 := HWF.out
   unfold sets13 at e9
   rw [← e9]
   clear e9 HWF fk fx k0 k1 k2 k3 k4 k5 k6 k7 k8 k9 k10 k11 k12 x0 x1 x2 x3 x4 x5 x6 x7 x8 x9 x10 x11 x12
   exact bodyPost_ret (v := .tuple #[.agg #[(.string q.sc), (.string q.us), (.string q.pw), (.int .i64 q.hk), (.string q.hn), (.int .i64 q.ha), (.int .i64 q.po), (.slice a n c), (.string q.op), (.bool q.hq), (.string q.qu), (.bool q.hf), (.string q.fr)], .agg #[(.string q'.sc), (.string q'.us), (.string q'.pw), (.int .i64 q'.hk), (.string q'.hn), (.int .i64 q'.ha), (.int .i64 q'.po), (.slice a' n' c'), (.string q'.op), (.bool q'.hq), (.string q'.qu), (.bool q'.hf), (.string q'.fr)]]) (by simp [results, Tryz.results20, go_sem, v0, v1, v2, v3, v4, v5, v6, v7, v8, v9, v10, v11, v12, y0, y1, y2, y3, y4, y5, y6, y7, y8, y9, y10, y11, y12]) rfl (by
    have HFT : Hid ((((q).tot ≤ 20000 ∧ (q).po ≤ 70000)) ∧ q'.tot ≤ 20000 ∧ q'.po ≤ 70000) := ⟨⟨Nat.le_trans HF2.out.1.tot (by decide), HF2.out.1.po⟩, Nat.le_trans HF'.out.1.tot (by decide), HF'.out.1.po⟩
    first
     | exact ⟨q, q', a, a', n, n', c, c', rfl, HS.out.1, HS.out.2.1, HFT, ⟨HF2.out.2, HF'.out.2⟩, HS.out.2.2⟩
     | exact ⟨q, q', a, a', n, n', ⟨c, c', rfl⟩, HS.out.1, HS.out.2.1, HFT, ⟨HF2.out.2, HF'.out.2⟩, HS.out.2.2⟩)
end Go.Proofs.YtnfhajhdpdidlaaGreatDoor
end
