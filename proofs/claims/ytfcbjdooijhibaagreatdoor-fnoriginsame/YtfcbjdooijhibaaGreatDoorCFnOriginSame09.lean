/- spec.l11Two: two addresses are drawn. -/
import Derived.Test.YtfcbjdooijhibaaGreatDoorCFnOriginSame07
import Derived.Test.YtfcbjdooijhibaaGreatDoorCFnOriginSame08
import Derived.Deep.RegionHeld3
set_option linter.unusedVariables false
set_option linter.unusedSimpArgs false
set_option maxHeartbeats 8000000
set_option maxRecDepth 100000
section
namespace Go.Proofs.YtfcbjdooijhibaaGreatDoor
open Go.RowKit Go.Shelf
def sets13 (W : World) (g : Nat) (q : P) (v : Value) : World := (((((((((((((W.setCell ⟨g, 0, none⟩ (.string q.sc)).setCell ⟨g, 1, none⟩ (.string q.us)).setCell ⟨g, 2, none⟩ (.string q.pw)).setCell ⟨g, 3, none⟩ (.int .i64 q.hk)).setCell ⟨g, 4, none⟩ (.string q.hn)).setCell ⟨g, 5, none⟩ (.int .i64 q.ha)).setCell ⟨g, 6, none⟩ (.int .i64 q.po)).setCell ⟨g, 7, none⟩ v).setCell ⟨g, 8, none⟩ (.string q.op)).setCell ⟨g, 9, none⟩ (.bool q.hq)).setCell ⟨g, 10, none⟩ (.string q.qu)).setCell ⟨g, 11, none⟩ (.bool q.hf)).setCell ⟨g, 12, none⟩ (.string q.fr))
theorem sets_blk {g : Nat} {q : P} {v : Value} {W : World} (h : Blk g (P.zero.cells (.slice none 0 0)) 27 W) : Blk g (q.cells v) 27 (sets13 W g q v) := Blk.put13 h _ _ _ _ _ _ _ _ _ _ _ _ _
theorem sets_else {k g : Nat} {A : Array Value} {t : TypeId} {q : P} {v : Value} {W : World} (hk : k ≠ g) (h : Blk k A t W) : Blk k A t (sets13 W g q v) := by
 unfold Blk sets13 at *
 rw [setCell_else _ _ _ _ _ hk, setCell_else _ _ _ _ _ hk, setCell_else _ _ _ _ _ hk, setCell_else _ _ _ _ _ hk, setCell_else _ _ _ _ _ hk, setCell_else _ _ _ _ _ hk, setCell_else _ _ _ _ _ hk, setCell_else _ _ _ _ _ hk, setCell_else _ _ _ _ _ hk, setCell_else _ _ _ _ _ hk, setCell_else _ _ _ _ _ hk, setCell_else _ _ _ _ _ hk, setCell_else _ _ _ _ _ hk]
 exact h
theorem two_end {B B1 B2 r p n n' c c' : Nat} {q q' : P} {a a' : Option Addr} {w W : World} (k1 : Blk w.heap.size (P.zero.cells (.slice none 0 0)) 27 W) (k2 : Blk (w.heap.size + 1) (P.zero.cells (.slice none 0 0)) 27 W) (o : OwnS B1 (.slice a n c) q.ps W) (o' : OwnS B2 (.slice a' n' c') q'.ps W) (h1 : w.heap.size + 1 < B1) (h2 : w.heap.size + 1 < B2) (hn : n = q.ps.length) (hn' : n' = q'.ps.length) (hr : Rd B r p W) (hrw : r < w.heap.size) (hg : w.grownBy W (some r)) :
  ∃ WF, WF = sets13 (sets13 W w.heap.size q (.slice a n c)) (w.heap.size + 1) q' (.slice a' n' c') ∧ Blk w.heap.size (q.cells (.slice a n c)) 27 WF ∧ Blk (w.heap.size + 1) (q'.cells (.slice a' n' c')) 27 WF ∧ OwnS (w.heap.size + 2) (.slice a n c) q.ps WF ∧ OwnS (w.heap.size + 2) (.slice a' n' c') q'.ps WF ∧ Rd B r p WF ∧ w.grownBy WF (some r) := by
 refine ⟨_, rfl, sets_else (by omega) (sets_blk k1), sets_blk (sets_else (by omega) k2), (OwnS.put13 (OwnS.put13 o (by omega)) h1).mono (by omega), (OwnS.put13 (OwnS.put13 o' (by omega)) h2).mono (by omega), ?_, ?_⟩
 ·exact rd_put13 (rd_put13 hr hrw _ _ _ _ _ _ _ _ _ _ _ _ _) (by omega) _ _ _ _ _ _ _ _ _ _ _ _ _
 ·exact grown_put13 (grown_put13 hg (Nat.le_refl _) _ _ _ _ _ _ _ _ _ _ _ _ _) (by omega) _ _ _ _ _ _ _ _ _ _ _ _ _
theorem OwnS.strsN2 {B n c : Nat} {a : Option Addr} {ps : List (List UInt8)} {w : World} (h : OwnS B (.slice a n c) ps w) (hn : n = ps.length) : StrsOf a n ps w := by
 obtain ⟨a1, c1, h1, h2, s1⟩ := h.strs
 rw [← hn] at h1 s1
 injection h1 with e1 e2 e3
 rw [← e1] at s1
 exact s1
structure Fit3 (q : P) : Prop where
 make ::
 tot : q.tot ≤ 20000
 po : q.po ≤ 70000
theorem Fit2.to3 {q : P} (h : Fit2 q) : Fit3 q := ⟨by have := h.tot; omega, h.po⟩
theorem fit3_more (q q' : P) (h : Fit2 q) (d : Nat) (hd : d ≤ 5000) (ht : q'.tot ≤ q.tot + d) (hp : q'.po = q.po) : Fit3 q' := ⟨by have := h.tot; omega, by rw [hp]; exact h.po⟩
structure Td (B r B1 B2 ga gb : Nat) (w : World) (q q2 : P) (a a2 : Option Addr) (n c n2 c2 p : Nat) (W : World) : Prop where
 make ::
 f1 : Fit3 q
 f2 : Fit3 q2
 l1 : n = q.ps.length
 l2 : n2 = q2.ps.length
 ka : Blk w.heap.size (P.zero.cells (.slice none 0 0)) 27 W
 kb : Blk (w.heap.size + 1) (P.zero.cells (.slice none 0 0)) 27 W
 xa : Blk ga (q.cells (.slice a n c)) 27 W
 xb : Blk gb (q2.cells (.slice a2 n2 c2)) 27 W
 o1 : OwnS B1 (.slice a n c) q.ps W
 o2 : OwnS B2 (.slice a2 n2 c2) q2.ps W
 rd : Rd B r p W
 gr : w.grownBy W (some r)
 lt : r < w.heap.size ∧ w.heap.size + 1 < ga ∧ ga < gb ∧ w.heap.size + 1 < B1 ∧ w.heap.size + 1 < B2 ∧ B2 ≤ gb
theorem Td.step {B r B1 B2 ga gb n c n2 c2 p p' : Nat} {w W W' : World} {q q2 : P} {a a2 : Option Addr} (h : Td B r B1 B2 ga gb w q q2 a a2 n c n2 c2 p W) (g : W.grownBy W' (some r)) (rd' : Rd B r p' W') : Td B r B1 B2 ga gb w q q2 a a2 n c n2 c2 p' W' where
 f1 := h.f1
 f2 := h.f2
 l1 := h.l1
 l2 := h.l2
 ka := (g.block _ h.ka.lt (by have := h.lt; simp; omega)).trans h.ka
 kb := (g.block _ h.kb.lt (by have := h.lt; simp; omega)).trans h.kb
 xa := (g.block _ h.xa.lt (by have := h.lt; simp; omega)).trans h.xa
 xb := (g.block _ h.xb.lt (by have := h.lt; simp; omega)).trans h.xb
 o1 := h.o1.grownR g (by have := h.lt; omega)
 o2 := h.o2.grownR g (by have := h.lt; omega)
 rd := rd'
 gr := grown_trans h.gr g
 lt := h.lt
theorem Td.alloc {B r B1 B2 ga gb n c n2 c2 p : Nat} {w W : World} {q q2 : P} {a a2 : Option Addr} (h : Td B r B1 B2 ga gb w q q2 a a2 n c n2 c2 p W) (o : Obj) : Td B r B1 B2 ga gb w q q2 a a2 n c n2 c2 p (W.alloc o) := h.step (World.grownBy_alloc W o _) (rd_more h.rd o)
theorem Td.put {B r B1 B2 ga gb n c n2 c2 p : Nat} {w W : World} {q q2 q3 : P} {a a2 : Option Addr} (h : Td B r B1 B2 ga gb w q q2 a a2 n c n2 c2 p W) (j : Nat) (v : Value) (f : Fit3 q3) (hps : q3.ps = q2.ps) (e : (#[(.string q2.sc), (.string q2.us), (.string q2.pw), (.int .i64 q2.hk), (.string q2.hn), (.int .i64 q2.ha), (.int .i64 q2.po), (.slice a2 n2 c2), (.string q2.op), (.bool q2.hq), (.string q2.qu), (.bool q2.hf), (.string q2.fr)] : Array Value).setIfInBounds j v = #[(.string q3.sc), (.string q3.us), (.string q3.pw), (.int .i64 q3.hk), (.string q3.hn), (.int .i64 q3.ha), (.int .i64 q3.po), (.slice a2 n2 c2), (.string q3.op), (.bool q3.hq), (.string q3.qu), (.bool q3.hf), (.string q3.fr)]) : Td B r B1 B2 ga gb w q q3 a a2 n c n2 c2 p (W.setCell ⟨gb, j, none⟩ v) where
 f1 := h.f1
 f2 := f
 l1 := h.l1
 l2 := by rw [hps]; exact h.l2
 ka := h.ka.other gb j v (by have := h.lt; omega)
 kb := h.kb.other gb j v (by have := h.lt; omega)
 xa := h.xa.other gb j v (by have := h.lt; omega)
 xb := by unfold P.cells; rw [← e]; exact h.xb.set j v
 o1 := h.o1.off h.xb (by decide) j v
 o2 := by rw [hps]; exact h.o2.off h.xb (by decide) j v
 rd := h.rd.new j v (by have := h.lt; omega)
 gr := grown_new h.gr gb j v (by have := h.lt; omega)
 lt := h.lt
theorem Td.path {B r B1 B2 ga gb n c n2 c2 n3 c3 p : Nat} {w W : World} {q q2 q3 : P} {a a2 a3 : Option Addr} (h : Td B r B1 B2 ga gb w q q2 a a2 n c n2 c2 p W) (f : Fit3 q3) (hq : q3 = { q2 with ps := q3.ps }) (hn : n3 = q3.ps.length) (o : OwnS B2 (.slice a3 n3 c3) q3.ps W) : Td B r B1 B2 ga gb w q q3 a a3 n c n3 c3 p (W.setCell ⟨gb, 7, none⟩ (.slice a3 n3 c3)) where
 f1 := h.f1
 f2 := f
 l1 := h.l1
 l2 := hn
 ka := h.ka.other gb 7 _ (by have := h.lt; omega)
 kb := h.kb.other gb 7 _ (by have := h.lt; omega)
 xa := h.xa.other gb 7 _ (by have := h.lt; omega)
 xb := by rw [hq]; exact h.xb.set 7 _
 o1 := h.o1.off h.xb (by decide) 7 _
 o2 := o.off h.xb (by decide) 7 _
 rd := h.rd.new 7 _ (by have := h.lt; omega)
 gr := grown_new h.gr gb 7 _ (by have := h.lt; omega)
 lt := h.lt
theorem ownS_two (w : World) (B : Nat) (hB : B ≤ w.heap.size) (l1 l2 : List UInt8) : OwnS B (.slice (some ⟨w.heap.size, 0, none⟩) 2 2) [l1, l2] (w.alloc (.cells #[.string (mk l1), .string (mk l2)] 9)) :=
 ⟨rfl, .inr ⟨w.heap.size, 2, #[.string (mk l1), .string (mk l2)], rfl, hB, heap_alloc_new w _, Nat.le_refl _, by decide, rfl, rfl⟩⟩
def frL : List ByteArray := [⟨#[]⟩, ⟨#[102]⟩]
theorem frL_size (x : ByteArray) (h : x ∈ frL) : x.size ≤ 1 := by
 simp only [frL, List.mem_cons, List.not_mem_nil, or_false] at h
 rcases h with rfl | rfl <;> decide
def zpL : List ByteArray := [⟨#[]⟩, ⟨#[122]⟩]
theorem zpL_size (x : ByteArray) (h : x ∈ zpL) : x.size ≤ 1 := by
 simp only [zpL, List.mem_cons, List.not_mem_nil, or_false] at h
 rcases h with rfl | rfl <;> decide
theorem l11Two (B r p : Nat) (w : World) (hp : p ≤ 100) (h : Rd B r p w) :
  Calls Tryz.prog 30 #[.pointer (some ⟨r, 0, none⟩)] w fun e w' => ∃ (q q' : P) (a a' : Option Addr) (n n' c c' p' : Nat), e = .returned (.tuple #[.agg #[(.string q.sc), (.string q.us), (.string q.pw), (.int .i64 q.hk), (.string q.hn), (.int .i64 q.ha), (.int .i64 q.po), (.slice a n c), (.string q.op), (.bool q.hq), (.string q.qu), (.bool q.hf), (.string q.fr)], .agg #[(.string q'.sc), (.string q'.us), (.string q'.pw), (.int .i64 q'.hk), (.string q'.hn), (.int .i64 q'.ha), (.int .i64 q'.po), (.slice a' n' c'), (.string q'.op), (.bool q'.hq), (.string q'.qu), (.bool q'.hf), (.string q'.fr)]]) ∧ OwnS (w.heap.size + 2) (.slice a n c) q.ps w' ∧ OwnS (w.heap.size + 2) (.slice a' n' c') q'.ps w' ∧ Hid (Fit3 q ∧ n = q.ps.length ∧ Fit3 q' ∧ n' = q'.ps.length) ∧ Rd B r p' w' ∧ w.grownBy w' (some r) := by
 have hrl := h.lt
 obtain ⟨V0, hV0⟩ : ∃ V, V = (w.alloc (.cells #[(.string ⟨#[]⟩), (.string ⟨#[]⟩), (.string ⟨#[]⟩), (.int .i64 0), (.string ⟨#[]⟩), (.int .i64 0), (.int .i64 0), (.slice none 0 0), (.string ⟨#[]⟩), (.bool false), (.string ⟨#[]⟩), (.bool false), (.string ⟨#[]⟩)] 27)).alloc (.cells #[(.string ⟨#[]⟩), (.string ⟨#[]⟩), (.string ⟨#[]⟩), (.int .i64 0), (.string ⟨#[]⟩), (.int .i64 0), (.int .i64 0), (.slice none 0 0), (.string ⟨#[]⟩), (.bool false), (.string ⟨#[]⟩), (.bool false), (.string ⟨#[]⟩)] 27) := ⟨_, rfl⟩
 have KA : Hid (Blk w.heap.size (P.zero.cells (.slice none 0 0)) 27 V0) := by show Blk _ _ _ _; rw [hV0]; exact (Blk.new w _ _).alloc _
 have KB : Hid (Blk (w.heap.size + 1) (P.zero.cells (.slice none 0 0)) 27 V0) := by
  show Blk _ _ _ _
  have := Blk.new (w.alloc (.cells #[(.string ⟨#[]⟩), (.string ⟨#[]⟩), (.string ⟨#[]⟩), (.int .i64 0), (.string ⟨#[]⟩), (.int .i64 0), (.int .i64 0), (.slice none 0 0), (.string ⟨#[]⟩), (.bool false), (.string ⟨#[]⟩), (.bool false), (.string ⟨#[]⟩)] 27)) #[(.string ⟨#[]⟩), (.string ⟨#[]⟩), (.string ⟨#[]⟩), (.int .i64 0), (.string ⟨#[]⟩), (.int .i64 0), (.int .i64 0), (.slice none 0 0), (.string ⟨#[]⟩), (.bool false), (.string ⟨#[]⟩), (.bool false), (.string ⟨#[]⟩)] 27
  rw [hV0]; unfold P.cells P.zero; simpa using this
 have HR0 : Hid (Rd B r p V0) := by rw [hV0]; exact rd_more (rd_more h _) _
 have HG0 : Hid (w.grownBy V0 (some r)) := by rw [hV0]; exact grown_alloc (World.grownBy_alloc w _ _) _
 clear h
 go_enter Tryz.func30, Tryz.ntmps30
 go_upto_region 1 with fail
 rw [← hV0]
 clear hV0
 go_wp2_with fail
 refine (pick B r p _ _ (by omega) (by omega) (by omega) HR0.out).mono ?_
 rintro e w1 ⟨v, rfl, hv0, hv1, r1, g1⟩
 have KA1 : Hid (Blk w.heap.size (P.zero.cells (.slice none 0 0)) 27 w1) := (g1.block _ KA.out.lt (by simp; omega)).trans KA.out
 have KB1 : Hid (Blk (w.heap.size + 1) (P.zero.cells (.slice none 0 0)) 27 w1) := (g1.block _ KB.out.lt (by simp; omega)).trans KB.out
 have HR1 : Hid (Rd B r (p + 1) w1) := r1
 have HG1 : Hid (w.grownBy w1 (some r)) := grown_trans HG0.out g1
 clear r1 g1 KA KB HR0 HG0
 rcases (show v = 0 ∨ v = 1 ∨ v = 2 from by omega) with rfl | rfl | rfl
 ·clear hv0 hv1
  go_wp2_with fail
  refine (l11Near B r _ _ (by omega) HR1.out).mono ?_
  rintro e w2 ⟨q, a, n, c, p2, rfl, o2, hF, hp2, r2, g2⟩
  have KA2 : Hid (Blk w.heap.size (P.zero.cells (.slice none 0 0)) 27 w2) := (g2.block _ KA1.out.lt (by simp; omega)).trans KA1.out
  have KB2 : Hid (Blk (w.heap.size + 1) (P.zero.cells (.slice none 0 0)) 27 w2) := (g2.block _ KB1.out.lt (by simp; omega)).trans KB1.out
  have HG2 : Hid (w.grownBy w2 (some r)) := grown_trans HG1.out g2
  have HL1 : Hid (w.heap.size + 1 < w1.heap.size) := KB1.out.lt
  clear g2 KA1 KB1 HR1 HG1
  go_wp2_with fail
  refine (l11Near B r _ _ (by omega) r2).mono ?_
  rintro e w3 ⟨q', a', n', c', p3, rfl, o3, hF', hp3, r3, g3⟩
  have KA3 : Hid (Blk w.heap.size (P.zero.cells (.slice none 0 0)) 27 w3) := (g3.block _ KA2.out.lt (by simp; omega)).trans KA2.out
  have KB3 : Hid (Blk (w.heap.size + 1) (P.zero.cells (.slice none 0 0)) 27 w3) := (g3.block _ KB2.out.lt (by simp; omega)).trans KB2.out
  have HG3 : Hid (w.grownBy w3 (some r)) := grown_trans HG2.out g3
  have HO : Hid (OwnS w1.heap.size (.slice a n c) q.ps w3) := OwnS.grownR o2 g3 (by have := HL1.out; omega)
  have HE := two_end KA3.out KB3.out HO.out o3 HL1.out KB2.out.lt hF.out.2 hF'.out.2 r3 hrl HG3.out
  obtain ⟨WF, hWF, f1, f2, s1, s2, rF, gF⟩ := HE
  obtain ⟨k0, k1, k2, k3, k4, k5, k6, k7, k8, k9, k10, k11, k12⟩ := Blk.cells13a KA3.out
  obtain ⟨x0, x1, x2, x3, x4, x5, x6, x7, x8, x9, x10, x11, x12⟩ := Blk.cells13a KB3.out
  have fk := KA3.out.free
  have fx := KB3.out.free
  obtain ⟨u0, u1, u2, u3, u4, u5, u6, u7, u8, u9, u10, u11, u12⟩ := Blk.cells13a f1
  obtain ⟨y0, y1, y2, y3, y4, y5, y6, y7, y8, y9, y10, y11, y12⟩ := Blk.cells13a f2
  have HWF : Hid (WF = sets13 (sets13 w3 w.heap.size q (.slice a n c)) (w.heap.size + 1) q' (.slice a' n' c')) := hWF
  have HS : Hid (OwnS (w.heap.size + 2) (.slice a n c) q.ps WF ∧ OwnS (w.heap.size + 2) (.slice a' n' c') q'.ps WF ∧ Rd B r p3 WF ∧ w.grownBy WF (some r)) := ⟨s1, s2, rF, gF⟩
  clear KA2 KB2 HG2 KA3 KB3 HG3 HO HL1 o2 o3 r2 r3 g3 f1 f2 s1 s2 rF gF hWF hp2 hp3
  go_wp2
  have e9 := HWF.out
  unfold sets13 at e9
  rw [← e9]
  clear e9 HWF fk fx k0 k1 k2 k3 k4 k5 k6 k7 k8 k9 k10 k11 k12 x0 x1 x2 x3 x4 x5 x6 x7 x8 x9 x10 x11 x12
  exact bodyPost_ret (v := .tuple #[.agg #[(.string q.sc), (.string q.us), (.string q.pw), (.int .i64 q.hk), (.string q.hn), (.int .i64 q.ha), (.int .i64 q.po), (.slice a n c), (.string q.op), (.bool q.hq), (.string q.qu), (.bool q.hf), (.string q.fr)], .agg #[(.string q'.sc), (.string q'.us), (.string q'.pw), (.int .i64 q'.hk), (.string q'.hn), (.int .i64 q'.ha), (.int .i64 q'.po), (.slice a' n' c'), (.string q'.op), (.bool q'.hq), (.string q'.qu), (.bool q'.hf), (.string q'.fr)]]) (by simp [results, Tryz.results30, go_sem, u0, u1, u2, u3, u4, u5, u6, u7, u8, u9, u10, u11, u12, y0, y1, y2, y3, y4, y5, y6, y7, y8, y9, y10, y11, y12]) rfl ⟨q, q', a, a', n, n', c, c', p3, rfl, HS.out.1, HS.out.2.1, ⟨(fit2_of q q hF.out.1 0 (by omega) (by omega) (by have := hF.out.1.p1; omega)).to3, hF.out.2, (fit2_of q' q' hF'.out.1 0 (by omega) (by omega) (by have := hF'.out.1.p1; omega)).to3, hF'.out.2⟩, HS.out.2.2.1, HS.out.2.2.2⟩
 ·clear hv0 hv1
  go_wp2_with fail
  refine (l11AnyUrl B r _ _ (by omega) HR1.out).mono ?_
  rintro e w2 ⟨q, a, n, c, p2, rfl, o2, hF, hp2, r2, g2⟩
  have KA2 : Hid (Blk w.heap.size (P.zero.cells (.slice none 0 0)) 27 w2) := (g2.block _ KA1.out.lt (by simp; omega)).trans KA1.out
  have KB2 : Hid (Blk (w.heap.size + 1) (P.zero.cells (.slice none 0 0)) 27 w2) := (g2.block _ KB1.out.lt (by simp; omega)).trans KB1.out
  have HG2 : Hid (w.grownBy w2 (some r)) := grown_trans HG1.out g2
  have HL1 : Hid (w.heap.size + 1 < w1.heap.size) := KB1.out.lt
  obtain ⟨V3, hV3⟩ : ∃ V, V = w2.alloc (.cells #[(.string q.sc), (.string q.us), (.string q.pw), (.int .i64 q.hk), (.string q.hn), (.int .i64 q.ha), (.int .i64 q.po), (.slice a n c), (.string q.op), (.bool q.hq), (.string q.qu), (.bool q.hf), (.string q.fr)] 27) := ⟨_, rfl⟩
  have D3 : Hid (Below w2.heap.size w2 V3) := by show Below _ _ _; rw [hV3]; exact (Below.refl _ w2).alloc (Nat.le_refl _) _
  have GA3 : Hid (Blk w2.heap.size (q.cells (.slice a n c)) 27 V3) := by show Blk _ _ _ _; rw [hV3]; exact Blk.new w2 _ _
  have KA3 : Hid (Blk w.heap.size (P.zero.cells (.slice none 0 0)) 27 V3) := KA2.out.below D3.out KA2.out.lt
  have KB3 : Hid (Blk (w.heap.size + 1) (P.zero.cells (.slice none 0 0)) 27 V3) := KB2.out.below D3.out KB2.out.lt
  have R3 : Hid (Rd B r p2 V3) := r2.below D3.out r2.lt
  have HG3 : Hid (w.grownBy V3 (some r)) := grown_below HG2.out (D3.out.mono (by have := HG2.out.size; omega))
  have O3 : Hid (OwnS w1.heap.size (.slice a n c) q.ps V3) := o2.later D3.out
  have HL2 : Hid (w.heap.size + 1 < w2.heap.size ∧ r < w2.heap.size) := ⟨KB2.out.lt, r2.lt⟩
  clear o2 r2 g2 KA2 KB2 HG2 KA1 KB1 HR1 HG1 D3
  go_upto_region 7 with fail
  rw [← hV3]
  clear hV3
  generalize w2.heap.size = ga at *
  obtain ⟨k0, k1, k2, k3, k4, k5, k6, k7, k8, k9, k10, k11, k12⟩ := Blk.cells13a GA3.out
  have st : StrsOf a n q.ps V3 := OwnS.strsN2 O3.out hF.out.2
  have CC : Hid (Calls Tryz.prog 57 #[.agg #[(.string q.sc), (.string q.us), (.string q.pw), (.int .i64 q.hk), (.string q.hn), (.int .i64 q.ha), (.int .i64 q.po), (.slice a n c), (.string q.op), (.bool q.hq), (.string q.qu), (.bool q.hf), (.string q.fr)]] V3 fun e w' => ∃ a2 c2, e = .returned (.agg #[(.string q.sc), (.string q.us), (.string q.pw), (.int .i64 q.hk), (.string q.hn), (.int .i64 q.ha), (.int .i64 q.po), (.slice a2 n c2), (.string q.op), (.bool q.hq), (.string q.qu), (.bool q.hf), (.string q.fr)]) ∧ OwnS V3.heap.size (.slice a2 n c2) q.ps w' ∧ Below V3.heap.size V3 w') := l3Copy q a n c V3 st (by have h1 := hF.out.2; have h2 := hF.out.1.tot; unfold P.tot at h2; omega)
  clear st
  go_wp2_with fail
  refine CC.out.mono ?_
  rintro e w4 ⟨a2, c2, rfl, o4, d4⟩
  obtain ⟨V5, hV5⟩ : ∃ V, V = w4.alloc (.cells #[(.string q.sc), (.string q.us), (.string q.pw), (.int .i64 q.hk), (.string q.hn), (.int .i64 q.ha), (.int .i64 q.po), (.slice a2 n c2), (.string q.op), (.bool q.hq), (.string q.qu), (.bool q.hf), (.string q.fr)] 27) := ⟨_, rfl⟩
  have D5 : Hid (Below V3.heap.size V3 V5) := by show Below _ _ _; rw [hV5]; exact d4.alloc d4.size _
  have HT5 : Hid (Td B r w1.heap.size V3.heap.size ga w4.heap.size w q q a a2 n c n c2 p2 V5) := ⟨hF.out.1.to3, hF.out.1.to3, hF.out.2, hF.out.2, KA3.out.below D5.out KA3.out.lt, KB3.out.below D5.out KB3.out.lt, GA3.out.below D5.out GA3.out.lt, by rw [hV5]; exact Blk.new w4 _ _, O3.out.later D5.out, by rw [hV5]; exact o4.later ((Below.refl _ w4).alloc (Nat.le_refl _) _), R3.out.below D5.out R3.out.lt, grown_below HG3.out (D5.out.mono (by have := HG3.out.size; omega)), ⟨hrl, HL2.out.1, by have h1 := GA3.out.lt; have h2 := d4.size; omega, HL1.out, KB3.out.lt, d4.size⟩⟩
  clear o4 d4 CC KA3 KB3 HG3 GA3 R3 O3 D5 HL1 HL2 k0 k1 k2 k3 k4 k5 k6 k7 k8 k9 k10 k11 k12
  go_upto_region 8 with fail
  rw [← hV5]
  clear hV5
  generalize w4.heap.size = gb at *
  generalize V3.heap.size = B2 at *
  generalize w1.heap.size = B1 at *
  go_wp2_with fail
  refine (pick B r p2 _ _ (by omega) (by omega) (by omega) HT5.out.rd).mono ?_
  rintro e w6 ⟨v, rfl, hv0, hv1, r6, g6⟩
  have HT6 : Hid (Td B r B1 B2 ga gb w q q a a2 n c n c2 (p2 + 1) w6) := HT5.out.step g6 r6
  clear r6 g6 HT5
  rcases (show v = 3 ∨ v = 1 ∨ v = 0 ∨ v = 2 from by omega) with rfl | rfl | rfl | rfl
  ·clear hv0 hv1
   go_upto_region 16 with fail
   have NA : Hid (ga ≠ w.heap.size ∧ ga ≠ w.heap.size + 1 ∧ gb ≠ w.heap.size ∧ gb ≠ w.heap.size + 1) := by have h1 := HT6.out.lt; exact ⟨by omega, by omega, by omega, by omega⟩
   have HE := two_end (W := w6) (q' := q) HT6.out.ka HT6.out.kb HT6.out.o1 HT6.out.o2 HT6.out.lt.2.2.2.1 HT6.out.lt.2.2.2.2.1 HT6.out.l1 HT6.out.l2 HT6.out.rd hrl HT6.out.gr
   obtain ⟨WF, hWF, f1, f2, s1, s2, rF, gF⟩ := HE
   have HWF : Hid (WF = sets13 (sets13 w6 w.heap.size q (.slice a n c)) (w.heap.size + 1) q (.slice a2 n c2)) := hWF
   have F1 : Hid (Blk w.heap.size (q.cells (.slice a n c)) 27 WF) := f1
   have F2 : Hid (Blk (w.heap.size + 1) (q.cells (.slice a2 n c2)) 27 WF) := f2
   have HS : Hid (OwnS (w.heap.size + 2) (.slice a n c) q.ps WF ∧ OwnS (w.heap.size + 2) (.slice a2 n c2) q.ps WF ∧ Rd B r (p2 + 1) WF ∧ w.grownBy WF (some r)) := ⟨s1, s2, rF, gF⟩
   have HFT : Hid (Fit3 q ∧ n = q.ps.length ∧ Fit3 q ∧ n = q.ps.length) := ⟨HT6.out.f1, HT6.out.l1, HT6.out.f2, HT6.out.l2⟩
   have GA9 : Hid (Blk ga (q.cells (.slice a n c)) 27 w6) := HT6.out.xa
   have GB9 : Hid (Blk gb (q.cells (.slice a2 n c2)) 27 w6) := HT6.out.xb
   have KA9 : Hid (Blk w.heap.size (P.zero.cells (.slice none 0 0)) 27 w6) := HT6.out.ka
   have KB9 : Hid (Blk (w.heap.size + 1) (P.zero.cells (.slice none 0 0)) 27 w6) := HT6.out.kb
   clear f1 f2 s1 s2 rF gF hWF HT6
   refine wp_region_held_drew (S := (fun W => Blk ga (q.cells (.slice a n c)) 27 W ∧ Blk gb (q.cells (.slice a2 n c2)) 27 W)) (by kernel_rfl) (⟨GA9.out.drew, GB9.out.drew⟩) (fun hHeld => ?_)
   refine wpAnyH_take (i := 0) (oi := _) (v := _) rfl (by kernel_rfl) (by kernel_rfl) (by kernel_rfl) (fun _ _ _ h => h) (Or.inl ⟨by rfl, by (intro W hSw; obtain ⟨k0, k1, k2, k3, k4, k5, k6, k7, k8, k9, k10, k11, k12⟩ := Blk.cells13a hSw.1; clear hSw; go_simp; try (with_reducible rfl))⟩) (by assumption) ?_
   simp only [Act.put, List.getElem_toArray, List.getElem_cons_zero, List.getElem_cons_succ, List.setIfInBounds_toArray, List.set_cons_zero, List.set_cons_succ]
   refine wpAnyH_take (i := 1) (oi := _) (v := _) rfl (by kernel_rfl) (by kernel_rfl) (by kernel_rfl) (fun _ _ _ h => h) (Or.inl ⟨by rfl, by (intro W hSw; obtain ⟨k0, k1, k2, k3, k4, k5, k6, k7, k8, k9, k10, k11, k12⟩ := Blk.cells13a hSw.2; clear hSw; go_simp; try (with_reducible rfl))⟩) (by assumption) ?_
   simp only [Act.put, List.getElem_toArray, List.getElem_cons_zero, List.getElem_cons_succ, List.setIfInBounds_toArray, List.set_cons_zero, List.set_cons_succ]
   refine wpAnyH_ready (rs := [2]) (by kernel_rfl) (by simp) ?_
   refine AllReadyH.cons (o := _) rfl (fun K hK => ?_) AllReadyH.nil
   obtain ⟨e0, e1, e2, e3, e4, e5, e6, e7, e8, e9, e10, e11, e12⟩ := Blk.cells13a KA9.out
   have fe := KA9.out.free
   go_simp
   refine hK.out _ _ ⟨Blk.drew (sets_else (W := w6) (q := q) (v := .slice a n c) NA.out.1 GA9.out), Blk.drew (sets_else (W := w6) (q := q) (v := .slice a n c) NA.out.2.2.1 GB9.out)⟩ (fun hHeld2 => ?_)
   clear hK K fe e0 e1 e2 e3 e4 e5 e6 e7 e8 e9 e10 e11 e12
   try simp only [Act.put, List.getElem_toArray, List.getElem_cons_zero, List.getElem_cons_succ, List.setIfInBounds_toArray, List.set_cons_zero, List.set_cons_succ]
   obtain ⟨W1, hW1⟩ : ∃ W1, W1 = sets13 w6 w.heap.size q (.slice a n c) := ⟨_, rfl⟩
   have K7 : Hid (Blk (w.heap.size + 1) (P.zero.cells (.slice none 0 0)) 27 W1) := by show Blk _ _ _ _; rw [hW1]; exact sets_else (by omega) KB9.out
   rw [← hW1] at HWF
   have e1 := hW1
   unfold sets13 at e1
   rw [← e1]
   rw [← e1] at hHeld2
   clear e1 hW1 hHeld
   refine wpAnyH_ready (rs := [3]) (by kernel_rfl) (by simp) ?_
   refine AllReadyH.cons (o := _) rfl (fun K hK => ?_) AllReadyH.nil
   obtain ⟨d0, d1, d2, d3, d4, d5, d6, d7, d8, d9, d10, d11, d12⟩ := Blk.cells13a K7.out
   have fd := K7.out.free
   go_simp
   refine hK.out _ _ ⟨Blk.drew (sets_else (W := W1) (q := q) (v := .slice a2 n c2) NA.out.2.1 hHeld2.1), Blk.drew (sets_else (W := W1) (q := q) (v := .slice a2 n c2) NA.out.2.2.2 hHeld2.2)⟩ (fun hHeld3 => ?_)
   clear hK K fd hHeld2 K7 d0 d1 d2 d3 d4 d5 d6 d7 d8 d9 d10 d11 d12
   try simp only [Act.put, List.getElem_toArray, List.getElem_cons_zero, List.getElem_cons_succ, List.setIfInBounds_toArray, List.set_cons_zero, List.set_cons_succ]
   have e9 := HWF.out
   unfold sets13 at e9
   rw [← e9]
   rw [← e9] at hHeld3
   clear e9 HWF hHeld3 NA KA9 KB9 GA9 GB9
   refine wpAnyH_done (by kernel_rfl) ?_ _
   obtain ⟨u0, u1, u2, u3, u4, u5, u6, u7, u8, u9, u10, u11, u12⟩ := Blk.cells13a F1.out
   obtain ⟨y0, y1, y2, y3, y4, y5, y6, y7, y8, y9, y10, y11, y12⟩ := Blk.cells13a F2.out
   go_wp2
   exact bodyPost_ret (v := .tuple #[.agg #[(.string q.sc), (.string q.us), (.string q.pw), (.int .i64 q.hk), (.string q.hn), (.int .i64 q.ha), (.int .i64 q.po), (.slice a n c), (.string q.op), (.bool q.hq), (.string q.qu), (.bool q.hf), (.string q.fr)], .agg #[(.string q.sc), (.string q.us), (.string q.pw), (.int .i64 q.hk), (.string q.hn), (.int .i64 q.ha), (.int .i64 q.po), (.slice a2 n c2), (.string q.op), (.bool q.hq), (.string q.qu), (.bool q.hf), (.string q.fr)]]) (by simp [results, Tryz.results30, go_sem, u0, u1, u2, u3, u4, u5, u6, u7, u8, u9, u10, u11, u12, y0, y1, y2, y3, y4, y5, y6, y7, y8, y9, y10, y11, y12]) rfl ⟨q, q, a, a2, n, n, c, c2, (p2 + 1), rfl, HS.out.1, HS.out.2.1, HFT, HS.out.2.2.1, grown_drew HS.out.2.2.2⟩
  ·clear hv0 hv1
   obtain ⟨x0, x1, x2, x3, x4, x5, x6, x7, x8, x9, x10, x11, x12⟩ := Blk.cells13a HT6.out.xb
   have fx := HT6.out.xb.free
   obtain ⟨q3, hq3⟩ : ∃ q3, q3 = ({ q with hq := true, qu := ⟨#[113]⟩ } : P) := ⟨_, rfl⟩
   obtain ⟨W7, hW7⟩ : ∃ W, W = (w6.setCell ⟨gb, 9, none⟩ (.bool true)).setCell ⟨gb, 10, none⟩ (.string ⟨#[113]⟩) := ⟨_, rfl⟩
   have f0 : Fit3 ({ q with hq := true } : P) := fit3_more q _ hF.out.1 0 (by decide) (Nat.le_refl _) rfl
   have f1 : Fit3 ({ q with hq := true, qu := ⟨#[113]⟩ } : P) := fit3_more q _ hF.out.1 1 (by decide) (by unfold P.tot; show _ ≤ _; simp only [show (⟨#[113]⟩ : ByteArray).size = 1 from rfl]; omega) rfl
   have HT7 : Hid (Td B r B1 B2 ga gb w q q3 a a2 n c n c2 (p2 + 1) W7) := by rw [hW7, hq3]; exact (HT6.out.put (q3 := { q with hq := true }) 9 (.bool true) f0 rfl rfl).put (q3 := { q with hq := true, qu := ⟨#[113]⟩ }) 10 (.string ⟨#[113]⟩) f1 rfl rfl
   go_upto_region 16 with fail
   rw [← hW7]
   clear hW7 HT6 f0 f1 hq3 fx x0 x1 x2 x3 x4 x5 x6 x7 x8 x9 x10 x11 x12
   have NA : Hid (ga ≠ w.heap.size ∧ ga ≠ w.heap.size + 1 ∧ gb ≠ w.heap.size ∧ gb ≠ w.heap.size + 1) := by have h1 := HT7.out.lt; exact ⟨by omega, by omega, by omega, by omega⟩
   have HE := two_end (W := W7) (q' := q3) HT7.out.ka HT7.out.kb HT7.out.o1 HT7.out.o2 HT7.out.lt.2.2.2.1 HT7.out.lt.2.2.2.2.1 HT7.out.l1 HT7.out.l2 HT7.out.rd hrl HT7.out.gr
   obtain ⟨WF, hWF, f1, f2, s1, s2, rF, gF⟩ := HE
   have HWF : Hid (WF = sets13 (sets13 W7 w.heap.size q (.slice a n c)) (w.heap.size + 1) q3 (.slice a2 n c2)) := hWF
   have F1 : Hid (Blk w.heap.size (q.cells (.slice a n c)) 27 WF) := f1
   have F2 : Hid (Blk (w.heap.size + 1) (q3.cells (.slice a2 n c2)) 27 WF) := f2
   have HS : Hid (OwnS (w.heap.size + 2) (.slice a n c) q.ps WF ∧ OwnS (w.heap.size + 2) (.slice a2 n c2) q3.ps WF ∧ Rd B r (p2 + 1) WF ∧ w.grownBy WF (some r)) := ⟨s1, s2, rF, gF⟩
   have HFT : Hid (Fit3 q ∧ n = q.ps.length ∧ Fit3 q3 ∧ n = q3.ps.length) := ⟨HT7.out.f1, HT7.out.l1, HT7.out.f2, HT7.out.l2⟩
   have GA9 : Hid (Blk ga (q.cells (.slice a n c)) 27 W7) := HT7.out.xa
   have GB9 : Hid (Blk gb (q3.cells (.slice a2 n c2)) 27 W7) := HT7.out.xb
   have KA9 : Hid (Blk w.heap.size (P.zero.cells (.slice none 0 0)) 27 W7) := HT7.out.ka
   have KB9 : Hid (Blk (w.heap.size + 1) (P.zero.cells (.slice none 0 0)) 27 W7) := HT7.out.kb
   clear f1 f2 s1 s2 rF gF hWF HT7
   refine wp_region_held_drew (S := (fun W => Blk ga (q.cells (.slice a n c)) 27 W ∧ Blk gb (q3.cells (.slice a2 n c2)) 27 W)) (by kernel_rfl) (⟨GA9.out.drew, GB9.out.drew⟩) (fun hHeld => ?_)
   refine wpAnyH_take (i := 0) (oi := _) (v := _) rfl (by kernel_rfl) (by kernel_rfl) (by kernel_rfl) (fun _ _ _ h => h) (Or.inl ⟨by rfl, by (intro W hSw; obtain ⟨k0, k1, k2, k3, k4, k5, k6, k7, k8, k9, k10, k11, k12⟩ := Blk.cells13a hSw.1; clear hSw; go_simp; try (with_reducible rfl))⟩) (by assumption) ?_
   simp only [Act.put, List.getElem_toArray, List.getElem_cons_zero, List.getElem_cons_succ, List.setIfInBounds_toArray, List.set_cons_zero, List.set_cons_succ]
   refine wpAnyH_take (i := 1) (oi := _) (v := _) rfl (by kernel_rfl) (by kernel_rfl) (by kernel_rfl) (fun _ _ _ h => h) (Or.inl ⟨by rfl, by (intro W hSw; obtain ⟨k0, k1, k2, k3, k4, k5, k6, k7, k8, k9, k10, k11, k12⟩ := Blk.cells13a hSw.2; clear hSw; go_simp; try (with_reducible rfl))⟩) (by assumption) ?_
   simp only [Act.put, List.getElem_toArray, List.getElem_cons_zero, List.getElem_cons_succ, List.setIfInBounds_toArray, List.set_cons_zero, List.set_cons_succ]
   refine wpAnyH_ready (rs := [2]) (by kernel_rfl) (by simp) ?_
   refine AllReadyH.cons (o := _) rfl (fun K hK => ?_) AllReadyH.nil
   obtain ⟨e0, e1, e2, e3, e4, e5, e6, e7, e8, e9, e10, e11, e12⟩ := Blk.cells13a KA9.out
   have fe := KA9.out.free
   go_simp
   refine hK.out _ _ ⟨Blk.drew (sets_else (W := W7) (q := q) (v := .slice a n c) NA.out.1 GA9.out), Blk.drew (sets_else (W := W7) (q := q) (v := .slice a n c) NA.out.2.2.1 GB9.out)⟩ (fun hHeld2 => ?_)
   clear hK K fe e0 e1 e2 e3 e4 e5 e6 e7 e8 e9 e10 e11 e12
   try simp only [Act.put, List.getElem_toArray, List.getElem_cons_zero, List.getElem_cons_succ, List.setIfInBounds_toArray, List.set_cons_zero, List.set_cons_succ]
   obtain ⟨W1, hW1⟩ : ∃ W1, W1 = sets13 W7 w.heap.size q (.slice a n c) := ⟨_, rfl⟩
   have K7 : Hid (Blk (w.heap.size + 1) (P.zero.cells (.slice none 0 0)) 27 W1) := by show Blk _ _ _ _; rw [hW1]; exact sets_else (by omega) KB9.out
   rw [← hW1] at HWF
   have e1 := hW1
   unfold sets13 at e1
   rw [← e1]
   rw [← e1] at hHeld2
   clear e1 hW1 hHeld
   refine wpAnyH_ready (rs := [3]) (by kernel_rfl) (by simp) ?_
   refine AllReadyH.cons (o := _) rfl (fun K hK => ?_) AllReadyH.nil
   obtain ⟨d0, d1, d2, d3, d4, d5, d6, d7, d8, d9, d10, d11, d12⟩ := Blk.cells13a K7.out
   have fd := K7.out.free
   go_simp
   refine hK.out _ _ ⟨Blk.drew (sets_else (W := W1) (q := q3) (v := .slice a2 n c2) NA.out.2.1 hHeld2.1), Blk.drew (sets_else (W := W1) (q := q3) (v := .slice a2 n c2) NA.out.2.2.2 hHeld2.2)⟩ (fun hHeld3 => ?_)
   clear hK K fd hHeld2 K7 d0 d1 d2 d3 d4 d5 d6 d7 d8 d9 d10 d11 d12
   try simp only [Act.put, List.getElem_toArray, List.getElem_cons_zero, List.getElem_cons_succ, List.setIfInBounds_toArray, List.set_cons_zero, List.set_cons_succ]
   have e9 := HWF.out
   unfold sets13 at e9
   rw [← e9]
   rw [← e9] at hHeld3
   clear e9 HWF hHeld3 NA KA9 KB9 GA9 GB9
   refine wpAnyH_done (by kernel_rfl) ?_ _
   obtain ⟨u0, u1, u2, u3, u4, u5, u6, u7, u8, u9, u10, u11, u12⟩ := Blk.cells13a F1.out
   obtain ⟨y0, y1, y2, y3, y4, y5, y6, y7, y8, y9, y10, y11, y12⟩ := Blk.cells13a F2.out
   go_wp2
   exact bodyPost_ret (v := .tuple #[.agg #[(.string q.sc), (.string q.us), (.string q.pw), (.int .i64 q.hk), (.string q.hn), (.int .i64 q.ha), (.int .i64 q.po), (.slice a n c), (.string q.op), (.bool q.hq), (.string q.qu), (.bool q.hf), (.string q.fr)], .agg #[(.string q3.sc), (.string q3.us), (.string q3.pw), (.int .i64 q3.hk), (.string q3.hn), (.int .i64 q3.ha), (.int .i64 q3.po), (.slice a2 n c2), (.string q3.op), (.bool q3.hq), (.string q3.qu), (.bool q3.hf), (.string q3.fr)]]) (by simp [results, Tryz.results30, go_sem, u0, u1, u2, u3, u4, u5, u6, u7, u8, u9, u10, u11, u12, y0, y1, y2, y3, y4, y5, y6, y7, y8, y9, y10, y11, y12]) rfl ⟨q, q3, a, a2, n, n, c, c2, (p2 + 1), rfl, HS.out.1, HS.out.2.1, HFT, HS.out.2.2.1, grown_drew HS.out.2.2.2⟩
  ·clear hv0 hv1
   obtain ⟨x0, x1, x2, x3, x4, x5, x6, x7, x8, x9, x10, x11, x12⟩ := Blk.cells13a HT6.out.xb
   have fx := HT6.out.xb.free
   obtain ⟨q7, hq7⟩ : ∃ q7, q7 = ({ q with hf := true } : P) := ⟨_, rfl⟩
   obtain ⟨W7, hW7⟩ : ∃ W, W = w6.setCell ⟨gb, 11, none⟩ (.bool true) := ⟨_, rfl⟩
   have HT7 : Hid (Td B r B1 B2 ga gb w q q7 a a2 n c n c2 (p2 + 1) W7) := by rw [hW7, hq7]; exact HT6.out.put (q3 := { q with hf := true }) 11 (.bool true) (fit3_more q _ hF.out.1 0 (by decide) (Nat.le_refl _) rfl) rfl rfl
   go_upto_region 10 with fail
   rw [← hW7]
   clear hW7 HT6 fx x0 x1 x2 x3 x4 x5 x6 x7 x8 x9 x10 x11 x12
   go_wp2_with fail
   refine (rdOf B r (p2 + 1) W7.heap.size 2 frL 9 (0, 0) _ _ rfl (heap_alloc_new W7 _) (by have := HT7.out.rd.lt; omega) (by simp [frL]) (by simp [frL]) (by omega) (rd_more HT7.out.rd _)).mono ?_
   rintro e w8 ⟨x, hx, rfl, r8, g8⟩
   have hxs := frL_size x hx
   obtain ⟨q3, hq3⟩ : ∃ q3, q3 = ({ q with hf := true, fr := x } : P) := ⟨_, rfl⟩
   have HT8 : Hid (Td B r B1 B2 ga gb w q q7 a a2 n c n c2 (p2 + 1 + 1) w8) := (HT7.out.alloc _).step g8 r8
   clear r8 g8 HT7 hx
   obtain ⟨x0, x1, x2, x3, x4, x5, x6, x7, x8, x9, x10, x11, x12⟩ := Blk.cells13a HT8.out.xb
   have fx := HT8.out.xb.free
   obtain ⟨W9, hW9⟩ : ∃ W, W = w8.setCell ⟨gb, 12, none⟩ (.string x) := ⟨_, rfl⟩
   have HT9 : Hid (Td B r B1 B2 ga gb w q q3 a a2 n c n c2 (p2 + 1 + 1) W9) := by rw [hW9, hq3]; exact HT8.out.put (q3 := { q with hf := true, fr := x }) 12 (.string x) (fit3_more q _ hF.out.1 1 (by decide) (by unfold P.tot; show _ ≤ _; simp only; omega) rfl) (by rw [hq7]) (by rw [hq7]; rfl)
   go_upto_region 16 with fail
   rw [← hW9]
   clear hW9 HT8 hq3 hq7 fx hxs x0 x1 x2 x3 x4 x5 x6 x7 x8 x9 x10 x11 x12
   have NA : Hid (ga ≠ w.heap.size ∧ ga ≠ w.heap.size + 1 ∧ gb ≠ w.heap.size ∧ gb ≠ w.heap.size + 1) := by have h1 := HT9.out.lt; exact ⟨by omega, by omega, by omega, by omega⟩
   have HE := two_end (W := W9) (q' := q3) HT9.out.ka HT9.out.kb HT9.out.o1 HT9.out.o2 HT9.out.lt.2.2.2.1 HT9.out.lt.2.2.2.2.1 HT9.out.l1 HT9.out.l2 HT9.out.rd hrl HT9.out.gr
   obtain ⟨WF, hWF, f1, f2, s1, s2, rF, gF⟩ := HE
   have HWF : Hid (WF = sets13 (sets13 W9 w.heap.size q (.slice a n c)) (w.heap.size + 1) q3 (.slice a2 n c2)) := hWF
   have F1 : Hid (Blk w.heap.size (q.cells (.slice a n c)) 27 WF) := f1
   have F2 : Hid (Blk (w.heap.size + 1) (q3.cells (.slice a2 n c2)) 27 WF) := f2
   have HS : Hid (OwnS (w.heap.size + 2) (.slice a n c) q.ps WF ∧ OwnS (w.heap.size + 2) (.slice a2 n c2) q3.ps WF ∧ Rd B r (p2 + 1 + 1) WF ∧ w.grownBy WF (some r)) := ⟨s1, s2, rF, gF⟩
   have HFT : Hid (Fit3 q ∧ n = q.ps.length ∧ Fit3 q3 ∧ n = q3.ps.length) := ⟨HT9.out.f1, HT9.out.l1, HT9.out.f2, HT9.out.l2⟩
   have GA9 : Hid (Blk ga (q.cells (.slice a n c)) 27 W9) := HT9.out.xa
   have GB9 : Hid (Blk gb (q3.cells (.slice a2 n c2)) 27 W9) := HT9.out.xb
   have KA9 : Hid (Blk w.heap.size (P.zero.cells (.slice none 0 0)) 27 W9) := HT9.out.ka
   have KB9 : Hid (Blk (w.heap.size + 1) (P.zero.cells (.slice none 0 0)) 27 W9) := HT9.out.kb
   clear f1 f2 s1 s2 rF gF hWF HT9
   refine wp_region_held_drew (S := (fun W => Blk ga (q.cells (.slice a n c)) 27 W ∧ Blk gb (q3.cells (.slice a2 n c2)) 27 W)) (by kernel_rfl) (⟨GA9.out.drew, GB9.out.drew⟩) (fun hHeld => ?_)
   refine wpAnyH_take (i := 0) (oi := _) (v := _) rfl (by kernel_rfl) (by kernel_rfl) (by kernel_rfl) (fun _ _ _ h => h) (Or.inl ⟨by rfl, by (intro W hSw; obtain ⟨k0, k1, k2, k3, k4, k5, k6, k7, k8, k9, k10, k11, k12⟩ := Blk.cells13a hSw.1; clear hSw; go_simp; try (with_reducible rfl))⟩) (by assumption) ?_
   simp only [Act.put, List.getElem_toArray, List.getElem_cons_zero, List.getElem_cons_succ, List.setIfInBounds_toArray, List.set_cons_zero, List.set_cons_succ]
   refine wpAnyH_take (i := 1) (oi := _) (v := _) rfl (by kernel_rfl) (by kernel_rfl) (by kernel_rfl) (fun _ _ _ h => h) (Or.inl ⟨by rfl, by (intro W hSw; obtain ⟨k0, k1, k2, k3, k4, k5, k6, k7, k8, k9, k10, k11, k12⟩ := Blk.cells13a hSw.2; clear hSw; go_simp; try (with_reducible rfl))⟩) (by assumption) ?_
   simp only [Act.put, List.getElem_toArray, List.getElem_cons_zero, List.getElem_cons_succ, List.setIfInBounds_toArray, List.set_cons_zero, List.set_cons_succ]
   refine wpAnyH_ready (rs := [2]) (by kernel_rfl) (by simp) ?_
   refine AllReadyH.cons (o := _) rfl (fun K hK => ?_) AllReadyH.nil
   obtain ⟨e0, e1, e2, e3, e4, e5, e6, e7, e8, e9, e10, e11, e12⟩ := Blk.cells13a KA9.out
   have fe := KA9.out.free
   go_simp
   refine hK.out _ _ ⟨Blk.drew (sets_else (W := W9) (q := q) (v := .slice a n c) NA.out.1 GA9.out), Blk.drew (sets_else (W := W9) (q := q) (v := .slice a n c) NA.out.2.2.1 GB9.out)⟩ (fun hHeld2 => ?_)
   clear hK K fe e0 e1 e2 e3 e4 e5 e6 e7 e8 e9 e10 e11 e12
   try simp only [Act.put, List.getElem_toArray, List.getElem_cons_zero, List.getElem_cons_succ, List.setIfInBounds_toArray, List.set_cons_zero, List.set_cons_succ]
   obtain ⟨W1, hW1⟩ : ∃ W1, W1 = sets13 W9 w.heap.size q (.slice a n c) := ⟨_, rfl⟩
   have K7 : Hid (Blk (w.heap.size + 1) (P.zero.cells (.slice none 0 0)) 27 W1) := by show Blk _ _ _ _; rw [hW1]; exact sets_else (by omega) KB9.out
   rw [← hW1] at HWF
   have e1 := hW1
   unfold sets13 at e1
   rw [← e1]
   rw [← e1] at hHeld2
   clear e1 hW1 hHeld
   refine wpAnyH_ready (rs := [3]) (by kernel_rfl) (by simp) ?_
   refine AllReadyH.cons (o := _) rfl (fun K hK => ?_) AllReadyH.nil
   obtain ⟨d0, d1, d2, d3, d4, d5, d6, d7, d8, d9, d10, d11, d12⟩ := Blk.cells13a K7.out
   have fd := K7.out.free
   go_simp
   refine hK.out _ _ ⟨Blk.drew (sets_else (W := W1) (q := q3) (v := .slice a2 n c2) NA.out.2.1 hHeld2.1), Blk.drew (sets_else (W := W1) (q := q3) (v := .slice a2 n c2) NA.out.2.2.2 hHeld2.2)⟩ (fun hHeld3 => ?_)
   clear hK K fd hHeld2 K7 d0 d1 d2 d3 d4 d5 d6 d7 d8 d9 d10 d11 d12
   try simp only [Act.put, List.getElem_toArray, List.getElem_cons_zero, List.getElem_cons_succ, List.setIfInBounds_toArray, List.set_cons_zero, List.set_cons_succ]
   have e9 := HWF.out
   unfold sets13 at e9
   rw [← e9]
   rw [← e9] at hHeld3
   clear e9 HWF hHeld3 NA KA9 KB9 GA9 GB9
   refine wpAnyH_done (by kernel_rfl) ?_ _
   obtain ⟨u0, u1, u2, u3, u4, u5, u6, u7, u8, u9, u10, u11, u12⟩ := Blk.cells13a F1.out
   obtain ⟨y0, y1, y2, y3, y4, y5, y6, y7, y8, y9, y10, y11, y12⟩ := Blk.cells13a F2.out
   go_wp2
   exact bodyPost_ret (v := .tuple #[.agg #[(.string q.sc), (.string q.us), (.string q.pw), (.int .i64 q.hk), (.string q.hn), (.int .i64 q.ha), (.int .i64 q.po), (.slice a n c), (.string q.op), (.bool q.hq), (.string q.qu), (.bool q.hf), (.string q.fr)], .agg #[(.string q3.sc), (.string q3.us), (.string q3.pw), (.int .i64 q3.hk), (.string q3.hn), (.int .i64 q3.ha), (.int .i64 q3.po), (.slice a2 n c2), (.string q3.op), (.bool q3.hq), (.string q3.qu), (.bool q3.hf), (.string q3.fr)]]) (by simp [results, Tryz.results30, go_sem, u0, u1, u2, u3, u4, u5, u6, u7, u8, u9, u10, u11, u12, y0, y1, y2, y3, y4, y5, y6, y7, y8, y9, y10, y11, y12]) rfl ⟨q, q3, a, a2, n, n, c, c2, (p2 + 1 + 1), rfl, HS.out.1, HS.out.2.1, HFT, HS.out.2.2.1, grown_drew HS.out.2.2.2⟩
  ·clear hv0 hv1
   go_upto_region 15 with fail
   go_wp2_with fail
   refine (rdOf B r (p2 + 1) w6.heap.size 2 zpL 9 (0, 0) _ _ rfl (heap_alloc_new w6 _) (by have := HT6.out.rd.lt; omega) (by simp [zpL]) (by simp [zpL]) (by omega) (rd_more HT6.out.rd _)).mono ?_
   rintro e w8 ⟨x, hx, rfl, r8, g8⟩
   have hxs := zpL_size x hx
   obtain ⟨q3, hq3⟩ : ∃ q3, q3 = ({ q with ps := [x.data.toList, [121]] } : P) := ⟨_, rfl⟩
   obtain ⟨V9, hV9⟩ : ∃ V, V = w8.alloc (.cells #[.string x, .string ⟨#[121]⟩] 9) := ⟨_, rfl⟩
   have HT8 : Hid (Td B r B1 B2 ga gb w q q a a2 n c n c2 (p2 + 1 + 1) V9) := by rw [hV9]; exact ((HT6.out.alloc _).step g8 r8).alloc _
   have HO9 : Hid (OwnS B2 (.slice (some ⟨w8.heap.size, 0, none⟩) 2 2) q3.ps V9) := by
    have h8 : B2 ≤ w8.heap.size := by have h1 := ((HT6.out.alloc (.cells #[.string ⟨#[]⟩, .string ⟨#[122]⟩] 9)).step g8 r8); have h2 := h1.lt; have h3 := h1.xb.lt; omega
    have := ownS_two w8 B2 h8 x.data.toList [121]
    rw [mk_list] at this
    rw [hV9, hq3]; exact this
   clear r8 g8 HT6 hx
   obtain ⟨a3, ha3⟩ : ∃ a3, a3 = some (⟨w8.heap.size, 0, none⟩ : Addr) := ⟨_, rfl⟩
   obtain ⟨n3, hn3⟩ : ∃ n3 : Nat, n3 = 2 := ⟨_, rfl⟩
   obtain ⟨c3, hc3⟩ : ∃ c3 : Nat, c3 = 2 := ⟨_, rfl⟩
   obtain ⟨W9, hW9⟩ : ∃ W, W = V9.setCell ⟨gb, 7, none⟩ (.slice (some ⟨w8.heap.size, 0, none⟩) 2 2) := ⟨_, rfl⟩
   have HT9 : Hid (Td B r B1 B2 ga gb w q q3 a a3 n c n3 c3 (p2 + 1 + 1) W9) := by
    have hxl : x.data.toList.length ≤ 1 := by have e : x.data.toList.length = x.size := (by simp); omega
    rw [hW9, ha3, hn3, hc3]
    exact HT8.out.path (q3 := q3) (fit3_more q _ hF.out.1 4 (by decide) (by rw [hq3]; unfold P.tot; show _ ≤ _; simp only [tot, List.map_cons, List.map_nil, List.sum_cons, List.sum_nil, List.length_cons, List.length_nil]; omega) (by rw [hq3])) (by rw [hq3]) (by rw [hq3]; rfl) HO9.out
   obtain ⟨x0, x1, x2, x3, x4, x5, x6, x7, x8, x9, x10, x11, x12⟩ := Blk.cells13a HT8.out.xb
   have fx := HT8.out.xb.free
   rw [hV9] at x7 fx
   go_upto_region 16 with fail
   rw [← hV9, ← hW9]
   clear hW9 hV9 HT8 HO9 hq3 ha3 hn3 hc3 fx hxs x0 x1 x2 x3 x4 x5 x6 x7 x8 x9 x10 x11 x12
   have NA : Hid (ga ≠ w.heap.size ∧ ga ≠ w.heap.size + 1 ∧ gb ≠ w.heap.size ∧ gb ≠ w.heap.size + 1) := by have h1 := HT9.out.lt; exact ⟨by omega, by omega, by omega, by omega⟩
   have HE := two_end (W := W9) (q' := q3) HT9.out.ka HT9.out.kb HT9.out.o1 HT9.out.o2 HT9.out.lt.2.2.2.1 HT9.out.lt.2.2.2.2.1 HT9.out.l1 HT9.out.l2 HT9.out.rd hrl HT9.out.gr
   obtain ⟨WF, hWF, f1, f2, s1, s2, rF, gF⟩ := HE
   have HWF : Hid (WF = sets13 (sets13 W9 w.heap.size q (.slice a n c)) (w.heap.size + 1) q3 (.slice a3 n3 c3)) := hWF
   have F1 : Hid (Blk w.heap.size (q.cells (.slice a n c)) 27 WF) := f1
   have F2 : Hid (Blk (w.heap.size + 1) (q3.cells (.slice a3 n3 c3)) 27 WF) := f2
   have HS : Hid (OwnS (w.heap.size + 2) (.slice a n c) q.ps WF ∧ OwnS (w.heap.size + 2) (.slice a3 n3 c3) q3.ps WF ∧ Rd B r (p2 + 1 + 1) WF ∧ w.grownBy WF (some r)) := ⟨s1, s2, rF, gF⟩
   have HFT : Hid (Fit3 q ∧ n = q.ps.length ∧ Fit3 q3 ∧ n3 = q3.ps.length) := ⟨HT9.out.f1, HT9.out.l1, HT9.out.f2, HT9.out.l2⟩
   have GA9 : Hid (Blk ga (q.cells (.slice a n c)) 27 W9) := HT9.out.xa
   have GB9 : Hid (Blk gb (q3.cells (.slice a3 n3 c3)) 27 W9) := HT9.out.xb
   have KA9 : Hid (Blk w.heap.size (P.zero.cells (.slice none 0 0)) 27 W9) := HT9.out.ka
   have KB9 : Hid (Blk (w.heap.size + 1) (P.zero.cells (.slice none 0 0)) 27 W9) := HT9.out.kb
   clear f1 f2 s1 s2 rF gF hWF HT9
   refine wp_region_held_drew (S := (fun W => Blk ga (q.cells (.slice a n c)) 27 W ∧ Blk gb (q3.cells (.slice a3 n3 c3)) 27 W)) (by kernel_rfl) (⟨GA9.out.drew, GB9.out.drew⟩) (fun hHeld => ?_)
   refine wpAnyH_take (i := 0) (oi := _) (v := _) rfl (by kernel_rfl) (by kernel_rfl) (by kernel_rfl) (fun _ _ _ h => h) (Or.inl ⟨by rfl, by (intro W hSw; obtain ⟨k0, k1, k2, k3, k4, k5, k6, k7, k8, k9, k10, k11, k12⟩ := Blk.cells13a hSw.1; clear hSw; go_simp; try (with_reducible rfl))⟩) (by assumption) ?_
   simp only [Act.put, List.getElem_toArray, List.getElem_cons_zero, List.getElem_cons_succ, List.setIfInBounds_toArray, List.set_cons_zero, List.set_cons_succ]
   refine wpAnyH_take (i := 1) (oi := _) (v := _) rfl (by kernel_rfl) (by kernel_rfl) (by kernel_rfl) (fun _ _ _ h => h) (Or.inl ⟨by rfl, by (intro W hSw; obtain ⟨k0, k1, k2, k3, k4, k5, k6, k7, k8, k9, k10, k11, k12⟩ := Blk.cells13a hSw.2; clear hSw; go_simp; try (with_reducible rfl))⟩) (by assumption) ?_
   simp only [Act.put, List.getElem_toArray, List.getElem_cons_zero, List.getElem_cons_succ, List.setIfInBounds_toArray, List.set_cons_zero, List.set_cons_succ]
   refine wpAnyH_ready (rs := [2]) (by kernel_rfl) (by simp) ?_
   refine AllReadyH.cons (o := _) rfl (fun K hK => ?_) AllReadyH.nil
   obtain ⟨e0, e1, e2, e3, e4, e5, e6, e7, e8, e9, e10, e11, e12⟩ := Blk.cells13a KA9.out
   have fe := KA9.out.free
   go_simp
   refine hK.out _ _ ⟨Blk.drew (sets_else (W := W9) (q := q) (v := .slice a n c) NA.out.1 GA9.out), Blk.drew (sets_else (W := W9) (q := q) (v := .slice a n c) NA.out.2.2.1 GB9.out)⟩ (fun hHeld2 => ?_)
   clear hK K fe e0 e1 e2 e3 e4 e5 e6 e7 e8 e9 e10 e11 e12
   try simp only [Act.put, List.getElem_toArray, List.getElem_cons_zero, List.getElem_cons_succ, List.setIfInBounds_toArray, List.set_cons_zero, List.set_cons_succ]
   obtain ⟨W1, hW1⟩ : ∃ W1, W1 = sets13 W9 w.heap.size q (.slice a n c) := ⟨_, rfl⟩
   have K7 : Hid (Blk (w.heap.size + 1) (P.zero.cells (.slice none 0 0)) 27 W1) := by show Blk _ _ _ _; rw [hW1]; exact sets_else (by omega) KB9.out
   rw [← hW1] at HWF
   have e1 := hW1
   unfold sets13 at e1
   rw [← e1]
   rw [← e1] at hHeld2
   clear e1 hW1 hHeld
   refine wpAnyH_ready (rs := [3]) (by kernel_rfl) (by simp) ?_
   refine AllReadyH.cons (o := _) rfl (fun K hK => ?_) AllReadyH.nil
   obtain ⟨d0, d1, d2, d3, d4, d5, d6, d7, d8, d9, d10, d11, d12⟩ := Blk.cells13a K7.out
   have fd := K7.out.free
   go_simp
   refine hK.out _ _ ⟨Blk.drew (sets_else (W := W1) (q := q3) (v := .slice a3 n3 c3) NA.out.2.1 hHeld2.1), Blk.drew (sets_else (W := W1) (q := q3) (v := .slice a3 n3 c3) NA.out.2.2.2 hHeld2.2)⟩ (fun hHeld3 => ?_)
   clear hK K fd hHeld2 K7 d0 d1 d2 d3 d4 d5 d6 d7 d8 d9 d10 d11 d12
   try simp only [Act.put, List.getElem_toArray, List.getElem_cons_zero, List.getElem_cons_succ, List.setIfInBounds_toArray, List.set_cons_zero, List.set_cons_succ]
   have e9 := HWF.out
   unfold sets13 at e9
   rw [← e9]
   rw [← e9] at hHeld3
   clear e9 HWF hHeld3 NA KA9 KB9 GA9 GB9
   refine wpAnyH_done (by kernel_rfl) ?_ _
   obtain ⟨u0, u1, u2, u3, u4, u5, u6, u7, u8, u9, u10, u11, u12⟩ := Blk.cells13a F1.out
   obtain ⟨y0, y1, y2, y3, y4, y5, y6, y7, y8, y9, y10, y11, y12⟩ := Blk.cells13a F2.out
   go_wp2
   exact bodyPost_ret (v := .tuple #[.agg #[(.string q.sc), (.string q.us), (.string q.pw), (.int .i64 q.hk), (.string q.hn), (.int .i64 q.ha), (.int .i64 q.po), (.slice a n c), (.string q.op), (.bool q.hq), (.string q.qu), (.bool q.hf), (.string q.fr)], .agg #[(.string q3.sc), (.string q3.us), (.string q3.pw), (.int .i64 q3.hk), (.string q3.hn), (.int .i64 q3.ha), (.int .i64 q3.po), (.slice a3 n3 c3), (.string q3.op), (.bool q3.hq), (.string q3.qu), (.bool q3.hf), (.string q3.fr)]]) (by simp [results, Tryz.results30, go_sem, u0, u1, u2, u3, u4, u5, u6, u7, u8, u9, u10, u11, u12, y0, y1, y2, y3, y4, y5, y6, y7, y8, y9, y10, y11, y12]) rfl ⟨q, q3, a, a3, n, n3, c, c3, (p2 + 1 + 1), rfl, HS.out.1, HS.out.2.1, HFT, HS.out.2.2.1, grown_drew HS.out.2.2.2⟩
 ·clear hv0 hv1
  go_wp2_with fail
  refine (l11AnyUrl B r _ _ (by omega) HR1.out).mono ?_
  rintro e w2 ⟨q, a, n, c, p2, rfl, o2, hF, hp2, r2, g2⟩
  have KA2 : Hid (Blk w.heap.size (P.zero.cells (.slice none 0 0)) 27 w2) := (g2.block _ KA1.out.lt (by simp; omega)).trans KA1.out
  have KB2 : Hid (Blk (w.heap.size + 1) (P.zero.cells (.slice none 0 0)) 27 w2) := (g2.block _ KB1.out.lt (by simp; omega)).trans KB1.out
  have HG2 : Hid (w.grownBy w2 (some r)) := grown_trans HG1.out g2
  have HL1 : Hid (w.heap.size + 1 < w1.heap.size) := KB1.out.lt
  clear g2 KA1 KB1 HR1 HG1
  go_wp2_with fail
  refine (l11AnyUrl B r _ _ (by omega) r2).mono ?_
  rintro e w3 ⟨q', a', n', c', p3, rfl, o3, hF', hp3, r3, g3⟩
  have KA3 : Hid (Blk w.heap.size (P.zero.cells (.slice none 0 0)) 27 w3) := (g3.block _ KA2.out.lt (by simp; omega)).trans KA2.out
  have KB3 : Hid (Blk (w.heap.size + 1) (P.zero.cells (.slice none 0 0)) 27 w3) := (g3.block _ KB2.out.lt (by simp; omega)).trans KB2.out
  have HG3 : Hid (w.grownBy w3 (some r)) := grown_trans HG2.out g3
  have HO : Hid (OwnS w1.heap.size (.slice a n c) q.ps w3) := OwnS.grownR o2 g3 (by have := HL1.out; omega)
  have HE := two_end KA3.out KB3.out HO.out o3 HL1.out KB2.out.lt hF.out.2 hF'.out.2 r3 hrl HG3.out
  obtain ⟨WF, hWF, f1, f2, s1, s2, rF, gF⟩ := HE
  obtain ⟨k0, k1, k2, k3, k4, k5, k6, k7, k8, k9, k10, k11, k12⟩ := Blk.cells13a KA3.out
  obtain ⟨x0, x1, x2, x3, x4, x5, x6, x7, x8, x9, x10, x11, x12⟩ := Blk.cells13a KB3.out
  have fk := KA3.out.free
  have fx := KB3.out.free
  obtain ⟨u0, u1, u2, u3, u4, u5, u6, u7, u8, u9, u10, u11, u12⟩ := Blk.cells13a f1
  obtain ⟨y0, y1, y2, y3, y4, y5, y6, y7, y8, y9, y10, y11, y12⟩ := Blk.cells13a f2
  have HWF : Hid (WF = sets13 (sets13 w3 w.heap.size q (.slice a n c)) (w.heap.size + 1) q' (.slice a' n' c')) := hWF
  have HS : Hid (OwnS (w.heap.size + 2) (.slice a n c) q.ps WF ∧ OwnS (w.heap.size + 2) (.slice a' n' c') q'.ps WF ∧ Rd B r p3 WF ∧ w.grownBy WF (some r)) := ⟨s1, s2, rF, gF⟩
  clear KA2 KB2 HG2 KA3 KB3 HG3 HO HL1 o2 o3 r2 r3 g3 f1 f2 s1 s2 rF gF hWF hp2 hp3
  go_wp2
  have e9 := HWF.out
  unfold sets13 at e9
  rw [← e9]
  clear e9 HWF fk fx k0 k1 k2 k3 k4 k5 k6 k7 k8 k9 k10 k11 k12 x0 x1 x2 x3 x4 x5 x6 x7 x8 x9 x10 x11 x12
  exact bodyPost_ret (v := .tuple #[.agg #[(.string q.sc), (.string q.us), (.string q.pw), (.int .i64 q.hk), (.string q.hn), (.int .i64 q.ha), (.int .i64 q.po), (.slice a n c), (.string q.op), (.bool q.hq), (.string q.qu), (.bool q.hf), (.string q.fr)], .agg #[(.string q'.sc), (.string q'.us), (.string q'.pw), (.int .i64 q'.hk), (.string q'.hn), (.int .i64 q'.ha), (.int .i64 q'.po), (.slice a' n' c'), (.string q'.op), (.bool q'.hq), (.string q'.qu), (.bool q'.hf), (.string q'.fr)]]) (by simp [results, Tryz.results30, go_sem, u0, u1, u2, u3, u4, u5, u6, u7, u8, u9, u10, u11, u12, y0, y1, y2, y3, y4, y5, y6, y7, y8, y9, y10, y11, y12]) rfl ⟨q, q', a, a', n, n', c, c', p3, rfl, HS.out.1, HS.out.2.1, ⟨hF.out.1.to3, hF.out.2, hF'.out.1.to3, hF'.out.2⟩, HS.out.2.2.1, HS.out.2.2.2⟩
end Go.Proofs.YtfcbjdooijhibaaGreatDoor
end
