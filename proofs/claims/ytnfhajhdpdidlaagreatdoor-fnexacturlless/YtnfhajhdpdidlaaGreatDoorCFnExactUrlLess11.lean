/- spec.UrlLess: a short text that leads from one address to another one. eqStringS of two lists of the same texts. laws.eqUrl, markUrl, heldUrl. The law FnExactUrlLess answers true, whatever the two addresses. -/
import Derived.Test.YtnfhajhdpdidlaaGreatDoorCFnExactUrlLess09
import Derived.Test.YtnfhajhdpdidlaaGreatDoorCFnExactUrlLess10
import Derived.Test.YtnfhajhdpdidlaaGreatDoorB04
import Derived.Test.YtnfhajhdpdidlaaGreatDoorB35
import Derived.Test.YtnfhajhdpdidlaaGreatDoorCFnExactUrlLess01
import Derived.Test.YtnfhajhdpdidlaaGreatDoorCFnExactUrlLess02
import Derived.Test.YtnfhajhdpdidlaaGreatDoorCFnExactUrlLess08
import Derived.Deep.Cut
set_option linter.unusedVariables false
set_option linter.unusedSimpArgs false
set_option maxHeartbeats 16000000
set_option maxRecDepth 100000
section
namespace Go.Proofs.YtnfhajhdpdidlaaGreatDoor
open Go.RowKit Go.Shelf
theorem specUrlLess (p q : P) (a a' : Option Addr) (n n' c c' : Nat) (w : World) (hS : StrsOf a n p.ps w) (hS' : StrsOf a' n' q.ps w) (hs : p.tot ≤ 1048576) (hs' : q.tot ≤ 1048576) (hpo : p.po ≤ 9223372036854775807) (hpo' : q.po ≤ 9223372036854775807) (t : ByteArray) (ht : Les p q t) :
  Calls Tryz.prog 23 #[.agg (p.cells (.slice a n c)), .agg (q.cells (.slice a' n' c'))] w fun e w' => e = .returned (.string t) ∧ Below w.heap.size w w' := by
 by_cases hp : okP p
 case neg => rw [ht.no (fun h => hp h.1)]; exact specLessNo p q a a' n n' c c' w hS hS' hs hs' hpo hpo' hp
 by_cases hq : okP q
 case neg => rw [ht.no (fun h => hq h.2)]; exact specLessHalf p q a a' n n' c c' w hS hS' hs hs' hpo hpo' hp hq
 by_cases he : EndOnly p q
 ·rw [ht.fin hp hq he]; exact specLessEnd p q a a' n n' c c' w hS hS' hs hs' hpo hpo' hp hq he.1 he.2
 cases hf : q.hf with
 | false => exact specLessRestA p q a a' n n' c c' w hS hS' hs hs' hpo hpo' hp hq hf t ht
 | true => exact specLessRestB p q a a' n n' c c' w hS hS' hs hs' hpo hpo' hp hq hf (fun e => he ⟨hf, e⟩) t ht
end Go.Proofs.YtnfhajhdpdidlaaGreatDoor
end
section
namespace Go.Proofs.YtnfhajhdpdidlaaGreatDoor
open Go.RowKit Go.Shelf
theorem eqStringS (a a' : Option Addr) (len cap len' cap' : Nat) (ss : List (List UInt8)) (w : World) (h : StrsOf a len ss w) (h' : StrsOf a' len' ss w) (hl : len ≤ 1000000000) :
  Calls Tryz.prog 40 #[.slice a len cap, .slice a' len' cap'] w fun e w' => e = .returned (.bool true) ∧ ∃ n, w' = w.drewN n := by
 have hll : len' = len := by rw [h.1, h'.1]
 subst hll
 have HLEN : Hid (len' = ss.length) := h.1
 go_enter Tryz.func40, Tryz.ntmps40
 go_wp2
 go_loopw [5] (fun i wr => ∃ k : Nat, k ≤ len' ∧ i = .int .i64 k ∧ ∃ n, wr = w.drewN n) (fun i wr => len' - (intOf i).toNat)
 case atStart => exact ⟨0, Nat.zero_le _, rfl, 0, rfl⟩
 case round =>
  obtain ⟨k, hk, rfl, n, rfl⟩ := hrel
  by_cases hp : k < len'
  ·have hki : (k : Int) < (len' : Int) := by omega
   obtain ⟨b, off, z, rfl, hz, hzm, hzs⟩ := h.at k (by have := HLEN.out; omega)
   obtain ⟨b', off', z', rfl, hz', hzm', hzs'⟩ := h'.at k (by have := HLEN.out; omega)
   have : z' = z := by rw [hzm, hzm']
   subst this
   clear hzm hzm' hzs hzs'
   go_wp2
   go_quiet (fail)
   go_wp2
   go_roundw
   case rel => exact ⟨k + 1, by omega, by go_num, _, rfl⟩
   case measure => simp [intOf]; omega
  ·have hkk : k = len' := by omega
   subst hkk
   go_wp2
   go_ret
   exact ⟨rfl, n, rfl⟩
end Go.Proofs.YtnfhajhdpdidlaaGreatDoor
end
section
namespace Go.Proofs.YtnfhajhdpdidlaaGreatDoor
open Go.RowKit Go.Shelf
theorem eqHost (k : Int) (s : ByteArray) (a : Int) (w : World) :
  Calls Tryz.prog 39 #[.agg #[.int .i64 k, .string s, .int .i64 a], .agg #[.int .i64 k, .string s, .int .i64 a]] w fun e w' => e = .returned (.bool true) ∧ Below w.heap.size w w' := by
 have HB : Hid (Below w.heap.size w ((w.alloc (.cells #[.int .i64 k, .string s, .int .i64 a] 29)).alloc (.cells #[.int .i64 k, .string s, .int .i64 a] 29))) := ((Below.refl _ w).alloc (Nat.le_refl _) _).alloc (by simp) _
 go_enter Tryz.func39, Tryz.ntmps39
 go_wp2
 go_ret
 exact ⟨rfl, HB.out⟩
structure TB (w : World) (q : P) (v v' : Value) (W : World) : Prop where
 make ::
 b1 : Blk w.heap.size (q.cells v) 31 W
 b2 : Blk (w.heap.size + 1) (q.cells v') 31 W
 bw : Below w.heap.size w W
theorem TB.start (w : World) (q : P) (v v' : Value) : TB w q v v' ((w.alloc (.cells (q.cells v) 31)).alloc (.cells (q.cells v') 31)) where
 b1 := Blk.alloc (Blk.new w _ _) _
 b2 := by
  have := Blk.new (w.alloc (.cells (q.cells v) 31)) (q.cells v') 31
  rw [show (w.alloc (Obj.cells (q.cells v) 31)).heap.size = w.heap.size + 1 by simp] at this
  exact this
 bw := ((Below.refl _ w).alloc (Nat.le_refl _) _).alloc (by simp) _
theorem TB.later {w W W' : World} {q : P} {v v' : Value} (h : TB w q v v' W) (b : Below W.heap.size W W') : TB w q v v' W' := ⟨h.b1.below b h.b1.lt, h.b2.below b h.b2.lt, h.bw.trans (b.mono h.bw.size)⟩
theorem eqUrl (q : P) (a a' : Option Addr) (c c' : Nat) (w : World) (h : StrsOf a q.ps.length q.ps w) (h' : StrsOf a' q.ps.length q.ps w) (hl : q.ps.length ≤ 1100000) :
  Calls Tryz.prog 13 #[.agg (q.cells (.slice a q.ps.length c)), .agg (q.cells (.slice a' q.ps.length c'))] w fun e w' => e = .returned (.bool true) ∧ Below w.heap.size w w' := by
 have H0 : Hid (TB w q (.slice a q.ps.length c) (.slice a' q.ps.length c') ((w.alloc (.cells (q.cells (.slice a q.ps.length c)) 31)).alloc (.cells (q.cells (.slice a' q.ps.length c')) 31))) := TB.start w q _ _
 obtain ⟨n, hn⟩ : ∃ n, n = q.ps.length := ⟨_, rfl⟩
 have CH : Hid (∀ W, Calls Tryz.prog 39 #[.agg #[.int .i64 q.hk, .string q.hn, .int .i64 q.ha], .agg #[.int .i64 q.hk, .string q.hn, .int .i64 q.ha]] W fun e w' => e = .returned (.bool true) ∧ Below W.heap.size W w') := fun W => eqHost q.hk q.hn q.ha W
 have CS : Hid (∀ W, Below w.heap.size w W → Calls Tryz.prog 40 #[.slice a n c, .slice a' n c'] W fun e w' => e = .returned (.bool true) ∧ ∃ n, w' = W.drewN n) := fun W b => by
  rw [hn]; exact eqStringS _ _ _ _ _ _ q.ps W (h.later b) (h'.later b) (by omega)
 rw [← hn] at H0 ⊢
 clear h h' hl hn
 unfold P.cells at H0 ⊢
 go_enter Tryz.func13, Tryz.ntmps13
 go_wp2_with fail
 refine (CH.out _).mono ?_
 rintro e W1 ⟨rfl, d1⟩
 have HX1 : Hid (TB w q (.slice a n c) (.slice a' n c') W1) := H0.out.later d1
 clear d1 H0 CH
 obtain ⟨k0, k1, k2, k3, k4, k5, k6, k7, k8, k9, k10, k11, k12⟩ := Blk.cells13 (q := q) HX1.out.b1
 obtain ⟨j0, j1, j2, j3, j4, j5, j6, j7, j8, j9, j10, j11, j12⟩ := Blk.cells13 (q := q) HX1.out.b2
 go_wp2_with fail
 refine (CS.out _ HX1.out.bw).mono ?_
 rintro e W2 ⟨rfl, n2, hW2⟩
 have HX2 : Hid (TB w q (.slice a n c) (.slice a' n c') W2) := by
  have e2 := hW2
  have b2 : Below W1.heap.size W1 W2 := by rw [e2]; exact below_drewN (Below.refl _ _) n2
  exact HX1.out.later b2
 clear hW2 HX1 CS k0 k1 k2 k3 k4 k5 k6 k7 k8 k9 k10 k11 k12 j0 j1 j2 j3 j4 j5 j6 j7 j8 j9 j10 j11 j12
 obtain ⟨k0, k1, k2, k3, k4, k5, k6, k7, k8, k9, k10, k11, k12⟩ := Blk.cells13 (q := q) HX2.out.b1
 obtain ⟨j0, j1, j2, j3, j4, j5, j6, j7, j8, j9, j10, j11, j12⟩ := Blk.cells13 (q := q) HX2.out.b2
 go_wp2
 go_ret
 exact ⟨rfl, HX2.out.bw⟩
end Go.Proofs.YtnfhajhdpdidlaaGreatDoor
end
section
namespace Go.Proofs.YtnfhajhdpdidlaaGreatDoor
open Go.RowKit Go.Shelf
structure L2 (w : World) (A B : Array Value) (W : World) : Prop where
 make ::
 a : Blk w.heap.size A 26 W
 b : Blk (w.heap.size + 1) B 26 W
 bw : Below w.heap.size w W
theorem L2.start (w : World) (A B : Array Value) : L2 w A B ((w.alloc (.cells A 26)).alloc (.cells B 26)) where
 a := Blk.alloc (Blk.new w _ _) _
 b := by
  have := Blk.new (w.alloc (.cells A 26)) B 26
  rw [show (w.alloc (Obj.cells A 26)).heap.size = w.heap.size + 1 by simp] at this
  exact this
 bw := ((Below.refl _ w).alloc (Nat.le_refl _) _).alloc (by simp) _
theorem L2.later {w W W' : World} {A B : Array Value} (h : L2 w A B W) (b : Below W.heap.size W W') : L2 w A B W' := ⟨h.a.below b h.a.lt, h.b.below b h.b.lt, h.bw.trans (b.mono h.bw.size)⟩
theorem tot_len (q : P) : q.ps.length ≤ q.tot := by unfold P.tot; omega
theorem toUrlG (q : P) (a : Option Addr) (n c : Nat) (W : World) (hS : StrsOf a n q.ps W) (ht : q.tot ≤ 1048576) :
  Calls Tryz.prog 11 #[.agg (q.cells (.slice a n c))] W fun e w' => ∃ g, e = .returned (.agg (q.cells (.slice (some ⟨g, 0, none⟩) n n))) ∧ StrsOf (some ⟨g, 0, none⟩) n q.ps w' ∧ Below W.heap.size W w' := by
 have hn : n = q.ps.length := hS.1
 refine (toUrl q a n c W hS (by have := tot_len q; omega)).mono ?_
 rintro e w' ⟨g, rfl, o, d2⟩
 obtain ⟨a1, c1, h1, h2, s1⟩ := o.strs
 rw [← hn] at h1 s1
 injection h1 with e1 e2 e3
 rw [← e1] at s1
 exact ⟨g, rfl, s1, d2⟩
theorem eqUrlG (q : P) (g g' n : Nat) (W : World) (ht : q.tot ≤ 1048576) (s : StrsOf (some ⟨g, 0, none⟩) n q.ps W) (s' : StrsOf (some ⟨g', 0, none⟩) n q.ps W) :
  Calls Tryz.prog 13 #[.agg (q.cells (.slice (some ⟨g, 0, none⟩) n n)), .agg (q.cells (.slice (some ⟨g', 0, none⟩) n n))] W fun e w' => e = .returned (.bool true) ∧ Below W.heap.size W w' := by
 have hn : n = q.ps.length := s.1
 subst hn
 exact eqUrl q _ _ _ _ W s s' (by have := tot_len q; omega)
theorem fnExactUrlLess_walk (w : World) (hL : Lean1 w) (p : P) (a : Option Addr) (n c : Nat) (hS : StrsOf a n p.ps w) (hz : Sz p) (hpo : p.po ≤ 9223372036854775807) (q : P) (a' : Option Addr) (n' c' : Nat) (hS' : StrsOf a' n' q.ps w) (hz' : Sz q) (hpo' : q.po ≤ 9223372036854775807) :
  Calls Tryz.prog 7 #[.agg (p.cells (.slice a n c)), .agg (q.cells (.slice a' n' c'))] w fun e w' => e = .returned (.bool true) ∧ Below w.heap.size w w' := by
 obtain ⟨x, hx⟩ := Les.is p q
 have CS : Hid (∀ W, Below w.heap.size w W → Calls Tryz.prog 9 #[.agg #[(.string p.sc), (.string p.us), (.string p.pw), (.int .i64 p.hk), (.string p.hn), (.int .i64 p.ha), (.int .i64 p.po), (.slice a n c), (.string p.op), (.bool p.hq), (.string p.qu), (.bool p.hf), (.string p.fr)], .int .i64 1048576] W fun e w' => ∃ r : Int, e = .returned (.int .i64 r) ∧ Below W.heap.size W w' ∧ Hid (r ≤ 1048576 ∧ (0 ≤ r → p.tot ≤ 1048576))) := fun W d => by
  refine (szUrl p a n c 1048576 W (hS.later d) hz (by decide) (by decide)).mono ?_
  rintro e w' ⟨r, rfl, d2, h1, h2⟩
  exact ⟨r, rfl, d2, h1, fun h => by have := h2 h; omega⟩
 have CS2 : Hid (∀ r W, 0 ≤ r → r ≤ 1048576 → Below w.heap.size w W → Calls Tryz.prog 9 #[.agg #[(.string q.sc), (.string q.us), (.string q.pw), (.int .i64 q.hk), (.string q.hn), (.int .i64 q.ha), (.int .i64 q.po), (.slice a' n' c'), (.string q.op), (.bool q.hq), (.string q.qu), (.bool q.hf), (.string q.fr)], .int .i64 r] W fun e w' => ∃ r2 : Int, e = .returned (.int .i64 r2) ∧ Below W.heap.size W w' ∧ Hid (0 ≤ r2 → q.tot ≤ 1048576)) := fun r W h0 h1 d => by
  refine (szUrl q a' n' c' r W (hS'.later d) hz' h0 h1).mono ?_
  rintro e w' ⟨r2, rfl, d2, h3, h4⟩
  exact ⟨r2, rfl, d2, fun h => by have := h4 h; omega⟩
 have CTA : Hid (p.tot ≤ 1048576 → ∀ W, Below w.heap.size w W → Calls Tryz.prog 11 #[.agg #[(.string p.sc), (.string p.us), (.string p.pw), (.int .i64 p.hk), (.string p.hn), (.int .i64 p.ha), (.int .i64 p.po), (.slice a n c), (.string p.op), (.bool p.hq), (.string p.qu), (.bool p.hf), (.string p.fr)]] W fun e w' => ∃ g, e = .returned (.agg #[(.string p.sc), (.string p.us), (.string p.pw), (.int .i64 p.hk), (.string p.hn), (.int .i64 p.ha), (.int .i64 p.po), (.slice (some ⟨g, 0, none⟩) n n), (.string p.op), (.bool p.hq), (.string p.qu), (.bool p.hf), (.string p.fr)]) ∧ StrsOf (some ⟨g, 0, none⟩) n p.ps w' ∧ Below W.heap.size W w') := fun ht W d => toUrlG p a n c W (hS.later d) ht
 have CTB : Hid (q.tot ≤ 1048576 → ∀ W, Below w.heap.size w W → Calls Tryz.prog 11 #[.agg #[(.string q.sc), (.string q.us), (.string q.pw), (.int .i64 q.hk), (.string q.hn), (.int .i64 q.ha), (.int .i64 q.po), (.slice a' n' c'), (.string q.op), (.bool q.hq), (.string q.qu), (.bool q.hf), (.string q.fr)]] W fun e w' => ∃ g, e = .returned (.agg #[(.string q.sc), (.string q.us), (.string q.pw), (.int .i64 q.hk), (.string q.hn), (.int .i64 q.ha), (.int .i64 q.po), (.slice (some ⟨g, 0, none⟩) n' n'), (.string q.op), (.bool q.hq), (.string q.qu), (.bool q.hf), (.string q.fr)]) ∧ StrsOf (some ⟨g, 0, none⟩) n' q.ps w' ∧ Below W.heap.size W w') := fun ht W d => toUrlG q a' n' c' W (hS'.later d) ht
 have CO : Hid (p.tot ≤ 1048576 → q.tot ≤ 1048576 → ∀ g g' W, StrsOf (some ⟨g, 0, none⟩) n p.ps W → StrsOf (some ⟨g', 0, none⟩) n' q.ps W → Calls Tryz.prog 23 #[.agg #[(.string p.sc), (.string p.us), (.string p.pw), (.int .i64 p.hk), (.string p.hn), (.int .i64 p.ha), (.int .i64 p.po), (.slice (some ⟨g, 0, none⟩) n n), (.string p.op), (.bool p.hq), (.string p.qu), (.bool p.hf), (.string p.fr)], .agg #[(.string q.sc), (.string q.us), (.string q.pw), (.int .i64 q.hk), (.string q.hn), (.int .i64 q.ha), (.int .i64 q.po), (.slice (some ⟨g', 0, none⟩) n' n'), (.string q.op), (.bool q.hq), (.string q.qu), (.bool q.hf), (.string q.fr)]] W fun e w' => e = .returned (.string x) ∧ Below W.heap.size W w') := fun ht ht' g g' W s s' => specUrlLess p q _ _ n n' _ _ W s s' ht ht' hpo hpo' x hx
 have CI : Hid (p.tot ≤ 1048576 → q.tot ≤ 1048576 → ∀ g g' W, Below w.heap.size w W → StrsOf (some ⟨g, 0, none⟩) n p.ps W → StrsOf (some ⟨g', 0, none⟩) n' q.ps W → Calls Tryz.prog 24 #[.agg #[(.string p.sc), (.string p.us), (.string p.pw), (.int .i64 p.hk), (.string p.hn), (.int .i64 p.ha), (.int .i64 p.po), (.slice (some ⟨g, 0, none⟩) n n), (.string p.op), (.bool p.hq), (.string p.qu), (.bool p.hf), (.string p.fr)], .agg #[(.string q.sc), (.string q.us), (.string q.pw), (.int .i64 q.hk), (.string q.hn), (.int .i64 q.ha), (.int .i64 q.po), (.slice (some ⟨g', 0, none⟩) n' n'), (.string q.op), (.bool q.hq), (.string q.qu), (.bool q.hf), (.string q.fr)]] W fun e w' => e = .returned (.string x) ∧ Below W.heap.size W w') := fun ht ht' g g' W d s s' => implUrlLess p q _ _ n n' _ _ W (hL.below d) s s' ht ht' hpo hpo' x hx
 have CEA : Hid (p.tot ≤ 1048576 → ∀ g g' W, StrsOf (some ⟨g, 0, none⟩) n p.ps W → StrsOf (some ⟨g', 0, none⟩) n p.ps W → Calls Tryz.prog 13 #[.agg #[(.string p.sc), (.string p.us), (.string p.pw), (.int .i64 p.hk), (.string p.hn), (.int .i64 p.ha), (.int .i64 p.po), (.slice (some ⟨g, 0, none⟩) n n), (.string p.op), (.bool p.hq), (.string p.qu), (.bool p.hf), (.string p.fr)], .agg #[(.string p.sc), (.string p.us), (.string p.pw), (.int .i64 p.hk), (.string p.hn), (.int .i64 p.ha), (.int .i64 p.po), (.slice (some ⟨g', 0, none⟩) n n), (.string p.op), (.bool p.hq), (.string p.qu), (.bool p.hf), (.string p.fr)]] W fun e w' => e = .returned (.bool true) ∧ Below W.heap.size W w') := fun ht g g' W s s' => eqUrlG p g g' n W ht s s'
 have CEB : Hid (q.tot ≤ 1048576 → ∀ g g' W, StrsOf (some ⟨g, 0, none⟩) n' q.ps W → StrsOf (some ⟨g', 0, none⟩) n' q.ps W → Calls Tryz.prog 13 #[.agg #[(.string q.sc), (.string q.us), (.string q.pw), (.int .i64 q.hk), (.string q.hn), (.int .i64 q.ha), (.int .i64 q.po), (.slice (some ⟨g, 0, none⟩) n' n'), (.string q.op), (.bool q.hq), (.string q.qu), (.bool q.hf), (.string q.fr)], .agg #[(.string q.sc), (.string q.us), (.string q.pw), (.int .i64 q.hk), (.string q.hn), (.int .i64 q.ha), (.int .i64 q.po), (.slice (some ⟨g', 0, none⟩) n' n'), (.string q.op), (.bool q.hq), (.string q.qu), (.bool q.hf), (.string q.fr)]] W fun e w' => e = .returned (.bool true) ∧ Below W.heap.size W w') := fun ht g g' W s s' => eqUrlG q g g' n' W ht s s'
 obtain ⟨V, hV⟩ : ∃ V, V = ((w.alloc (.cells #[(.string p.sc), (.string p.us), (.string p.pw), (.int .i64 p.hk), (.string p.hn), (.int .i64 p.ha), (.int .i64 p.po), (.slice a n c), (.string p.op), (.bool p.hq), (.string p.qu), (.bool p.hf), (.string p.fr)] 26)).alloc (.cells #[(.string q.sc), (.string q.us), (.string q.pw), (.int .i64 q.hk), (.string q.hn), (.int .i64 q.ha), (.int .i64 q.po), (.slice a' n' c'), (.string q.op), (.bool q.hq), (.string q.qu), (.bool q.hf), (.string q.fr)] 26)) := ⟨_, rfl⟩
 have HT : Hid (L2 w #[(.string p.sc), (.string p.us), (.string p.pw), (.int .i64 p.hk), (.string p.hn), (.int .i64 p.ha), (.int .i64 p.po), (.slice a n c), (.string p.op), (.bool p.hq), (.string p.qu), (.bool p.hf), (.string p.fr)] #[(.string q.sc), (.string q.us), (.string q.pw), (.int .i64 q.hk), (.string q.hn), (.int .i64 q.ha), (.int .i64 q.po), (.slice a' n' c'), (.string q.op), (.bool q.hq), (.string q.qu), (.bool q.hf), (.string q.fr)] V) := by rw [hV]; exact L2.start w _ _
 clear hS hz hL hpo hS' hz' hpo' hx 
 unfold P.cells
 go_enter Tryz.func7, Tryz.ntmps7
 go_upto_region 1 with fail
 rw [← hV]
 clear hV
 obtain ⟨k0, k1, k2, k3, k4, k5, k6, k7, k8, k9, k10, k11, k12⟩ := Blk.cells13a HT.out.a
 obtain ⟨j0, j1, j2, j3, j4, j5, j6, j7, j8, j9, j10, j11, j12⟩ := Blk.cells13a HT.out.b
 go_wp2_with fail
 refine (CS.out _ HT.out.bw).mono ?_
 rintro e W1 ⟨r, rfl, d1, ht⟩
 have HT2 := HT.out.later d1
 clear HT k0 k1 k2 k3 k4 k5 k6 k7 k8 k9 k10 k11 k12 j0 j1 j2 j3 j4 j5 j6 j7 j8 j9 j10 j11 j12
 have HT : Hid (L2 w #[(.string p.sc), (.string p.us), (.string p.pw), (.int .i64 p.hk), (.string p.hn), (.int .i64 p.ha), (.int .i64 p.po), (.slice a n c), (.string p.op), (.bool p.hq), (.string p.qu), (.bool p.hf), (.string p.fr)] #[(.string q.sc), (.string q.us), (.string q.pw), (.int .i64 q.hk), (.string q.hn), (.int .i64 q.ha), (.int .i64 q.po), (.slice a' n' c'), (.string q.op), (.bool q.hq), (.string q.qu), (.bool q.hf), (.string q.fr)] W1) := HT2
 clear HT2
 obtain ⟨k0, k1, k2, k3, k4, k5, k6, k7, k8, k9, k10, k11, k12⟩ := Blk.cells13a HT.out.a
 obtain ⟨j0, j1, j2, j3, j4, j5, j6, j7, j8, j9, j10, j11, j12⟩ := Blk.cells13a HT.out.b
 clear d1 CS
 by_cases hr : r < 0
 ·clear ht CS2 CTA CTB CO CI CEA CEB
  go_wp2
  go_ret
  exact ⟨rfl, HT.out.bw⟩
 go_wp2_with fail
 refine (CS2.out r _ (by omega) ht.out.1 HT.out.bw).mono ?_
 rintro e W2 ⟨r2, rfl, d1, ht2⟩
 have HP : Hid (p.tot ≤ 1048576) := ht.out.2 (by omega)
 have HT2 := HT.out.later d1
 clear HT k0 k1 k2 k3 k4 k5 k6 k7 k8 k9 k10 k11 k12 j0 j1 j2 j3 j4 j5 j6 j7 j8 j9 j10 j11 j12
 have HT : Hid (L2 w #[(.string p.sc), (.string p.us), (.string p.pw), (.int .i64 p.hk), (.string p.hn), (.int .i64 p.ha), (.int .i64 p.po), (.slice a n c), (.string p.op), (.bool p.hq), (.string p.qu), (.bool p.hf), (.string p.fr)] #[(.string q.sc), (.string q.us), (.string q.pw), (.int .i64 q.hk), (.string q.hn), (.int .i64 q.ha), (.int .i64 q.po), (.slice a' n' c'), (.string q.op), (.bool q.hq), (.string q.qu), (.bool q.hf), (.string q.fr)] W2) := HT2
 clear HT2
 obtain ⟨k0, k1, k2, k3, k4, k5, k6, k7, k8, k9, k10, k11, k12⟩ := Blk.cells13a HT.out.a
 obtain ⟨j0, j1, j2, j3, j4, j5, j6, j7, j8, j9, j10, j11, j12⟩ := Blk.cells13a HT.out.b
 clear d1 CS2 ht hr
 by_cases hr : r2 < 0
 ·clear ht2 CTA CTB CO CI CEA CEB
  go_wp2
  go_ret
  exact ⟨rfl, HT.out.bw⟩
 have HQ : Hid (q.tot ≤ 1048576) := ht2.out (by omega)
 have CTA := CTA.out HP.out
 have CTB := CTB.out HQ.out
 have CO := CO.out HP.out HQ.out
 have CI := CI.out HP.out HQ.out
 have CEA := CEA.out HP.out
 have CEB := CEB.out HQ.out
 clear ht2 HP HQ
 have CTA : Hid _ := CTA
 have CTB : Hid _ := CTB
 have CO : Hid _ := CO
 have CI : Hid _ := CI
 have CEA : Hid _ := CEA
 have CEB : Hid _ := CEB
 go_upto_region 8 with fail
 go_cut [6] from 10 (fun s wx => s = .string x ∧ Hid (L2 w #[(.string p.sc), (.string p.us), (.string p.pw), (.int .i64 p.hk), (.string p.hn), (.int .i64 p.ha), (.int .i64 p.po), (.slice a n c), (.string p.op), (.bool p.hq), (.string p.qu), (.bool p.hf), (.string p.fr)] #[(.string q.sc), (.string q.us), (.string q.pw), (.int .i64 q.hk), (.string q.hn), (.int .i64 q.ha), (.int .i64 q.po), (.slice a' n' c'), (.string q.op), (.bool q.hq), (.string q.qu), (.bool q.hf), (.string q.fr)] wx))
 case first =>
  have HT0 : Hid (L2 w #[(.string p.sc), (.string p.us), (.string p.pw), (.int .i64 p.hk), (.string p.hn), (.int .i64 p.ha), (.int .i64 p.po), (.slice a n c), (.string p.op), (.bool p.hq), (.string p.qu), (.bool p.hf), (.string p.fr)] #[(.string q.sc), (.string q.us), (.string q.pw), (.int .i64 q.hk), (.string q.hn), (.int .i64 q.ha), (.int .i64 q.po), (.slice a' n' c'), (.string q.op), (.bool q.hq), (.string q.qu), (.bool q.hf), (.string q.fr)] W2.drew) := HT.out.later (Below.refl _ _).drew
  clear HT hr
  have HT := HT0
  clear HT0
  go_region_with (first
   | (go_at_call 11; have HF2 := HSA; refine (CTB.out _ HT.out.bw).mono ?_; rintro e W4 ⟨g4, rfl, s4, d1⟩; have HSC : Hid (StrsOf (some ⟨g3, 0, none⟩) n p.ps W4) := HSA.out.later d1; have HSB : Hid (StrsOf (some ⟨g4, 0, none⟩) n' q.ps W4) := s4; clear s4 HF2 HSA; have HT2 := HT.out.later d1; clear HT k0 k1 k2 k3 k4 k5 k6 k7 k8 k9 k10 k11 k12 j0 j1 j2 j3 j4 j5 j6 j7 j8 j9 j10 j11 j12; have HT : Hid (L2 w #[(.string p.sc), (.string p.us), (.string p.pw), (.int .i64 p.hk), (.string p.hn), (.int .i64 p.ha), (.int .i64 p.po), (.slice a n c), (.string p.op), (.bool p.hq), (.string p.qu), (.bool p.hf), (.string p.fr)] #[(.string q.sc), (.string q.us), (.string q.pw), (.int .i64 q.hk), (.string q.hn), (.int .i64 q.ha), (.int .i64 q.po), (.slice a' n' c'), (.string q.op), (.bool q.hq), (.string q.qu), (.bool q.hf), (.string q.fr)] W4) := HT2; clear HT2; obtain ⟨k0, k1, k2, k3, k4, k5, k6, k7, k8, k9, k10, k11, k12⟩ := Blk.cells13a HT.out.a; obtain ⟨j0, j1, j2, j3, j4, j5, j6, j7, j8, j9, j10, j11, j12⟩ := Blk.cells13a HT.out.b; clear d1)
   | (go_at_call 11; refine (CTA.out _ HT.out.bw).mono ?_; rintro e W3 ⟨g3, rfl, s3, d1⟩; have HSA : Hid (StrsOf (some ⟨g3, 0, none⟩) n p.ps W3) := s3; clear s3; have HT2 := HT.out.later d1; clear HT k0 k1 k2 k3 k4 k5 k6 k7 k8 k9 k10 k11 k12 j0 j1 j2 j3 j4 j5 j6 j7 j8 j9 j10 j11 j12; have HT : Hid (L2 w #[(.string p.sc), (.string p.us), (.string p.pw), (.int .i64 p.hk), (.string p.hn), (.int .i64 p.ha), (.int .i64 p.po), (.slice a n c), (.string p.op), (.bool p.hq), (.string p.qu), (.bool p.hf), (.string p.fr)] #[(.string q.sc), (.string q.us), (.string q.pw), (.int .i64 q.hk), (.string q.hn), (.int .i64 q.ha), (.int .i64 q.po), (.slice a' n' c'), (.string q.op), (.bool q.hq), (.string q.qu), (.bool q.hf), (.string q.fr)] W3) := HT2; clear HT2; obtain ⟨k0, k1, k2, k3, k4, k5, k6, k7, k8, k9, k10, k11, k12⟩ := Blk.cells13a HT.out.a; obtain ⟨j0, j1, j2, j3, j4, j5, j6, j7, j8, j9, j10, j11, j12⟩ := Blk.cells13a HT.out.b; clear d1)
   | (go_at_call 23; refine (CO.out g3 g4 _ HSC.out HSB.out).mono ?_; rintro e W5 ⟨rfl, d1⟩; have HT2 := HT.out.later d1; clear HT d1 HSC HSB; have HT : Hid (L2 w #[(.string p.sc), (.string p.us), (.string p.pw), (.int .i64 p.hk), (.string p.hn), (.int .i64 p.ha), (.int .i64 p.po), (.slice a n c), (.string p.op), (.bool p.hq), (.string p.qu), (.bool p.hf), (.string p.fr)] #[(.string q.sc), (.string q.us), (.string q.pw), (.int .i64 q.hk), (.string q.hn), (.int .i64 q.ha), (.int .i64 q.po), (.slice a' n' c'), (.string q.op), (.bool q.hq), (.string q.qu), (.bool q.hf), (.string q.fr)] W5) := HT2; clear HT2)
   | fail)
  all_goals
   clear k0 k1 k2 k3 k4 k5 k6 k7 k8 k9 k10 k11 k12 j0 j1 j2 j3 j4 j5 j6 j7 j8 j9 j10 j11 j12
   go_wp2_with fail
   go_meet
   exact ⟨rfl, HT⟩
 case rest =>
 obtain ⟨rfl, HT2⟩ := hcut
 clear HT hr k0 k1 k2 k3 k4 k5 k6 k7 k8 k9 k10 k11 k12 j0 j1 j2 j3 j4 j5 j6 j7 j8 j9 j10 j11 j12
 have HT := HT2
 clear HT2
 obtain ⟨k0, k1, k2, k3, k4, k5, k6, k7, k8, k9, k10, k11, k12⟩ := Blk.cells13a HT.out.a
 obtain ⟨j0, j1, j2, j3, j4, j5, j6, j7, j8, j9, j10, j11, j12⟩ := Blk.cells13a HT.out.b
 clear CO
 go_wp2_with fail
 refine (CTA.out _ HT.out.bw).mono ?_
 rintro e W6 ⟨g6, rfl, s6, d1⟩
 have HT2 := HT.out.later d1
 clear HT k0 k1 k2 k3 k4 k5 k6 k7 k8 k9 k10 k11 k12 j0 j1 j2 j3 j4 j5 j6 j7 j8 j9 j10 j11 j12
 have HT : Hid (L2 w #[(.string p.sc), (.string p.us), (.string p.pw), (.int .i64 p.hk), (.string p.hn), (.int .i64 p.ha), (.int .i64 p.po), (.slice a n c), (.string p.op), (.bool p.hq), (.string p.qu), (.bool p.hf), (.string p.fr)] #[(.string q.sc), (.string q.us), (.string q.pw), (.int .i64 q.hk), (.string q.hn), (.int .i64 q.ha), (.int .i64 q.po), (.slice a' n' c'), (.string q.op), (.bool q.hq), (.string q.qu), (.bool q.hf), (.string q.fr)] W6) := HT2
 clear HT2
 obtain ⟨k0, k1, k2, k3, k4, k5, k6, k7, k8, k9, k10, k11, k12⟩ := Blk.cells13a HT.out.a
 obtain ⟨j0, j1, j2, j3, j4, j5, j6, j7, j8, j9, j10, j11, j12⟩ := Blk.cells13a HT.out.b
 clear d1
 obtain ⟨V6, hV6⟩ : ∃ V, V = W6.alloc (.cells #[(.string p.sc), (.string p.us), (.string p.pw), (.int .i64 p.hk), (.string p.hn), (.int .i64 p.ha), (.int .i64 p.po), (.slice (some ⟨g6, 0, none⟩) n n), (.string p.op), (.bool p.hq), (.string p.qu), (.bool p.hf), (.string p.fr)] 31) := ⟨_, rfl⟩
 have HB6 : Hid (Below W6.heap.size W6 V6) := by show Below _ _ _; rw [hV6]; exact (Below.refl _ _).alloc (Nat.le_refl _) _
 have HS6 : Hid (StrsOf (some ⟨g6, 0, none⟩) n p.ps V6) := s6.later HB6.out
 have HX6 : Hid (Blk W6.heap.size #[(.string p.sc), (.string p.us), (.string p.pw), (.int .i64 p.hk), (.string p.hn), (.int .i64 p.ha), (.int .i64 p.po), (.slice (some ⟨g6, 0, none⟩) n n), (.string p.op), (.bool p.hq), (.string p.qu), (.bool p.hf), (.string p.fr)] 31 V6) := by show Blk _ _ _ _; rw [hV6]; exact Blk.new W6 _ _
 have HT2 := HT.out.later HB6.out
 clear HT k0 k1 k2 k3 k4 k5 k6 k7 k8 k9 k10 k11 k12 j0 j1 j2 j3 j4 j5 j6 j7 j8 j9 j10 j11 j12 s6 HB6
 have HT : Hid (L2 w #[(.string p.sc), (.string p.us), (.string p.pw), (.int .i64 p.hk), (.string p.hn), (.int .i64 p.ha), (.int .i64 p.po), (.slice a n c), (.string p.op), (.bool p.hq), (.string p.qu), (.bool p.hf), (.string p.fr)] #[(.string q.sc), (.string q.us), (.string q.pw), (.int .i64 q.hk), (.string q.hn), (.int .i64 q.ha), (.int .i64 q.po), (.slice a' n' c'), (.string q.op), (.bool q.hq), (.string q.qu), (.bool q.hf), (.string q.fr)] V6) := HT2
 clear HT2
 go_upto_region 10 with fail
 rw [← hV6]
 clear hV6
 generalize W6.heap.size = x6 at *
 obtain ⟨k0, k1, k2, k3, k4, k5, k6, k7, k8, k9, k10, k11, k12⟩ := Blk.cells13a HT.out.a
 obtain ⟨j0, j1, j2, j3, j4, j5, j6, j7, j8, j9, j10, j11, j12⟩ := Blk.cells13a HT.out.b
 go_wp2_with fail
 refine (CTB.out _ HT.out.bw).mono ?_
 rintro e W7 ⟨g7, rfl, s7, d1⟩
 have HT2 := HT.out.later d1
 clear HT k0 k1 k2 k3 k4 k5 k6 k7 k8 k9 k10 k11 k12 j0 j1 j2 j3 j4 j5 j6 j7 j8 j9 j10 j11 j12
 have HT : Hid (L2 w #[(.string p.sc), (.string p.us), (.string p.pw), (.int .i64 p.hk), (.string p.hn), (.int .i64 p.ha), (.int .i64 p.po), (.slice a n c), (.string p.op), (.bool p.hq), (.string p.qu), (.bool p.hf), (.string p.fr)] #[(.string q.sc), (.string q.us), (.string q.pw), (.int .i64 q.hk), (.string q.hn), (.int .i64 q.ha), (.int .i64 q.po), (.slice a' n' c'), (.string q.op), (.bool q.hq), (.string q.qu), (.bool q.hf), (.string q.fr)] W7) := HT2
 clear HT2
 obtain ⟨k0, k1, k2, k3, k4, k5, k6, k7, k8, k9, k10, k11, k12⟩ := Blk.cells13a HT.out.a
 obtain ⟨j0, j1, j2, j3, j4, j5, j6, j7, j8, j9, j10, j11, j12⟩ := Blk.cells13a HT.out.b
 have HS7 : Hid (StrsOf (some ⟨g6, 0, none⟩) n p.ps W7) := HS6.out.later d1
 have HX7 : Hid (Blk x6 #[(.string p.sc), (.string p.us), (.string p.pw), (.int .i64 p.hk), (.string p.hn), (.int .i64 p.ha), (.int .i64 p.po), (.slice (some ⟨g6, 0, none⟩) n n), (.string p.op), (.bool p.hq), (.string p.qu), (.bool p.hf), (.string p.fr)] 31 W7) := HX6.out.below d1 HX6.out.lt
 clear d1 HS6 HX6
 obtain ⟨V7, hV7⟩ : ∃ V, V = W7.alloc (.cells #[(.string q.sc), (.string q.us), (.string q.pw), (.int .i64 q.hk), (.string q.hn), (.int .i64 q.ha), (.int .i64 q.po), (.slice (some ⟨g7, 0, none⟩) n' n'), (.string q.op), (.bool q.hq), (.string q.qu), (.bool q.hf), (.string q.fr)] 31) := ⟨_, rfl⟩
 have HB7 : Hid (Below W7.heap.size W7 V7) := by show Below _ _ _; rw [hV7]; exact (Below.refl _ _).alloc (Nat.le_refl _) _
 have HS6 : Hid (StrsOf (some ⟨g6, 0, none⟩) n p.ps V7) := HS7.out.later HB7.out
 have HX6 : Hid (Blk x6 #[(.string p.sc), (.string p.us), (.string p.pw), (.int .i64 p.hk), (.string p.hn), (.int .i64 p.ha), (.int .i64 p.po), (.slice (some ⟨g6, 0, none⟩) n n), (.string p.op), (.bool p.hq), (.string p.qu), (.bool p.hf), (.string p.fr)] 31 V7) := HX7.out.below HB7.out HX7.out.lt
 have HR6 : Hid (StrsOf (some ⟨g7, 0, none⟩) n' q.ps V7) := s7.later HB7.out
 have HY6 : Hid (Blk W7.heap.size #[(.string q.sc), (.string q.us), (.string q.pw), (.int .i64 q.hk), (.string q.hn), (.int .i64 q.ha), (.int .i64 q.po), (.slice (some ⟨g7, 0, none⟩) n' n'), (.string q.op), (.bool q.hq), (.string q.qu), (.bool q.hf), (.string q.fr)] 31 V7) := by show Blk _ _ _ _; rw [hV7]; exact Blk.new W7 _ _
 have HT2 := HT.out.later HB7.out
 clear HT k0 k1 k2 k3 k4 k5 k6 k7 k8 k9 k10 k11 k12 j0 j1 j2 j3 j4 j5 j6 j7 j8 j9 j10 j11 j12 s7 HB7 HS7 HX7
 have HT : Hid (L2 w #[(.string p.sc), (.string p.us), (.string p.pw), (.int .i64 p.hk), (.string p.hn), (.int .i64 p.ha), (.int .i64 p.po), (.slice a n c), (.string p.op), (.bool p.hq), (.string p.qu), (.bool p.hf), (.string p.fr)] #[(.string q.sc), (.string q.us), (.string q.pw), (.int .i64 q.hk), (.string q.hn), (.int .i64 q.ha), (.int .i64 q.po), (.slice a' n' c'), (.string q.op), (.bool q.hq), (.string q.qu), (.bool q.hf), (.string q.fr)] V7) := HT2
 clear HT2
 go_upto_region 11 with fail
 rw [← hV7]
 clear hV7
 generalize W7.heap.size = x7 at *
 obtain ⟨y0, y1, y2, y3, y4, y5, y6, y7, y8, y9, y10, y11, y12⟩ := Blk.cells13a HX6.out
 obtain ⟨z0, z1, z2, z3, z4, z5, z6, z7, z8, z9, z10, z11, z12⟩ := Blk.cells13a HY6.out
 go_wp2_with fail
 refine (CI.out g6 g7 _ HT.out.bw HS6.out HR6.out).mono ?_
 rintro e W8 ⟨rfl, d1⟩
 have HT2 := HT.out.later d1
 have HS8 : Hid (StrsOf (some ⟨g6, 0, none⟩) n p.ps W8) := HS6.out.later d1
 have HX8 : Hid (Blk x6 #[(.string p.sc), (.string p.us), (.string p.pw), (.int .i64 p.hk), (.string p.hn), (.int .i64 p.ha), (.int .i64 p.po), (.slice (some ⟨g6, 0, none⟩) n n), (.string p.op), (.bool p.hq), (.string p.qu), (.bool p.hf), (.string p.fr)] 31 W8) := HX6.out.below d1 HX6.out.lt
 have HR8 : Hid (StrsOf (some ⟨g7, 0, none⟩) n' q.ps W8) := HR6.out.later d1
 have HY8 : Hid (Blk x7 #[(.string q.sc), (.string q.us), (.string q.pw), (.int .i64 q.hk), (.string q.hn), (.int .i64 q.ha), (.int .i64 q.po), (.slice (some ⟨g7, 0, none⟩) n' n'), (.string q.op), (.bool q.hq), (.string q.qu), (.bool q.hf), (.string q.fr)] 31 W8) := HY6.out.below d1 HY6.out.lt
 clear HT d1 HS6 HX6 HR6 HY6 y0 y1 y2 y3 y4 y5 y6 y7 y8 y9 y10 y11 y12 z0 z1 z2 z3 z4 z5 z6 z7 z8 z9 z10 z11 z12 CI
 have HT : Hid (L2 w #[(.string p.sc), (.string p.us), (.string p.pw), (.int .i64 p.hk), (.string p.hn), (.int .i64 p.ha), (.int .i64 p.po), (.slice a n c), (.string p.op), (.bool p.hq), (.string p.qu), (.bool p.hf), (.string p.fr)] #[(.string q.sc), (.string q.us), (.string q.pw), (.int .i64 q.hk), (.string q.hn), (.int .i64 q.ha), (.int .i64 q.po), (.slice a' n' c'), (.string q.op), (.bool q.hq), (.string q.qu), (.bool q.hf), (.string q.fr)] W8) := HT2
 clear HT2
 go_upto_region 14 with fail
 obtain ⟨k0, k1, k2, k3, k4, k5, k6, k7, k8, k9, k10, k11, k12⟩ := Blk.cells13a HT.out.a
 obtain ⟨y0, y1, y2, y3, y4, y5, y6, y7, y8, y9, y10, y11, y12⟩ := Blk.cells13a HX8.out
 have HALL : Hid (∀ W, Below W8.heap.size W8 W → L2 w #[(.string p.sc), (.string p.us), (.string p.pw), (.int .i64 p.hk), (.string p.hn), (.int .i64 p.ha), (.int .i64 p.po), (.slice a n c), (.string p.op), (.bool p.hq), (.string p.qu), (.bool p.hf), (.string p.fr)] #[(.string q.sc), (.string q.us), (.string q.pw), (.int .i64 q.hk), (.string q.hn), (.int .i64 q.ha), (.int .i64 q.po), (.slice a' n' c'), (.string q.op), (.bool q.hq), (.string q.qu), (.bool q.hf), (.string q.fr)] W ∧ StrsOf (some ⟨g6, 0, none⟩) n p.ps W ∧ Blk x6 #[(.string p.sc), (.string p.us), (.string p.pw), (.int .i64 p.hk), (.string p.hn), (.int .i64 p.ha), (.int .i64 p.po), (.slice (some ⟨g6, 0, none⟩) n n), (.string p.op), (.bool p.hq), (.string p.qu), (.bool p.hf), (.string p.fr)] 31 W ∧ StrsOf (some ⟨g7, 0, none⟩) n' q.ps W ∧ Blk x7 #[(.string q.sc), (.string q.us), (.string q.pw), (.int .i64 q.hk), (.string q.hn), (.int .i64 q.ha), (.int .i64 q.po), (.slice (some ⟨g7, 0, none⟩) n' n'), (.string q.op), (.bool q.hq), (.string q.qu), (.bool q.hf), (.string q.fr)] 31 W) := fun W d => ⟨HT.out.later d, HS8.out.later d, HX8.out.below d HX8.out.lt, HR8.out.later d, HY8.out.below d HY8.out.lt⟩
 have CT8 : Hid (∀ W, Below W8.heap.size W8 W → Calls Tryz.prog 11 #[.agg #[(.string p.sc), (.string p.us), (.string p.pw), (.int .i64 p.hk), (.string p.hn), (.int .i64 p.ha), (.int .i64 p.po), (.slice a n c), (.string p.op), (.bool p.hq), (.string p.qu), (.bool p.hf), (.string p.fr)]] W fun e w' => ∃ g, e = .returned (.agg #[(.string p.sc), (.string p.us), (.string p.pw), (.int .i64 p.hk), (.string p.hn), (.int .i64 p.ha), (.int .i64 p.po), (.slice (some ⟨g, 0, none⟩) n n), (.string p.op), (.bool p.hq), (.string p.qu), (.bool p.hf), (.string p.fr)]) ∧ StrsOf (some ⟨g, 0, none⟩) n p.ps w' ∧ Below W.heap.size W w') := fun W d => CTA.out W (HALL.out W d).1.bw
 have CE8 : Hid (∀ g W, Below W8.heap.size W8 W → StrsOf (some ⟨g, 0, none⟩) n p.ps W → Calls Tryz.prog 13 #[.agg #[(.string p.sc), (.string p.us), (.string p.pw), (.int .i64 p.hk), (.string p.hn), (.int .i64 p.ha), (.int .i64 p.po), (.slice (some ⟨g6, 0, none⟩) n n), (.string p.op), (.bool p.hq), (.string p.qu), (.bool p.hf), (.string p.fr)], .agg #[(.string p.sc), (.string p.us), (.string p.pw), (.int .i64 p.hk), (.string p.hn), (.int .i64 p.ha), (.int .i64 p.po), (.slice (some ⟨g, 0, none⟩) n n), (.string p.op), (.bool p.hq), (.string p.qu), (.bool p.hf), (.string p.fr)]] W fun e w' => e = .returned (.bool true) ∧ Below W.heap.size W w') := fun g W d s => CEA.out g6 g W (HALL.out W d).2.1 s
 clear CTA CEA HT HS8 HX8 HR8 HY8
 go_region_with (first
  | (go_at_call 11; refine (CT8.out _ ?hd).mono ?_; (case hd => first | exact Below.refl _ _ | exact (Below.refl _ _).drew); rintro e W9 ⟨g9, rfl, s9, d9⟩; have HD9 : Hid (Below W8.heap.size W8 W9) := (by first | exact d9 | exact ((Below.refl _ W8).drew).trans d9); have HS9 : Hid (StrsOf (some ⟨g9, 0, none⟩) n p.ps W9) := s9; clear d9 s9 k0 k1 k2 k3 k4 k5 k6 k7 k8 k9 k10 k11 k12 y0 y1 y2 y3 y4 y5 y6 y7 y8 y9 y10 y11 y12; obtain ⟨y0, y1, y2, y3, y4, y5, y6, y7, y8, y9, y10, y11, y12⟩ := Blk.cells13a (HALL.out W9 HD9.out).2.2.1)
  | (go_at_call 13; refine (CE8.out g9 _ HD9.out HS9.out).mono ?_; rintro e W10 ⟨rfl, d10⟩)
  | fail)
 all_goals
  have HD : Hid (Below W8.heap.size W8 W10) := HD9.out.trans (d10.mono HD9.out.size)
  clear d10 y0 y1 y2 y3 y4 y5 y6 y7 y8 y9 y10 y11 y12 HD9 HS9 CT8 CE8
  have HA2 := HALL.out W10 HD.out
  clear HALL HD
  have HX : Hid (L2 w #[(.string p.sc), (.string p.us), (.string p.pw), (.int .i64 p.hk), (.string p.hn), (.int .i64 p.ha), (.int .i64 p.po), (.slice a n c), (.string p.op), (.bool p.hq), (.string p.qu), (.bool p.hf), (.string p.fr)] #[(.string q.sc), (.string q.us), (.string q.pw), (.int .i64 q.hk), (.string q.hn), (.int .i64 q.ha), (.int .i64 q.po), (.slice a' n' c'), (.string q.op), (.bool q.hq), (.string q.qu), (.bool q.hf), (.string q.fr)] W10 ∧ StrsOf (some ⟨g6, 0, none⟩) n p.ps W10 ∧ Blk x6 #[(.string p.sc), (.string p.us), (.string p.pw), (.int .i64 p.hk), (.string p.hn), (.int .i64 p.ha), (.int .i64 p.po), (.slice (some ⟨g6, 0, none⟩) n n), (.string p.op), (.bool p.hq), (.string p.qu), (.bool p.hf), (.string p.fr)] 31 W10 ∧ StrsOf (some ⟨g7, 0, none⟩) n' q.ps W10 ∧ Blk x7 #[(.string q.sc), (.string q.us), (.string q.pw), (.int .i64 q.hk), (.string q.hn), (.int .i64 q.ha), (.int .i64 q.po), (.slice (some ⟨g7, 0, none⟩) n' n'), (.string q.op), (.bool q.hq), (.string q.qu), (.bool q.hf), (.string q.fr)] 31 W10) := HA2
  clear HA2
  obtain ⟨j0, j1, j2, j3, j4, j5, j6, j7, j8, j9, j10, j11, j12⟩ := Blk.cells13a HX.out.1.b
  obtain ⟨z0, z1, z2, z3, z4, z5, z6, z7, z8, z9, z10, z11, z12⟩ := Blk.cells13a HX.out.2.2.2.2
  have HAL2 : Hid (∀ W, Below W10.heap.size W10 W → L2 w #[(.string p.sc), (.string p.us), (.string p.pw), (.int .i64 p.hk), (.string p.hn), (.int .i64 p.ha), (.int .i64 p.po), (.slice a n c), (.string p.op), (.bool p.hq), (.string p.qu), (.bool p.hf), (.string p.fr)] #[(.string q.sc), (.string q.us), (.string q.pw), (.int .i64 q.hk), (.string q.hn), (.int .i64 q.ha), (.int .i64 q.po), (.slice a' n' c'), (.string q.op), (.bool q.hq), (.string q.qu), (.bool q.hf), (.string q.fr)] W ∧ StrsOf (some ⟨g7, 0, none⟩) n' q.ps W ∧ Blk x7 #[(.string q.sc), (.string q.us), (.string q.pw), (.int .i64 q.hk), (.string q.hn), (.int .i64 q.ha), (.int .i64 q.po), (.slice (some ⟨g7, 0, none⟩) n' n'), (.string q.op), (.bool q.hq), (.string q.qu), (.bool q.hf), (.string q.fr)] 31 W) := fun W d => ⟨HX.out.1.later d, HX.out.2.2.2.1.later d, HX.out.2.2.2.2.below d HX.out.2.2.2.2.lt⟩
  have CT9 : Hid (∀ W, Below W10.heap.size W10 W → Calls Tryz.prog 11 #[.agg #[(.string q.sc), (.string q.us), (.string q.pw), (.int .i64 q.hk), (.string q.hn), (.int .i64 q.ha), (.int .i64 q.po), (.slice a' n' c'), (.string q.op), (.bool q.hq), (.string q.qu), (.bool q.hf), (.string q.fr)]] W fun e w' => ∃ g, e = .returned (.agg #[(.string q.sc), (.string q.us), (.string q.pw), (.int .i64 q.hk), (.string q.hn), (.int .i64 q.ha), (.int .i64 q.po), (.slice (some ⟨g, 0, none⟩) n' n'), (.string q.op), (.bool q.hq), (.string q.qu), (.bool q.hf), (.string q.fr)]) ∧ StrsOf (some ⟨g, 0, none⟩) n' q.ps w' ∧ Below W.heap.size W w') := fun W d => CTB.out W (HAL2.out W d).1.bw
  have CE9 : Hid (∀ g W, Below W10.heap.size W10 W → StrsOf (some ⟨g, 0, none⟩) n' q.ps W → Calls Tryz.prog 13 #[.agg #[(.string q.sc), (.string q.us), (.string q.pw), (.int .i64 q.hk), (.string q.hn), (.int .i64 q.ha), (.int .i64 q.po), (.slice (some ⟨g7, 0, none⟩) n' n'), (.string q.op), (.bool q.hq), (.string q.qu), (.bool q.hf), (.string q.fr)], .agg #[(.string q.sc), (.string q.us), (.string q.pw), (.int .i64 q.hk), (.string q.hn), (.int .i64 q.ha), (.int .i64 q.po), (.slice (some ⟨g, 0, none⟩) n' n'), (.string q.op), (.bool q.hq), (.string q.qu), (.bool q.hf), (.string q.fr)]] W fun e w' => e = .returned (.bool true) ∧ Below W.heap.size W w') := fun g W d s => CEB.out g7 g W (HAL2.out W d).2.1 s
  have HBW : Hid (Below w.heap.size w W10) := HX.out.1.bw
  clear CTB CEB HX
  go_wp2
  go_region_with (first
   | (go_at_call 11; refine (CT9.out _ ?hd).mono ?_; (case hd => first | exact Below.refl _ _ | exact (Below.refl _ _).drew); rintro e W11 ⟨g11, rfl, s11, d11⟩; have HD11 : Hid (Below W10.heap.size W10 W11) := (by first | exact d11 | exact ((Below.refl _ W10).drew).trans d11); have HS11 : Hid (StrsOf (some ⟨g11, 0, none⟩) n' q.ps W11) := s11; clear d11 s11 j0 j1 j2 j3 j4 j5 j6 j7 j8 j9 j10 j11 j12 z0 z1 z2 z3 z4 z5 z6 z7 z8 z9 z10 z11 z12; obtain ⟨z0, z1, z2, z3, z4, z5, z6, z7, z8, z9, z10, z11, z12⟩ := Blk.cells13a (HAL2.out W11 HD11.out).2.2)
   | (go_at_call 13; refine (CE9.out g11 _ HD11.out HS11.out).mono ?_; rintro e W12 ⟨rfl, d12⟩)
   | fail)
  all_goals
   have HFIN : Hid (Below w.heap.size w W12) := HBW.out.trans ((HD11.out.trans (d12.mono HD11.out.size)).mono HBW.out.size)
   clear d12 z0 z1 z2 z3 z4 z5 z6 z7 z8 z9 z10 z11 z12
   go_wp2
   go_ret
   exact ⟨rfl, HFIN.out⟩
end Go.Proofs.YtnfhajhdpdidlaaGreatDoor
end
