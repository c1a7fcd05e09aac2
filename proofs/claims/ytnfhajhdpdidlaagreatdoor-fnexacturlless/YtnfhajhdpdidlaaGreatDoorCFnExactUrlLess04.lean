/- impl.isSlash, impl.beginsWithTwoSlashes. impl.sameRoot: whether all that stands ahead of two paths is the same. Plain facts: a path up to its last slash. impl.isOkWithHost, impl.PathOf. -/
import Derived.Test.YtnfhajhdpdidlaaGreatDoorCFnExactUrlLess03
import Derived.Test.YtnfhajhdpdidlaaGreatDoorB16
import Derived.Lib.LastIndexByte
import Derived.Test.YtnfhajhdpdidlaaGreatDoorB42
import Derived.Test.YtnfhajhdpdidlaaGreatDoorB12
set_option linter.unusedVariables false
set_option linter.unusedSimpArgs false
set_option maxHeartbeats 8000000
set_option maxRecDepth 100000
section
namespace Go.Proofs.YtnfhajhdpdidlaaGreatDoor
open Go.RowKit Go.Shelf
theorem isSlash (c : UInt8) (w : World) : Calls Tryz.prog 100 #[.int .u8 (c.toNat : Int)] w fun e w' => e = .returned (.bool (c == 47 || c == 92)) ∧ w' = w := by
 by_cases h1 : c = 47
 ·have e1 : ((c.toNat : Int) == 47) = true := by rw [h1]; rfl
  have HR : Hid ((c == 47 || c == 92) = true) := by show _ = _; rw [h1]; rfl
  clear h1
  go_enter Tryz.func100, Tryz.ntmps100
  go_wp2
  go_ret
  exact ⟨by rw [HR.out]; rfl, rfl⟩
 ·have e1 : ((c.toNat : Int) == 47) = false := byte47 _ h1
  by_cases h2 : c = 92
  ·have e2 : ((c.toNat : Int) == 92) = true := by rw [h2]; rfl
   have HR : Hid ((c == 47 || c == 92) = true) := by show _ = _; rw [h2]; rfl
   clear h1 h2
   go_enter Tryz.func100, Tryz.ntmps100
   go_wp2
   go_ret
   exact ⟨by rw [HR.out]; rfl, rfl⟩
  ·have e2 : ((c.toNat : Int) == 92) = false := by
    rw [beq_eq_false_iff_ne]; intro e; apply h2; apply UInt8.toNat_inj.1; show c.toNat = 92; omega
   have HR : Hid ((c == 47 || c == 92) = false) := by show _ = _; simp [h1, h2]
   clear h1 h2
   go_enter Tryz.func100, Tryz.ntmps100
   go_wp2
   go_ret
   exact ⟨by rw [HR.out]; rfl, rfl⟩
theorem beginsOne (s : ByteArray) (w : World) (hs : s.size = 1) :
  Calls Tryz.prog 69 #[.string s] w fun e w' => e = .returned (.bool false) ∧ Below w.heap.size w w' := by
 have e1 : ¬ ((2 : Int) ≤ (s.size : Int)) := by omega
 clear hs
 go_enter Tryz.func69, Tryz.ntmps69
 go_wp2
 go_ret
 exact ⟨rfl, Below.refl _ _⟩
theorem beginsTwo (s : ByteArray) (w : World) (h2 : 2 ≤ s.size) (hs : s.size ≤ 2000000) (h0 : s[0] = 47) (h1 : s[1] = 47) :
  Calls Tryz.prog 69 #[.string s] w fun e w' => e = .returned (.bool true) ∧ Below w.heap.size w w' := by
 have e1 : ((2 : Int) ≤ (s.size : Int)) := by omega
 have e0 : (0 : Int) < (s.size : Int) := by omega
 have e2 : (1 : Int) < (s.size : Int) := by omega
 have CA : Hid (∀ W, Calls Tryz.prog 100 #[.int .u8 ((s[0].toNat : Nat) : Int)] W fun e w' => e = .returned (.bool true) ∧ w' = W) := fun W => by
  have := isSlash s[0] W
  rw [show (s[0] == 47 || s[0] == 92) = true by rw [h0]; rfl] at this
  exact this
 have CB : Hid (∀ W, Calls Tryz.prog 100 #[.int .u8 ((s[1].toNat : Nat) : Int)] W fun e w' => e = .returned (.bool true) ∧ w' = W) := fun W => by
  have := isSlash s[1] W
  rw [show (s[1] == 47 || s[1] == 92) = true by simp [h1]] at this
  exact this
 clear h0 h1
 go_enter Tryz.func69, Tryz.ntmps69
 go_wp2_with fail
 refine (CA.out _).mono ?_
 rintro e W1 ⟨rfl, hW⟩
 have hW2 := hW.symm
 subst hW2
 clear hW
 go_wp2_with fail
 refine (CB.out _).mono ?_
 rintro e W1 ⟨rfl, hW⟩
 have hW2 := hW.symm
 subst hW2
 clear hW
 go_wp2
 go_ret
 exact ⟨rfl, Below.refl _ _⟩
theorem beginsNo (s : ByteArray) (w : World) (h2 : 2 ≤ s.size) (hs : s.size ≤ 2000000) (h0 : s[0] = 47) (h1 : s[1] ≠ 47) (h3 : s[1] ≠ 92) :
  Calls Tryz.prog 69 #[.string s] w fun e w' => e = .returned (.bool false) ∧ Below w.heap.size w w' := by
 have e1 : ((2 : Int) ≤ (s.size : Int)) := by omega
 have e0 : (0 : Int) < (s.size : Int) := by omega
 have e2 : (1 : Int) < (s.size : Int) := by omega
 have CA : Hid (∀ W, Calls Tryz.prog 100 #[.int .u8 ((s[0].toNat : Nat) : Int)] W fun e w' => e = .returned (.bool true) ∧ w' = W) := fun W => by
  have := isSlash s[0] W
  rw [show (s[0] == 47 || s[0] == 92) = true by rw [h0]; rfl] at this
  exact this
 have CB : Hid (∀ W, Calls Tryz.prog 100 #[.int .u8 ((s[1].toNat : Nat) : Int)] W fun e w' => e = .returned (.bool false) ∧ w' = W) := fun W => by
  have := isSlash s[1] W
  rw [show (s[1] == 47 || s[1] == 92) = false by simp [h1, h3]] at this
  exact this
 clear h0 h1 h3
 go_enter Tryz.func69, Tryz.ntmps69
 go_wp2_with fail
 refine (CA.out _).mono ?_
 rintro e W1 ⟨rfl, hW⟩
 have hW2 := hW.symm
 subst hW2
 clear hW
 go_wp2_with fail
 refine (CB.out _).mono ?_
 rintro e W1 ⟨rfl, hW⟩
 have hW2 := hW.symm
 subst hW2
 clear hW
 go_wp2
 go_ret
 exact ⟨rfl, Below.refl _ _⟩
theorem beginsPut (q : P) (h : okP q) (ho : 0 ≤ ownZ q.sc) (hs : (putL q.ps).length ≤ 2000000) (b : Bool) (hb : b = true ↔ TwoP q) (w : World) :
  Calls Tryz.prog 69 #[.string (mk (putL q.ps))] w fun e w' => e = .returned (.bool b) ∧ Below w.heap.size w w' := by
 have hz := mk_size (putL q.ps)
 rcases put_cases q h ho with ⟨h1, h2⟩ | ⟨h1, r, h2⟩ | ⟨h1, _, c, r, h2, h3, h4⟩
 ·have hbf : b = false := by rw [Bool.eq_false_iff]; intro e; exact not_two_one h1 (hb.1 e)
  subst hbf
  exact beginsOne _ w (by rw [hz, h2]; rfl)
 ·have hbt := hb.2 h1
  subst hbt
  rw [h2] at hs ⊢
  refine beginsTwo _ w (by rw [mk_size]; simp) (by rw [mk_size]; exact hs) ?_ ?_ <;> rfl
 ·have hbf : b = false := by rw [Bool.eq_false_iff]; intro e; exact h1 (hb.1 e)
  subst hbf
  rw [h2] at hs ⊢
  exact beginsNo _ w (by rw [mk_size]; simp) (by rw [mk_size]; exact hs) rfl h3 h4
end Go.Proofs.YtnfhajhdpdidlaaGreatDoor
end
section
namespace Go.Proofs.YtnfhajhdpdidlaaGreatDoor
open Go.RowKit Go.Shelf
def HostNe (p q : P) : Prop := ¬ (p.hk = q.hk ∧ p.hn = q.hn ∧ p.ha = q.ha)
def HostEq (p q : P) : Prop := p.hk = q.hk ∧ p.hn = q.hn ∧ p.ha = q.ha
def P.cellsH (q : P) (b : Bool) (v : Value) : Array Value := #[.string q.sc, .string q.us, .string q.pw, .int .i64 q.hk, .string q.hn, .int .i64 q.ha, .int .i64 q.po, v, .string q.op, .bool q.hq, .string q.qu, .bool b, .string q.fr]
theorem cellsH_of (q : P) (b : Bool) (v : Value) (h : q.hf = b) : q.cells v = q.cellsH b v := by unfold P.cells P.cellsH; rw [h]
theorem tlx_eq {x y : ByteArray} (h : x.toList = y.toList) : x = y := by
 by_cases e : x = y
 ·exact e
 ·have := tlb_ne e
  rw [h] at this
  simp at this
theorem rootSc (p q : P) (v v' : Value) (w : World) (hsc : ¬ p.sc = q.sc) :
  Calls Tryz.prog 68 #[.agg (p.cells v), .agg (q.cells v')] w fun e w' => e = .returned (.bool false) ∧ Below w.heap.size w w' := by
 have esc : (p.sc.toList == q.sc.toList) = false := tlb_ne hsc
 obtain ⟨V, hV⟩ : ∃ V, V = ((w.alloc (.cells (p.cells v) 31)).alloc (.cells (q.cells v') 31)) := ⟨_, rfl⟩
 have HK : Hid (Tw w (p.cells v) (q.cells v') V) := by show Tw _ _ _ _; rw [hV]; exact Tw.start w _ _
 clear hsc
 unfold P.cells at *
 go_enter Tryz.func68, Tryz.ntmps68
 go_upto_region 1 with fail
 rw [← hV]
 clear hV
 obtain ⟨k0, k1, k2, k3, k4, k5, k6, k7, k8, k9, k10, k11, k12⟩ := Blk.cells13a HK.out.b1
 obtain ⟨j0, j1, j2, j3, j4, j5, j6, j7, j8, j9, j10, j11, j12⟩ := Blk.cells13a HK.out.b2
 go_wp2
 go_ret
 exact ⟨rfl, HK.out.bw⟩
theorem rootUs (p q : P) (v v' : Value) (w : World) (hsc : p.sc = q.sc) (hus : ¬ p.us = q.us) :
  Calls Tryz.prog 68 #[.agg (p.cells v), .agg (q.cells v')] w fun e w' => e = .returned (.bool false) ∧ Below w.heap.size w w' := by
 have esc : (p.sc.toList == q.sc.toList) = true := by rw [hsc]; exact beq_self_eq_true _
 have eus : (p.us.toList == q.us.toList) = false := tlb_ne hus
 obtain ⟨V, hV⟩ : ∃ V, V = ((w.alloc (.cells (p.cells v) 31)).alloc (.cells (q.cells v') 31)) := ⟨_, rfl⟩
 have HK : Hid (Tw w (p.cells v) (q.cells v') V) := by show Tw _ _ _ _; rw [hV]; exact Tw.start w _ _
 clear hsc hus
 unfold P.cells at *
 go_enter Tryz.func68, Tryz.ntmps68
 go_upto_region 1 with fail
 rw [← hV]
 clear hV
 obtain ⟨k0, k1, k2, k3, k4, k5, k6, k7, k8, k9, k10, k11, k12⟩ := Blk.cells13a HK.out.b1
 obtain ⟨j0, j1, j2, j3, j4, j5, j6, j7, j8, j9, j10, j11, j12⟩ := Blk.cells13a HK.out.b2
 go_wp2
 go_ret
 exact ⟨rfl, HK.out.bw⟩
theorem rootPw (p q : P) (v v' : Value) (w : World) (hsc : p.sc = q.sc) (hus : p.us = q.us) (hpw : ¬ p.pw = q.pw) :
  Calls Tryz.prog 68 #[.agg (p.cells v), .agg (q.cells v')] w fun e w' => e = .returned (.bool false) ∧ Below w.heap.size w w' := by
 have esc : (p.sc.toList == q.sc.toList) = true := by rw [hsc]; exact beq_self_eq_true _
 have eus : (p.us.toList == q.us.toList) = true := by rw [hus]; exact beq_self_eq_true _
 have epw : (p.pw.toList == q.pw.toList) = false := tlb_ne hpw
 obtain ⟨V, hV⟩ : ∃ V, V = ((w.alloc (.cells (p.cells v) 31)).alloc (.cells (q.cells v') 31)) := ⟨_, rfl⟩
 have HK : Hid (Tw w (p.cells v) (q.cells v') V) := by show Tw _ _ _ _; rw [hV]; exact Tw.start w _ _
 clear hsc hus hpw
 unfold P.cells at *
 go_enter Tryz.func68, Tryz.ntmps68
 go_upto_region 1 with fail
 rw [← hV]
 clear hV
 obtain ⟨k0, k1, k2, k3, k4, k5, k6, k7, k8, k9, k10, k11, k12⟩ := Blk.cells13a HK.out.b1
 obtain ⟨j0, j1, j2, j3, j4, j5, j6, j7, j8, j9, j10, j11, j12⟩ := Blk.cells13a HK.out.b2
 go_wp2
 go_ret
 exact ⟨rfl, HK.out.bw⟩
theorem rootHost (p q : P) (v v' : Value) (w : World) (hsc : p.sc = q.sc) (hus : p.us = q.us) (hpw : p.pw = q.pw) (hho : ¬ (p.hk = q.hk ∧ p.hn = q.hn ∧ p.ha = q.ha)) :
  Calls Tryz.prog 68 #[.agg (p.cells v), .agg (q.cells v')] w fun e w' => e = .returned (.bool false) ∧ Below w.heap.size w w' := by
 have esc : (p.sc.toList == q.sc.toList) = true := by rw [hsc]; exact beq_self_eq_true _
 have eus : (p.us.toList == q.us.toList) = true := by rw [hus]; exact beq_self_eq_true _
 have epw : (p.pw.toList == q.pw.toList) = true := by rw [hpw]; exact beq_self_eq_true _
 obtain ⟨V, hV⟩ : ∃ V, V = ((w.alloc (.cells (p.cells v) 31)).alloc (.cells (q.cells v') 31)) := ⟨_, rfl⟩
 have HK : Hid (Tw w (p.cells v) (q.cells v') V) := by show Tw _ _ _ _; rw [hV]; exact Tw.start w _ _
 clear hsc hus hpw
 have HHO : Hid (HostNe p q) := hho
 clear hho
 unfold P.cells at *
 go_enter Tryz.func68, Tryz.ntmps68
 go_upto_region 1 with fail
 rw [← hV]
 clear hV
 obtain ⟨k0, k1, k2, k3, k4, k5, k6, k7, k8, k9, k10, k11, k12⟩ := Blk.cells13a HK.out.b1
 obtain ⟨j0, j1, j2, j3, j4, j5, j6, j7, j8, j9, j10, j11, j12⟩ := Blk.cells13a HK.out.b2
 go_wp2
 all_goals first
  | (go_ret; exact ⟨rfl, HK.out.bw⟩)
  | (exfalso; exact HHO.out ⟨by assumption, tlx_eq (by assumption), by assumption⟩)
theorem rootPort (p q : P) (v v' : Value) (w : World) (hsc : p.sc = q.sc) (hus : p.us = q.us) (hpw : p.pw = q.pw) (hho : p.hk = q.hk ∧ p.hn = q.hn ∧ p.ha = q.ha) (hpo : ¬ p.po = q.po) :
  Calls Tryz.prog 68 #[.agg (p.cells v), .agg (q.cells v')] w fun e w' => e = .returned (.bool false) ∧ Below w.heap.size w w' := by
 have esc : (p.sc.toList == q.sc.toList) = true := by rw [hsc]; exact beq_self_eq_true _
 have eus : (p.us.toList == q.us.toList) = true := by rw [hus]; exact beq_self_eq_true _
 have epw : (p.pw.toList == q.pw.toList) = true := by rw [hpw]; exact beq_self_eq_true _
 have g4 : (p.po == q.po) = false := beq_eq_false_iff_ne.2 hpo
 obtain ⟨V, hV⟩ : ∃ V, V = ((w.alloc (.cells (p.cells v) 31)).alloc (.cells (q.cells v') 31)) := ⟨_, rfl⟩
 have HK : Hid (Tw w (p.cells v) (q.cells v') V) := by show Tw _ _ _ _; rw [hV]; exact Tw.start w _ _
 clear hsc hus hpw hpo
 have HHO : Hid (HostEq p q) := hho
 clear hho
 unfold P.cells at *
 go_enter Tryz.func68, Tryz.ntmps68
 go_upto_region 1 with fail
 rw [← hV]
 clear hV
 obtain ⟨k0, k1, k2, k3, k4, k5, k6, k7, k8, k9, k10, k11, k12⟩ := Blk.cells13a HK.out.b1
 obtain ⟨j0, j1, j2, j3, j4, j5, j6, j7, j8, j9, j10, j11, j12⟩ := Blk.cells13a HK.out.b2
 obtain ⟨h1, h2, h3⟩ := HHO.out
 have g1 : (p.hk == q.hk) = true := by rw [h1]; exact beq_self_eq_true _
 have g2 : (p.hn.toList == q.hn.toList) = true := by rw [h2]; exact beq_self_eq_true _
 have g3 : (p.ha == q.ha) = true := by rw [h3]; exact beq_self_eq_true _
 have t2 : p.hn.toList = q.hn.toList := by rw [h2]
 clear h2 HHO
 go_wp2
 go_ret
 exact ⟨rfl, HK.out.bw⟩
theorem rootYes (p q : P) (v v' : Value) (w : World) (hsc : p.sc = q.sc) (hus : p.us = q.us) (hpw : p.pw = q.pw) (hho : p.hk = q.hk ∧ p.hn = q.hn ∧ p.ha = q.ha) (hpo : p.po = q.po) :
  Calls Tryz.prog 68 #[.agg (p.cells v), .agg (q.cells v')] w fun e w' => e = .returned (.bool true) ∧ Below w.heap.size w w' := by
 have esc : (p.sc.toList == q.sc.toList) = true := by rw [hsc]; exact beq_self_eq_true _
 have eus : (p.us.toList == q.us.toList) = true := by rw [hus]; exact beq_self_eq_true _
 have epw : (p.pw.toList == q.pw.toList) = true := by rw [hpw]; exact beq_self_eq_true _
 have g4 : (p.po == q.po) = true := by rw [hpo]; exact beq_self_eq_true _
 obtain ⟨V, hV⟩ : ∃ V, V = ((w.alloc (.cells (p.cells v) 31)).alloc (.cells (q.cells v') 31)) := ⟨_, rfl⟩
 have HK : Hid (Tw w (p.cells v) (q.cells v') V) := by show Tw _ _ _ _; rw [hV]; exact Tw.start w _ _
 clear hsc hus hpw hpo
 have HHO : Hid (HostEq p q) := hho
 clear hho
 unfold P.cells at *
 go_enter Tryz.func68, Tryz.ntmps68
 go_upto_region 1 with fail
 rw [← hV]
 clear hV
 obtain ⟨k0, k1, k2, k3, k4, k5, k6, k7, k8, k9, k10, k11, k12⟩ := Blk.cells13a HK.out.b1
 obtain ⟨j0, j1, j2, j3, j4, j5, j6, j7, j8, j9, j10, j11, j12⟩ := Blk.cells13a HK.out.b2
 obtain ⟨h1, h2, h3⟩ := HHO.out
 have g1 : (p.hk == q.hk) = true := by rw [h1]; exact beq_self_eq_true _
 have g2 : (p.hn.toList == q.hn.toList) = true := by rw [h2]; exact beq_self_eq_true _
 have g3 : (p.ha == q.ha) = true := by rw [h3]; exact beq_self_eq_true _
 have t2 : p.hn.toList = q.hn.toList := by rw [h2]
 clear h2 HHO
 go_wp2
 go_ret
 exact ⟨rfl, HK.out.bw⟩
theorem sameRoot (p q : P) (v v' : Value) (w : World) (b : Bool) (hb : b = true ↔ RootEq p q) :
  Calls Tryz.prog 68 #[.agg (p.cells v), .agg (q.cells v')] w fun e w' => e = .returned (.bool b) ∧ Below w.heap.size w w' := by
 have hf : ¬ RootEq p q → b = false := fun h => by rw [Bool.eq_false_iff]; intro e; exact h (hb.1 e)
 by_cases hsc : p.sc = q.sc
 ·by_cases hus : p.us = q.us
  ·by_cases hpw : p.pw = q.pw
   ·by_cases hho : p.hk = q.hk ∧ p.hn = q.hn ∧ p.ha = q.ha
    ·by_cases hpo : p.po = q.po
     ·rw [hb.2 ⟨hsc, hus, hpw, hho, hpo⟩]; exact rootYes p q v v' w hsc hus hpw hho hpo
     ·rw [hf (fun h => hpo h.2.2.2.2)]; exact rootPort p q v v' w hsc hus hpw hho hpo
    ·rw [hf (fun h => hho h.2.2.2.1)]; exact rootHost p q v v' w hsc hus hpw hho
   ·rw [hf (fun h => hpw h.2.2.1)]; exact rootPw p q v v' w hsc hus hpw
  ·rw [hf (fun h => hus h.2.1)]; exact rootUs p q v v' w hsc hus
 ·rw [hf (fun h => hsc h.1)]; exact rootSc p q v v' w hsc
end Go.Proofs.YtnfhajhdpdidlaaGreatDoor
end
section
namespace Go.Proofs.YtnfhajhdpdidlaaGreatDoor
open Go.RowKit Go.Shelf
def cutK (s : ByteArray) : Nat := max (Lib.lastIndexByte s 47).toNat 1
def pofT (b : Bool) (l : List UInt8) : ByteArray := if b = true then (mk l).extract 0 (cutK (mk l)) else ⟨#[47]⟩
theorem bang_get (s : ByteArray) (j : Nat) (hj : j < s.size) : s.data[j]! = s[j] := by
 rw [ByteArray.getElem_eq_getElem_data]
 exact getElem!_pos _ _ _
theorem b47_iff (c : UInt8) : ((c.toNat : Int) = 47) ↔ c = 47 := by
 constructor
 ·intro e; apply UInt8.toNat_inj.1; show c.toNat = 47; omega
 ·intro e; rw [e]; rfl
theorem last_here (s : ByteArray) (k : Nat) (hk : k < s.size) (h : s[k] = 47) (hn : ∀ j, k < j → (hj : j < s.size) → s[j] ≠ 47) : Lib.lastIndexByte s 47 = k := by
 rcases Lib.lastIndexByte_spec s 47 with ⟨_, h2⟩ | ⟨i, hi, e, hc, h2⟩
 ·exact absurd ((b47_iff _).2 h) (by rw [← bang_get s k hk]; exact h2 k hk)
 ·rw [e]
  rcases Nat.lt_trichotomy i k with hlt | heq | hgt
  ·exact absurd ((b47_iff _).2 h) (by rw [← bang_get s k hk]; exact h2 k hlt hk)
  ·rw [heq]
  ·rw [bang_get s i hi] at hc
   exact absurd ((b47_iff _).1 hc) (hn i hgt hi)
theorem put_first (ps : List (List UInt8)) (h : ps ≠ []) : ∃ r, putL ps = 47 :: r := by
 cases ps with
 | nil => exact absurd rfl h
 | cons p ps => exact ⟨p ++ putL ps, rfl⟩
theorem ext_slash (s : ByteArray) (h : 0 < s.size) (h0 : s[0] = 47) : s.extract 0 1 = ⟨#[47]⟩ := by
 apply ByteArray.ext
 rw [ByteArray.data_extract]
 apply Array.ext'
 have hl : s.data.toList.length = s.size := by simp
 rw [Array.toList_extract, List.extract_eq_take_drop]
 cases hx : s.data.toList with
 | nil => rw [hx] at hl; simp at hl; omega
 | cons c r =>
  have : s[0] = c := by
   rw [ByteArray.getElem_eq_getElem_data]
   have := Array.getElem_toList (xs := s.data) (i := 0) (by simpa using h)
   rw [← this]; simp [hx]
  rw [← this, h0]; rfl
theorem cut_zero (s : ByteArray) (h0 : 0 < s.size) (h : s[0] = 47) (hn : ∀ j, 0 < j → (hj : j < s.size) → s[j] ≠ 47) : s.extract 0 (cutK s) = ⟨#[47]⟩ := by
 unfold cutK
 rw [last_here s 0 h0 h hn]
 exact ext_slash s h0 h
theorem cut_more (s : ByteArray) (k : Nat) (hk : k + 1 < s.size) (h : s[k + 1] = 47) (hn : ∀ j, k + 1 < j → (hj : j < s.size) → s[j] ≠ 47) : cutK s = k + 1 := by
 unfold cutK
 rw [last_here s (k + 1) hk h hn]
 omega
theorem last_cases (s : ByteArray) (h0 : 0 < s.size) (h : s[0] = 47) : (∃ k : Nat, k < s.size ∧ Lib.lastIndexByte s 47 = k) := by
 rcases Lib.lastIndexByte_spec s 47 with ⟨_, h2⟩ | ⟨i, hi, e, hc, h2⟩
 ·exact absurd ((b47_iff _).2 h) (by rw [← bang_get s 0 h0]; exact h2 0 h0)
 ·exact ⟨i, hi, e⟩
theorem mk_first (l r : List UInt8) (h : l = 47 :: r) : ∃ h0 : 0 < (mk l).size, (mk l)[0] = 47 := by
 subst h
 exact ⟨by rw [mk_size]; simp, rfl⟩
theorem ok_host (q : P) (h : okP q) : (ownZ q.sc < 0 ↔ q.hk = 0) ∧ (0 ≤ ownZ q.sc → q.ps ≠ []) := by
 rcases ((ok_iff q).1 h).1.main with ⟨h0, _, _, hk, _⟩ | ⟨h0, _, _, _, hh, _, hp, _⟩
 ·exact ⟨⟨fun _ => hk, fun _ => h0⟩, fun h => by omega⟩
 ·refine ⟨⟨fun h => by omega, fun e => ?_⟩, fun _ => hp⟩
  rcases hh with hh | ⟨hh, _⟩
  ·have := (named_facts hh).1; omega
  ·omega
end Go.Proofs.YtnfhajhdpdidlaaGreatDoor
end
section
namespace Go.Proofs.YtnfhajhdpdidlaaGreatDoor
open Go.RowKit Go.Shelf
theorem hasHost_is (q : P) (v : Value) (b : Bool) (hb : b = true ↔ 0 ≤ ownZ q.sc) (W : World) :
  Calls Tryz.prog 67 #[.agg (q.cells v)] W fun e w' => e = .returned (.bool b) ∧ Below W.heap.size W w' := by
 have := hasHost (q.u v) W
 rw [show decide (0 ≤ ownZ (q.u v).sc) = b from by cases b with
  | true => exact decide_eq_true (hb.1 rfl)
  | false => exact decide_eq_false (fun h => by have := hb.2 h; cases this)] at this
 exact this
theorem isOkHost (q : P) (a : Option Addr) (n c : Nat) (w : World) (hL : Lean1 w) (hS : StrsOf a n q.ps w) (hs : q.tot ≤ 1048576) (hpo : q.po ≤ 9223372036854775807) (b : Bool) (hb : b = true ↔ (okP q ∧ 0 ≤ ownZ q.sc)) :
  Calls Tryz.prog 37 #[.agg (q.cells (.slice a n c))] w fun e w' => e = .returned (.bool b) ∧ Below w.heap.size w w' := by
 have H0 : Hid (Wp w q (.slice a n c) (w.alloc (.cells #[(.string q.sc), (.string q.us), (.string q.pw), (.int .i64 q.hk), (.string q.hn), (.int .i64 q.ha), (.int .i64 q.po), (.slice a n c), (.string q.op), (.bool q.hq), (.string q.qu), (.bool q.hf), (.string q.fr)] 31))) := Wp.start w q _
 by_cases ho : 0 ≤ ownZ q.sc
 ·have CK : Hid (∀ W, Below w.heap.size w W → Calls Tryz.prog 43 #[.agg (q.cells (.slice a n c))] W fun e w' => e = .returned (.bool b) ∧ Below W.heap.size W w') := fun W d => implUrlOk q a n c W (hL.below d) (hS.later d) hs hpo b (by rw [hb]; exact ⟨fun h => h.1, fun h => ⟨h, ho⟩⟩)
  have CH : Hid (∀ W, Calls Tryz.prog 67 #[.agg (q.cells (.slice a n c))] W fun e w' => e = .returned (.bool true) ∧ Below W.heap.size W w') := hasHost_is q _ true (by simp [ho])
  clear hS hs hpo hb hL ho
  unfold P.cells at *
  go_enter Tryz.func37, Tryz.ntmps37
  go_wp2_with fail
  refine (CH.out _).mono ?_
  rintro e W1 ⟨rfl, d1⟩
  have HX1 : Hid (Wp w q (.slice a n c) W1) := H0.out.later d1
  clear d1 H0 CH
  obtain ⟨k0, k1, k2, k3, k4, k5, k6, k7, k8, k9, k10, k11, k12⟩ := Blk.cells13 (q := q) HX1.out.bx
  go_wp2_with fail
  refine (CK.out _ HX1.out.bw).mono ?_
  rintro e W2 ⟨rfl, d2⟩
  have HX2 : Hid (Below w.heap.size w W2) := HX1.out.bw.trans (d2.mono HX1.out.bw.size)
  go_wp2
  go_ret
  exact ⟨rfl, HX2.out⟩
 ·have hbf : b = false := by
   cases b with
   | true => exact absurd (hb.1 rfl).2 ho
   | false => rfl
  subst hbf
  have CH : Hid (∀ W, Calls Tryz.prog 67 #[.agg (q.cells (.slice a n c))] W fun e w' => e = .returned (.bool false) ∧ Below W.heap.size W w') := hasHost_is q _ false (by simp [ho])
  clear hS hs hpo hb hL ho
  unfold P.cells at *
  go_enter Tryz.func37, Tryz.ntmps37
  go_wp2_with fail
  refine (CH.out _).mono ?_
  rintro e W1 ⟨rfl, d1⟩
  have HX1 : Hid (Wp w q (.slice a n c) W1) := H0.out.later d1
  clear d1 H0 CH
  go_wp2
  go_ret
  exact ⟨rfl, HX1.out.bw⟩
theorem implPathOf (q : P) (a : Option Addr) (n c : Nat) (w : World) (hL : Lean1 w) (hS : StrsOf a n q.ps w) (hs : q.tot ≤ 1048576) (hpo : q.po ≤ 9223372036854775807) (b : Bool) (hb : b = true ↔ (okP q ∧ 0 ≤ ownZ q.sc)) :
  Calls Tryz.prog 12 #[.agg (q.cells (.slice a n c))] w fun e w' => e = .returned (.string (pofT b (putL q.ps))) ∧ Below w.heap.size w w' := by
 have H0 : Hid (Wp w q (.slice a n c) (w.alloc (.cells #[(.string q.sc), (.string q.us), (.string q.pw), (.int .i64 q.hk), (.string q.hn), (.int .i64 q.ha), (.int .i64 q.po), (.slice a n c), (.string q.op), (.bool q.hq), (.string q.qu), (.bool q.hf), (.string q.fr)] 31))) := Wp.start w q _
 have CK : Hid (∀ W, Below w.heap.size w W → Calls Tryz.prog 37 #[.agg #[(.string q.sc), (.string q.us), (.string q.pw), (.int .i64 q.hk), (.string q.hn), (.int .i64 q.ha), (.int .i64 q.po), (.slice a n c), (.string q.op), (.bool q.hq), (.string q.qu), (.bool q.hf), (.string q.fr)]] W fun e w' => e = .returned (.bool b) ∧ Below W.heap.size W w') := fun W d => isOkHost q a n c W (hL.below d) (hS.later d) hs hpo b hb
 cases b with
 | false =>
  unfold pofT
  rw [if_neg (by decide)]
  clear hS hs hpo hb hL
  unfold P.cells at *
  go_enter Tryz.func12, Tryz.ntmps12
  go_wp2_with fail
  refine (CK.out _ H0.out.bw).mono ?_
  rintro e W1 ⟨rfl, d1⟩
  have HX1 : Hid (Wp w q (.slice a n c) W1) := H0.out.later d1
  go_wp2
  go_ret
  exact ⟨rfl, HX1.out.bw⟩
 | true =>
  unfold pofT
  rw [if_pos rfl]
  obtain ⟨hok, ho⟩ := hb.1 rfl
  obtain ⟨r, hr⟩ := put_first q.ps ((ok_host q hok).2 ho)
  obtain ⟨z0, z1⟩ := mk_first _ r hr
  have hpl := putL_len q.ps
  have htl : q.ps.length + tot q.ps ≤ 1048576 := by unfold P.tot at hs; omega
  have CP : Hid (∀ W, Below w.heap.size w W → Calls Tryz.prog 16 #[.slice a n c] W fun e w' => e = .returned (.string (mk (putL q.ps))) ∧ Below W.heap.size W w') := fun W d => implPathPut a n c q.ps W (hS.later d) (by omega)
  have hsz : (mk (putL q.ps)).size ≤ 1048576 := by rw [mk_size]; omega
  unfold cutK
  generalize mk (putL q.ps) = s at *
  obtain ⟨k, hk, hkl⟩ := last_cases s z0 z1
  have CL : Hid (∀ W, Calls Tryz.prog 38 #[.string s, .int .u8 47] W fun e w' => e = .returned (.int .i64 (k : Int)) ∧ w' = W) := fun W => by rw [← hkl]; exact Tryz.strings_LastIndexByte s 47 (by omega) W
  rw [hkl]
  have hm : max (k : Int).toNat 1 = max k 1 := by rw [Int.toNat_natCast]
  rw [hm]
  clear hS hs hpo hb hL hok ho hr hkl hpl htl hm z1
  unfold P.cells at *
  go_enter Tryz.func12, Tryz.ntmps12
  go_wp2_with fail
  refine (CK.out _ H0.out.bw).mono ?_
  rintro e W1 ⟨rfl, d1⟩
  have HX1 : Hid (Wp w q (.slice a n c) W1) := H0.out.later d1
  clear d1 H0 CK
  obtain ⟨k0, k1, k2, k3, k4, k5, k6, k7, k8, k9, k10, k11, k12⟩ := Blk.cells13 (q := q) HX1.out.bx
  go_wp2_with fail
  refine (CP.out _ HX1.out.bw).mono ?_
  rintro e W2 ⟨rfl, d2⟩
  have HX2 : Hid (Below w.heap.size w W2) := HX1.out.bw.trans (d2.mono HX1.out.bw.size)
  clear d2 HX1 CP k0 k1 k2 k3 k4 k5 k6 k7 k8 k9 k10 k11 k12
  go_wp2_with fail
  refine (CL.out _).mono ?_
  rintro e W3 ⟨rfl, hW⟩
  have hW2 := hW.symm
  subst hW2
  clear CL
  by_cases hk0 : k = 0
  ·subst hk0
   have e1 : max 0 1 = 1 := rfl
   go_wp2
   go_ret
   exact ⟨rfl, HX2.out⟩
  ·have e1 : max k 1 = k := by omega
   have e2 : ¬ ((k : Int) < 1) := by omega
   have e3 : (1 : Int) ≤ (k : Int) := by omega
   go_wp2
   go_ret
   exact ⟨by show Ending.returned (Value.string (s.extract 0 (max (k : Int) 1).toNat)) = _; rw [show (max (k : Int) 1).toNat = max k 1 by omega], HX2.out⟩
end Go.Proofs.YtnfhajhdpdidlaaGreatDoor
end
