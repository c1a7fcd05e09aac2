/- laws.eqHost, laws.eqOrigin of the same. The law FnExactOriginOf answers true, whatever the address. An address that is handed in, opened: its parts, its path's pieces, and how long they are. -/
import Derived.Test.YtfcbjdooijhibaaGreatDoorCFnExactOriginOf02
import Derived.Test.YtfcbjdooijhibaaGreatDoorCFnExactOriginOf01
import Derived.WalkKit
import Derived.ProofKit
import Derived.OpenShut
import Derived.ShutString
import Derived.ChangeOld
import Derived.Below
import Derived.SliceStrings
import Derived.Deep.Strs
set_option linter.unusedVariables false
set_option linter.unusedSimpArgs false
set_option maxHeartbeats 8000000
set_option maxRecDepth 100000
section
namespace Go.Proofs.YtfcbjdooijhibaaGreatDoor
open Go.RowKit Go.Shelf
theorem below_two (w : World) (A B : Obj) : Below w.heap.size w ((w.alloc A).alloc B) := ((Below.refl _ w).alloc (Nat.le_refl _) _).alloc (by simp) _
theorem eqHostSame (k : Int) (t : ByteArray) (x : Int) (w : World) :
  Calls Tryz.prog 46 #[.agg #[.int .i64 k, .string t, .int .i64 x], .agg #[.int .i64 k, .string t, .int .i64 x]] w fun e w' => e = .returned (.bool true) ∧ Below w.heap.size w w' := by
 have HB : Hid (∀ A B : Obj, Below w.heap.size w ((w.alloc A).alloc B)) := fun A B => below_two w A B
 go_enter Tryz.func46, Tryz.ntmps46
 go_wp2
 go_ret
 exact ⟨rfl, HB.out _ _⟩
theorem eqOriginSame (s : ByteArray) (k : Int) (t : ByteArray) (x p : Int) (w : World) :
  Calls Tryz.prog 20 #[.agg #[.string s, .int .i64 k, .string t, .int .i64 x, .int .i64 p], .agg #[.string s, .int .i64 k, .string t, .int .i64 x, .int .i64 p]] w fun e w' => e = .returned (.bool true) ∧ Below w.heap.size w w' := by
 obtain ⟨V, hV⟩ : ∃ V, V = (w.alloc (.cells #[.string s, .int .i64 k, .string t, .int .i64 x, .int .i64 p] 40)).alloc (.cells #[.string s, .int .i64 k, .string t, .int .i64 x, .int .i64 p] 40) := ⟨_, rfl⟩
 have HB : Hid (Below w.heap.size w V) := by show Below _ _ _; rw [hV]; exact below_two w _ _
 have HA : Hid (Blk w.heap.size #[.string s, .int .i64 k, .string t, .int .i64 x, .int .i64 p] 40 V) := by show Blk _ _ _ _; rw [hV]; exact (Blk.new w _ _).alloc _
 have HC : Hid (Blk (w.heap.size + 1) #[.string s, .int .i64 k, .string t, .int .i64 x, .int .i64 p] 40 V) := by
  show Blk _ _ _ _
  have := Blk.new (w.alloc (.cells #[.string s, .int .i64 k, .string t, .int .i64 x, .int .i64 p] 40)) #[.string s, .int .i64 k, .string t, .int .i64 x, .int .i64 p] 40
  rw [hV]; simpa using this
 have CH : Hid (∀ W, Calls Tryz.prog 46 #[.agg #[.int .i64 k, .string t, .int .i64 x], .agg #[.int .i64 k, .string t, .int .i64 x]] W fun e w' => e = .returned (.bool true) ∧ Below W.heap.size W w') := fun W => eqHostSame k t x W
 go_enter Tryz.func20, Tryz.ntmps20
 go_upto_region 1 with fail
 rw [← hV]
 clear hV
 obtain ⟨k0, k1, k2, k3, k4⟩ := Blk.cells5 HA.out
 obtain ⟨j0, j1, j2, j3, j4⟩ := Blk.cells5 HC.out
 go_wp2_with fail
 refine (CH.out _).mono ?_
 rintro e W1 ⟨rfl, d1⟩
 have HB1 : Hid (Below w.heap.size w W1) := HB.out.trans (d1.mono HB.out.size)
 have HA1 : Hid (Blk w.heap.size #[.string s, .int .i64 k, .string t, .int .i64 x, .int .i64 p] 40 W1) := HA.out.below d1 HA.out.lt
 have HC1 : Hid (Blk (w.heap.size + 1) #[.string s, .int .i64 k, .string t, .int .i64 x, .int .i64 p] 40 W1) := HC.out.below d1 HC.out.lt
 clear d1 HA HC HB CH k0 k1 k2 k3 k4 j0 j1 j2 j3 j4
 obtain ⟨k0, k1, k2, k3, k4⟩ := Blk.cells5 HA1.out
 obtain ⟨j0, j1, j2, j3, j4⟩ := Blk.cells5 HC1.out
 go_wp2
 go_ret
 exact ⟨rfl, HB1.out⟩
end Go.Proofs.YtfcbjdooijhibaaGreatDoor
end
section
namespace Go.Proofs.YtfcbjdooijhibaaGreatDoor
open Go.RowKit Go.Shelf
theorem orgB_shape (b : Bool) (q : P) : ∃ s k t x p, orgB b q = #[.string s, .int .i64 k, .string t, .int .i64 x, .int .i64 p] := by
 unfold orgB
 split
 ·exact orgV_shape q
 ·exact ⟨_, _, _, _, _, rfl⟩
theorem fnExactOriginOf_walk (w : World) (hL : Lean1 w) (q : P) (a : Option Addr) (n c : Nat) (hS : StrsOf a n q.ps w) (hz : Sz q) (hpo : q.po ≤ 9223372036854775807) :
  Calls Tryz.prog 4 #[.agg (q.cells (.slice a n c))] w fun e w' => e = .returned (.bool true) ∧ Below w.heap.size w w' := by
 have hn : n = q.ps.length := hS.1
 obtain ⟨b, hb⟩ : ∃ b : Bool, b = true ↔ okP q := by
  by_cases h : okP q
  ·exact ⟨true, by simp [h]⟩
  ·exact ⟨false, by simp [h]⟩
 obtain ⟨v0, v1, v2, v3, v4, hv⟩ := orgB_shape b q
 have H0 : Hid (La w q (.slice a n c) (w.alloc (.cells (q.cells (.slice a n c)) 37))) := La.start w q _
 have CS : Hid (∀ W, Below w.heap.size w W → Calls Tryz.prog 16 #[.agg #[(.string q.sc), (.string q.us), (.string q.pw), (.int .i64 q.hk), (.string q.hn), (.int .i64 q.ha), (.int .i64 q.po), (.slice a n c), (.string q.op), (.bool q.hq), (.string q.qu), (.bool q.hf), (.string q.fr)], .int .i64 1048576] W fun e w' => ∃ r : Int, e = .returned (.int .i64 r) ∧ Below W.heap.size W w' ∧ Hid (0 ≤ r → q.tot ≤ 1048576)) := fun W d => by
  refine (szUrl q a n c 1048576 W (hS.later d) hz (by decide) (by decide)).mono ?_
  rintro e w' ⟨r, rfl, d2, h1, h2⟩
  exact ⟨r, rfl, d2, fun h => by have := h2 h; omega⟩
 have HTN : Hid (q.ps.length ≤ q.tot) := by show _ ≤ _; unfold P.tot; omega
 have CT : Hid (∀ W, q.tot ≤ 1048576 → Below w.heap.size w W → Calls Tryz.prog 18 #[.agg #[(.string q.sc), (.string q.us), (.string q.pw), (.int .i64 q.hk), (.string q.hn), (.int .i64 q.ha), (.int .i64 q.po), (.slice a n c), (.string q.op), (.bool q.hq), (.string q.qu), (.bool q.hf), (.string q.fr)]] W fun e w' => ∃ g, e = .returned (.agg #[(.string q.sc), (.string q.us), (.string q.pw), (.int .i64 q.hk), (.string q.hn), (.int .i64 q.ha), (.int .i64 q.po), (.slice (some ⟨g, 0, none⟩) n n), (.string q.op), (.bool q.hq), (.string q.qu), (.bool q.hf), (.string q.fr)]) ∧ StrsOf (some ⟨g, 0, none⟩) n q.ps w' ∧ Below W.heap.size W w') := fun W ht d => by
  refine (toUrl q a n c W (hS.later d) (by have := HTN.out; omega)).mono ?_
  rintro e w' ⟨g, rfl, o, d2⟩
  obtain ⟨a1, c1, h1, h2, s1⟩ := o.strs
  rw [← hn] at h1 s1
  injection h1 with e1 e2 e3
  rw [← e1] at s1
  exact ⟨g, rfl, s1, d2⟩
 have CO : Hid (∀ g W, q.tot ≤ 1048576 → StrsOf (some ⟨g, 0, none⟩) n q.ps W → Calls Tryz.prog 17 #[.agg #[(.string q.sc), (.string q.us), (.string q.pw), (.int .i64 q.hk), (.string q.hn), (.int .i64 q.ha), (.int .i64 q.po), (.slice (some ⟨g, 0, none⟩) n n), (.string q.op), (.bool q.hq), (.string q.qu), (.bool q.hf), (.string q.fr)]] W fun e w' => e = .returned (.agg #[.string v0, .int .i64 v1, .string v2, .int .i64 v3, .int .i64 v4]) ∧ Below W.heap.size W w') := fun g W ht s => by rw [← hv]; exact specOriginOf q _ n _ W s ht hpo b hb
 have CI : Hid (∀ g W, q.tot ≤ 1048576 → Below w.heap.size w W → StrsOf (some ⟨g, 0, none⟩) n q.ps W → Calls Tryz.prog 19 #[.agg #[(.string q.sc), (.string q.us), (.string q.pw), (.int .i64 q.hk), (.string q.hn), (.int .i64 q.ha), (.int .i64 q.po), (.slice (some ⟨g, 0, none⟩) n n), (.string q.op), (.bool q.hq), (.string q.qu), (.bool q.hf), (.string q.fr)]] W fun e w' => e = .returned (.agg #[.string v0, .int .i64 v1, .string v2, .int .i64 v3, .int .i64 v4]) ∧ Below W.heap.size W w') := fun g W ht d s => by rw [← hv]; exact implOriginOf q _ n _ W (hL.below d) s ht hpo b hb
 have CE : Hid (∀ g g' W, q.tot ≤ 1048576 → StrsOf (some ⟨g, 0, none⟩) n q.ps W → StrsOf (some ⟨g', 0, none⟩) n q.ps W → Calls Tryz.prog 21 #[.agg #[(.string q.sc), (.string q.us), (.string q.pw), (.int .i64 q.hk), (.string q.hn), (.int .i64 q.ha), (.int .i64 q.po), (.slice (some ⟨g, 0, none⟩) n n), (.string q.op), (.bool q.hq), (.string q.qu), (.bool q.hf), (.string q.fr)], .agg #[(.string q.sc), (.string q.us), (.string q.pw), (.int .i64 q.hk), (.string q.hn), (.int .i64 q.ha), (.int .i64 q.po), (.slice (some ⟨g', 0, none⟩) n n), (.string q.op), (.bool q.hq), (.string q.qu), (.bool q.hf), (.string q.fr)]] W fun e w' => e = .returned (.bool true) ∧ Below W.heap.size W w') := fun g g' W ht s s' => by
  subst hn
  exact eqUrl q _ _ _ _ W s s' (by have := HTN.out; omega)
 clear hS hz hL hpo HTN hn hb hv
 unfold P.cells at H0 ⊢
 go_enter Tryz.func4, Tryz.ntmps4
 go_wp2_with fail
 refine (CS.out _ H0.out.bw).mono ?_
 rintro e W1 ⟨r, rfl, d1, ht⟩
 have HL1 : Hid (La w q (.slice a n c) W1) := H0.out.later d1
 clear d1 H0 CS
 by_cases hr : r < 0
 ·clear ht CT CO CI CE
  go_wp2
  go_ret
  exact ⟨rfl, HL1.out.bw⟩
 have HT : Hid (q.tot ≤ 1048576) := ht.out (by omega)
 clear ht
 obtain ⟨k0, k1, k2, k3, k4, k5, k6, k7, k8, k9, k10, k11, k12⟩ := HL1.out.cells
 go_wp2_with fail
 refine (CT.out _ HT.out HL1.out.bw).mono ?_
 rintro e W2 ⟨g2, rfl, s2, d2⟩
 have HL2 : Hid (La w q (.slice a n c) W2) := HL1.out.later d2
 clear d2 HL1 k0 k1 k2 k3 k4 k5 k6 k7 k8 k9 k10 k11 k12 hr
 go_wp2_with fail
 refine (CO.out g2 _ HT.out s2).mono ?_
 rintro e W3 ⟨rfl, d3⟩
 obtain ⟨V3, hV3⟩ : ∃ V, V = W3.alloc (.cells #[.string v0, .int .i64 v1, .string v2, .int .i64 v3, .int .i64 v4] 40) := ⟨_, rfl⟩
 have D3 : Hid (Below W2.heap.size W2 V3) := by show Below _ _ _; rw [hV3]; exact d3.alloc d3.size _
 have HL3 : Hid (La w q (.slice a n c) V3) := HL2.out.later D3.out
 have HO3 : Hid (Blk W3.heap.size #[.string v0, .int .i64 v1, .string v2, .int .i64 v3, .int .i64 v4] 40 V3) := by show Blk _ _ _ _; rw [hV3]; exact Blk.new W3 _ _
 clear d3 D3 HL2 s2 CO
 go_upto_region 6 with fail
 rw [← hV3]
 clear hV3
 generalize W3.heap.size = go at *
 obtain ⟨k0, k1, k2, k3, k4, k5, k6, k7, k8, k9, k10, k11, k12⟩ := HL3.out.cells
 go_wp2_with fail
 refine (CT.out _ HT.out HL3.out.bw).mono ?_
 rintro e W4 ⟨g4, rfl, s4, d4⟩
 have HL4 : Hid (La w q (.slice a n c) W4) := HL3.out.later d4
 have HO4 : Hid (Blk go #[.string v0, .int .i64 v1, .string v2, .int .i64 v3, .int .i64 v4] 40 W4) := HO3.out.below d4 HO3.out.lt
 clear d4 HL3 HO3 k0 k1 k2 k3 k4 k5 k6 k7 k8 k9 k10 k11 k12
 obtain ⟨V, hV⟩ : ∃ V, V = W4.alloc (.cells #[(.string q.sc), (.string q.us), (.string q.pw), (.int .i64 q.hk), (.string q.hn), (.int .i64 q.ha), (.int .i64 q.po), (.slice (some ⟨g4, 0, none⟩) n n), (.string q.op), (.bool q.hq), (.string q.qu), (.bool q.hf), (.string q.fr)] 27) := ⟨_, rfl⟩
 have HBV : Hid (Below W4.heap.size W4 V) := by show Below _ _ _; rw [hV]; exact (Below.refl _ _).alloc (Nat.le_refl _) _
 have HLV : Hid (La w q (.slice a n c) V) := HL4.out.later HBV.out
 have HSV : Hid (StrsOf (some ⟨g4, 0, none⟩) n q.ps V) := s4.later HBV.out
 have HOV : Hid (Blk go #[.string v0, .int .i64 v1, .string v2, .int .i64 v3, .int .i64 v4] 40 V) := HO4.out.below HBV.out HO4.out.lt
 have HXV : Hid (Blk W4.heap.size #[(.string q.sc), (.string q.us), (.string q.pw), (.int .i64 q.hk), (.string q.hn), (.int .i64 q.ha), (.int .i64 q.po), (.slice (some ⟨g4, 0, none⟩) n n), (.string q.op), (.bool q.hq), (.string q.qu), (.bool q.hf), (.string q.fr)] 27 V) := by show Blk _ _ _ _; rw [hV]; exact Blk.new W4 _ _
 clear s4 HL4 HBV HO4
 go_wp2_with fail
 rw [← hV]
 clear hV
 refine (CI.out g4 _ HT.out HLV.out.bw HSV.out).mono ?_
 rintro e W6 ⟨rfl, d6⟩
 obtain ⟨V6, hV6⟩ : ∃ V, V = W6.alloc (.cells #[.string v0, .int .i64 v1, .string v2, .int .i64 v3, .int .i64 v4] 40) := ⟨_, rfl⟩
 have D6 : Hid (Below V.heap.size V V6) := by show Below _ _ _; rw [hV6]; exact d6.alloc d6.size _
 have HL6 : Hid (La w q (.slice a n c) V6) := HLV.out.later D6.out
 have HS6 : Hid (StrsOf (some ⟨g4, 0, none⟩) n q.ps V6) := HSV.out.later D6.out
 have HX6 : Hid (Blk W4.heap.size #[(.string q.sc), (.string q.us), (.string q.pw), (.int .i64 q.hk), (.string q.hn), (.int .i64 q.ha), (.int .i64 q.po), (.slice (some ⟨g4, 0, none⟩) n n), (.string q.op), (.bool q.hq), (.string q.qu), (.bool q.hf), (.string q.fr)] 27 V6) := HXV.out.below D6.out HXV.out.lt
 have HO6 : Hid (Blk go #[.string v0, .int .i64 v1, .string v2, .int .i64 v3, .int .i64 v4] 40 V6) := HOV.out.below D6.out HOV.out.lt
 have HI6 : Hid (Blk W6.heap.size #[.string v0, .int .i64 v1, .string v2, .int .i64 v3, .int .i64 v4] 40 V6) := by show Blk _ _ _ _; rw [hV6]; exact Blk.new W6 _ _
 clear d6 D6 HLV HSV HXV HOV CI
 go_upto_region 8 with fail
 rw [← hV6]
 clear hV6
 generalize W6.heap.size = gi at *
 obtain ⟨o0, o1, o2, o3, o4⟩ := Blk.cells5 HO6.out
 obtain ⟨i0, i1, i2, i3, i4⟩ := Blk.cells5 HI6.out
 go_wp2_with fail
 refine (eqOriginSame v0 v1 v2 v3 v4 _).mono ?_
 rintro e W5 ⟨rfl, d5⟩
 have HL5 : Hid (La w q (.slice a n c) W5) := HL6.out.later d5
 have HS5 : Hid (StrsOf (some ⟨g4, 0, none⟩) n q.ps W5) := HS6.out.later d5
 have HX5 : Hid (Blk W4.heap.size #[(.string q.sc), (.string q.us), (.string q.pw), (.int .i64 q.hk), (.string q.hn), (.int .i64 q.ha), (.int .i64 q.po), (.slice (some ⟨g4, 0, none⟩) n n), (.string q.op), (.bool q.hq), (.string q.qu), (.bool q.hf), (.string q.fr)] 27 W5) := HX6.out.below d5 HX6.out.lt
 clear d5 HL6 HS6 HX6 HO6 HI6 o0 o1 o2 o3 o4 i0 i1 i2 i3 i4
 have CT5 : Hid (∀ W, Below W5.heap.size W5 W → Calls Tryz.prog 18 #[.agg #[(.string q.sc), (.string q.us), (.string q.pw), (.int .i64 q.hk), (.string q.hn), (.int .i64 q.ha), (.int .i64 q.po), (.slice a n c), (.string q.op), (.bool q.hq), (.string q.qu), (.bool q.hf), (.string q.fr)]] W fun e w' => ∃ g, e = .returned (.agg #[(.string q.sc), (.string q.us), (.string q.pw), (.int .i64 q.hk), (.string q.hn), (.int .i64 q.ha), (.int .i64 q.po), (.slice (some ⟨g, 0, none⟩) n n), (.string q.op), (.bool q.hq), (.string q.qu), (.bool q.hf), (.string q.fr)]) ∧ StrsOf (some ⟨g, 0, none⟩) n q.ps w' ∧ Below W.heap.size W w') := fun W d => CT.out W HT.out (HL5.out.later d).bw
 have CE5 : Hid (∀ g W, Below W5.heap.size W5 W → StrsOf (some ⟨g, 0, none⟩) n q.ps W → Calls Tryz.prog 21 #[.agg #[(.string q.sc), (.string q.us), (.string q.pw), (.int .i64 q.hk), (.string q.hn), (.int .i64 q.ha), (.int .i64 q.po), (.slice (some ⟨g4, 0, none⟩) n n), (.string q.op), (.bool q.hq), (.string q.qu), (.bool q.hf), (.string q.fr)], .agg #[(.string q.sc), (.string q.us), (.string q.pw), (.int .i64 q.hk), (.string q.hn), (.int .i64 q.ha), (.int .i64 q.po), (.slice (some ⟨g, 0, none⟩) n n), (.string q.op), (.bool q.hq), (.string q.qu), (.bool q.hf), (.string q.fr)]] W fun e w' => e = .returned (.bool true) ∧ Below W.heap.size W w') := fun g W d s => CE.out g4 g W HT.out (HS5.out.later d) s
 have HXW : Hid (∀ W, Below W5.heap.size W5 W → Blk W4.heap.size #[(.string q.sc), (.string q.us), (.string q.pw), (.int .i64 q.hk), (.string q.hn), (.int .i64 q.ha), (.int .i64 q.po), (.slice (some ⟨g4, 0, none⟩) n n), (.string q.op), (.bool q.hq), (.string q.qu), (.bool q.hf), (.string q.fr)] 27 W) := fun W d => HX5.out.below d HX5.out.lt
 obtain ⟨k0, k1, k2, k3, k4, k5, k6, k7, k8, k9, k10, k11, k12⟩ := HL5.out.cells
 obtain ⟨x0, x1, x2, x3, x4, x5, x6, x7, x8, x9, x10, x11, x12⟩ := Blk.cells13a HX5.out
 have HB5 : Hid (Below w.heap.size w W5) := HL5.out.bw
 clear CT CE HT HL5 HS5 HX5
 go_wp2
 go_region_with (first
  | (go_at_call 18; refine (CT5.out _ ?hd).mono ?_; (case hd => first | exact Below.refl _ _ | exact (Below.refl _ _).drew); rintro e W6 ⟨g6, rfl, s6, d6⟩; have HD6 : Hid (Below W5.heap.size W5 W6) := (by first | exact d6 | exact ((Below.refl _ W5).drew).trans d6); have HS6 : Hid (StrsOf (some ⟨g6, 0, none⟩) n q.ps W6) := s6; clear d6 s6 k0 k1 k2 k3 k4 k5 k6 k7 k8 k9 k10 k11 k12 x0 x1 x2 x3 x4 x5 x6 x7 x8 x9 x10 x11 x12; obtain ⟨x0, x1, x2, x3, x4, x5, x6, x7, x8, x9, x10, x11, x12⟩ := Blk.cells13a (HXW.out W6 HD6.out))
  | (go_at_call 21; refine (CE5.out g6 _ HD6.out HS6.out).mono ?_; rintro e W7 ⟨rfl, d7⟩)
  | fail)
 all_goals
  have HFIN : Hid (Below w.heap.size w W7) := HB5.out.trans ((HD6.out.trans (d7.mono HD6.out.size)).mono HB5.out.size)
  clear d7 x0 x1 x2 x3 x4 x5 x6 x7 x8 x9 x10 x11 x12
  go_wp2
  go_ret
  exact ⟨rfl, HFIN.out⟩
end Go.Proofs.YtfcbjdooijhibaaGreatDoor
end
section
namespace Go.Proofs.YtfcbjdooijhibaaGreatDoor
open Go.ChangeShapes Go.WideShapes Go.ChangeAt Go.RowKit
theorem host_fieldsU : ∃ f0 f1 f2 : Field, Tryz.prog.underlying 35 = some (.struct #[f0, f1, f2]) ∧ f0.type = 3 ∧ f1.type = 9 ∧ f2.type = 3 ∧ f0.offset = 0 ∧ f1.offset = 1 ∧ f2.offset = 2 := ⟨_, _, _, Tryz.underlying35, rfl, rfl, rfl, rfl, rfl, rfl⟩
theorem url_fields : ∃ f0 f1 f2 f3 f4 f5 f6 f7 f8 f9 f10 : Field, Tryz.prog.underlying 37 = some (.struct #[f0, f1, f2, f3, f4, f5, f6, f7, f8, f9, f10]) ∧ f0.type = 9 ∧ f1.type = 9 ∧ f2.type = 9 ∧ f3.type = 35 ∧ f4.type = 3 ∧ f5.type = 25 ∧ f6.type = 9 ∧ f7.type = 4 ∧ f8.type = 9 ∧ f9.type = 4 ∧ f10.type = 9 ∧ f0.offset = 0 ∧ f1.offset = 1 ∧ f2.offset = 2 ∧ f3.offset = 3 ∧ f4.offset = 6 ∧ f5.offset = 7 ∧ f6.offset = 8 ∧ f7.offset = 9 ∧ f8.offset = 10 ∧ f9.offset = 11 ∧ f10.offset = 12 := ⟨_, _, _, _, _, _, _, _, _, _, _, Tryz.underlying37, rfl, rfl, rfl, rfl, rfl, rfl, rfl, rfl, rfl, rfl, rfl, rfl, rfl, rfl, rfl, rfl, rfl, rfl, rfl, rfl, rfl, rfl⟩
theorem url_cells : Tryz.prog.cellsOf 37 = 13 ∧ Tryz.prog.cellsOf 35 = 3 ∧ Tryz.prog.cellsOf 3 = 1 ∧ Tryz.prog.cellsOf 9 = 1 ∧ Tryz.prog.cellsOf 4 = 1 ∧ Tryz.prog.cellsOf 25 = 1 := ⟨by kernel_rfl, by kernel_rfl, by kernel_rfl, by kernel_rfl, by kernel_rfl, by kernel_rfl⟩
theorem open_url {H : Type} {enc : TypeId × Value → H} {W : World} {r : Reach} {b0 base : Nat} {held : Bool} {v : Value} {d : DataW H} {ps : List MemPlace} (hval : Value.okWide Tryz.prog W r b0 37 v) (hd : DataW.Trod enc Tryz.prog W base (fun _ => true) held 37 v d ps) :
  ∃ (q : P) (a : Option Addr) (n c : Nat), v = .agg (q.cells (.slice a n c)) ∧ StrsOf a n q.ps W ∧ Sz q ∧ q.po ≤ 9223372036854775807 := by
 obtain ⟨f0, f1, f2, f3, f4, f5, f6, f7, f8, f9, f10, hu, t0, t1, t2, t3, t4, t5, t6, t7, t8, t9, t10, o0, o1, o2, o3, o4, o5, o6, o7, o8, o9, o10⟩ := url_fields
 obtain ⟨g0, g1, g2, hu2, s0, s1, s2, p0, p1, p2⟩ := host_fieldsU
 obtain ⟨m13, m3, mi, ms, mb, ml⟩ := url_cells
 obtain ⟨cs, rfl, hsz⟩ := okWide_struct hu hval
 obtain ⟨fuel, hf⟩ := hd
 obtain ⟨xs, n, rfl, hx, hl, hlen, hF⟩ := DataW.trod_struct hu hf
 rw [m13] at hsz
 obtain ⟨c0, c1, c2, c3, c4, c5, c6, c7, c8, c9, c10, c11, c12, rfl⟩ : ∃ c0 c1 c2 c3 c4 c5 c6 c7 c8 c9 c10 c11 c12, cs = #[c0, c1, c2, c3, c4, c5, c6, c7, c8, c9, c10, c11, c12] := by
  match cs, hsz with
  | ⟨[c0, c1, c2, c3, c4, c5, c6, c7, c8, c9, c10, c11, c12]⟩, _ => exact ⟨c0, c1, c2, c3, c4, c5, c6, c7, c8, c9, c10, c11, c12, rfl⟩
 match xs, hlen with
 | [x0, x1, x2, x3, x4, x5, x6, x7, x8, x9, x10], _ =>
  have h0 := hF 0 f0 rfl
  rw [t0, o0, ms] at h0
  simp [Value.cells] at h0
  have h1 := hF 1 f1 rfl
  rw [t1, o1, ms] at h1
  simp [Value.cells] at h1
  have h2 := hF 2 f2 rfl
  rw [t2, o2, ms] at h2
  simp [Value.cells] at h2
  have h3 := hF 3 f3 rfl
  rw [t3, o3, m3] at h3
  simp [Value.cells] at h3
  have h4 := hF 4 f4 rfl
  rw [t4, o4, mi] at h4
  simp [Value.cells] at h4
  have h5 := hF 5 f5 rfl
  rw [t5, o5, ml] at h5
  simp [Value.cells] at h5
  have h6 := hF 6 f6 rfl
  rw [t6, o6, ms] at h6
  simp [Value.cells] at h6
  have h7 := hF 7 f7 rfl
  rw [t7, o7, mb] at h7
  simp [Value.cells] at h7
  have h8 := hF 8 f8 rfl
  rw [t8, o8, ms] at h8
  simp [Value.cells] at h8
  have h9 := hF 9 f9 rfl
  rw [t9, o9, mb] at h9
  simp [Value.cells] at h9
  have h10 := hF 10 f10 rfl
  rw [t10, o10, ms] at h10
  simp [Value.cells] at h10
  obtain ⟨y0, e0, _, w0⟩ := DataW.trod_string Tryz.underlying9 h0
  simp at e0
  subst e0
  obtain ⟨y1, e1, _, w1⟩ := DataW.trod_string Tryz.underlying9 h1
  simp at e1
  subst e1
  obtain ⟨y2, e2, _, w2⟩ := DataW.trod_string Tryz.underlying9 h2
  simp at e2
  subst e2
  obtain ⟨u0, u1, u2, n3, _, _, k0, k1, k2⟩ := Go.Deep.trod_struct3 hu2 h3
  rw [s0, p0, mi] at k0
  rw [s1, p1, ms] at k1
  rw [s2, p2, mi] at k2
  obtain ⟨z0, a0, _, _⟩ := DataW.trod_int Tryz.underlying3 k0
  obtain ⟨z1, a1, _, wz⟩ := DataW.trod_string Tryz.underlying9 k1
  obtain ⟨z2, a2, _, _⟩ := DataW.trod_int Tryz.underlying3 k2
  simp at a0 a1 a2
  subst a0 a1 a2
  obtain ⟨y4, e4, _, w4⟩ := DataW.trod_int Tryz.underlying3 h4
  simp at e4
  subst e4
  obtain ⟨a, len, cap, zs, e5, hS, hz, hzl⟩ : ∃ (a : Option Addr) (len cap : Nat) (zs : List (List UInt8)), c7 = .slice a len cap ∧ StrsOf a len zs W ∧ len ≤ maxLen ∧ ∀ s ∈ zs, s.length ≤ maxLen := by
   rcases open_strings Tryz.underlying25 Tryz.underlying9 (by kernel_rfl) h5 with ⟨hcs, _⟩ | ⟨x, l, c, zs, hcs, _, hl, hm, hz, _, hcell, hwz⟩
   ·simp at hcs
    exact ⟨none, 0, 0, [], hcs, ⟨rfl, .inl rfl⟩, Nat.zero_le _, fun s hs => by cases hs⟩
   ·simp at hcs
    refine ⟨some x, l, c, _, hcs, strs_open hl (by simpa using hz) hcell, Nat.le_trans hl hm, fun s hs => ?_⟩
    obtain ⟨u, hu, rfl⟩ := List.mem_map.1 hs
    have := hwz u (List.mem_of_mem_take hu)
    simpa using this
  subst e5
  obtain ⟨y6, e6, _, w6⟩ := DataW.trod_string Tryz.underlying9 h6
  simp at e6
  subst e6
  obtain ⟨y7, e7, _⟩ := DataW.trod_bool Tryz.underlying4 h7
  simp at e7
  subst e7
  obtain ⟨y8, e8, _, w8⟩ := DataW.trod_string Tryz.underlying9 h8
  simp at e8
  subst e8
  obtain ⟨y9, e9, _⟩ := DataW.trod_bool Tryz.underlying4 h9
  simp at e9
  subst e9
  obtain ⟨y10, e10, _, w10⟩ := DataW.trod_string Tryz.underlying9 h10
  simp at e10
  subst e10
  refine ⟨⟨y0, y1, y2, z0, z1, z2, y4, zs, y6, y7, y8, y9, y10⟩, a, len, cap, rfl, hS, ⟨w0, w1, w2, wz, w6, w8, w10, ?_, hzl⟩, ?_⟩
  ·have := hS.1; show zs.length ≤ _; omega
  ·have h := w4
   have hm : IntKind.i64.max = 9223372036854775807 := by decide
   have h2 : y4 ≤ IntKind.i64.max := by simp [Lit.wf] at h; exact h.2
   rw [hm] at h2
   exact h2
end Go.Proofs.YtfcbjdooijhibaaGreatDoor
end
