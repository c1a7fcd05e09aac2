/- impl.isOkWithHost, impl.PathOf. An address without its end; three blocks for addresses. spec.OriginOf, impl.OriginOf: the origin of an address; laws.eqOrigin. An origin as a key of a map. -/
import Derived.Test.YtnfhajhdpdidlaaGreatDoorB42
import Derived.Test.YtnfhajhdpdidlaaGreatDoorB12
import Derived.Test.YtnfhajhdpdidlaaGreatDoorCFnRefer02
import Derived.Test.YtnfhajhdpdidlaaGreatDoorB09
import Derived.Maps.OwnOps
import Derived.Maps.Views
import Derived.WideKeyEntry
import Derived.DeepKeys4
set_option linter.unusedVariables false
set_option linter.unusedSimpArgs false
set_option maxHeartbeats 4000000
set_option maxRecDepth 100000
section
namespace Go.Proofs.YtnfhajhdpdidlaaGreatDoor
open Go.RowKit Go.Shelf
theorem hasHost_is (q : P) (v : Value) (b : Bool) (hb : b = true ↔ 0 ≤ ownZ q.sc) (W : World) :
  Calls Tryz.prog 67 #[.agg (q.cells v)] W fun e w' => e = .returned (.bool b) ∧ Below W.heap.size W w' := by
 have := hasHost (q.u v) W
 rw [show decide (0 ≤ ownZ (q.u v).sc) = b from by cases b with
  | true => exact decide_eq_true (hb.1 rfl)
  | false => exact decide_eq_false (fun h => by have := hb.2 h; cases this)] at this
 exact this
theorem isOkHost (q : P) (a : Option Addr) (n c : Nat) (w : World) (hL : Lean1 w) (hS : StrsOf a n q.ps w) (hs : q.tot ≤ 1048576) (hpo : q.po ≤ 9223372036854775807) (b : Bool) (hb : b = true ↔ (okP q ∧ 0 ≤ ownZ q.sc)) :
  Calls Tryz.prog 37 #[.agg (q.cells (.slice a n c))] w fun e w' => e = .returned (.bool b) ∧ Below w.heap.size w w' := by
 have H0 : Hid (Wp w q (.slice a n c) (w.alloc (.cells #[(.string q.sc), (.string q.us), (.string q.pw), (.int .i64 q.hk), (.string q.hn), (.int .i64 q.ha), (.int .i64 q.po), (.slice a n c), (.string q.op), (.bool q.hq), (.string q.qu), (.bool q.hf), (.string q.fr)] 31))) := Wp.start w q _
 by_cases ho : 0 ≤ ownZ q.sc
 ·have CK : Hid (∀ W, Below w.heap.size w W → Calls Tryz.prog 43 #[.agg (q.cells (.slice a n c))] W fun e w' => e = .returned (.bool b) ∧ Below W.heap.size W w') := fun W d => implUrlOk q a n c W (hL.below d) (hS.later d) hs hpo b (by rw [hb]; exact ⟨fun h => h.1, fun h => ⟨h, ho⟩⟩)
  have CH : Hid (∀ W, Calls Tryz.prog 67 #[.agg (q.cells (.slice a n c))] W fun e w' => e = .returned (.bool true) ∧ Below W.heap.size W w') := hasHost_is q _ true (by simp [ho])
  clear hS hs hpo hb hL ho
  unfold P.cells at *
  go_enter Tryz.func37, Tryz.ntmps37
  go_wp2_with fail
  refine (CH.out _).mono ?_
  rintro e W1 ⟨rfl, d1⟩
  have HX1 : Hid (Wp w q (.slice a n c) W1) := H0.out.later d1
  clear d1 H0 CH
  obtain ⟨k0, k1, k2, k3, k4, k5, k6, k7, k8, k9, k10, k11, k12⟩ := Blk.cells13 (q := q) HX1.out.bx
  go_wp2_with fail
  refine (CK.out _ HX1.out.bw).mono ?_
  rintro e W2 ⟨rfl, d2⟩
  have HX2 : Hid (Below w.heap.size w W2) := HX1.out.bw.trans (d2.mono HX1.out.bw.size)
  go_wp2
  go_ret
  exact ⟨rfl, HX2.out⟩
 ·have hbf : b = false := by
   cases b with
   | true => exact absurd (hb.1 rfl).2 ho
   | false => rfl
  subst hbf
  have CH : Hid (∀ W, Calls Tryz.prog 67 #[.agg (q.cells (.slice a n c))] W fun e w' => e = .returned (.bool false) ∧ Below W.heap.size W w') := hasHost_is q _ false (by simp [ho])
  clear hS hs hpo hb hL ho
  unfold P.cells at *
  go_enter Tryz.func37, Tryz.ntmps37
  go_wp2_with fail
  refine (CH.out _).mono ?_
  rintro e W1 ⟨rfl, d1⟩
  have HX1 : Hid (Wp w q (.slice a n c) W1) := H0.out.later d1
  clear d1 H0 CH
  go_wp2
  go_ret
  exact ⟨rfl, HX1.out.bw⟩
theorem implPathOf (q : P) (a : Option Addr) (n c : Nat) (w : World) (hL : Lean1 w) (hS : StrsOf a n q.ps w) (hs : q.tot ≤ 1048576) (hpo : q.po ≤ 9223372036854775807) (b : Bool) (hb : b = true ↔ (okP q ∧ 0 ≤ ownZ q.sc)) :
  Calls Tryz.prog 12 #[.agg (q.cells (.slice a n c))] w fun e w' => e = .returned (.string (pofT b (putL q.ps))) ∧ Below w.heap.size w w' := by
 have H0 : Hid (Wp w q (.slice a n c) (w.alloc (.cells #[(.string q.sc), (.string q.us), (.string q.pw), (.int .i64 q.hk), (.string q.hn), (.int .i64 q.ha), (.int .i64 q.po), (.slice a n c), (.string q.op), (.bool q.hq), (.string q.qu), (.bool q.hf), (.string q.fr)] 31))) := Wp.start w q _
 have CK : Hid (∀ W, Below w.heap.size w W → Calls Tryz.prog 37 #[.agg #[(.string q.sc), (.string q.us), (.string q.pw), (.int .i64 q.hk), (.string q.hn), (.int .i64 q.ha), (.int .i64 q.po), (.slice a n c), (.string q.op), (.bool q.hq), (.string q.qu), (.bool q.hf), (.string q.fr)]] W fun e w' => e = .returned (.bool b) ∧ Below W.heap.size W w') := fun W d => isOkHost q a n c W (hL.below d) (hS.later d) hs hpo b hb
 cases b with
 | false =>
  unfold pofT
  rw [if_neg (by decide)]
  clear hS hs hpo hb hL
  unfold P.cells at *
  go_enter Tryz.func12, Tryz.ntmps12
  go_wp2_with fail
  refine (CK.out _ H0.out.bw).mono ?_
  rintro e W1 ⟨rfl, d1⟩
  have HX1 : Hid (Wp w q (.slice a n c) W1) := H0.out.later d1
  go_wp2
  go_ret
  exact ⟨rfl, HX1.out.bw⟩
 | true =>
  unfold pofT
  rw [if_pos rfl]
  obtain ⟨hok, ho⟩ := hb.1 rfl
  obtain ⟨r, hr⟩ := put_first q.ps ((ok_host q hok).2 ho)
  obtain ⟨z0, z1⟩ := mk_first _ r hr
  have hpl := putL_len q.ps
  have htl : q.ps.length + tot q.ps ≤ 1048576 := by unfold P.tot at hs; omega
  have CP : Hid (∀ W, Below w.heap.size w W → Calls Tryz.prog 16 #[.slice a n c] W fun e w' => e = .returned (.string (mk (putL q.ps))) ∧ Below W.heap.size W w') := fun W d => implPathPut a n c q.ps W (hS.later d) (by omega)
  have hsz : (mk (putL q.ps)).size ≤ 1048576 := by rw [mk_size]; omega
  unfold cutK
  generalize mk (putL q.ps) = s at *
  obtain ⟨k, hk, hkl⟩ := last_cases s z0 z1
  have CL : Hid (∀ W, Calls Tryz.prog 38 #[.string s, .int .u8 47] W fun e w' => e = .returned (.int .i64 (k : Int)) ∧ w' = W) := fun W => by rw [← hkl]; exact Tryz.strings_LastIndexByte s 47 (by omega) W
  rw [hkl]
  have hm : max (k : Int).toNat 1 = max k 1 := by rw [Int.toNat_natCast]
  rw [hm]
  clear hS hs hpo hb hL hok ho hr hkl hpl htl hm z1
  unfold P.cells at *
  go_enter Tryz.func12, Tryz.ntmps12
  go_wp2_with fail
  refine (CK.out _ H0.out.bw).mono ?_
  rintro e W1 ⟨rfl, d1⟩
  have HX1 : Hid (Wp w q (.slice a n c) W1) := H0.out.later d1
  clear d1 H0 CK
  obtain ⟨k0, k1, k2, k3, k4, k5, k6, k7, k8, k9, k10, k11, k12⟩ := Blk.cells13 (q := q) HX1.out.bx
  go_wp2_with fail
  refine (CP.out _ HX1.out.bw).mono ?_
  rintro e W2 ⟨rfl, d2⟩
  have HX2 : Hid (Below w.heap.size w W2) := HX1.out.bw.trans (d2.mono HX1.out.bw.size)
  clear d2 HX1 CP k0 k1 k2 k3 k4 k5 k6 k7 k8 k9 k10 k11 k12
  go_wp2_with fail
  refine (CL.out _).mono ?_
  rintro e W3 ⟨rfl, hW⟩
  have hW2 := hW.symm
  subst hW2
  clear CL
  by_cases hk0 : k = 0
  ·subst hk0
   have e1 : max 0 1 = 1 := rfl
   go_wp2
   go_ret
   exact ⟨rfl, HX2.out⟩
  ·have e1 : max k 1 = k := by omega
   have e2 : ¬ ((k : Int) < 1) := by omega
   have e3 : (1 : Int) ≤ (k : Int) := by omega
   go_wp2
   go_ret
   exact ⟨by show Ending.returned (Value.string (s.extract 0 (max (k : Int) 1).toNat)) = _; rw [show (max (k : Int) 1).toNat = max k 1 by omega], HX2.out⟩
end Go.Proofs.YtnfhajhdpdidlaaGreatDoor
end
section
namespace Go.Proofs.YtnfhajhdpdidlaaGreatDoor
open Go.RowKit Go.Shelf
def bsP (q : P) : P := { q with hf := false, fr := ⟨#[]⟩ }
end Go.Proofs.YtnfhajhdpdidlaaGreatDoor
end
section
namespace Go.Proofs.YtnfhajhdpdidlaaGreatDoor
open Go.RowKit Go.Shelf
def orgV (q : P) : Array Value := if ownZ q.sc < 0 then #[.string ⟨#[]⟩, .int .i64 0, .string ⟨#[]⟩, .int .i64 0, .int .i64 0] else #[.string q.sc, .int .i64 q.hk, .string q.hn, .int .i64 q.ha, .int .i64 (if q.po < 0 then ownZ q.sc else q.po)]
def orgB (b : Bool) (q : P) : Array Value := if b = true then orgV q else #[.string ⟨#[]⟩, .int .i64 0, .string ⟨#[]⟩, .int .i64 0, .int .i64 0]
structure To (w : World) (A C : Array Value) (W : World) : Prop where
 make ::
 b1 : Blk w.heap.size A 31 W
 b2 : Blk (w.heap.size + 1) C 48 W
 bw : Below w.heap.size w W
theorem To.start (w : World) (A C : Array Value) : To w A C ((w.alloc (.cells A 31)).alloc (.cells C 48)) where
 b1 := Blk.alloc (Blk.new w _ _) _
 b2 := by
  have := Blk.new (w.alloc (.cells A 31)) C 48
  rw [show (w.alloc (Obj.cells A 31)).heap.size = w.heap.size + 1 by simp] at this
  exact this
 bw := ((Below.refl _ w).alloc (Nat.le_refl _) _).alloc (by simp) _
theorem To.later {w W W' : World} {A C : Array Value} (h : To w A C W) (b : Below W.heap.size W W') : To w A C W' := ⟨h.b1.below b h.b1.lt, h.b2.below b h.b2.lt, h.bw.trans (b.mono h.bw.size)⟩
theorem Blk.cells5 {g : Nat} {x0 x1 x2 x3 x4 : Value} {t : TypeId} {W : World} (h : Blk g #[x0, x1, x2, x3, x4] t W) :
  W.cell? ⟨g, 0, none⟩ = some x0 ∧ W.cell? ⟨g, 1, none⟩ = some x1 ∧ W.cell? ⟨g, 2, none⟩ = some x2 ∧ W.cell? ⟨g, 3, none⟩ = some x3 ∧ W.cell? ⟨g, 4, none⟩ = some x4 := ⟨h.cell 0, h.cell 1, h.cell 2, h.cell 3, h.cell 4⟩
theorem below_put5 {B g : Nat} {w W : World} (b : Below B w W) (hB : B ≤ g) (v0 v1 v2 v3 v4 : Value) : Below B w (((((W.setCell ⟨g, 0, none⟩ v0).setCell ⟨g, 1, none⟩ v1).setCell ⟨g, 2, none⟩ v2).setCell ⟨g, 3, none⟩ v3).setCell ⟨g, 4, none⟩ v4) :=
 ((((b.setCell (p := ⟨g, 0, none⟩) hB v0).setCell (p := ⟨g, 1, none⟩) hB v1).setCell (p := ⟨g, 2, none⟩) hB v2).setCell (p := ⟨g, 3, none⟩) hB v3).setCell (p := ⟨g, 4, none⟩) hB v4
theorem blk_put5 {k g : Nat} {A : Array Value} {t : TypeId} {W : World} (h : Blk k A t W) (hk : k ≠ g) (v0 v1 v2 v3 v4 : Value) : Blk k A t (((((W.setCell ⟨g, 0, none⟩ v0).setCell ⟨g, 1, none⟩ v1).setCell ⟨g, 2, none⟩ v2).setCell ⟨g, 3, none⟩ v3).setCell ⟨g, 4, none⟩ v4) :=
 ((((h.other g 0 v0 hk).other g 1 v1 hk).other g 2 v2 hk).other g 3 v3 hk).other g 4 v4 hk
def Sc (g : Nat) (q : P) (a : Option Addr) (n c : Nat) (W : World) : Prop := W.cell? ⟨g, 0, none⟩ = some (.string q.sc) ∧ W.cell? ⟨g, 1, none⟩ = some (.string q.us) ∧ W.cell? ⟨g, 2, none⟩ = some (.string q.pw) ∧ W.cell? ⟨g, 3, none⟩ = some (.int .i64 q.hk) ∧ W.cell? ⟨g, 4, none⟩ = some (.string q.hn) ∧ W.cell? ⟨g, 5, none⟩ = some (.int .i64 q.ha) ∧ W.cell? ⟨g, 6, none⟩ = some (.int .i64 q.po) ∧ W.cell? ⟨g, 7, none⟩ = some (.slice a n c) ∧ W.cell? ⟨g, 8, none⟩ = some (.string q.op) ∧ W.cell? ⟨g, 9, none⟩ = some (.bool q.hq) ∧ W.cell? ⟨g, 10, none⟩ = some (.string q.qu) ∧ W.cell? ⟨g, 11, none⟩ = some (.bool q.hf) ∧ W.cell? ⟨g, 12, none⟩ = some (.string q.fr)
theorem Sc.of {g n c : Nat} {q : P} {a : Option Addr} {W : World} {t : TypeId} (h : Blk g (q.cells (.slice a n c)) t W) : Sc g q a n c W := Blk.cells13a h
theorem x1 {α : Type} {l : List α} {i : Nat} (h : i < l.toArray.size) : l.toArray[i] = l[i]'(by simpa using h) := List.getElem_toArray h
theorem x2 {α : Type} {a : α} {l : List α} : (a :: l)[0] = a := rfl
theorem x3 {α : Type} {a : α} {l : List α} {i : Nat} (h : i + 1 < (a :: l).length) : (a :: l)[i + 1] = l[i]'(by simpa using h) := rfl
theorem x4 {α : Type} (l : List α) (i : Nat) (a : α) : l.toArray.setIfInBounds i a = (l.set i a).toArray := List.setIfInBounds_toArray ..
theorem x5 {α : Type} {x a : α} {l : List α} : (x :: l).set 0 a = a :: l := rfl
theorem x6 {α : Type} {x a : α} {l : List α} {n : Nat} : (x :: l).set (n + 1) a = x :: l.set n a := rfl
theorem tk {P : Program} {ops : Array Oper} {Q : Exit → Act → World → Prop} {md : Region.Mode} {S : World → Prop} (i : Nat) {oi : Oper} {v : Value} {fuel : Nat} {listed : Array Bool} {a : Act} {w : World} (hi : ops[i]? = some oi) (h3 : (Region.noSelect ops && Region.free md ops listed i && (Region.ready md ops listed).contains i) = true) (hQ : ∀ c a w, Q (.panic c) (a.put oi.dst v) w → Q (.panic c) a w) (hw : Region.wanted oi (yielded ops a.tmps) = true) (hy : ∀ w, S w → (execOp a.eval oi).run P w = .ok (.value v) w) (hS : S w) (h : wpAnyH P md ops Q S fuel (listed.setIfInBounds i true) (a.put oi.dst v) w) : wpAnyH P md ops Q S (fuel + 1) listed a w := by
 rw [Bool.and_eq_true, Bool.and_eq_true] at h3
 exact wpAnyH_take hi h3.1.1 h3.1.2 h3.2 hQ (Or.inl ⟨hw, hy⟩) hS h
theorem l4OriginNone (q : P) (a : Option Addr) (n c : Nat) (w : World) (ho : ownZ q.sc < 0) :
  Calls Tryz.prog 82 #[.agg (q.cells (.slice a n c))] w fun e w' => e = .returned (.agg #[.string ⟨#[]⟩, .int .i64 0, .string ⟨#[]⟩, .int .i64 0, .int .i64 0]) ∧ Below w.heap.size w w' := by
 have CO : Hid (∀ W, Calls Tryz.prog 62 #[.string q.sc] W fun e w' => e = .returned (.int .i64 (ownZ q.sc)) ∧ w' = W) := fun W => l3Own q.sc W
 obtain ⟨V, hV⟩ : ∃ V, V = (w.alloc (.cells (q.cells (.slice a n c)) 31)).alloc (.cells #[.string ⟨#[]⟩, .int .i64 0, .string ⟨#[]⟩, .int .i64 0, .int .i64 0] 48) := ⟨_, rfl⟩
 have H0 : Hid (To w (q.cells (.slice a n c)) #[.string ⟨#[]⟩, .int .i64 0, .string ⟨#[]⟩, .int .i64 0, .int .i64 0] V) := by show To _ _ _ _; rw [hV]; exact To.start w _ _
 unfold P.cells at *
 go_enter Tryz.func82, Tryz.ntmps82
 go_upto_region 1 with fail
 rw [← hV]
 clear hV
 have H1 := H0
 clear H0
 obtain ⟨k0, k1, k2, k3, k4, k5, k6, k7, k8, k9, k10, k11, k12⟩ := Blk.cells13a H1.out.b1
 obtain ⟨e0, e1, e2, e3, e4⟩ := Blk.cells5 H1.out.b2
 have fr := H1.out.b2.free
 go_wp2_with fail
 refine (CO.out _).mono ?_
 rintro e W9 ⟨rfl, hW⟩
 have hW2 := hW.symm
 subst hW2
 clear hW
 have HFIN : Hid (Below w.heap.size w (((((V.setCell ⟨w.heap.size + 1, 0, none⟩ (.string ⟨#[]⟩)).setCell ⟨w.heap.size + 1, 1, none⟩ (.int .i64 0)).setCell ⟨w.heap.size + 1, 2, none⟩ (.string ⟨#[]⟩)).setCell ⟨w.heap.size + 1, 3, none⟩ (.int .i64 0)).setCell ⟨w.heap.size + 1, 4, none⟩ (.int .i64 0))) := below_put5 H1.out.bw (by omega) _ _ _ _ _
 clear H1
 go_wp2
 exact bodyPost_ret (v := .agg #[.string ⟨#[]⟩, .int .i64 0, .string ⟨#[]⟩, .int .i64 0, .int .i64 0]) (by simp [results, Tryz.results82, go_sem, e0, e1, e2, e3, e4]) rfl ⟨rfl, HFIN.out⟩
theorem l4OriginOwn (q : P) (a : Option Addr) (n c : Nat) (w : World) (ho : ¬ ownZ q.sc < 0) (hp : q.po < 0) :
  Calls Tryz.prog 82 #[.agg (q.cells (.slice a n c))] w fun e w' => e = .returned (.agg #[.string q.sc, .int .i64 q.hk, .string q.hn, .int .i64 q.ha, .int .i64 (ownZ q.sc)]) ∧ Below w.heap.size w w' := by
 have CO : Hid (∀ W, Calls Tryz.prog 62 #[.string q.sc] W fun e w' => e = .returned (.int .i64 (ownZ q.sc)) ∧ w' = W) := fun W => l3Own q.sc W
 obtain ⟨V, hV⟩ : ∃ V, V = (w.alloc (.cells (q.cells (.slice a n c)) 31)).alloc (.cells #[.string ⟨#[]⟩, .int .i64 0, .string ⟨#[]⟩, .int .i64 0, .int .i64 0] 48) := ⟨_, rfl⟩
 have H0 : Hid (To w (q.cells (.slice a n c)) #[.string ⟨#[]⟩, .int .i64 0, .string ⟨#[]⟩, .int .i64 0, .int .i64 0] V) := by show To _ _ _ _; rw [hV]; exact To.start w _ _
 unfold P.cells at *
 go_enter Tryz.func82, Tryz.ntmps82
 go_upto_region 1 with fail
 rw [← hV]
 clear hV
 have H1 := H0
 clear H0
 obtain ⟨k0, k1, k2, k3, k4, k5, k6, k7, k8, k9, k10, k11, k12⟩ := Blk.cells13a H1.out.b1
 obtain ⟨e0, e1, e2, e3, e4⟩ := Blk.cells5 H1.out.b2
 have fr := H1.out.b2.free
 go_wp2_with fail
 refine (CO.out _).mono ?_
 rintro e W9 ⟨rfl, hW⟩
 have hW2 := hW.symm
 subst hW2
 clear hW
 go_wp2_with fail
 refine (CO.out _).mono ?_
 rintro e W9 ⟨rfl, hW⟩
 have hW2 := hW.symm
 subst hW2
 clear hW
 have HFIN : Hid (Below w.heap.size w (((((V.setCell ⟨w.heap.size + 1, 0, none⟩ (.string q.sc)).setCell ⟨w.heap.size + 1, 1, none⟩ (.int .i64 q.hk)).setCell ⟨w.heap.size + 1, 2, none⟩ (.string q.hn)).setCell ⟨w.heap.size + 1, 3, none⟩ (.int .i64 q.ha)).setCell ⟨w.heap.size + 1, 4, none⟩ (.int .i64 (ownZ q.sc)))) := below_put5 H1.out.bw (by omega) _ _ _ _ _
 clear H1
 go_wp2
 exact bodyPost_ret (v := .agg #[.string q.sc, .int .i64 q.hk, .string q.hn, .int .i64 q.ha, .int .i64 (ownZ q.sc)]) (by simp [results, Tryz.results82, go_sem, e0, e1, e2, e3, e4]) rfl ⟨rfl, HFIN.out⟩
theorem l4OriginPort (q : P) (a : Option Addr) (n c : Nat) (w : World) (ho : ¬ ownZ q.sc < 0) (hp : ¬ q.po < 0) :
  Calls Tryz.prog 82 #[.agg (q.cells (.slice a n c))] w fun e w' => e = .returned (.agg #[.string q.sc, .int .i64 q.hk, .string q.hn, .int .i64 q.ha, .int .i64 (q.po)]) ∧ Below w.heap.size w w' := by
 have CO : Hid (∀ W, Calls Tryz.prog 62 #[.string q.sc] W fun e w' => e = .returned (.int .i64 (ownZ q.sc)) ∧ w' = W) := fun W => l3Own q.sc W
 obtain ⟨V, hV⟩ : ∃ V, V = (w.alloc (.cells (q.cells (.slice a n c)) 31)).alloc (.cells #[.string ⟨#[]⟩, .int .i64 0, .string ⟨#[]⟩, .int .i64 0, .int .i64 0] 48) := ⟨_, rfl⟩
 have H0 : Hid (To w (q.cells (.slice a n c)) #[.string ⟨#[]⟩, .int .i64 0, .string ⟨#[]⟩, .int .i64 0, .int .i64 0] V) := by show To _ _ _ _; rw [hV]; exact To.start w _ _
 unfold P.cells at *
 go_enter Tryz.func82, Tryz.ntmps82
 go_upto_region 1 with fail
 rw [← hV]
 clear hV
 have H1 := H0
 clear H0
 obtain ⟨k0, k1, k2, k3, k4, k5, k6, k7, k8, k9, k10, k11, k12⟩ := Blk.cells13a H1.out.b1
 obtain ⟨e0, e1, e2, e3, e4⟩ := Blk.cells5 H1.out.b2
 have fr := H1.out.b2.free
 go_wp2_with fail
 refine (CO.out _).mono ?_
 rintro e W9 ⟨rfl, hW⟩
 have hW2 := hW.symm
 subst hW2
 clear hW
 have HFIN : Hid (Below w.heap.size w (((((V.setCell ⟨w.heap.size + 1, 0, none⟩ (.string q.sc)).setCell ⟨w.heap.size + 1, 1, none⟩ (.int .i64 q.hk)).setCell ⟨w.heap.size + 1, 2, none⟩ (.string q.hn)).setCell ⟨w.heap.size + 1, 3, none⟩ (.int .i64 q.ha)).setCell ⟨w.heap.size + 1, 4, none⟩ (.int .i64 (q.po)))) := below_put5 H1.out.bw (by omega) _ _ _ _ _
 clear H1
 go_wp2
 exact bodyPost_ret (v := .agg #[.string q.sc, .int .i64 q.hk, .string q.hn, .int .i64 q.ha, .int .i64 (q.po)]) (by simp [results, Tryz.results82, go_sem, e0, e1, e2, e3, e4]) rfl ⟨rfl, HFIN.out⟩
theorem l4Origin (q : P) (a : Option Addr) (n c : Nat) (w : World) :
  Calls Tryz.prog 82 #[.agg (q.cells (.slice a n c))] w fun e w' => e = .returned (.agg (orgV q)) ∧ Below w.heap.size w w' := by
 unfold orgV
 by_cases ho : ownZ q.sc < 0
 ·rw [if_pos ho]; exact l4OriginNone q a n c w ho
 ·rw [if_neg ho]
  by_cases hp : q.po < 0
  ·rw [if_pos hp]; exact l4OriginOwn q a n c w ho hp
  ·rw [if_neg hp]; exact l4OriginPort q a n c w ho hp
theorem orgV_shape (q : P) : ∃ s k t x p, orgV q = #[.string s, .int .i64 k, .string t, .int .i64 x, .int .i64 p] := by
 unfold orgV
 split <;> exact ⟨_, _, _, _, _, rfl⟩
theorem specOriginOf (q : P) (a : Option Addr) (n c : Nat) (w : World) (hS : StrsOf a n q.ps w) (hs : q.tot ≤ 1048576) (hpo : q.po ≤ 9223372036854775807) (b : Bool) (hb : b = true ↔ okP q) :
  Calls Tryz.prog 30 #[.agg (q.cells (.slice a n c))] w fun e w' => e = .returned (.agg (orgB b q)) ∧ Below w.heap.size w w' := by
 have CK : Hid (∀ W, Below w.heap.size w W → Calls Tryz.prog 31 #[.agg (q.cells (.slice a n c))] W fun e w' => e = .returned (.bool b) ∧ Below W.heap.size W w') := fun W d => specUrlOk q a n c W (hS.later d) hs hpo b hb
 obtain ⟨s, k, t, x, p, hv⟩ := orgV_shape q
 have CL : Hid (∀ W, Calls Tryz.prog 82 #[.agg (q.cells (.slice a n c))] W fun e w' => e = .returned (.agg #[.string s, .int .i64 k, .string t, .int .i64 x, .int .i64 p]) ∧ Below W.heap.size W w') := fun W => by rw [← hv]; exact l4Origin q a n c W
 unfold orgB
 rw [hv]
 clear hv
 cases b with
 | false =>
  rw [if_neg (by decide)]
  obtain ⟨V, hV⟩ : ∃ V, V = (w.alloc (.cells (q.cells (.slice a n c)) 31)).alloc (.cells #[.string ⟨#[]⟩, .int .i64 0, .string ⟨#[]⟩, .int .i64 0, .int .i64 0] 48) := ⟨_, rfl⟩
  have H0 : Hid (To w (q.cells (.slice a n c)) #[.string ⟨#[]⟩, .int .i64 0, .string ⟨#[]⟩, .int .i64 0, .int .i64 0] V) := by show To _ _ _ _; rw [hV]; exact To.start w _ _
  clear hS hs hpo hb CL
  unfold P.cells at *
  go_enter Tryz.func30, Tryz.ntmps30
  go_upto_region 1 with fail
  rw [← hV]
  clear hV
  obtain ⟨k0, k1, k2, k3, k4, k5, k6, k7, k8, k9, k10, k11, k12⟩ := Blk.cells13a H0.out.b1
  go_wp2_with fail
  refine (CK.out _ H0.out.bw).mono ?_
  rintro e W1 ⟨rfl, d1⟩
  have H1 : Hid (To w (q.cells (.slice a n c)) #[.string ⟨#[]⟩, .int .i64 0, .string ⟨#[]⟩, .int .i64 0, .int .i64 0] W1) := H0.out.later d1
  clear d1 H0 CK k0 k1 k2 k3 k4 k5 k6 k7 k8 k9 k10 k11 k12
  obtain ⟨e0, e1, e2, e3, e4⟩ := Blk.cells5 H1.out.b2
  have fr := H1.out.b2.free
  have HFIN : Hid (Below w.heap.size w (((((W1.setCell ⟨w.heap.size + 1, 0, none⟩ (.string ⟨#[]⟩)).setCell ⟨w.heap.size + 1, 1, none⟩ (.int .i64 0)).setCell ⟨w.heap.size + 1, 2, none⟩ (.string ⟨#[]⟩)).setCell ⟨w.heap.size + 1, 3, none⟩ (.int .i64 0)).setCell ⟨w.heap.size + 1, 4, none⟩ (.int .i64 0))) := below_put5 H1.out.bw (by omega) _ _ _ _ _
  clear H1
  go_wp2
  exact bodyPost_ret (v := .agg #[.string ⟨#[]⟩, .int .i64 0, .string ⟨#[]⟩, .int .i64 0, .int .i64 0]) (by simp [results, Tryz.results30, go_sem, e0, e1, e2, e3, e4]) rfl ⟨rfl, HFIN.out⟩
 | true =>
  rw [if_pos rfl]
  obtain ⟨V, hV⟩ : ∃ V, V = (w.alloc (.cells (q.cells (.slice a n c)) 31)).alloc (.cells #[.string ⟨#[]⟩, .int .i64 0, .string ⟨#[]⟩, .int .i64 0, .int .i64 0] 48) := ⟨_, rfl⟩
  have H0 : Hid (To w (q.cells (.slice a n c)) #[.string ⟨#[]⟩, .int .i64 0, .string ⟨#[]⟩, .int .i64 0, .int .i64 0] V) := by show To _ _ _ _; rw [hV]; exact To.start w _ _
  clear hS hs hpo hb
  unfold P.cells at *
  go_enter Tryz.func30, Tryz.ntmps30
  go_upto_region 1 with fail
  rw [← hV]
  clear hV
  obtain ⟨k0, k1, k2, k3, k4, k5, k6, k7, k8, k9, k10, k11, k12⟩ := Blk.cells13a H0.out.b1
  go_wp2_with fail
  refine (CK.out _ H0.out.bw).mono ?_
  rintro e W1 ⟨rfl, d1⟩
  have H1 : Hid (To w (q.cells (.slice a n c)) #[.string ⟨#[]⟩, .int .i64 0, .string ⟨#[]⟩, .int .i64 0, .int .i64 0] W1) := H0.out.later d1
  clear d1 H0 CK k0 k1 k2 k3 k4 k5 k6 k7 k8 k9 k10 k11 k12
  obtain ⟨k0, k1, k2, k3, k4, k5, k6, k7, k8, k9, k10, k11, k12⟩ := Blk.cells13a H1.out.b1
  go_wp2_with fail
  refine (CL.out _).mono ?_
  rintro e W2 ⟨rfl, d2⟩
  have H2 : Hid (To w (q.cells (.slice a n c)) #[.string ⟨#[]⟩, .int .i64 0, .string ⟨#[]⟩, .int .i64 0, .int .i64 0] W2) := H1.out.later d2
  clear d2 H1 CL k0 k1 k2 k3 k4 k5 k6 k7 k8 k9 k10 k11 k12
  have H1 := H2
  clear H2
  obtain ⟨e0, e1, e2, e3, e4⟩ := Blk.cells5 H1.out.b2
  have fr := H1.out.b2.free
  have HFIN : Hid (Below w.heap.size w (((((W2.setCell ⟨w.heap.size + 1, 0, none⟩ (.string s)).setCell ⟨w.heap.size + 1, 1, none⟩ (.int .i64 k)).setCell ⟨w.heap.size + 1, 2, none⟩ (.string t)).setCell ⟨w.heap.size + 1, 3, none⟩ (.int .i64 x)).setCell ⟨w.heap.size + 1, 4, none⟩ (.int .i64 p))) := below_put5 H1.out.bw (by omega) _ _ _ _ _
  clear H1
  go_wp2
  exact bodyPost_ret (v := .agg #[.string s, .int .i64 k, .string t, .int .i64 x, .int .i64 p]) (by simp [results, Tryz.results30, go_sem, e0, e1, e2, e3, e4]) rfl ⟨rfl, HFIN.out⟩
theorem implOriginNo (q : P) (a : Option Addr) (n c : Nat) (w : World) (hL : Lean1 w) (hS : StrsOf a n q.ps w) (hs : q.tot ≤ 1048576) (hpo : q.po ≤ 9223372036854775807) (hok : ¬ okP q) :
  Calls Tryz.prog 29 #[.agg (q.cells (.slice a n c))] w fun e w' => e = .returned (.agg #[.string ⟨#[]⟩, .int .i64 0, .string ⟨#[]⟩, .int .i64 0, .int .i64 0]) ∧ Below w.heap.size w w' := by
 obtain ⟨r, hr⟩ : ∃ r, r = getP (writL q) := ⟨_, rfl⟩
 have CA : Hid (∀ W, Below w.heap.size w W → Calls Tryz.prog 81 #[.agg (q.cells (.slice a n c))] W fun e w' => ∃ a2 n2 c2, e = .returned (.tuple #[.agg (r.cells (.slice a2 n2 c2)), .bool false]) ∧ Below W.heap.size W w') := fun W d => by
  refine (urlAgain q a n c W (hL.below d) (hS.later d) hs hpo false (by simp [hok])).mono ?_
  rintro e w' ⟨v, rfl, o, d2⟩
  rw [← hr] at o ⊢
  obtain ⟨a2, c2, hv, hc, s2⟩ := o.strs
  subst hv
  exact ⟨a2, _, c2, rfl, d2⟩
 obtain ⟨V, hV⟩ : ∃ V, V = (w.alloc (.cells (q.cells (.slice a n c)) 31)).alloc (.cells #[.string ⟨#[]⟩, .int .i64 0, .string ⟨#[]⟩, .int .i64 0, .int .i64 0] 48) := ⟨_, rfl⟩
 have H0 : Hid (To w (q.cells (.slice a n c)) #[.string ⟨#[]⟩, .int .i64 0, .string ⟨#[]⟩, .int .i64 0, .int .i64 0] V) := by show To _ _ _ _; rw [hV]; exact To.start w _ _
 clear hS hs hpo hok hL hr
 unfold P.cells at *
 go_enter Tryz.func29, Tryz.ntmps29
 go_upto_region 1 with fail
 rw [← hV]
 clear hV
 obtain ⟨k0, k1, k2, k3, k4, k5, k6, k7, k8, k9, k10, k11, k12⟩ := Blk.cells13a H0.out.b1
 go_wp2_with fail
 refine (CA.out _ H0.out.bw).mono ?_
 rintro e W1 ⟨a2, n2, c2, rfl, d1⟩
 have H2 : Hid (To w (q.cells (.slice a n c)) #[.string ⟨#[]⟩, .int .i64 0, .string ⟨#[]⟩, .int .i64 0, .int .i64 0] W1) := H0.out.later d1
 clear d1 H0 CA k0 k1 k2 k3 k4 k5 k6 k7 k8 k9 k10 k11 k12
 obtain ⟨V1, hV1⟩ : ∃ V, V = W1.alloc (.cells #[(.string r.sc), (.string r.us), (.string r.pw), (.int .i64 r.hk), (.string r.hn), (.int .i64 r.ha), (.int .i64 r.po), (.slice a2 n2 c2), (.string r.op), (.bool r.hq), (.string r.qu), (.bool r.hf), (.string r.fr)] 31) := ⟨_, rfl⟩
 have H1 : Hid (To w (q.cells (.slice a n c)) #[.string ⟨#[]⟩, .int .i64 0, .string ⟨#[]⟩, .int .i64 0, .int .i64 0] V1) := by show To _ _ _ _; rw [hV1]; exact H2.out.later ((Below.refl _ W1).alloc (Nat.le_refl _) _)
 clear H2
 go_upto_region 2 with fail
 rw [← hV1]
 clear hV1
 obtain ⟨e0, e1, e2, e3, e4⟩ := Blk.cells5 H1.out.b2
 have fr := H1.out.b2.free
 have HFIN : Hid (Below w.heap.size w (((((V1.setCell ⟨w.heap.size + 1, 0, none⟩ (.string ⟨#[]⟩)).setCell ⟨w.heap.size + 1, 1, none⟩ (.int .i64 0)).setCell ⟨w.heap.size + 1, 2, none⟩ (.string ⟨#[]⟩)).setCell ⟨w.heap.size + 1, 3, none⟩ (.int .i64 0)).setCell ⟨w.heap.size + 1, 4, none⟩ (.int .i64 0))) := below_put5 H1.out.bw (by omega) _ _ _ _ _
 clear H1
 go_wp2
 exact bodyPost_ret (v := .agg #[.string ⟨#[]⟩, .int .i64 0, .string ⟨#[]⟩, .int .i64 0, .int .i64 0]) (by simp [results, Tryz.results29, go_sem, e0, e1, e2, e3, e4]) rfl ⟨rfl, HFIN.out⟩
theorem implOriginNone (q : P) (a : Option Addr) (n c : Nat) (w : World) (hL : Lean1 w) (hS : StrsOf a n q.ps w) (hs : q.tot ≤ 1048576) (hpo : q.po ≤ 9223372036854775807) (hok : okP q) (ho : ownZ q.sc < 0) :
  Calls Tryz.prog 29 #[.agg (q.cells (.slice a n c))] w fun e w' => e = .returned (.agg #[.string ⟨#[]⟩, .int .i64 0, .string ⟨#[]⟩, .int .i64 0, .int .i64 0]) ∧ Below w.heap.size w w' := by
 have CA : Hid (∀ W, Below w.heap.size w W → Calls Tryz.prog 81 #[.agg (q.cells (.slice a n c))] W fun e w' => ∃ a2 c2, e = .returned (.tuple #[.agg (q.cells (.slice a2 n c2)), .bool true]) ∧ StrsOf a2 n q.ps w' ∧ Below W.heap.size W w') := fun W d => by
  refine (urlAgain q a n c W (hL.below d) (hS.later d) hs hpo true (by simp [hok])).mono ?_
  rintro e w' ⟨v, rfl, o, d2⟩
  rw [hok.2] at o ⊢
  obtain ⟨a2, c2, hv, hc, s2⟩ := o.strs
  rw [← hS.1] at hv s2
  subst hv
  exact ⟨a2, c2, rfl, s2, d2⟩
 have CH : Hid (∀ a2 c2 W, Calls Tryz.prog 67 #[.agg (q.cells (.slice a2 n c2))] W fun e w' => e = .returned (.bool false) ∧ Below W.heap.size W w') := fun a2 c2 W => by
  have := hasHost (q.u (.slice a2 n c2)) W
  rw [show decide (0 ≤ ownZ (q.u (.slice a2 n c2)).sc) = false from decide_eq_false (by show ¬ 0 ≤ ownZ q.sc; omega)] at this
  exact this
 obtain ⟨V, hV⟩ : ∃ V, V = (w.alloc (.cells (q.cells (.slice a n c)) 31)).alloc (.cells #[.string ⟨#[]⟩, .int .i64 0, .string ⟨#[]⟩, .int .i64 0, .int .i64 0] 48) := ⟨_, rfl⟩
 have H0 : Hid (To w (q.cells (.slice a n c)) #[.string ⟨#[]⟩, .int .i64 0, .string ⟨#[]⟩, .int .i64 0, .int .i64 0] V) := by show To _ _ _ _; rw [hV]; exact To.start w _ _
 clear hS hs hpo hok hL ho
 unfold P.cells at *
 go_enter Tryz.func29, Tryz.ntmps29
 go_upto_region 1 with fail
 rw [← hV]
 clear hV
 obtain ⟨k0, k1, k2, k3, k4, k5, k6, k7, k8, k9, k10, k11, k12⟩ := Blk.cells13a H0.out.b1
 go_wp2_with fail
 refine (CA.out _ H0.out.bw).mono ?_
 rintro e W1 ⟨a2, c2, rfl, s2, d1⟩
 have H2 : Hid (To w (q.cells (.slice a n c)) #[.string ⟨#[]⟩, .int .i64 0, .string ⟨#[]⟩, .int .i64 0, .int .i64 0] W1) := H0.out.later d1
 clear d1 H0 CA k0 k1 k2 k3 k4 k5 k6 k7 k8 k9 k10 k11 k12
 obtain ⟨V1, hV1⟩ : ∃ V, V = W1.alloc (.cells #[(.string q.sc), (.string q.us), (.string q.pw), (.int .i64 q.hk), (.string q.hn), (.int .i64 q.ha), (.int .i64 q.po), (.slice a2 n c2), (.string q.op), (.bool q.hq), (.string q.qu), (.bool q.hf), (.string q.fr)] 31) := ⟨_, rfl⟩
 have DV : Hid (Below W1.heap.size W1 V1) := by show Below _ _ _; rw [hV1]; exact (Below.refl _ W1).alloc (Nat.le_refl _) _
 have H1 : Hid (To w (q.cells (.slice a n c)) #[.string ⟨#[]⟩, .int .i64 0, .string ⟨#[]⟩, .int .i64 0, .int .i64 0] V1) := H2.out.later DV.out
 have HG : Hid (Blk W1.heap.size (q.cells (.slice a2 n c2)) 31 V1) := by show Blk _ _ _ _; rw [hV1]; exact Blk.new W1 _ _
 have HS1 : Hid (StrsOf a2 n q.ps V1) := s2.later DV.out
 have HGL : Hid (w.heap.size + 1 < W1.heap.size) := H2.out.b2.lt
 clear H2 s2 DV
 go_upto_region 2 with fail
 rw [← hV1]
 clear hV1
 generalize W1.heap.size = g at *
 obtain ⟨k0, k1, k2, k3, k4, k5, k6, k7, k8, k9, k10, k11, k12⟩ := Blk.cells13a HG.out
 go_wp2_with fail
 refine (CH.out a2 c2 _).mono ?_
 rintro e W3 ⟨rfl, d3⟩
 have H3 : Hid (To w (q.cells (.slice a n c)) #[.string ⟨#[]⟩, .int .i64 0, .string ⟨#[]⟩, .int .i64 0, .int .i64 0] W3) := H1.out.later d3
 have HG3 : Hid (Blk g (q.cells (.slice a2 n c2)) 31 W3) := HG.out.below d3 HG.out.lt
 have HS3 : Hid (StrsOf a2 n q.ps W3) := HS1.out.later d3
 clear d3 H1 HG HS1 CH k0 k1 k2 k3 k4 k5 k6 k7 k8 k9 k10 k11 k12
 have H1 := H3
 clear H3 HG3 HS3
 obtain ⟨e0, e1, e2, e3, e4⟩ := Blk.cells5 H1.out.b2
 have fr := H1.out.b2.free
 have HFIN : Hid (Below w.heap.size w (((((W3.setCell ⟨w.heap.size + 1, 0, none⟩ (.string ⟨#[]⟩)).setCell ⟨w.heap.size + 1, 1, none⟩ (.int .i64 0)).setCell ⟨w.heap.size + 1, 2, none⟩ (.string ⟨#[]⟩)).setCell ⟨w.heap.size + 1, 3, none⟩ (.int .i64 0)).setCell ⟨w.heap.size + 1, 4, none⟩ (.int .i64 0))) := below_put5 H1.out.bw (by omega) _ _ _ _ _
 clear H1
 go_wp2
 exact bodyPost_ret (v := .agg #[.string ⟨#[]⟩, .int .i64 0, .string ⟨#[]⟩, .int .i64 0, .int .i64 0]) (by simp [results, Tryz.results29, go_sem, e0, e1, e2, e3, e4]) rfl ⟨rfl, HFIN.out⟩
theorem implOriginYes (q : P) (a : Option Addr) (n c : Nat) (w : World) (hL : Lean1 w) (hS : StrsOf a n q.ps w) (hs : q.tot ≤ 1048576) (hpo : q.po ≤ 9223372036854775807) (hok : okP q) (ho : ¬ ownZ q.sc < 0) (t : Int) (ht : t = if q.po < 0 then ownZ q.sc else q.po) :
  Calls Tryz.prog 29 #[.agg (q.cells (.slice a n c))] w fun e w' => e = .returned (.agg #[.string q.sc, .int .i64 q.hk, .string q.hn, .int .i64 q.ha, .int .i64 t]) ∧ Below w.heap.size w w' := by
 have CA : Hid (∀ W, Below w.heap.size w W → Calls Tryz.prog 81 #[.agg (q.cells (.slice a n c))] W fun e w' => ∃ a2 c2, e = .returned (.tuple #[.agg (q.cells (.slice a2 n c2)), .bool true]) ∧ StrsOf a2 n q.ps w' ∧ Below W.heap.size W w') := fun W d => by
  refine (urlAgain q a n c W (hL.below d) (hS.later d) hs hpo true (by simp [hok])).mono ?_
  rintro e w' ⟨v, rfl, o, d2⟩
  rw [hok.2] at o ⊢
  obtain ⟨a2, c2, hv, hc, s2⟩ := o.strs
  rw [← hS.1] at hv s2
  subst hv
  exact ⟨a2, c2, rfl, s2, d2⟩
 have CH : Hid (∀ a2 c2 W, Calls Tryz.prog 67 #[.agg (q.cells (.slice a2 n c2))] W fun e w' => e = .returned (.bool true) ∧ Below W.heap.size W w') := fun a2 c2 W => by
  have := hasHost (q.u (.slice a2 n c2)) W
  rw [show decide (0 ≤ ownZ (q.u (.slice a2 n c2)).sc) = true from decide_eq_true (by show 0 ≤ ownZ q.sc; omega)] at this
  exact this
 have CP : Hid (∀ a2 c2 W, Below w.heap.size w W → StrsOf a2 n q.ps W → Calls Tryz.prog 15 #[.agg (q.cells (.slice a2 n c2))] W fun e w' => e = .returned (.int .i64 t) ∧ Below W.heap.size W w') := fun a2 c2 W d s => by
  have := implPortOf q a2 n c2 W (hL.below d) s hs hpo true (by simp [hok])
  rw [if_pos rfl, ← ht] at this
  exact this
 obtain ⟨V, hV⟩ : ∃ V, V = (w.alloc (.cells (q.cells (.slice a n c)) 31)).alloc (.cells #[.string ⟨#[]⟩, .int .i64 0, .string ⟨#[]⟩, .int .i64 0, .int .i64 0] 48) := ⟨_, rfl⟩
 have H0 : Hid (To w (q.cells (.slice a n c)) #[.string ⟨#[]⟩, .int .i64 0, .string ⟨#[]⟩, .int .i64 0, .int .i64 0] V) := by show To _ _ _ _; rw [hV]; exact To.start w _ _
 clear hS hs hpo hok hL ho ht
 unfold P.cells at *
 go_enter Tryz.func29, Tryz.ntmps29
 go_upto_region 1 with fail
 rw [← hV]
 clear hV
 obtain ⟨k0, k1, k2, k3, k4, k5, k6, k7, k8, k9, k10, k11, k12⟩ := Blk.cells13a H0.out.b1
 go_wp2_with fail
 refine (CA.out _ H0.out.bw).mono ?_
 rintro e W1 ⟨a2, c2, rfl, s2, d1⟩
 have H2 : Hid (To w (q.cells (.slice a n c)) #[.string ⟨#[]⟩, .int .i64 0, .string ⟨#[]⟩, .int .i64 0, .int .i64 0] W1) := H0.out.later d1
 clear d1 H0 CA k0 k1 k2 k3 k4 k5 k6 k7 k8 k9 k10 k11 k12
 obtain ⟨V1, hV1⟩ : ∃ V, V = W1.alloc (.cells #[(.string q.sc), (.string q.us), (.string q.pw), (.int .i64 q.hk), (.string q.hn), (.int .i64 q.ha), (.int .i64 q.po), (.slice a2 n c2), (.string q.op), (.bool q.hq), (.string q.qu), (.bool q.hf), (.string q.fr)] 31) := ⟨_, rfl⟩
 have DV : Hid (Below W1.heap.size W1 V1) := by show Below _ _ _; rw [hV1]; exact (Below.refl _ W1).alloc (Nat.le_refl _) _
 have H1 : Hid (To w (q.cells (.slice a n c)) #[.string ⟨#[]⟩, .int .i64 0, .string ⟨#[]⟩, .int .i64 0, .int .i64 0] V1) := H2.out.later DV.out
 have HG : Hid (Blk W1.heap.size (q.cells (.slice a2 n c2)) 31 V1) := by show Blk _ _ _ _; rw [hV1]; exact Blk.new W1 _ _
 have HS1 : Hid (StrsOf a2 n q.ps V1) := s2.later DV.out
 have HGL : Hid (w.heap.size + 1 < W1.heap.size) := H2.out.b2.lt
 clear H2 s2 DV
 go_upto_region 2 with fail
 rw [← hV1]
 clear hV1
 generalize W1.heap.size = g at *
 obtain ⟨k0, k1, k2, k3, k4, k5, k6, k7, k8, k9, k10, k11, k12⟩ := Blk.cells13a HG.out
 go_wp2_with fail
 refine (CH.out a2 c2 _).mono ?_
 rintro e W3 ⟨rfl, d3⟩
 have H3 : Hid (To w (q.cells (.slice a n c)) #[.string ⟨#[]⟩, .int .i64 0, .string ⟨#[]⟩, .int .i64 0, .int .i64 0] W3) := H1.out.later d3
 have HG3 : Hid (Blk g (q.cells (.slice a2 n c2)) 31 W3) := HG.out.below d3 HG.out.lt
 have HS3 : Hid (StrsOf a2 n q.ps W3) := HS1.out.later d3
 clear d3 H1 HG HS1 CH k0 k1 k2 k3 k4 k5 k6 k7 k8 k9 k10 k11 k12
 obtain ⟨k0, k1, k2, k3, k4, k5, k6, k7, k8, k9, k10, k11, k12⟩ := Blk.cells13a HG3.out
 obtain ⟨e0, e1, e2, e3, e4⟩ := Blk.cells5 H3.out.b2
 have fr := H3.out.b2.free
 have HGW : Hid (∀ W, Below W3.heap.size W3 W → Blk g (q.cells (.slice a2 n c2)) 31 W ∧ To w (q.cells (.slice a n c)) #[.string ⟨#[]⟩, .int .i64 0, .string ⟨#[]⟩, .int .i64 0, .int .i64 0] W) := fun W d => ⟨HG3.out.below d HG3.out.lt, H3.out.later d⟩
 have CP3 : Hid (∀ W, Below W3.heap.size W3 W → Calls Tryz.prog 15 #[.agg #[(.string q.sc), (.string q.us), (.string q.pw), (.int .i64 q.hk), (.string q.hn), (.int .i64 q.ha), (.int .i64 q.po), (.slice a2 n c2), (.string q.op), (.bool q.hq), (.string q.qu), (.bool q.hf), (.string q.fr)]] W fun e w' => e = .returned (.int .i64 t) ∧ Below W.heap.size W w') := fun W d => CP.out a2 c2 W (H3.out.later d).bw (HS3.out.later d)
 clear H3 HG3 HS3 CP k0 k1 k2 k3 k4 k5 k6 k7 k8 k9 k10 k11 k12 e0 e1 e2 e3 e4 fr
 go_wp2
 refine wp_region_held_drew (S := (fun W => Below w.heap.size w W ∧ Sc g q a2 n c2 W)) (by kernel_rfl) (⟨(HGW.out _ (Below.refl _ _).drew).2.bw, Sc.of (HGW.out _ (Below.refl _ _).drew).1⟩) (fun hHeld => ?_)
 refine tk 0 rfl (by kernel_rfl) (fun _ _ _ h => h) (by rfl) (fun w hSw => by (try dsimp only [Sc] at hSw); go_simp; try (with_reducible rfl)) (by assumption) ?_
 simp only [Act.put, x1, x2, x3, x4, x5, x6]
 refine tk 1 rfl (by kernel_rfl) (fun _ _ _ h => h) (by rfl) (fun w hSw => by (try dsimp only [Sc] at hSw); go_simp; try (with_reducible rfl)) (by assumption) ?_
 simp only [Act.put, x1, x2, x3, x4, x5, x6]
 refine tk 2 rfl (by kernel_rfl) (fun _ _ _ h => h) (by rfl) (fun w hSw => by (try dsimp only [Sc] at hSw); go_simp; try (with_reducible rfl)) (by assumption) ?_
 simp only [Act.put, x1, x2, x3, x4, x5, x6]
 refine tk 3 rfl (by kernel_rfl) (fun _ _ _ h => h) (by rfl) (fun w hSw => by (try dsimp only [Sc] at hSw); go_simp; try (with_reducible rfl)) (by assumption) ?_
 simp only [Act.put, x1, x2, x3, x4, x5, x6]
 refine tk 4 rfl (by kernel_rfl) (fun _ _ _ h => h) (by rfl) (fun w hSw => by (try dsimp only [Sc] at hSw); go_simp; try (with_reducible rfl)) (by assumption) ?_
 simp only [Act.put, x1, x2, x3, x4, x5, x6]
 refine wpAnyH_ready (rs := [5]) (by kernel_rfl) (by simp) ?_
 refine AllReadyH.cons (o := _) rfl (fun K hK => ?_) AllReadyH.nil
 go_simp
 refine (CP3.out _ ((Below.refl _ _).drew)).mono ?_
 rintro e W5 ⟨rfl, d5⟩
 have D5 : Hid (Below W3.heap.size W3 W5) := ((Below.refl _ W3).drew).trans d5
 have H5 := HGW.out _ D5.out
 obtain ⟨e0, e1, e2, e3, e4⟩ := Blk.cells5 H5.2.b2
 have fr := H5.2.b2.free
 refine hK.out _ _ (⟨H5.2.bw, Sc.of H5.1⟩) (fun hHeld => ?_)
 clear hK K
 try simp only [Act.put, x1, x2, x3, x4, x5, x6]
 refine tk 6 rfl (by kernel_rfl) (fun _ _ _ h => h) (by rfl) (fun w hSw => by (try dsimp only [Sc] at hSw); go_simp; try (with_reducible rfl)) (by assumption) ?_
 simp only [Act.put, x1, x2, x3, x4, x5, x6]
 refine wpAnyH_ready (rs := [7]) (by kernel_rfl) (by simp) ?_
 refine AllReadyH.cons (o := _) rfl (fun K hK => ?_) AllReadyH.nil
 go_simp
 skip
 refine hK.out _ _ (⟨below_put5 H5.2.bw (by omega) _ _ _ _ _, Sc.of (blk_put5 H5.1 (by have := HGL.out; omega) _ _ _ _ _)⟩) (fun hHeld => ?_)
 clear hK K
 try simp only [Act.put, x1, x2, x3, x4, x5, x6]
 refine wpAnyH_done (by kernel_rfl) ?_ _
 have HFIN : Hid (Below w.heap.size w (((((W5.setCell ⟨w.heap.size + 1, 0, none⟩ (.string q.sc)).setCell ⟨w.heap.size + 1, 1, none⟩ (.int .i64 q.hk)).setCell ⟨w.heap.size + 1, 2, none⟩ (.string q.hn)).setCell ⟨w.heap.size + 1, 3, none⟩ (.int .i64 q.ha)).setCell ⟨w.heap.size + 1, 4, none⟩ (.int .i64 t))) := below_put5 H5.2.bw (by omega) _ _ _ _ _
 clear H5 D5 hHeld HGW CP3
 go_wp2
 exact bodyPost_ret (v := .agg #[.string q.sc, .int .i64 q.hk, .string q.hn, .int .i64 q.ha, .int .i64 t]) (by simp [results, Tryz.results29, go_sem, e0, e1, e2, e3, e4]) rfl ⟨rfl, HFIN.out⟩
theorem implOriginOf (q : P) (a : Option Addr) (n c : Nat) (w : World) (hL : Lean1 w) (hS : StrsOf a n q.ps w) (hs : q.tot ≤ 1048576) (hpo : q.po ≤ 9223372036854775807) (b : Bool) (hb : b = true ↔ okP q) :
  Calls Tryz.prog 29 #[.agg (q.cells (.slice a n c))] w fun e w' => e = .returned (.agg (orgB b q)) ∧ Below w.heap.size w w' := by
 unfold orgB orgV
 by_cases hok : okP q
 ·rw [if_pos (hb.2 hok)]
  by_cases ho : ownZ q.sc < 0
  ·rw [if_pos ho]; exact implOriginNone q a n c w hL hS hs hpo hok ho
  ·rw [if_neg ho]; exact implOriginYes q a n c w hL hS hs hpo hok ho _ rfl
 ·rw [if_neg (fun h => hok (hb.1 h))]
  exact implOriginNo q a n c w hL hS hs hpo hok
end Go.Proofs.YtnfhajhdpdidlaaGreatDoor
end
section
namespace Go.Proofs.YtnfhajhdpdidlaaGreatDoor
open Go.RowKit Go.Shelf
open Go.Maps (Keyed)
open Go.WideMaps (KeyLaw)
theorem org_wide : (match Tryz.prog.underlying 48 with | some (.array _ _) | some (.struct _) => true | _ => false) = true := by kernel_rfl
theorem org_keyType : Tryz.prog.keyType 48 = true := by kernel_rfl
theorem org_size : decide (3 ≤ Tryz.prog.types.size) = true := by kernel_rfl
theorem org_row : decide (48 < Tryz.prog.types.size) = true := by kernel_rfl
theorem org_laidOut : laidOutB Tryz.prog = true := by kernel_rfl
theorem org_law : KeyLaw Tryz.prog 48 := deep_law_laid org_laidOut (m := 6) (by omega) (of_decide_eq_true org_row) (by kernel_rfl) org_wide
def orgKey (s : ByteArray) (k : Int) (t : ByteArray) (x p : Int) : Lit := .string (keyBytes [.string s.data.toList, .int .i64 k, .string t.data.toList, .int .i64 x, .int .i64 p])
theorem cells_o : Tryz.prog.cellsOf 48 = 5 := by kernel_rfl
theorem cells_h : Tryz.prog.cellsOf 29 = 3 := by kernel_rfl
theorem cells_s : Tryz.prog.cellsOf 9 = 1 := by kernel_rfl
theorem cells_i : Tryz.prog.cellsOf 3 = 1 := by kernel_rfl
theorem org_key (s : ByteArray) (k : Int) (t : ByteArray) (x p : Int) (hs : s.size ≤ maxLen) (hk : (Lit.int .i64 k).wf = true) (ht : t.size ≤ maxLen) (hx : (Lit.int .i64 x).wf = true) (hp : (Lit.int .i64 p).wf = true) :
  keyOf Tryz.prog 48 (.agg #[.string s, .int .i64 k, .string t, .int .i64 x, .int .i64 p]) = some (orgKey s k t x p) := by
 obtain ⟨m, hm⟩ := Nat.exists_eq_add_of_le (of_decide_eq_true org_size)
 have hl : Tryz.prog.keyLits (Tryz.prog.types.size + 1) 48 [.string s, .int .i64 k, .string t, .int .i64 x, .int .i64 p] = some [.string s.data.toList, .int .i64 k, .string t.data.toList, .int .i64 x, .int .i64 p] := by
  rw [hm, show 3 + m + 1 = m + 1 + 1 + 1 + 1 by omega]
  simp [Program.keyLits, Tryz.underlying48, Tryz.underlying29, Tryz.underlying9, Tryz.underlying3, cells_o, cells_h, cells_s, cells_i, hs, hk, ht, hx, hp]
  rw [if_pos (by decide)]
  rfl
 unfold keyOf
 have hf : (Value.agg #[.string s, .int .i64 k, .string t, .int .i64 x, .int .i64 p]).formed Tryz.prog 48 = true := by
  simp [Value.formed, Tryz.underlying48, cells_o]
 rw [Tryz.underlying48]
 simp only [org_keyType, hf, Bool.and_self, if_true]
 have e : (Value.agg #[.string s, .int .i64 k, .string t, .int .i64 x, .int .i64 p]).cells.toList = [.string s, .int .i64 k, .string t, .int .i64 x, .int .i64 p] := by simp [Value.cells]
 rw [e, hl]
 rfl
end Go.Proofs.YtnfhajhdpdidlaaGreatDoor
end
