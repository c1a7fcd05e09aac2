/- spec.OriginOf, impl.OriginOf: the origin of an address; laws.eqOrigin. An origin as a key of a map. impl.originCounts, impl.OriginSame: how often an origin is met. impl.HostOk; laws.toHost, laws.szHost. -/
import Derived.Test.YtnfhajhdpdidlaaGreatDoorB42
import Derived.Test.YtnfhajhdpdidlaaGreatDoorB09
import Derived.Maps.OwnOps
import Derived.Maps.Views
import Derived.WideKeyEntry
import Derived.DeepKeys4
import Derived.Test.YtnfhajhdpdidlaaGreatDoorCFnExactRefer03
import Derived.Test.YtnfhajhdpdidlaaGreatDoorB16
import Derived.Deep.RegionHeld3
import Derived.Test.YtnfhajhdpdidlaaGreatDoorB33
set_option linter.unusedVariables false
set_option linter.unusedSimpArgs false
set_option maxHeartbeats 8000000
set_option maxRecDepth 100000
section
namespace Go.Proofs.YtnfhajhdpdidlaaGreatDoor
open Go.RowKit Go.Shelf
def orgV (q : P) : Array Value := if ownZ q.sc < 0 then #[.string ⟨#[]⟩, .int .i64 0, .string ⟨#[]⟩, .int .i64 0, .int .i64 0] else #[.string q.sc, .int .i64 q.hk, .string q.hn, .int .i64 q.ha, .int .i64 (if q.po < 0 then ownZ q.sc else q.po)]
def orgB (b : Bool) (q : P) : Array Value := if b = true then orgV q else #[.string ⟨#[]⟩, .int .i64 0, .string ⟨#[]⟩, .int .i64 0, .int .i64 0]
structure To (w : World) (A C : Array Value) (W : World) : Prop where
 make ::
 b1 : Blk w.heap.size A 31 W
 b2 : Blk (w.heap.size + 1) C 48 W
 bw : Below w.heap.size w W
theorem To.start (w : World) (A C : Array Value) : To w A C ((w.alloc (.cells A 31)).alloc (.cells C 48)) where
 b1 := Blk.alloc (Blk.new w _ _) _
 b2 := by
  have := Blk.new (w.alloc (.cells A 31)) C 48
  rw [show (w.alloc (Obj.cells A 31)).heap.size = w.heap.size + 1 by simp] at this
  exact this
 bw := ((Below.refl _ w).alloc (Nat.le_refl _) _).alloc (by simp) _
theorem To.later {w W W' : World} {A C : Array Value} (h : To w A C W) (b : Below W.heap.size W W') : To w A C W' := ⟨h.b1.below b h.b1.lt, h.b2.below b h.b2.lt, h.bw.trans (b.mono h.bw.size)⟩
theorem Blk.cells5 {g : Nat} {x0 x1 x2 x3 x4 : Value} {t : TypeId} {W : World} (h : Blk g #[x0, x1, x2, x3, x4] t W) :
  W.cell? ⟨g, 0, none⟩ = some x0 ∧ W.cell? ⟨g, 1, none⟩ = some x1 ∧ W.cell? ⟨g, 2, none⟩ = some x2 ∧ W.cell? ⟨g, 3, none⟩ = some x3 ∧ W.cell? ⟨g, 4, none⟩ = some x4 := ⟨h.cell 0, h.cell 1, h.cell 2, h.cell 3, h.cell 4⟩
theorem below_put5 {B g : Nat} {w W : World} (b : Below B w W) (hB : B ≤ g) (v0 v1 v2 v3 v4 : Value) : Below B w (((((W.setCell ⟨g, 0, none⟩ v0).setCell ⟨g, 1, none⟩ v1).setCell ⟨g, 2, none⟩ v2).setCell ⟨g, 3, none⟩ v3).setCell ⟨g, 4, none⟩ v4) :=
 ((((b.setCell (p := ⟨g, 0, none⟩) hB v0).setCell (p := ⟨g, 1, none⟩) hB v1).setCell (p := ⟨g, 2, none⟩) hB v2).setCell (p := ⟨g, 3, none⟩) hB v3).setCell (p := ⟨g, 4, none⟩) hB v4
theorem blk_put5 {k g : Nat} {A : Array Value} {t : TypeId} {W : World} (h : Blk k A t W) (hk : k ≠ g) (v0 v1 v2 v3 v4 : Value) : Blk k A t (((((W.setCell ⟨g, 0, none⟩ v0).setCell ⟨g, 1, none⟩ v1).setCell ⟨g, 2, none⟩ v2).setCell ⟨g, 3, none⟩ v3).setCell ⟨g, 4, none⟩ v4) :=
 ((((h.other g 0 v0 hk).other g 1 v1 hk).other g 2 v2 hk).other g 3 v3 hk).other g 4 v4 hk
def Sc (g : Nat) (q : P) (a : Option Addr) (n c : Nat) (W : World) : Prop := W.cell? ⟨g, 0, none⟩ = some (.string q.sc) ∧ W.cell? ⟨g, 1, none⟩ = some (.string q.us) ∧ W.cell? ⟨g, 2, none⟩ = some (.string q.pw) ∧ W.cell? ⟨g, 3, none⟩ = some (.int .i64 q.hk) ∧ W.cell? ⟨g, 4, none⟩ = some (.string q.hn) ∧ W.cell? ⟨g, 5, none⟩ = some (.int .i64 q.ha) ∧ W.cell? ⟨g, 6, none⟩ = some (.int .i64 q.po) ∧ W.cell? ⟨g, 7, none⟩ = some (.slice a n c) ∧ W.cell? ⟨g, 8, none⟩ = some (.string q.op) ∧ W.cell? ⟨g, 9, none⟩ = some (.bool q.hq) ∧ W.cell? ⟨g, 10, none⟩ = some (.string q.qu) ∧ W.cell? ⟨g, 11, none⟩ = some (.bool q.hf) ∧ W.cell? ⟨g, 12, none⟩ = some (.string q.fr)
theorem Sc.of {g n c : Nat} {q : P} {a : Option Addr} {W : World} {t : TypeId} (h : Blk g (q.cells (.slice a n c)) t W) : Sc g q a n c W := Blk.cells13a h
theorem x1 {α : Type} {l : List α} {i : Nat} (h : i < l.toArray.size) : l.toArray[i] = l[i]'(by simpa using h) := List.getElem_toArray h
theorem x2 {α : Type} {a : α} {l : List α} : (a :: l)[0] = a := rfl
theorem x3 {α : Type} {a : α} {l : List α} {i : Nat} (h : i + 1 < (a :: l).length) : (a :: l)[i + 1] = l[i]'(by simpa using h) := rfl
theorem x4 {α : Type} (l : List α) (i : Nat) (a : α) : l.toArray.setIfInBounds i a = (l.set i a).toArray := List.setIfInBounds_toArray ..
theorem x5 {α : Type} {x a : α} {l : List α} : (x :: l).set 0 a = a :: l := rfl
theorem x6 {α : Type} {x a : α} {l : List α} {n : Nat} : (x :: l).set (n + 1) a = x :: l.set n a := rfl
theorem tk {P : Program} {ops : Array Oper} {Q : Exit → Act → World → Prop} {md : Region.Mode} {S : World → Prop} (i : Nat) {oi : Oper} {v : Value} {fuel : Nat} {listed : Array Bool} {a : Act} {w : World} (hi : ops[i]? = some oi) (h3 : (Region.noSelect ops && Region.free md ops listed i && (Region.ready md ops listed).contains i) = true) (hQ : ∀ c a w, Q (.panic c) (a.put oi.dst v) w → Q (.panic c) a w) (hw : Region.wanted oi (yielded ops a.tmps) = true) (hy : ∀ w, S w → (execOp a.eval oi).run P w = .ok (.value v) w) (hS : S w) (h : wpAnyH P md ops Q S fuel (listed.setIfInBounds i true) (a.put oi.dst v) w) : wpAnyH P md ops Q S (fuel + 1) listed a w := by
 rw [Bool.and_eq_true, Bool.and_eq_true] at h3
 exact wpAnyH_take hi h3.1.1 h3.1.2 h3.2 hQ (Or.inl ⟨hw, hy⟩) hS h
theorem l4OriginNone (q : P) (a : Option Addr) (n c : Nat) (w : World) (ho : ownZ q.sc < 0) :
  Calls Tryz.prog 82 #[.agg (q.cells (.slice a n c))] w fun e w' => e = .returned (.agg #[.string ⟨#[]⟩, .int .i64 0, .string ⟨#[]⟩, .int .i64 0, .int .i64 0]) ∧ Below w.heap.size w w' := by
 have CO : Hid (∀ W, Calls Tryz.prog 62 #[.string q.sc] W fun e w' => e = .returned (.int .i64 (ownZ q.sc)) ∧ w' = W) := fun W => l3Own q.sc W
 obtain ⟨V, hV⟩ : ∃ V, V = (w.alloc (.cells (q.cells (.slice a n c)) 31)).alloc (.cells #[.string ⟨#[]⟩, .int .i64 0, .string ⟨#[]⟩, .int .i64 0, .int .i64 0] 48) := ⟨_, rfl⟩
 have H0 : Hid (To w (q.cells (.slice a n c)) #[.string ⟨#[]⟩, .int .i64 0, .string ⟨#[]⟩, .int .i64 0, .int .i64 0] V) := by show To _ _ _ _; rw [hV]; exact To.start w _ _
 unfold P.cells at *
 go_enter Tryz.func82, Tryz.ntmps82
 go_upto_region 1 with fail
 rw [← hV]
 clear hV
 have H1 := H0
 clear H0
 obtain ⟨k0, k1, k2, k3, k4, k5, k6, k7, k8, k9, k10, k11, k12⟩ := Blk.cells13a H1.out.b1
 obtain ⟨e0, e1, e2, e3, e4⟩ := Blk.cells5 H1.out.b2
 have fr := H1.out.b2.free
 go_wp2_with fail
 refine (CO.out _).mono ?_
 rintro e W9 ⟨rfl, hW⟩
 have hW2 := hW.symm
 subst hW2
 clear hW
 have HFIN : Hid (Below w.heap.size w (((((V.setCell ⟨w.heap.size + 1, 0, none⟩ (.string ⟨#[]⟩)).setCell ⟨w.heap.size + 1, 1, none⟩ (.int .i64 0)).setCell ⟨w.heap.size + 1, 2, none⟩ (.string ⟨#[]⟩)).setCell ⟨w.heap.size + 1, 3, none⟩ (.int .i64 0)).setCell ⟨w.heap.size + 1, 4, none⟩ (.int .i64 0))) := below_put5 H1.out.bw (by omega) _ _ _ _ _
 clear H1
 go_wp2
 exact bodyPost_ret (v := .agg #[.string ⟨#[]⟩, .int .i64 0, .string ⟨#[]⟩, .int .i64 0, .int .i64 0]) (by simp [results, Tryz.results82, go_sem, e0, e1, e2, e3, e4]) rfl ⟨rfl, HFIN.out⟩
theorem l4OriginOwn (q : P) (a : Option Addr) (n c : Nat) (w : World) (ho : ¬ ownZ q.sc < 0) (hp : q.po < 0) :
  Calls Tryz.prog 82 #[.agg (q.cells (.slice a n c))] w fun e w' => e = .returned (.agg #[.string q.sc, .int .i64 q.hk, .string q.hn, .int .i64 q.ha, .int .i64 (ownZ q.sc)]) ∧ Below w.heap.size w w' := by
 have CO : Hid (∀ W, Calls Tryz.prog 62 #[.string q.sc] W fun e w' => e = .returned (.int .i64 (ownZ q.sc)) ∧ w' = W) := fun W => l3Own q.sc W
 obtain ⟨V, hV⟩ : ∃ V, V = (w.alloc (.cells (q.cells (.slice a n c)) 31)).alloc (.cells #[.string ⟨#[]⟩, .int .i64 0, .string ⟨#[]⟩, .int .i64 0, .int .i64 0] 48) := ⟨_, rfl⟩
 have H0 : Hid (To w (q.cells (.slice a n c)) #[.string ⟨#[]⟩, .int .i64 0, .string ⟨#[]⟩, .int .i64 0, .int .i64 0] V) := by show To _ _ _ _; rw [hV]; exact To.start w _ _
 unfold P.cells at *
 go_enter Tryz.func82, Tryz.ntmps82
 go_upto_region 1 with fail
 rw [← hV]
 clear hV
 have H1 := H0
 clear H0
 obtain ⟨k0, k1, k2, k3, k4, k5, k6, k7, k8, k9, k10, k11, k12⟩ := Blk.cells13a H1.out.b1
 obtain ⟨e0, e1, e2, e3, e4⟩ := Blk.cells5 H1.out.b2
 have fr := H1.out.b2.free
 go_wp2_with fail
 refine (CO.out _).mono ?_
 rintro e W9 ⟨rfl, hW⟩
 have hW2 := hW.symm
 subst hW2
 clear hW
 go_wp2_with fail
 refine (CO.out _).mono ?_
 rintro e W9 ⟨rfl, hW⟩
 have hW2 := hW.symm
 subst hW2
 clear hW
 have HFIN : Hid (Below w.heap.size w (((((V.setCell ⟨w.heap.size + 1, 0, none⟩ (.string q.sc)).setCell ⟨w.heap.size + 1, 1, none⟩ (.int .i64 q.hk)).setCell ⟨w.heap.size + 1, 2, none⟩ (.string q.hn)).setCell ⟨w.heap.size + 1, 3, none⟩ (.int .i64 q.ha)).setCell ⟨w.heap.size + 1, 4, none⟩ (.int .i64 (ownZ q.sc)))) := below_put5 H1.out.bw (by omega) _ _ _ _ _
 clear H1
 go_wp2
 exact bodyPost_ret (v := .agg #[.string q.sc, .int .i64 q.hk, .string q.hn, .int .i64 q.ha, .int .i64 (ownZ q.sc)]) (by simp [results, Tryz.results82, go_sem, e0, e1, e2, e3, e4]) rfl ⟨rfl, HFIN.out⟩
theorem l4OriginPort (q : P) (a : Option Addr) (n c : Nat) (w : World) (ho : ¬ ownZ q.sc < 0) (hp : ¬ q.po < 0) :
  Calls Tryz.prog 82 #[.agg (q.cells (.slice a n c))] w fun e w' => e = .returned (.agg #[.string q.sc, .int .i64 q.hk, .string q.hn, .int .i64 q.ha, .int .i64 (q.po)]) ∧ Below w.heap.size w w' := by
 have CO : Hid (∀ W, Calls Tryz.prog 62 #[.string q.sc] W fun e w' => e = .returned (.int .i64 (ownZ q.sc)) ∧ w' = W) := fun W => l3Own q.sc W
 obtain ⟨V, hV⟩ : ∃ V, V = (w.alloc (.cells (q.cells (.slice a n c)) 31)).alloc (.cells #[.string ⟨#[]⟩, .int .i64 0, .string ⟨#[]⟩, .int .i64 0, .int .i64 0] 48) := ⟨_, rfl⟩
 have H0 : Hid (To w (q.cells (.slice a n c)) #[.string ⟨#[]⟩, .int .i64 0, .string ⟨#[]⟩, .int .i64 0, .int .i64 0] V) := by show To _ _ _ _; rw [hV]; exact To.start w _ _
 unfold P.cells at *
 go_enter Tryz.func82, Tryz.ntmps82
 go_upto_region 1 with fail
 rw [← hV]
 clear hV
 have H1 := H0
 clear H0
 obtain ⟨k0, k1, k2, k3, k4, k5, k6, k7, k8, k9, k10, k11, k12⟩ := Blk.cells13a H1.out.b1
 obtain ⟨e0, e1, e2, e3, e4⟩ := Blk.cells5 H1.out.b2
 have fr := H1.out.b2.free
 go_wp2_with fail
 refine (CO.out _).mono ?_
 rintro e W9 ⟨rfl, hW⟩
 have hW2 := hW.symm
 subst hW2
 clear hW
 have HFIN : Hid (Below w.heap.size w (((((V.setCell ⟨w.heap.size + 1, 0, none⟩ (.string q.sc)).setCell ⟨w.heap.size + 1, 1, none⟩ (.int .i64 q.hk)).setCell ⟨w.heap.size + 1, 2, none⟩ (.string q.hn)).setCell ⟨w.heap.size + 1, 3, none⟩ (.int .i64 q.ha)).setCell ⟨w.heap.size + 1, 4, none⟩ (.int .i64 (q.po)))) := below_put5 H1.out.bw (by omega) _ _ _ _ _
 clear H1
 go_wp2
 exact bodyPost_ret (v := .agg #[.string q.sc, .int .i64 q.hk, .string q.hn, .int .i64 q.ha, .int .i64 (q.po)]) (by simp [results, Tryz.results82, go_sem, e0, e1, e2, e3, e4]) rfl ⟨rfl, HFIN.out⟩
theorem l4Origin (q : P) (a : Option Addr) (n c : Nat) (w : World) :
  Calls Tryz.prog 82 #[.agg (q.cells (.slice a n c))] w fun e w' => e = .returned (.agg (orgV q)) ∧ Below w.heap.size w w' := by
 unfold orgV
 by_cases ho : ownZ q.sc < 0
 ·rw [if_pos ho]; exact l4OriginNone q a n c w ho
 ·rw [if_neg ho]
  by_cases hp : q.po < 0
  ·rw [if_pos hp]; exact l4OriginOwn q a n c w ho hp
  ·rw [if_neg hp]; exact l4OriginPort q a n c w ho hp
theorem orgV_shape (q : P) : ∃ s k t x p, orgV q = #[.string s, .int .i64 k, .string t, .int .i64 x, .int .i64 p] := by
 unfold orgV
 split <;> exact ⟨_, _, _, _, _, rfl⟩
theorem specOriginOf (q : P) (a : Option Addr) (n c : Nat) (w : World) (hS : StrsOf a n q.ps w) (hs : q.tot ≤ 1048576) (hpo : q.po ≤ 9223372036854775807) (b : Bool) (hb : b = true ↔ okP q) :
  Calls Tryz.prog 30 #[.agg (q.cells (.slice a n c))] w fun e w' => e = .returned (.agg (orgB b q)) ∧ Below w.heap.size w w' := by
 have CK : Hid (∀ W, Below w.heap.size w W → Calls Tryz.prog 31 #[.agg (q.cells (.slice a n c))] W fun e w' => e = .returned (.bool b) ∧ Below W.heap.size W w') := fun W d => specUrlOk q a n c W (hS.later d) hs hpo b hb
 obtain ⟨s, k, t, x, p, hv⟩ := orgV_shape q
 have CL : Hid (∀ W, Calls Tryz.prog 82 #[.agg (q.cells (.slice a n c))] W fun e w' => e = .returned (.agg #[.string s, .int .i64 k, .string t, .int .i64 x, .int .i64 p]) ∧ Below W.heap.size W w') := fun W => by rw [← hv]; exact l4Origin q a n c W
 unfold orgB
 rw [hv]
 clear hv
 cases b with
 | false =>
  rw [if_neg (by decide)]
  obtain ⟨V, hV⟩ : ∃ V, V = (w.alloc (.cells (q.cells (.slice a n c)) 31)).alloc (.cells #[.string ⟨#[]⟩, .int .i64 0, .string ⟨#[]⟩, .int .i64 0, .int .i64 0] 48) := ⟨_, rfl⟩
  have H0 : Hid (To w (q.cells (.slice a n c)) #[.string ⟨#[]⟩, .int .i64 0, .string ⟨#[]⟩, .int .i64 0, .int .i64 0] V) := by show To _ _ _ _; rw [hV]; exact To.start w _ _
  clear hS hs hpo hb CL
  unfold P.cells at *
  go_enter Tryz.func30, Tryz.ntmps30
  go_upto_region 1 with fail
  rw [← hV]
  clear hV
  obtain ⟨k0, k1, k2, k3, k4, k5, k6, k7, k8, k9, k10, k11, k12⟩ := Blk.cells13a H0.out.b1
  go_wp2_with fail
  refine (CK.out _ H0.out.bw).mono ?_
  rintro e W1 ⟨rfl, d1⟩
  have H1 : Hid (To w (q.cells (.slice a n c)) #[.string ⟨#[]⟩, .int .i64 0, .string ⟨#[]⟩, .int .i64 0, .int .i64 0] W1) := H0.out.later d1
  clear d1 H0 CK k0 k1 k2 k3 k4 k5 k6 k7 k8 k9 k10 k11 k12
  obtain ⟨e0, e1, e2, e3, e4⟩ := Blk.cells5 H1.out.b2
  have fr := H1.out.b2.free
  have HFIN : Hid (Below w.heap.size w (((((W1.setCell ⟨w.heap.size + 1, 0, none⟩ (.string ⟨#[]⟩)).setCell ⟨w.heap.size + 1, 1, none⟩ (.int .i64 0)).setCell ⟨w.heap.size + 1, 2, none⟩ (.string ⟨#[]⟩)).setCell ⟨w.heap.size + 1, 3, none⟩ (.int .i64 0)).setCell ⟨w.heap.size + 1, 4, none⟩ (.int .i64 0))) := below_put5 H1.out.bw (by omega) _ _ _ _ _
  clear H1
  go_wp2
  exact bodyPost_ret (v := .agg #[.string ⟨#[]⟩, .int .i64 0, .string ⟨#[]⟩, .int .i64 0, .int .i64 0]) (by simp [results, Tryz.results30, go_sem, e0, e1, e2, e3, e4]) rfl ⟨rfl, HFIN.out⟩
 | true =>
  rw [if_pos rfl]
  obtain ⟨V, hV⟩ : ∃ V, V = (w.alloc (.cells (q.cells (.slice a n c)) 31)).alloc (.cells #[.string ⟨#[]⟩, .int .i64 0, .string ⟨#[]⟩, .int .i64 0, .int .i64 0] 48) := ⟨_, rfl⟩
  have H0 : Hid (To w (q.cells (.slice a n c)) #[.string ⟨#[]⟩, .int .i64 0, .string ⟨#[]⟩, .int .i64 0, .int .i64 0] V) := by show To _ _ _ _; rw [hV]; exact To.start w _ _
  clear hS hs hpo hb
  unfold P.cells at *
  go_enter Tryz.func30, Tryz.ntmps30
  go_upto_region 1 with fail
  rw [← hV]
  clear hV
  obtain ⟨k0, k1, k2, k3, k4, k5, k6, k7, k8, k9, k10, k11, k12⟩ := Blk.cells13a H0.out.b1
  go_wp2_with fail
  refine (CK.out _ H0.out.bw).mono ?_
  rintro e W1 ⟨rfl, d1⟩
  have H1 : Hid (To w (q.cells (.slice a n c)) #[.string ⟨#[]⟩, .int .i64 0, .string ⟨#[]⟩, .int .i64 0, .int .i64 0] W1) := H0.out.later d1
  clear d1 H0 CK k0 k1 k2 k3 k4 k5 k6 k7 k8 k9 k10 k11 k12
  obtain ⟨k0, k1, k2, k3, k4, k5, k6, k7, k8, k9, k10, k11, k12⟩ := Blk.cells13a H1.out.b1
  go_wp2_with fail
  refine (CL.out _).mono ?_
  rintro e W2 ⟨rfl, d2⟩
  have H2 : Hid (To w (q.cells (.slice a n c)) #[.string ⟨#[]⟩, .int .i64 0, .string ⟨#[]⟩, .int .i64 0, .int .i64 0] W2) := H1.out.later d2
  clear d2 H1 CL k0 k1 k2 k3 k4 k5 k6 k7 k8 k9 k10 k11 k12
  have H1 := H2
  clear H2
  obtain ⟨e0, e1, e2, e3, e4⟩ := Blk.cells5 H1.out.b2
  have fr := H1.out.b2.free
  have HFIN : Hid (Below w.heap.size w (((((W2.setCell ⟨w.heap.size + 1, 0, none⟩ (.string s)).setCell ⟨w.heap.size + 1, 1, none⟩ (.int .i64 k)).setCell ⟨w.heap.size + 1, 2, none⟩ (.string t)).setCell ⟨w.heap.size + 1, 3, none⟩ (.int .i64 x)).setCell ⟨w.heap.size + 1, 4, none⟩ (.int .i64 p))) := below_put5 H1.out.bw (by omega) _ _ _ _ _
  clear H1
  go_wp2
  exact bodyPost_ret (v := .agg #[.string s, .int .i64 k, .string t, .int .i64 x, .int .i64 p]) (by simp [results, Tryz.results30, go_sem, e0, e1, e2, e3, e4]) rfl ⟨rfl, HFIN.out⟩
theorem implOriginNo (q : P) (a : Option Addr) (n c : Nat) (w : World) (hL : Lean1 w) (hS : StrsOf a n q.ps w) (hs : q.tot ≤ 1048576) (hpo : q.po ≤ 9223372036854775807) (hok : ¬ okP q) :
  Calls Tryz.prog 29 #[.agg (q.cells (.slice a n c))] w fun e w' => e = .returned (.agg #[.string ⟨#[]⟩, .int .i64 0, .string ⟨#[]⟩, .int .i64 0, .int .i64 0]) ∧ Below w.heap.size w w' := by
 obtain ⟨r, hr⟩ : ∃ r, r = getP (writL q) := ⟨_, rfl⟩
 have CA : Hid (∀ W, Below w.heap.size w W → Calls Tryz.prog 81 #[.agg (q.cells (.slice a n c))] W fun e w' => ∃ a2 n2 c2, e = .returned (.tuple #[.agg (r.cells (.slice a2 n2 c2)), .bool false]) ∧ Below W.heap.size W w') := fun W d => by
  refine (urlAgain q a n c W (hL.below d) (hS.later d) hs hpo false (by simp [hok])).mono ?_
  rintro e w' ⟨v, rfl, o, d2⟩
  rw [← hr] at o ⊢
  obtain ⟨a2, c2, hv, hc, s2⟩ := o.strs
  subst hv
  exact ⟨a2, _, c2, rfl, d2⟩
 obtain ⟨V, hV⟩ : ∃ V, V = (w.alloc (.cells (q.cells (.slice a n c)) 31)).alloc (.cells #[.string ⟨#[]⟩, .int .i64 0, .string ⟨#[]⟩, .int .i64 0, .int .i64 0] 48) := ⟨_, rfl⟩
 have H0 : Hid (To w (q.cells (.slice a n c)) #[.string ⟨#[]⟩, .int .i64 0, .string ⟨#[]⟩, .int .i64 0, .int .i64 0] V) := by show To _ _ _ _; rw [hV]; exact To.start w _ _
 clear hS hs hpo hok hL hr
 unfold P.cells at *
 go_enter Tryz.func29, Tryz.ntmps29
 go_upto_region 1 with fail
 rw [← hV]
 clear hV
 obtain ⟨k0, k1, k2, k3, k4, k5, k6, k7, k8, k9, k10, k11, k12⟩ := Blk.cells13a H0.out.b1
 go_wp2_with fail
 refine (CA.out _ H0.out.bw).mono ?_
 rintro e W1 ⟨a2, n2, c2, rfl, d1⟩
 have H2 : Hid (To w (q.cells (.slice a n c)) #[.string ⟨#[]⟩, .int .i64 0, .string ⟨#[]⟩, .int .i64 0, .int .i64 0] W1) := H0.out.later d1
 clear d1 H0 CA k0 k1 k2 k3 k4 k5 k6 k7 k8 k9 k10 k11 k12
 obtain ⟨V1, hV1⟩ : ∃ V, V = W1.alloc (.cells #[(.string r.sc), (.string r.us), (.string r.pw), (.int .i64 r.hk), (.string r.hn), (.int .i64 r.ha), (.int .i64 r.po), (.slice a2 n2 c2), (.string r.op), (.bool r.hq), (.string r.qu), (.bool r.hf), (.string r.fr)] 31) := ⟨_, rfl⟩
 have H1 : Hid (To w (q.cells (.slice a n c)) #[.string ⟨#[]⟩, .int .i64 0, .string ⟨#[]⟩, .int .i64 0, .int .i64 0] V1) := by show To _ _ _ _; rw [hV1]; exact H2.out.later ((Below.refl _ W1).alloc (Nat.le_refl _) _)
 clear H2
 go_upto_region 2 with fail
 rw [← hV1]
 clear hV1
 obtain ⟨e0, e1, e2, e3, e4⟩ := Blk.cells5 H1.out.b2
 have fr := H1.out.b2.free
 have HFIN : Hid (Below w.heap.size w (((((V1.setCell ⟨w.heap.size + 1, 0, none⟩ (.string ⟨#[]⟩)).setCell ⟨w.heap.size + 1, 1, none⟩ (.int .i64 0)).setCell ⟨w.heap.size + 1, 2, none⟩ (.string ⟨#[]⟩)).setCell ⟨w.heap.size + 1, 3, none⟩ (.int .i64 0)).setCell ⟨w.heap.size + 1, 4, none⟩ (.int .i64 0))) := below_put5 H1.out.bw (by omega) _ _ _ _ _
 clear H1
 go_wp2
 exact bodyPost_ret (v := .agg #[.string ⟨#[]⟩, .int .i64 0, .string ⟨#[]⟩, .int .i64 0, .int .i64 0]) (by simp [results, Tryz.results29, go_sem, e0, e1, e2, e3, e4]) rfl ⟨rfl, HFIN.out⟩
theorem implOriginNone (q : P) (a : Option Addr) (n c : Nat) (w : World) (hL : Lean1 w) (hS : StrsOf a n q.ps w) (hs : q.tot ≤ 1048576) (hpo : q.po ≤ 9223372036854775807) (hok : okP q) (ho : ownZ q.sc < 0) :
  Calls Tryz.prog 29 #[.agg (q.cells (.slice a n c))] w fun e w' => e = .returned (.agg #[.string ⟨#[]⟩, .int .i64 0, .string ⟨#[]⟩, .int .i64 0, .int .i64 0]) ∧ Below w.heap.size w w' := by
 have CA : Hid (∀ W, Below w.heap.size w W → Calls Tryz.prog 81 #[.agg (q.cells (.slice a n c))] W fun e w' => ∃ a2 c2, e = .returned (.tuple #[.agg (q.cells (.slice a2 n c2)), .bool true]) ∧ StrsOf a2 n q.ps w' ∧ Below W.heap.size W w') := fun W d => by
  refine (urlAgain q a n c W (hL.below d) (hS.later d) hs hpo true (by simp [hok])).mono ?_
  rintro e w' ⟨v, rfl, o, d2⟩
  rw [hok.2] at o ⊢
  obtain ⟨a2, c2, hv, hc, s2⟩ := o.strs
  rw [← hS.1] at hv s2
  subst hv
  exact ⟨a2, c2, rfl, s2, d2⟩
 have CH : Hid (∀ a2 c2 W, Calls Tryz.prog 67 #[.agg (q.cells (.slice a2 n c2))] W fun e w' => e = .returned (.bool false) ∧ Below W.heap.size W w') := fun a2 c2 W => by
  have := hasHost (q.u (.slice a2 n c2)) W
  rw [show decide (0 ≤ ownZ (q.u (.slice a2 n c2)).sc) = false from decide_eq_false (by show ¬ 0 ≤ ownZ q.sc; omega)] at this
  exact this
 obtain ⟨V, hV⟩ : ∃ V, V = (w.alloc (.cells (q.cells (.slice a n c)) 31)).alloc (.cells #[.string ⟨#[]⟩, .int .i64 0, .string ⟨#[]⟩, .int .i64 0, .int .i64 0] 48) := ⟨_, rfl⟩
 have H0 : Hid (To w (q.cells (.slice a n c)) #[.string ⟨#[]⟩, .int .i64 0, .string ⟨#[]⟩, .int .i64 0, .int .i64 0] V) := by show To _ _ _ _; rw [hV]; exact To.start w _ _
 clear hS hs hpo hok hL ho
 unfold P.cells at *
 go_enter Tryz.func29, Tryz.ntmps29
 go_upto_region 1 with fail
 rw [← hV]
 clear hV
 obtain ⟨k0, k1, k2, k3, k4, k5, k6, k7, k8, k9, k10, k11, k12⟩ := Blk.cells13a H0.out.b1
 go_wp2_with fail
 refine (CA.out _ H0.out.bw).mono ?_
 rintro e W1 ⟨a2, c2, rfl, s2, d1⟩
 have H2 : Hid (To w (q.cells (.slice a n c)) #[.string ⟨#[]⟩, .int .i64 0, .string ⟨#[]⟩, .int .i64 0, .int .i64 0] W1) := H0.out.later d1
 clear d1 H0 CA k0 k1 k2 k3 k4 k5 k6 k7 k8 k9 k10 k11 k12
 obtain ⟨V1, hV1⟩ : ∃ V, V = W1.alloc (.cells #[(.string q.sc), (.string q.us), (.string q.pw), (.int .i64 q.hk), (.string q.hn), (.int .i64 q.ha), (.int .i64 q.po), (.slice a2 n c2), (.string q.op), (.bool q.hq), (.string q.qu), (.bool q.hf), (.string q.fr)] 31) := ⟨_, rfl⟩
 have DV : Hid (Below W1.heap.size W1 V1) := by show Below _ _ _; rw [hV1]; exact (Below.refl _ W1).alloc (Nat.le_refl _) _
 have H1 : Hid (To w (q.cells (.slice a n c)) #[.string ⟨#[]⟩, .int .i64 0, .string ⟨#[]⟩, .int .i64 0, .int .i64 0] V1) := H2.out.later DV.out
 have HG : Hid (Blk W1.heap.size (q.cells (.slice a2 n c2)) 31 V1) := by show Blk _ _ _ _; rw [hV1]; exact Blk.new W1 _ _
 have HS1 : Hid (StrsOf a2 n q.ps V1) := s2.later DV.out
 have HGL : Hid (w.heap.size + 1 < W1.heap.size) := H2.out.b2.lt
 clear H2 s2 DV
 go_upto_region 2 with fail
 rw [← hV1]
 clear hV1
 generalize W1.heap.size = g at *
 obtain ⟨k0, k1, k2, k3, k4, k5, k6, k7, k8, k9, k10, k11, k12⟩ := Blk.cells13a HG.out
 go_wp2_with fail
 refine (CH.out a2 c2 _).mono ?_
 rintro e W3 ⟨rfl, d3⟩
 have H3 : Hid (To w (q.cells (.slice a n c)) #[.string ⟨#[]⟩, .int .i64 0, .string ⟨#[]⟩, .int .i64 0, .int .i64 0] W3) := H1.out.later d3
 have HG3 : Hid (Blk g (q.cells (.slice a2 n c2)) 31 W3) := HG.out.below d3 HG.out.lt
 have HS3 : Hid (StrsOf a2 n q.ps W3) := HS1.out.later d3
 clear d3 H1 HG HS1 CH k0 k1 k2 k3 k4 k5 k6 k7 k8 k9 k10 k11 k12
 have H1 := H3
 clear H3 HG3 HS3
 obtain ⟨e0, e1, e2, e3, e4⟩ := Blk.cells5 H1.out.b2
 have fr := H1.out.b2.free
 have HFIN : Hid (Below w.heap.size w (((((W3.setCell ⟨w.heap.size + 1, 0, none⟩ (.string ⟨#[]⟩)).setCell ⟨w.heap.size + 1, 1, none⟩ (.int .i64 0)).setCell ⟨w.heap.size + 1, 2, none⟩ (.string ⟨#[]⟩)).setCell ⟨w.heap.size + 1, 3, none⟩ (.int .i64 0)).setCell ⟨w.heap.size + 1, 4, none⟩ (.int .i64 0))) := below_put5 H1.out.bw (by omega) _ _ _ _ _
 clear H1
 go_wp2
 exact bodyPost_ret (v := .agg #[.string ⟨#[]⟩, .int .i64 0, .string ⟨#[]⟩, .int .i64 0, .int .i64 0]) (by simp [results, Tryz.results29, go_sem, e0, e1, e2, e3, e4]) rfl ⟨rfl, HFIN.out⟩
theorem implOriginYes (q : P) (a : Option Addr) (n c : Nat) (w : World) (hL : Lean1 w) (hS : StrsOf a n q.ps w) (hs : q.tot ≤ 1048576) (hpo : q.po ≤ 9223372036854775807) (hok : okP q) (ho : ¬ ownZ q.sc < 0) (t : Int) (ht : t = if q.po < 0 then ownZ q.sc else q.po) :
  Calls Tryz.prog 29 #[.agg (q.cells (.slice a n c))] w fun e w' => e = .returned (.agg #[.string q.sc, .int .i64 q.hk, .string q.hn, .int .i64 q.ha, .int .i64 t]) ∧ Below w.heap.size w w' := by
 have CA : Hid (∀ W, Below w.heap.size w W → Calls Tryz.prog 81 #[.agg (q.cells (.slice a n c))] W fun e w' => ∃ a2 c2, e = .returned (.tuple #[.agg (q.cells (.slice a2 n c2)), .bool true]) ∧ StrsOf a2 n q.ps w' ∧ Below W.heap.size W w') := fun W d => by
  refine (urlAgain q a n c W (hL.below d) (hS.later d) hs hpo true (by simp [hok])).mono ?_
  rintro e w' ⟨v, rfl, o, d2⟩
  rw [hok.2] at o ⊢
  obtain ⟨a2, c2, hv, hc, s2⟩ := o.strs
  rw [← hS.1] at hv s2
  subst hv
  exact ⟨a2, c2, rfl, s2, d2⟩
 have CH : Hid (∀ a2 c2 W, Calls Tryz.prog 67 #[.agg (q.cells (.slice a2 n c2))] W fun e w' => e = .returned (.bool true) ∧ Below W.heap.size W w') := fun a2 c2 W => by
  have := hasHost (q.u (.slice a2 n c2)) W
  rw [show decide (0 ≤ ownZ (q.u (.slice a2 n c2)).sc) = true from decide_eq_true (by show 0 ≤ ownZ q.sc; omega)] at this
  exact this
 have CP : Hid (∀ a2 c2 W, Below w.heap.size w W → StrsOf a2 n q.ps W → Calls Tryz.prog 15 #[.agg (q.cells (.slice a2 n c2))] W fun e w' => e = .returned (.int .i64 t) ∧ Below W.heap.size W w') := fun a2 c2 W d s => by
  have := implPortOf q a2 n c2 W (hL.below d) s hs hpo true (by simp [hok])
  rw [if_pos rfl, ← ht] at this
  exact this
 obtain ⟨V, hV⟩ : ∃ V, V = (w.alloc (.cells (q.cells (.slice a n c)) 31)).alloc (.cells #[.string ⟨#[]⟩, .int .i64 0, .string ⟨#[]⟩, .int .i64 0, .int .i64 0] 48) := ⟨_, rfl⟩
 have H0 : Hid (To w (q.cells (.slice a n c)) #[.string ⟨#[]⟩, .int .i64 0, .string ⟨#[]⟩, .int .i64 0, .int .i64 0] V) := by show To _ _ _ _; rw [hV]; exact To.start w _ _
 clear hS hs hpo hok hL ho ht
 unfold P.cells at *
 go_enter Tryz.func29, Tryz.ntmps29
 go_upto_region 1 with fail
 rw [← hV]
 clear hV
 obtain ⟨k0, k1, k2, k3, k4, k5, k6, k7, k8, k9, k10, k11, k12⟩ := Blk.cells13a H0.out.b1
 go_wp2_with fail
 refine (CA.out _ H0.out.bw).mono ?_
 rintro e W1 ⟨a2, c2, rfl, s2, d1⟩
 have H2 : Hid (To w (q.cells (.slice a n c)) #[.string ⟨#[]⟩, .int .i64 0, .string ⟨#[]⟩, .int .i64 0, .int .i64 0] W1) := H0.out.later d1
 clear d1 H0 CA k0 k1 k2 k3 k4 k5 k6 k7 k8 k9 k10 k11 k12
 obtain ⟨V1, hV1⟩ : ∃ V, V = W1.alloc (.cells #[(.string q.sc), (.string q.us), (.string q.pw), (.int .i64 q.hk), (.string q.hn), (.int .i64 q.ha), (.int .i64 q.po), (.slice a2 n c2), (.string q.op), (.bool q.hq), (.string q.qu), (.bool q.hf), (.string q.fr)] 31) := ⟨_, rfl⟩
 have DV : Hid (Below W1.heap.size W1 V1) := by show Below _ _ _; rw [hV1]; exact (Below.refl _ W1).alloc (Nat.le_refl _) _
 have H1 : Hid (To w (q.cells (.slice a n c)) #[.string ⟨#[]⟩, .int .i64 0, .string ⟨#[]⟩, .int .i64 0, .int .i64 0] V1) := H2.out.later DV.out
 have HG : Hid (Blk W1.heap.size (q.cells (.slice a2 n c2)) 31 V1) := by show Blk _ _ _ _; rw [hV1]; exact Blk.new W1 _ _
 have HS1 : Hid (StrsOf a2 n q.ps V1) := s2.later DV.out
 have HGL : Hid (w.heap.size + 1 < W1.heap.size) := H2.out.b2.lt
 clear H2 s2 DV
 go_upto_region 2 with fail
 rw [← hV1]
 clear hV1
 generalize W1.heap.size = g at *
 obtain ⟨k0, k1, k2, k3, k4, k5, k6, k7, k8, k9, k10, k11, k12⟩ := Blk.cells13a HG.out
 go_wp2_with fail
 refine (CH.out a2 c2 _).mono ?_
 rintro e W3 ⟨rfl, d3⟩
 have H3 : Hid (To w (q.cells (.slice a n c)) #[.string ⟨#[]⟩, .int .i64 0, .string ⟨#[]⟩, .int .i64 0, .int .i64 0] W3) := H1.out.later d3
 have HG3 : Hid (Blk g (q.cells (.slice a2 n c2)) 31 W3) := HG.out.below d3 HG.out.lt
 have HS3 : Hid (StrsOf a2 n q.ps W3) := HS1.out.later d3
 clear d3 H1 HG HS1 CH k0 k1 k2 k3 k4 k5 k6 k7 k8 k9 k10 k11 k12
 obtain ⟨k0, k1, k2, k3, k4, k5, k6, k7, k8, k9, k10, k11, k12⟩ := Blk.cells13a HG3.out
 obtain ⟨e0, e1, e2, e3, e4⟩ := Blk.cells5 H3.out.b2
 have fr := H3.out.b2.free
 have HGW : Hid (∀ W, Below W3.heap.size W3 W → Blk g (q.cells (.slice a2 n c2)) 31 W ∧ To w (q.cells (.slice a n c)) #[.string ⟨#[]⟩, .int .i64 0, .string ⟨#[]⟩, .int .i64 0, .int .i64 0] W) := fun W d => ⟨HG3.out.below d HG3.out.lt, H3.out.later d⟩
 have CP3 : Hid (∀ W, Below W3.heap.size W3 W → Calls Tryz.prog 15 #[.agg #[(.string q.sc), (.string q.us), (.string q.pw), (.int .i64 q.hk), (.string q.hn), (.int .i64 q.ha), (.int .i64 q.po), (.slice a2 n c2), (.string q.op), (.bool q.hq), (.string q.qu), (.bool q.hf), (.string q.fr)]] W fun e w' => e = .returned (.int .i64 t) ∧ Below W.heap.size W w') := fun W d => CP.out a2 c2 W (H3.out.later d).bw (HS3.out.later d)
 clear H3 HG3 HS3 CP k0 k1 k2 k3 k4 k5 k6 k7 k8 k9 k10 k11 k12 e0 e1 e2 e3 e4 fr
 go_wp2
 refine wp_region_held_drew (S := (fun W => Below w.heap.size w W ∧ Sc g q a2 n c2 W)) (by kernel_rfl) (⟨(HGW.out _ (Below.refl _ _).drew).2.bw, Sc.of (HGW.out _ (Below.refl _ _).drew).1⟩) (fun hHeld => ?_)
 refine tk 0 rfl (by kernel_rfl) (fun _ _ _ h => h) (by rfl) (fun w hSw => by (try dsimp only [Sc] at hSw); go_simp; try (with_reducible rfl)) (by assumption) ?_
 simp only [Act.put, x1, x2, x3, x4, x5, x6]
 refine tk 1 rfl (by kernel_rfl) (fun _ _ _ h => h) (by rfl) (fun w hSw => by (try dsimp only [Sc] at hSw); go_simp; try (with_reducible rfl)) (by assumption) ?_
 simp only [Act.put, x1, x2, x3, x4, x5, x6]
 refine tk 2 rfl (by kernel_rfl) (fun _ _ _ h => h) (by rfl) (fun w hSw => by (try dsimp only [Sc] at hSw); go_simp; try (with_reducible rfl)) (by assumption) ?_
 simp only [Act.put, x1, x2, x3, x4, x5, x6]
 refine tk 3 rfl (by kernel_rfl) (fun _ _ _ h => h) (by rfl) (fun w hSw => by (try dsimp only [Sc] at hSw); go_simp; try (with_reducible rfl)) (by assumption) ?_
 simp only [Act.put, x1, x2, x3, x4, x5, x6]
 refine tk 4 rfl (by kernel_rfl) (fun _ _ _ h => h) (by rfl) (fun w hSw => by (try dsimp only [Sc] at hSw); go_simp; try (with_reducible rfl)) (by assumption) ?_
 simp only [Act.put, x1, x2, x3, x4, x5, x6]
 refine wpAnyH_ready (rs := [5]) (by kernel_rfl) (by simp) ?_
 refine AllReadyH.cons (o := _) rfl (fun K hK => ?_) AllReadyH.nil
 go_simp
 refine (CP3.out _ ((Below.refl _ _).drew)).mono ?_
 rintro e W5 ⟨rfl, d5⟩
 have D5 : Hid (Below W3.heap.size W3 W5) := ((Below.refl _ W3).drew).trans d5
 have H5 := HGW.out _ D5.out
 obtain ⟨e0, e1, e2, e3, e4⟩ := Blk.cells5 H5.2.b2
 have fr := H5.2.b2.free
 refine hK.out _ _ (⟨H5.2.bw, Sc.of H5.1⟩) (fun hHeld => ?_)
 clear hK K
 try simp only [Act.put, x1, x2, x3, x4, x5, x6]
 refine tk 6 rfl (by kernel_rfl) (fun _ _ _ h => h) (by rfl) (fun w hSw => by (try dsimp only [Sc] at hSw); go_simp; try (with_reducible rfl)) (by assumption) ?_
 simp only [Act.put, x1, x2, x3, x4, x5, x6]
 refine wpAnyH_ready (rs := [7]) (by kernel_rfl) (by simp) ?_
 refine AllReadyH.cons (o := _) rfl (fun K hK => ?_) AllReadyH.nil
 go_simp
 skip
 refine hK.out _ _ (⟨below_put5 H5.2.bw (by omega) _ _ _ _ _, Sc.of (blk_put5 H5.1 (by have := HGL.out; omega) _ _ _ _ _)⟩) (fun hHeld => ?_)
 clear hK K
 try simp only [Act.put, x1, x2, x3, x4, x5, x6]
 refine wpAnyH_done (by kernel_rfl) ?_ _
 have HFIN : Hid (Below w.heap.size w (((((W5.setCell ⟨w.heap.size + 1, 0, none⟩ (.string q.sc)).setCell ⟨w.heap.size + 1, 1, none⟩ (.int .i64 q.hk)).setCell ⟨w.heap.size + 1, 2, none⟩ (.string q.hn)).setCell ⟨w.heap.size + 1, 3, none⟩ (.int .i64 q.ha)).setCell ⟨w.heap.size + 1, 4, none⟩ (.int .i64 t))) := below_put5 H5.2.bw (by omega) _ _ _ _ _
 clear H5 D5 hHeld HGW CP3
 go_wp2
 exact bodyPost_ret (v := .agg #[.string q.sc, .int .i64 q.hk, .string q.hn, .int .i64 q.ha, .int .i64 t]) (by simp [results, Tryz.results29, go_sem, e0, e1, e2, e3, e4]) rfl ⟨rfl, HFIN.out⟩
theorem implOriginOf (q : P) (a : Option Addr) (n c : Nat) (w : World) (hL : Lean1 w) (hS : StrsOf a n q.ps w) (hs : q.tot ≤ 1048576) (hpo : q.po ≤ 9223372036854775807) (b : Bool) (hb : b = true ↔ okP q) :
  Calls Tryz.prog 29 #[.agg (q.cells (.slice a n c))] w fun e w' => e = .returned (.agg (orgB b q)) ∧ Below w.heap.size w w' := by
 unfold orgB orgV
 by_cases hok : okP q
 ·rw [if_pos (hb.2 hok)]
  by_cases ho : ownZ q.sc < 0
  ·rw [if_pos ho]; exact implOriginNone q a n c w hL hS hs hpo hok ho
  ·rw [if_neg ho]; exact implOriginYes q a n c w hL hS hs hpo hok ho _ rfl
 ·rw [if_neg (fun h => hok (hb.1 h))]
  exact implOriginNo q a n c w hL hS hs hpo hok
end Go.Proofs.YtnfhajhdpdidlaaGreatDoor
end
section
namespace Go.Proofs.YtnfhajhdpdidlaaGreatDoor
open Go.RowKit Go.Shelf
open Go.Maps (Keyed)
open Go.WideMaps (KeyLaw)
theorem org_wide : (match Tryz.prog.underlying 48 with | some (.array _ _) | some (.struct _) => true | _ => false) = true := by kernel_rfl
theorem org_keyType : Tryz.prog.keyType 48 = true := by kernel_rfl
theorem org_size : decide (3 ≤ Tryz.prog.types.size) = true := by kernel_rfl
theorem org_row : decide (48 < Tryz.prog.types.size) = true := by kernel_rfl
theorem org_laidOut : laidOutB Tryz.prog = true := by kernel_rfl
theorem org_law : KeyLaw Tryz.prog 48 := deep_law_laid org_laidOut (m := 6) (by omega) (of_decide_eq_true org_row) (by kernel_rfl) org_wide
def orgKey (s : ByteArray) (k : Int) (t : ByteArray) (x p : Int) : Lit := .string (keyBytes [.string s.data.toList, .int .i64 k, .string t.data.toList, .int .i64 x, .int .i64 p])
theorem cells_o : Tryz.prog.cellsOf 48 = 5 := by kernel_rfl
theorem cells_h : Tryz.prog.cellsOf 29 = 3 := by kernel_rfl
theorem cells_s : Tryz.prog.cellsOf 9 = 1 := by kernel_rfl
theorem cells_i : Tryz.prog.cellsOf 3 = 1 := by kernel_rfl
theorem org_key (s : ByteArray) (k : Int) (t : ByteArray) (x p : Int) (hs : s.size ≤ maxLen) (hk : (Lit.int .i64 k).wf = true) (ht : t.size ≤ maxLen) (hx : (Lit.int .i64 x).wf = true) (hp : (Lit.int .i64 p).wf = true) :
  keyOf Tryz.prog 48 (.agg #[.string s, .int .i64 k, .string t, .int .i64 x, .int .i64 p]) = some (orgKey s k t x p) := by
 obtain ⟨m, hm⟩ := Nat.exists_eq_add_of_le (of_decide_eq_true org_size)
 have hl : Tryz.prog.keyLits (Tryz.prog.types.size + 1) 48 [.string s, .int .i64 k, .string t, .int .i64 x, .int .i64 p] = some [.string s.data.toList, .int .i64 k, .string t.data.toList, .int .i64 x, .int .i64 p] := by
  rw [hm, show 3 + m + 1 = m + 1 + 1 + 1 + 1 by omega]
  simp [Program.keyLits, Tryz.underlying48, Tryz.underlying29, Tryz.underlying9, Tryz.underlying3, cells_o, cells_h, cells_s, cells_i, hs, hk, ht, hx, hp]
  rw [if_pos (by decide)]
  rfl
 unfold keyOf
 have hf : (Value.agg #[.string s, .int .i64 k, .string t, .int .i64 x, .int .i64 p]).formed Tryz.prog 48 = true := by
  simp [Value.formed, Tryz.underlying48, cells_o]
 rw [Tryz.underlying48]
 simp only [org_keyType, hf, Bool.and_self, if_true]
 have e : (Value.agg #[.string s, .int .i64 k, .string t, .int .i64 x, .int .i64 p]).cells.toList = [.string s, .int .i64 k, .string t, .int .i64 x, .int .i64 p] := by simp [Value.cells]
 rw [e, hl]
 rfl
end Go.Proofs.YtnfhajhdpdidlaaGreatDoor
end
section
namespace Go.Proofs.YtnfhajhdpdidlaaGreatDoor
open Go.RowKit Go.Shelf
open Go.Maps (Keyed)
open Go.WideMaps (KeyLaw)
open Go.WideElems (entry_then_store)
open Go.ChangeShapes Go.WideShapes Go.MapKept Go.ChangeMaps
def oneD (x : Int) : DataW Unit := .lit (.int .i64 x)
theorem org_map : Tryz.prog.underlying 84 = some (.map 48 3) := Tryz.underlying84
theorem zero_int (w : World) : (zeroValue 3).run Tryz.prog w = .ok (.int .i64 0) w := Tryz.zeroValue3 w
theorem count_step {W : World} {b n : Nat} {D : DataW Unit} (hown : W.ownsMap Tryz.prog 48 (plainElem Tryz.prog 3) b n D) (hn : n < maxLen) {key : Value} {kl : Lit} (hkey : keyOf Tryz.prog 48 key = some kl) (c d : Int) (hc : D.atKey kl (oneD 0) = oneD c) (hw : (Lit.int .i64 d).wf = true) :
  (Instr.lookup 84 (.map (some b)) key false).run Tryz.prog W = .ok (.int .i64 c) W ∧ ∃ (st : Nat) (v0 : Value) (W1 W2 : World), (Instr.mapEntry 84 (.map (some b)) key).run Tryz.prog W = .ok (.tuple #[v0, .int .i64 st]) W1 ∧ (Instr.entryStore 84 (.map (some b)) (.int .i64 st) (.int .i64 d)).run Tryz.prog W1 = .ok () W2 ∧
   W2.ownsMap Tryz.prog 48 (plainElem Tryz.prog 3) b (n + 1) (D.put kl (oneD d)) ∧ W.grownBy W1 (some b) ∧ W.grownBy W2 (some b) := by
 refine ⟨?_, ?_⟩
 ·obtain ⟨c', hrun, hat, _⟩ := hown.lookup_int (Keyed.of_law org_law) org_map Tryz.underlying3 (zero_int _) hkey
  have e : oneD c = oneD c' := hc.symm.trans hat
  simp only [oneD, DataW.lit.injEq, Lit.int.injEq, true_and] at e
  rw [e]; exact hrun
 ·obtain ⟨w', hrun, hown', _⟩ := hown.update (Keyed.of_law org_law) org_map hn hkey (plainElem_int (H := Unit) Tryz.underlying3 hw)
  obtain ⟨es, clock, hb, F, hs, hD⟩ := hown
  obtain ⟨v0, st, es1, clock1, h1, _, h3⟩ := entry_then_store org_law org_map (z := .int .i64 0) (fun u => zero_int u) hb F hkey
  obtain ⟨es', clock', h4, h5⟩ := h3 (setBlock W b (.map es1 clock1)) (.int .i64 d) (heap_setBlock_same hb _)
  have hb1 := heap_setBlock_same hb (.map es1 clock1)
  rw [h5] at hrun
  injection hrun with _ ew
  refine ⟨st, v0, _, _, h1, h4, ?_, ⟨rfl, rfl, rfl, by simp [setBlock], fun i _ hi => heap_setBlock_other hb _ (fun e => hi (by rw [e]))⟩, ⟨rfl, rfl, rfl, by simp [setBlock], fun i _ hi => (heap_setBlock_other hb1 _ (fun e => hi (by rw [e]))).trans (heap_setBlock_other hb _ (fun e => hi (by rw [e])))⟩⟩
  obtain ⟨es2, cl2, hb2, F2, hs2, hD2⟩ := hown'
  refine ⟨es2, cl2, ?_, F2, hs2, hD2⟩
  rw [← ew, heap_setBlock_same hb] at hb2
  rw [heap_setBlock_same hb1]
  exact hb2
theorem entry_look {W : World} {b n : Nat} {D : DataW Unit} (hown : W.ownsMap Tryz.prog 48 (plainElem Tryz.prog 3) b n D) (hn : n < maxLen) {key : Value} {kl : Lit} (hkey : keyOf Tryz.prog 48 key = some kl) (c : Int) (hc : D.atKey kl (oneD 0) = oneD c) (v : Value) (W1 : World) (h : (Instr.mapEntry 84 (.map (some b)) key).run Tryz.prog W = .ok v W1) :
  (Instr.lookup 84 (.map (some b)) key false).run Tryz.prog W1 = .ok (.int .i64 c) W1 := by
 have hown0 := hown
 obtain ⟨es, clock, hb, F, hs, hD⟩ := hown
 rcases org_law.find W hkey es.toList F.keys with ⟨h1, h2⟩ | ⟨j, e0, h1, h2, h3⟩
 ·have hrun : (Instr.mapEntry 84 (.map (some b)) key).run Tryz.prog W = .ok (.tuple #[.int .i64 0, goInt clock]) (setBlock W b (.map (es.push ⟨key, .int .i64 0, clock⟩) (clock + 1))) := by
   simp [Instr.mapEntry, run_underlying org_map, MapKept.run_getObj_map hb, org_law.check W false hkey, h1, zero_int, MapKept.run_setObj_map _ hb, Result.andThen, setBlock]
  have ew := (Result.ok.inj (hrun.symm.trans h)).2
  clear hrun h
  subst ew
  obtain ⟨w', hup, hown', _⟩ := hown0.update (Keyed.of_law org_law) org_map hn hkey (plainElem_int (H := Unit) (a := 0) Tryz.underlying3 (by decide))
  have hup2 : (Instr.mapUpdate 84 (.map (some b)) key (.int .i64 0)).run Tryz.prog W = .ok () (setBlock W b (.map (es.push ⟨key, .int .i64 0, clock⟩) (clock + 1))) := by
   simp [Instr.mapUpdate, run_underlying org_map, MapKept.run_getObj_map hb, org_law.check W false hkey, h1, MapKept.run_setObj_map _ hb, Result.andThen, setBlock]
  have ew := (Result.ok.inj (hup2.symm.trans hup)).2
  rw [← ew] at hown'
  obtain ⟨c', hr, hat, _⟩ := hown'.lookup_int (Keyed.of_law org_law) org_map Tryz.underlying3 (zero_int _) hkey
  have e0 : (D.put kl (oneD 0)).atKey kl (oneD 0) = oneD 0 := Maps.atKey_put_same ⟨_, hD⟩ ((Keyed.of_law org_law).key hkey) _ _
  have e1 : D.atKey kl (oneD 0) = oneD 0 := by rw [hD]; exact Go.WideElems.atKey_none org_law F hkey h2 _
  have e2 : oneD 0 = oneD c' := e0.symm.trans hat
  have e3 : oneD 0 = oneD c := e1.symm.trans hc
  simp only [oneD, DataW.lit.injEq, Lit.int.injEq, true_and] at e2 e3
  have e4 : c = c' := e3.symm.trans e2
  rw [e4]
  exact hr
 ·have hj : es[j]? = some e0 := by simpa using h2
  have hsame : es.modify j (fun e => { e with key := key }) = es := by
   apply Array.ext'
   rw [Array.toList_modify, Go.ChangeMaps.modify_eq_set _ _ _ _ h2]
   have : ({ e0 with key := key } : MapEntry) = e0 := by rw [← h3]
   rw [this]
   exact Go.WideElems.set_self _ _ _ h2
  have hrun : (Instr.mapEntry 84 (.map (some b)) key).run Tryz.prog W = .ok (.tuple #[e0.val, goInt e0.born]) (setBlock W b (.map es clock)) := by
   simp [Instr.mapEntry, run_underlying org_map, MapKept.run_getObj_map hb, org_law.check W false hkey, h1, hj, h3, org_law.stays W hkey, hsame, MapKept.run_setObj_map _ hb, Result.andThen, setBlock]
  have ew := (Result.ok.inj (hrun.symm.trans h)).2
  clear hrun h
  subst ew
  have hown1 : (setBlock W b (.map es clock)).ownsMap Tryz.prog 48 (plainElem Tryz.prog 3) b n D := ⟨es, clock, heap_setBlock_same hb _, F, hs, hD⟩
  obtain ⟨c', hr, hat, _⟩ := hown1.lookup_int (Keyed.of_law org_law) org_map Tryz.underlying3 (zero_int _) hkey
  have e : oneD c = oneD c' := hc.symm.trans hat
  simp only [oneD, DataW.lit.injEq, Lit.int.injEq, true_and] at e
  rw [e]
  exact hr
def So (g : Nat) (x0 : ByteArray) (x1 : Int) (x2 : ByteArray) (x3 x4 : Int) (W : World) : Prop := W.cell? ⟨g, 0, none⟩ = some (.string x0) ∧ W.cell? ⟨g, 1, none⟩ = some (.int .i64 x1) ∧ W.cell? ⟨g, 2, none⟩ = some (.string x2) ∧ W.cell? ⟨g, 3, none⟩ = some (.int .i64 x3) ∧ W.cell? ⟨g, 4, none⟩ = some (.int .i64 x4)
theorem owns_below {W W' : World} {b n : Nat} {D : DataW Unit} (h : W.ownsMap Tryz.prog 48 (plainElem Tryz.prog 3) b n D) (d : Below W.heap.size W W') : W'.ownsMap Tryz.prog 48 (plainElem Tryz.prog 3) b n D := by
 have hlt := h.lt
 obtain ⟨es, clock, hb, F, hs, hD⟩ := h
 exact ⟨es, clock, (d.block b hlt).trans hb, F, hs, hD⟩
theorem originCounts (p q : P) (a a' : Option Addr) (n n' c c' gl : Nat) (w : World) (hG : Blk gl #[(.string p.sc), (.string p.us), (.string p.pw), (.int .i64 p.hk), (.string p.hn), (.int .i64 p.ha), (.int .i64 p.po), (.slice a n c), (.string p.op), (.bool p.hq), (.string p.qu), (.bool p.hf), (.string p.fr), (.string q.sc), (.string q.us), (.string q.pw), (.int .i64 q.hk), (.string q.hn), (.int .i64 q.ha), (.int .i64 q.po), (.slice a' n' c'), (.string q.op), (.bool q.hq), (.string q.qu), (.bool q.hf), (.string q.fr)] 31 w) (u0 : ByteArray) (u1 : Int) (u2 : ByteArray) (u3 u4 : Int) (v0 : ByteArray) (v1 : Int) (v2 : ByteArray) (v3 v4 : Int) (x : Bool)
  (CA : Hid (∀ W, Below w.heap.size w W → Calls Tryz.prog 29 #[.agg #[(.string p.sc), (.string p.us), (.string p.pw), (.int .i64 p.hk), (.string p.hn), (.int .i64 p.ha), (.int .i64 p.po), (.slice a n c), (.string p.op), (.bool p.hq), (.string p.qu), (.bool p.hf), (.string p.fr)]] W fun e w' => e = .returned (.agg #[.string u0, .int .i64 u1, .string u2, .int .i64 u3, .int .i64 u4]) ∧ Below W.heap.size W w'))
  (CB : Hid (∀ W, Below w.heap.size w W → Calls Tryz.prog 29 #[.agg #[(.string q.sc), (.string q.us), (.string q.pw), (.int .i64 q.hk), (.string q.hn), (.int .i64 q.ha), (.int .i64 q.po), (.slice a' n' c'), (.string q.op), (.bool q.hq), (.string q.qu), (.bool q.hf), (.string q.fr)]] W fun e w' => e = .returned (.agg #[.string v0, .int .i64 v1, .string v2, .int .i64 v3, .int .i64 v4]) ∧ Below W.heap.size W w'))
  (ka kb : Lit) (hka : keyOf Tryz.prog 48 (.agg #[.string u0, .int .i64 u1, .string u2, .int .i64 u3, .int .i64 u4]) = some ka) (hkb : keyOf Tryz.prog 48 (.agg #[.string v0, .int .i64 v1, .string v2, .int .i64 v3, .int .i64 v4]) = some kb)
  (C1 C2 : DataW Unit)
  (HA : Hid ((u0.size = 0 ∧ (#[.string u0, .int .i64 u1, .string u2, .int .i64 u3, .int .i64 u4] : Array Value) = #[.string ⟨#[]⟩, .int .i64 0, .string ⟨#[]⟩, .int .i64 0, .int .i64 0] ∧ C1 = .map []) ∨ (u0.size ≠ 0 ∧ C1 = (DataW.map []).put ka (oneD 1))))
  (HB : Hid ((v0.size = 0 ∧ (#[.string v0, .int .i64 v1, .string v2, .int .i64 v3, .int .i64 v4] : Array Value) = #[.string ⟨#[]⟩, .int .i64 0, .string ⟨#[]⟩, .int .i64 0, .int .i64 0] ∧ C2 = C1) ∨ (v0.size ≠ 0 ∧ C1.atKey kb (oneD 0) = oneD 0 ∧ C2 = C1.put kb (oneD 1)) ∨ (v0.size ≠ 0 ∧ C1.atKey kb (oneD 0) = oneD 1 ∧ C2 = C1.put kb (oneD 2)))) :
  Calls Tryz.prog 59 #[.slice (some ⟨gl, 0, none⟩) 2 2] w fun e w' => ∃ b, e = .returned (.map (some b)) ∧ w'.ownsMap Tryz.prog 48 (plainElem Tryz.prog 3) b 2 C2 ∧ Below w.heap.size w w' := by
 have hmm := @run_makeMap Tryz.prog
 have hgl := hG.lt
 have HG : Hid (∀ W, Below w.heap.size w W → Blk gl #[(.string p.sc), (.string p.us), (.string p.pw), (.int .i64 p.hk), (.string p.hn), (.int .i64 p.ha), (.int .i64 p.po), (.slice a n c), (.string p.op), (.bool p.hq), (.string p.qu), (.bool p.hf), (.string p.fr), (.string q.sc), (.string q.us), (.string q.pw), (.int .i64 q.hk), (.string q.hn), (.int .i64 q.ha), (.int .i64 q.po), (.slice a' n' c'), (.string q.op), (.bool q.hq), (.string q.qu), (.bool q.hf), (.string q.fr)] 31 W) := fun W d => hG.below d hgl
 have hC0 : Hid ((w.alloc (.map #[] 0)).ownsMap Tryz.prog 48 (plainElem Tryz.prog 3) w.heap.size 0 (DataW.map [] : DataW Unit)) := World.ownsMap_made _ _ _ _
 have HKA : Hid (keyOf Tryz.prog 48 (.agg #[.string u0, .int .i64 u1, .string u2, .int .i64 u3, .int .i64 u4]) = some ka) := hka
 have HKB : Hid (keyOf Tryz.prog 48 (.agg #[.string v0, .int .i64 v1, .string v2, .int .i64 v3, .int .i64 v4]) = some kb) := hkb
 clear hG hka hkb
 go_enter Tryz.func59, Tryz.ntmps59
 go_wp2
 go_loopw [10] (fun i wr => ∃ j : Nat, j ≤ 2 ∧ i = .int .i64 j ∧ Hid (wr.ownsMap Tryz.prog 48 (plainElem Tryz.prog 3) w.heap.size j (match j with | 0 => .map [] | 1 => C1 | _ => C2)) ∧ Hid (Below w.heap.size w wr)) (fun i wr => 2 - (intOf i).toNat)
 case atStart => exact ⟨0, by decide, rfl, hC0.out, (Below.refl _ _).alloc (Nat.le_refl _) _⟩
 case round =>
  obtain ⟨j, hj, rfl, hI, hbw⟩ := hrel
  clear hmm hC0
  rcases (show j = 0 ∨ j = 1 ∨ j = 2 from by omega) with rfl | rfl | rfl
  ·have hI2 : Hid (wr.ownsMap Tryz.prog 48 (plainElem Tryz.prog 3) w.heap.size 0 (DataW.map [] : DataW Unit)) := hI
   clear hI
   have hk := (HG.out wr hbw.out)
   have k0 : wr.cell? ⟨gl, 0, none⟩ = some (.string p.sc) := hk.cell 0
   have k1 : wr.cell? ⟨gl, 1, none⟩ = some (.string p.us) := hk.cell 1
   have k2 : wr.cell? ⟨gl, 2, none⟩ = some (.string p.pw) := hk.cell 2
   have k3 : wr.cell? ⟨gl, 3, none⟩ = some (.int .i64 p.hk) := hk.cell 3
   have k4 : wr.cell? ⟨gl, 4, none⟩ = some (.string p.hn) := hk.cell 4
   have k5 : wr.cell? ⟨gl, 5, none⟩ = some (.int .i64 p.ha) := hk.cell 5
   have k6 : wr.cell? ⟨gl, 6, none⟩ = some (.int .i64 p.po) := hk.cell 6
   have k7 : wr.cell? ⟨gl, 7, none⟩ = some (.slice a n c) := hk.cell 7
   have k8 : wr.cell? ⟨gl, 8, none⟩ = some (.string p.op) := hk.cell 8
   have k9 : wr.cell? ⟨gl, 9, none⟩ = some (.bool p.hq) := hk.cell 9
   have k10 : wr.cell? ⟨gl, 10, none⟩ = some (.string p.qu) := hk.cell 10
   have k11 : wr.cell? ⟨gl, 11, none⟩ = some (.bool p.hf) := hk.cell 11
   have k12 : wr.cell? ⟨gl, 12, none⟩ = some (.string p.fr) := hk.cell 12
   clear hk
   obtain ⟨V1, hV1⟩ : ∃ V, V = wr.alloc (.cells #[(.string p.sc), (.string p.us), (.string p.pw), (.int .i64 p.hk), (.string p.hn), (.int .i64 p.ha), (.int .i64 p.po), (.slice a n c), (.string p.op), (.bool p.hq), (.string p.qu), (.bool p.hf), (.string p.fr)] 31) := ⟨_, rfl⟩
   have D1 : Hid (Below wr.heap.size wr V1) := by show Below _ _ _; rw [hV1]; exact (Below.refl _ _).alloc (Nat.le_refl _) _
   have G1 : Hid (Blk wr.heap.size (p.cells (.slice a n c)) 31 V1) := by show Blk _ _ _ _; rw [hV1]; exact Blk.new wr _ _
   have B1 : Hid (Below w.heap.size w V1) := hbw.out.trans (D1.out.mono hbw.out.size)
   have I1 : Hid (V1.ownsMap Tryz.prog 48 (plainElem Tryz.prog 3) w.heap.size 0 (DataW.map [] : DataW Unit)) := by show World.ownsMap _ _ _ _ _ _ _; rw [hV1]; exact hI2.out.alloc _
   clear hI2 D1
   go_upto_region 5 with fail
   rw [← hV1]
   clear hV1 k0 k1 k2 k3 k4 k5 k6 k7 k8 k9 k10 k11 k12
   generalize wr.heap.size = gu at *
   obtain ⟨k0, k1, k2, k3, k4, k5, k6, k7, k8, k9, k10, k11, k12⟩ := Blk.cells13a G1.out
   go_wp2_with fail
   refine (CA.out _ B1.out).mono ?_
   rintro e W2 ⟨rfl, d2⟩
   obtain ⟨V3, hV3⟩ : ∃ V, V = W2.alloc (.cells #[.string u0, .int .i64 u1, .string u2, .int .i64 u3, .int .i64 u4] 48) := ⟨_, rfl⟩
   have D3 : Hid (Below V1.heap.size V1 V3) := by show Below _ _ _; rw [hV3]; exact d2.alloc d2.size _
   have G3 : Hid (Blk W2.heap.size #[.string u0, .int .i64 u1, .string u2, .int .i64 u3, .int .i64 u4] 48 V3) := by show Blk _ _ _ _; rw [hV3]; exact Blk.new W2 _ _
   have B3 : Hid (Below w.heap.size w V3) := B1.out.trans (D3.out.mono B1.out.size)
   have I3 : Hid (V3.ownsMap Tryz.prog 48 (plainElem Tryz.prog 3) w.heap.size 0 (DataW.map [] : DataW Unit)) := owns_below I1.out D3.out
   have NE : Hid (W2.heap.size ≠ w.heap.size) := by have h1 := I1.out.lt; have h2 := d2.size; show _ ≠ _; omega
   clear d2 D3 G1 B1 I1 k0 k1 k2 k3 k4 k5 k6 k7 k8 k9 k10 k11 k12
   go_upto_region 6 with fail
   rw [← hV3]
   clear hV3
   generalize W2.heap.size = go at *
   obtain ⟨o0, o1, o2, o3, o4⟩ := Blk.cells5 G3.out
   rcases HA.out with ⟨hz, he, hC⟩ | ⟨hz, hC⟩
   ·injection he with he1
    simp only [List.cons.injEq, Value.string.injEq, Value.int.injEq, true_and, and_true] at he1
    obtain ⟨e0, e1, e2, e3, e4⟩ := he1
    subst e0 e1 e2 e3 e4
    go_wp2
    go_roundw
    case rel => exact ⟨1, by decide, by go_num, by rw [hC]; exact I3.out.mono (by decide), B3.out⟩
    case measure => simp [intOf]
   ·have hne : (u0.toList == []) = false := by rw [beq_eq_false_iff_ne, ByteArray.toList_eq]; intro e; apply hz; have := congrArg List.length e; simpa using this
    have hat : (DataW.map [] : DataW Unit).atKey ka (oneD 0) = oneD 0 := rfl
    obtain ⟨hlook, st, v9, W4, W5, hent, hsto, I5, g4, g5⟩ := count_step (W := V3.drew) I3.out.drew (by unfold maxLen; omega) HKA.out 0 1 hat (by decide)
    have hlook4 := entry_look (W := V3.drew) I3.out.drew (by unfold maxLen; omega) HKA.out 0 hat _ _ hent
    have hst2 : (Instr.entryStore 84 (.map (some w.heap.size)) (.int .i64 st) (.int .i64 (IntKind.i64.wrap 1))).run Tryz.prog W4 = .ok () W5 := by rw [show IntKind.i64.wrap 1 = 1 by decide]; exact hsto
    have B5 : Hid (Below w.heap.size w W5) := (B3.out.drew).grown g5 B3.out.size (fun j hj => by cases hj; exact Nat.le_refl _)
    have I5b : Hid (W5.ownsMap Tryz.prog 48 (plainElem Tryz.prog 3) w.heap.size 1 C1) := by show World.ownsMap _ _ _ _ _ _ _; rw [hC]; exact I5
    have G4 : Hid (Blk go #[.string u0, .int .i64 u1, .string u2, .int .i64 u3, .int .i64 u4] 48 W4) := (g4.block _ G3.out.lt (fun e => NE.out (by simpa using e))).trans G3.out.drew
    have G5 : Hid (Blk go #[.string u0, .int .i64 u1, .string u2, .int .i64 u3, .int .i64 u4] 48 W5) := (g5.block _ G3.out.lt (fun e => NE.out (by simpa using e))).trans G3.out.drew
    clear I5 g4 g5 hat hC hz HG
    go_upto_region 7 with fail
    refine wp_region_held_drew (S := So go u0 u1 u2 u3 u4) (by kernel_rfl) (Blk.cells5 G3.out.drew) (fun hHeld => ?_)
    refine tk 0 rfl (by kernel_rfl) (fun _ _ _ h => h) (by rfl) (fun w hSw => by (try dsimp only [So] at hSw); go_simp; try (with_reducible rfl)) (by assumption) ?_
    simp only [Act.put, x1, x2, x3, x4, x5, x6]
    refine tk 1 rfl (by kernel_rfl) (fun _ _ _ h => h) (by rfl) (fun w hSw => by (try dsimp only [So] at hSw); go_simp; try (with_reducible rfl)) (by assumption) ?_
    simp only [Act.put, x1, x2, x3, x4, x5, x6]
    refine wpAnyH_ready (rs := [2, 4]) (by kernel_rfl) (by simp) ?_
    refine AllReadyH.cons (o := _) rfl (fun K hK => ?_) (AllReadyH.cons (o := _) rfl (fun K hK => ?_) AllReadyH.nil)
    ·go_simp
     refine hK.out _ _ (hHeld) (fun hHeld => ?_)
     clear hK K
     try simp only [Act.put, List.getElem_toArray, List.getElem_cons_zero, List.getElem_cons_succ, List.setIfInBounds_toArray, List.set_cons_zero, List.set_cons_succ]
     refine tk 3 rfl (by kernel_rfl) (fun _ _ _ h => h) (by rfl) (fun w hSw => by (try dsimp only [So] at hSw); go_simp; try (with_reducible rfl)) (by assumption) ?_
     simp only [Act.put, x1, x2, x3, x4, x5, x6]
     refine wpAnyH_ready (rs := [4]) (by kernel_rfl) (by simp) ?_
     refine AllReadyH.cons (o := _) rfl (fun K hK => ?_) AllReadyH.nil
     go_simp
     skip
     refine hK.out _ _ (Blk.cells5 G4.out) (fun hHeld => ?_)
     clear hK K
     try simp only [Act.put, x1, x2, x3, x4, x5, x6]
     refine tk 5 rfl (by kernel_rfl) (fun _ _ _ h => h) (by rfl) (fun w hSw => by (try dsimp only [So] at hSw); go_simp; try (with_reducible rfl)) (by assumption) ?_
     simp only [Act.put, x1, x2, x3, x4, x5, x6]
     refine wpAnyH_ready (rs := [6]) (by kernel_rfl) (by simp) ?_
     refine AllReadyH.cons (o := _) rfl (fun K hK => ?_) AllReadyH.nil
     go_simp
     skip
     refine hK.out _ _ (Blk.cells5 G5.out) (fun hHeld => ?_)
     clear hK K
     try simp only [Act.put, x1, x2, x3, x4, x5, x6]
     refine wpAnyH_done (by kernel_rfl) ?_ _
     go_wp2
     go_roundw
     case rel => exact ⟨1, by decide, by go_num, I5b.out, B5.out⟩
     case measure => simp [intOf]
    ·go_simp
     refine hK.out _ _ (Blk.cells5 G4.out) (fun hHeld => ?_)
     clear hK K
     try simp only [Act.put, List.getElem_toArray, List.getElem_cons_zero, List.getElem_cons_succ, List.setIfInBounds_toArray, List.set_cons_zero, List.set_cons_succ]
     refine tk 5 rfl (by kernel_rfl) (fun _ _ _ h => h) (by rfl) (fun w hSw => by (try dsimp only [So] at hSw); go_simp; try (with_reducible rfl)) (by assumption) ?_
     simp only [Act.put, x1, x2, x3, x4, x5, x6]
     refine wpAnyH_ready (rs := [2]) (by kernel_rfl) (by simp) ?_
     refine AllReadyH.cons (o := _) rfl (fun K hK => ?_) AllReadyH.nil
     go_simp
     skip
     refine hK.out _ _ (hHeld) (fun hHeld => ?_)
     clear hK K
     try simp only [Act.put, x1, x2, x3, x4, x5, x6]
     refine tk 3 rfl (by kernel_rfl) (fun _ _ _ h => h) (by rfl) (fun w hSw => by (try dsimp only [So] at hSw); go_simp; try (with_reducible rfl)) (by assumption) ?_
     simp only [Act.put, x1, x2, x3, x4, x5, x6]
     refine wpAnyH_ready (rs := [6]) (by kernel_rfl) (by simp) ?_
     refine AllReadyH.cons (o := _) rfl (fun K hK => ?_) AllReadyH.nil
     go_simp
     skip
     refine hK.out _ _ (Blk.cells5 G5.out) (fun hHeld => ?_)
     clear hK K
     try simp only [Act.put, x1, x2, x3, x4, x5, x6]
     refine wpAnyH_done (by kernel_rfl) ?_ _
     go_wp2
     go_roundw
     case rel => exact ⟨1, by decide, by go_num, I5b.out, B5.out⟩
     case measure => simp [intOf]
  ·have hI2 : Hid (wr.ownsMap Tryz.prog 48 (plainElem Tryz.prog 3) w.heap.size 1 C1) := hI
   clear hI
   have hk := (HG.out wr hbw.out)
   have k0 : wr.cell? ⟨gl, 13, none⟩ = some (.string q.sc) := hk.cell 13
   have k1 : wr.cell? ⟨gl, 14, none⟩ = some (.string q.us) := hk.cell 14
   have k2 : wr.cell? ⟨gl, 15, none⟩ = some (.string q.pw) := hk.cell 15
   have k3 : wr.cell? ⟨gl, 16, none⟩ = some (.int .i64 q.hk) := hk.cell 16
   have k4 : wr.cell? ⟨gl, 17, none⟩ = some (.string q.hn) := hk.cell 17
   have k5 : wr.cell? ⟨gl, 18, none⟩ = some (.int .i64 q.ha) := hk.cell 18
   have k6 : wr.cell? ⟨gl, 19, none⟩ = some (.int .i64 q.po) := hk.cell 19
   have k7 : wr.cell? ⟨gl, 20, none⟩ = some (.slice a' n' c') := hk.cell 20
   have k8 : wr.cell? ⟨gl, 21, none⟩ = some (.string q.op) := hk.cell 21
   have k9 : wr.cell? ⟨gl, 22, none⟩ = some (.bool q.hq) := hk.cell 22
   have k10 : wr.cell? ⟨gl, 23, none⟩ = some (.string q.qu) := hk.cell 23
   have k11 : wr.cell? ⟨gl, 24, none⟩ = some (.bool q.hf) := hk.cell 24
   have k12 : wr.cell? ⟨gl, 25, none⟩ = some (.string q.fr) := hk.cell 25
   clear hk
   obtain ⟨V1, hV1⟩ : ∃ V, V = wr.alloc (.cells #[(.string q.sc), (.string q.us), (.string q.pw), (.int .i64 q.hk), (.string q.hn), (.int .i64 q.ha), (.int .i64 q.po), (.slice a' n' c'), (.string q.op), (.bool q.hq), (.string q.qu), (.bool q.hf), (.string q.fr)] 31) := ⟨_, rfl⟩
   have D1 : Hid (Below wr.heap.size wr V1) := by show Below _ _ _; rw [hV1]; exact (Below.refl _ _).alloc (Nat.le_refl _) _
   have G1 : Hid (Blk wr.heap.size (q.cells (.slice a' n' c')) 31 V1) := by show Blk _ _ _ _; rw [hV1]; exact Blk.new wr _ _
   have B1 : Hid (Below w.heap.size w V1) := hbw.out.trans (D1.out.mono hbw.out.size)
   have I1 : Hid (V1.ownsMap Tryz.prog 48 (plainElem Tryz.prog 3) w.heap.size 1 C1) := by show World.ownsMap _ _ _ _ _ _ _; rw [hV1]; exact hI2.out.alloc _
   clear hI2 D1
   go_upto_region 5 with fail
   rw [← hV1]
   clear hV1 k0 k1 k2 k3 k4 k5 k6 k7 k8 k9 k10 k11 k12
   generalize wr.heap.size = gu at *
   obtain ⟨k0, k1, k2, k3, k4, k5, k6, k7, k8, k9, k10, k11, k12⟩ := Blk.cells13a G1.out
   go_wp2_with fail
   refine (CB.out _ B1.out).mono ?_
   rintro e W2 ⟨rfl, d2⟩
   obtain ⟨V3, hV3⟩ : ∃ V, V = W2.alloc (.cells #[.string v0, .int .i64 v1, .string v2, .int .i64 v3, .int .i64 v4] 48) := ⟨_, rfl⟩
   have D3 : Hid (Below V1.heap.size V1 V3) := by show Below _ _ _; rw [hV3]; exact d2.alloc d2.size _
   have G3 : Hid (Blk W2.heap.size #[.string v0, .int .i64 v1, .string v2, .int .i64 v3, .int .i64 v4] 48 V3) := by show Blk _ _ _ _; rw [hV3]; exact Blk.new W2 _ _
   have B3 : Hid (Below w.heap.size w V3) := B1.out.trans (D3.out.mono B1.out.size)
   have I3 : Hid (V3.ownsMap Tryz.prog 48 (plainElem Tryz.prog 3) w.heap.size 1 C1) := owns_below I1.out D3.out
   have NE : Hid (W2.heap.size ≠ w.heap.size) := by have h1 := I1.out.lt; have h2 := d2.size; show _ ≠ _; omega
   clear d2 D3 G1 B1 I1 k0 k1 k2 k3 k4 k5 k6 k7 k8 k9 k10 k11 k12
   go_upto_region 6 with fail
   rw [← hV3]
   clear hV3
   generalize W2.heap.size = go at *
   obtain ⟨o0, o1, o2, o3, o4⟩ := Blk.cells5 G3.out
   rcases HB.out with ⟨hz, he, hC⟩ | ⟨hz, hat, hC⟩ | ⟨hz, hat, hC⟩
   ·injection he with he1
    simp only [List.cons.injEq, Value.string.injEq, Value.int.injEq, true_and, and_true] at he1
    obtain ⟨e0, e1, e2, e3, e4⟩ := he1
    subst e0 e1 e2 e3 e4
    go_wp2
    go_roundw
    case rel => exact ⟨2, by decide, by go_num, by rw [hC]; exact I3.out.mono (by decide), B3.out⟩
    case measure => simp [intOf]
   ·have hne : (v0.toList == []) = false := by rw [beq_eq_false_iff_ne, ByteArray.toList_eq]; intro e; apply hz; have := congrArg List.length e; simpa using this
    obtain ⟨hlook, st, v9, W4, W5, hent, hsto, I5, g4, g5⟩ := count_step (W := V3.drew) I3.out.drew (by unfold maxLen; omega) HKB.out 0 1 hat (by decide)
    have hlook4 := entry_look (W := V3.drew) I3.out.drew (by unfold maxLen; omega) HKB.out 0 hat _ _ hent
    have hst2 : (Instr.entryStore 84 (.map (some w.heap.size)) (.int .i64 st) (.int .i64 (IntKind.i64.wrap 1))).run Tryz.prog W4 = .ok () W5 := by rw [show IntKind.i64.wrap 1 = 1 by decide]; exact hsto
    have B5 : Hid (Below w.heap.size w W5) := (B3.out.drew).grown g5 B3.out.size (fun j hj => by cases hj; exact Nat.le_refl _)
    have I5b : Hid (W5.ownsMap Tryz.prog 48 (plainElem Tryz.prog 3) w.heap.size 2 C2) := by show World.ownsMap _ _ _ _ _ _ _; rw [hC]; exact I5
    have G4 : Hid (Blk go #[.string v0, .int .i64 v1, .string v2, .int .i64 v3, .int .i64 v4] 48 W4) := (g4.block _ G3.out.lt (fun e => NE.out (by simpa using e))).trans G3.out.drew
    have G5 : Hid (Blk go #[.string v0, .int .i64 v1, .string v2, .int .i64 v3, .int .i64 v4] 48 W5) := (g5.block _ G3.out.lt (fun e => NE.out (by simpa using e))).trans G3.out.drew
    clear I5 g4 g5 hat hC hz HG
    go_upto_region 7 with fail
    refine wp_region_held_drew (S := So go v0 v1 v2 v3 v4) (by kernel_rfl) (Blk.cells5 G3.out.drew) (fun hHeld => ?_)
    refine tk 0 rfl (by kernel_rfl) (fun _ _ _ h => h) (by rfl) (fun w hSw => by (try dsimp only [So] at hSw); go_simp; try (with_reducible rfl)) (by assumption) ?_
    simp only [Act.put, x1, x2, x3, x4, x5, x6]
    refine tk 1 rfl (by kernel_rfl) (fun _ _ _ h => h) (by rfl) (fun w hSw => by (try dsimp only [So] at hSw); go_simp; try (with_reducible rfl)) (by assumption) ?_
    simp only [Act.put, x1, x2, x3, x4, x5, x6]
    refine wpAnyH_ready (rs := [2, 4]) (by kernel_rfl) (by simp) ?_
    refine AllReadyH.cons (o := _) rfl (fun K hK => ?_) (AllReadyH.cons (o := _) rfl (fun K hK => ?_) AllReadyH.nil)
    ·go_simp
     refine hK.out _ _ (hHeld) (fun hHeld => ?_)
     clear hK K
     try simp only [Act.put, List.getElem_toArray, List.getElem_cons_zero, List.getElem_cons_succ, List.setIfInBounds_toArray, List.set_cons_zero, List.set_cons_succ]
     refine tk 3 rfl (by kernel_rfl) (fun _ _ _ h => h) (by rfl) (fun w hSw => by (try dsimp only [So] at hSw); go_simp; try (with_reducible rfl)) (by assumption) ?_
     simp only [Act.put, x1, x2, x3, x4, x5, x6]
     refine wpAnyH_ready (rs := [4]) (by kernel_rfl) (by simp) ?_
     refine AllReadyH.cons (o := _) rfl (fun K hK => ?_) AllReadyH.nil
     go_simp
     skip
     refine hK.out _ _ (Blk.cells5 G4.out) (fun hHeld => ?_)
     clear hK K
     try simp only [Act.put, x1, x2, x3, x4, x5, x6]
     refine tk 5 rfl (by kernel_rfl) (fun _ _ _ h => h) (by rfl) (fun w hSw => by (try dsimp only [So] at hSw); go_simp; try (with_reducible rfl)) (by assumption) ?_
     simp only [Act.put, x1, x2, x3, x4, x5, x6]
     refine wpAnyH_ready (rs := [6]) (by kernel_rfl) (by simp) ?_
     refine AllReadyH.cons (o := _) rfl (fun K hK => ?_) AllReadyH.nil
     go_simp
     skip
     refine hK.out _ _ (Blk.cells5 G5.out) (fun hHeld => ?_)
     clear hK K
     try simp only [Act.put, x1, x2, x3, x4, x5, x6]
     refine wpAnyH_done (by kernel_rfl) ?_ _
     go_wp2
     go_roundw
     case rel => exact ⟨2, by decide, by go_num, I5b.out, B5.out⟩
     case measure => simp [intOf]
    ·go_simp
     refine hK.out _ _ (Blk.cells5 G4.out) (fun hHeld => ?_)
     clear hK K
     try simp only [Act.put, List.getElem_toArray, List.getElem_cons_zero, List.getElem_cons_succ, List.setIfInBounds_toArray, List.set_cons_zero, List.set_cons_succ]
     refine tk 5 rfl (by kernel_rfl) (fun _ _ _ h => h) (by rfl) (fun w hSw => by (try dsimp only [So] at hSw); go_simp; try (with_reducible rfl)) (by assumption) ?_
     simp only [Act.put, x1, x2, x3, x4, x5, x6]
     refine wpAnyH_ready (rs := [2]) (by kernel_rfl) (by simp) ?_
     refine AllReadyH.cons (o := _) rfl (fun K hK => ?_) AllReadyH.nil
     go_simp
     skip
     refine hK.out _ _ (hHeld) (fun hHeld => ?_)
     clear hK K
     try simp only [Act.put, x1, x2, x3, x4, x5, x6]
     refine tk 3 rfl (by kernel_rfl) (fun _ _ _ h => h) (by rfl) (fun w hSw => by (try dsimp only [So] at hSw); go_simp; try (with_reducible rfl)) (by assumption) ?_
     simp only [Act.put, x1, x2, x3, x4, x5, x6]
     refine wpAnyH_ready (rs := [6]) (by kernel_rfl) (by simp) ?_
     refine AllReadyH.cons (o := _) rfl (fun K hK => ?_) AllReadyH.nil
     go_simp
     skip
     refine hK.out _ _ (Blk.cells5 G5.out) (fun hHeld => ?_)
     clear hK K
     try simp only [Act.put, x1, x2, x3, x4, x5, x6]
     refine wpAnyH_done (by kernel_rfl) ?_ _
     go_wp2
     go_roundw
     case rel => exact ⟨2, by decide, by go_num, I5b.out, B5.out⟩
     case measure => simp [intOf]
   ·have hne : (v0.toList == []) = false := by rw [beq_eq_false_iff_ne, ByteArray.toList_eq]; intro e; apply hz; have := congrArg List.length e; simpa using this
    obtain ⟨hlook, st, v9, W4, W5, hent, hsto, I5, g4, g5⟩ := count_step (W := V3.drew) I3.out.drew (by unfold maxLen; omega) HKB.out 1 2 hat (by decide)
    have hlook4 := entry_look (W := V3.drew) I3.out.drew (by unfold maxLen; omega) HKB.out 1 hat _ _ hent
    have hst2 : (Instr.entryStore 84 (.map (some w.heap.size)) (.int .i64 st) (.int .i64 (IntKind.i64.wrap 2))).run Tryz.prog W4 = .ok () W5 := by rw [show IntKind.i64.wrap 2 = 2 by decide]; exact hsto
    have B5 : Hid (Below w.heap.size w W5) := (B3.out.drew).grown g5 B3.out.size (fun j hj => by cases hj; exact Nat.le_refl _)
    have I5b : Hid (W5.ownsMap Tryz.prog 48 (plainElem Tryz.prog 3) w.heap.size 2 C2) := by show World.ownsMap _ _ _ _ _ _ _; rw [hC]; exact I5
    have G4 : Hid (Blk go #[.string v0, .int .i64 v1, .string v2, .int .i64 v3, .int .i64 v4] 48 W4) := (g4.block _ G3.out.lt (fun e => NE.out (by simpa using e))).trans G3.out.drew
    have G5 : Hid (Blk go #[.string v0, .int .i64 v1, .string v2, .int .i64 v3, .int .i64 v4] 48 W5) := (g5.block _ G3.out.lt (fun e => NE.out (by simpa using e))).trans G3.out.drew
    clear I5 g4 g5 hat hC hz HG
    go_upto_region 7 with fail
    refine wp_region_held_drew (S := So go v0 v1 v2 v3 v4) (by kernel_rfl) (Blk.cells5 G3.out.drew) (fun hHeld => ?_)
    refine tk 0 rfl (by kernel_rfl) (fun _ _ _ h => h) (by rfl) (fun w hSw => by (try dsimp only [So] at hSw); go_simp; try (with_reducible rfl)) (by assumption) ?_
    simp only [Act.put, x1, x2, x3, x4, x5, x6]
    refine tk 1 rfl (by kernel_rfl) (fun _ _ _ h => h) (by rfl) (fun w hSw => by (try dsimp only [So] at hSw); go_simp; try (with_reducible rfl)) (by assumption) ?_
    simp only [Act.put, x1, x2, x3, x4, x5, x6]
    refine wpAnyH_ready (rs := [2, 4]) (by kernel_rfl) (by simp) ?_
    refine AllReadyH.cons (o := _) rfl (fun K hK => ?_) (AllReadyH.cons (o := _) rfl (fun K hK => ?_) AllReadyH.nil)
    ·go_simp
     refine hK.out _ _ (hHeld) (fun hHeld => ?_)
     clear hK K
     try simp only [Act.put, List.getElem_toArray, List.getElem_cons_zero, List.getElem_cons_succ, List.setIfInBounds_toArray, List.set_cons_zero, List.set_cons_succ]
     refine tk 3 rfl (by kernel_rfl) (fun _ _ _ h => h) (by rfl) (fun w hSw => by (try dsimp only [So] at hSw); go_simp; try (with_reducible rfl)) (by assumption) ?_
     simp only [Act.put, x1, x2, x3, x4, x5, x6]
     refine wpAnyH_ready (rs := [4]) (by kernel_rfl) (by simp) ?_
     refine AllReadyH.cons (o := _) rfl (fun K hK => ?_) AllReadyH.nil
     go_simp
     skip
     refine hK.out _ _ (Blk.cells5 G4.out) (fun hHeld => ?_)
     clear hK K
     try simp only [Act.put, x1, x2, x3, x4, x5, x6]
     refine tk 5 rfl (by kernel_rfl) (fun _ _ _ h => h) (by rfl) (fun w hSw => by (try dsimp only [So] at hSw); go_simp; try (with_reducible rfl)) (by assumption) ?_
     simp only [Act.put, x1, x2, x3, x4, x5, x6]
     refine wpAnyH_ready (rs := [6]) (by kernel_rfl) (by simp) ?_
     refine AllReadyH.cons (o := _) rfl (fun K hK => ?_) AllReadyH.nil
     go_simp
     skip
     refine hK.out _ _ (Blk.cells5 G5.out) (fun hHeld => ?_)
     clear hK K
     try simp only [Act.put, x1, x2, x3, x4, x5, x6]
     refine wpAnyH_done (by kernel_rfl) ?_ _
     go_wp2
     go_roundw
     case rel => exact ⟨2, by decide, by go_num, I5b.out, B5.out⟩
     case measure => simp [intOf]
    ·go_simp
     refine hK.out _ _ (Blk.cells5 G4.out) (fun hHeld => ?_)
     clear hK K
     try simp only [Act.put, List.getElem_toArray, List.getElem_cons_zero, List.getElem_cons_succ, List.setIfInBounds_toArray, List.set_cons_zero, List.set_cons_succ]
     refine tk 5 rfl (by kernel_rfl) (fun _ _ _ h => h) (by rfl) (fun w hSw => by (try dsimp only [So] at hSw); go_simp; try (with_reducible rfl)) (by assumption) ?_
     simp only [Act.put, x1, x2, x3, x4, x5, x6]
     refine wpAnyH_ready (rs := [2]) (by kernel_rfl) (by simp) ?_
     refine AllReadyH.cons (o := _) rfl (fun K hK => ?_) AllReadyH.nil
     go_simp
     skip
     refine hK.out _ _ (hHeld) (fun hHeld => ?_)
     clear hK K
     try simp only [Act.put, x1, x2, x3, x4, x5, x6]
     refine tk 3 rfl (by kernel_rfl) (fun _ _ _ h => h) (by rfl) (fun w hSw => by (try dsimp only [So] at hSw); go_simp; try (with_reducible rfl)) (by assumption) ?_
     simp only [Act.put, x1, x2, x3, x4, x5, x6]
     refine wpAnyH_ready (rs := [6]) (by kernel_rfl) (by simp) ?_
     refine AllReadyH.cons (o := _) rfl (fun K hK => ?_) AllReadyH.nil
     go_simp
     skip
     refine hK.out _ _ (Blk.cells5 G5.out) (fun hHeld => ?_)
     clear hK K
     try simp only [Act.put, x1, x2, x3, x4, x5, x6]
     refine wpAnyH_done (by kernel_rfl) ?_ _
     go_wp2
     go_roundw
     case rel => exact ⟨2, by decide, by go_num, I5b.out, B5.out⟩
     case measure => simp [intOf]
  ·have hI2 : Hid (wr.ownsMap Tryz.prog 48 (plainElem Tryz.prog 3) w.heap.size 2 C2) := hI
   clear hI
   go_wp2
   go_ret
   exact ⟨_, rfl, hI2.out, hbw.out⟩
theorem i64_wf (x : Int) (h0 : -1000000000000 ≤ x) (h1 : x ≤ 1000000000000) : (Lit.int .i64 x).wf = true := WalkArith.wf_i64 ⟨by omega, by omega⟩
theorem host_int {k : Int} {s : ByteArray} {a : Int} (h : hostN k s a) : 0 ≤ k ∧ k ≤ 2 ∧ 0 ≤ a ∧ a ≤ 4294967295 := by
 rcases h with h | ⟨h1, _, h2, h3⟩
 ·unfold named at h
  simp only [Bool.and_eq_true, decide_eq_true_eq] at h
  omega
 ·omega
theorem org_none (b : Bool) (q : P) (h : ¬ (b = true ∧ ¬ ownZ q.sc < 0)) : orgB b q = (#[.string ⟨#[]⟩, .int .i64 0, .string ⟨#[]⟩, .int .i64 0, .int .i64 0] : Array Value) := by
 unfold orgB orgV
 by_cases hb : b = true
 ·rw [if_pos hb]
  by_cases ho : ownZ q.sc < 0
  ·rw [if_pos ho]
  ·exact absurd ⟨hb, ho⟩ h
 ·rw [if_neg hb]
theorem org_some (b : Bool) (q : P) (h : b = true ∧ ¬ ownZ q.sc < 0) : orgB b q = #[.string q.sc, .int .i64 q.hk, .string q.hn, .int .i64 q.ha, .int .i64 (if q.po < 0 then ownZ q.sc else q.po)] := by
 unfold orgB orgV
 rw [if_pos h.1, if_neg h.2]
theorem ok_nf (q : P) (h : okP q) : Nf q := (read_nf _ q ((ok_getO q).1 h)).1
theorem org_facts (q : P) (h : okP q) (ho : ¬ ownZ q.sc < 0) (hs : q.tot ≤ 1048576) : (∃ k, keyOf Tryz.prog 48 (.agg #[.string q.sc, .int .i64 q.hk, .string q.hn, .int .i64 q.ha, .int .i64 (if q.po < 0 then ownZ q.sc else q.po)]) = some k) ∧ q.sc.size ≠ 0 := by
 have hsc : (q.sc = ⟨#[104, 116, 116, 112]⟩ ∧ ownZ q.sc = 80) ∨ (q.sc = ⟨#[104, 116, 116, 112, 115]⟩ ∧ ownZ q.sc = 443) := by
  unfold ownZ at ho ⊢
  by_cases h1 : q.sc = ⟨#[104, 116, 116, 112]⟩
  ·exact .inl ⟨h1, by rw [if_pos h1]⟩
  ·by_cases h2 : q.sc = ⟨#[104, 116, 116, 112, 115]⟩
   ·exact .inr ⟨h2, by rw [if_neg h1, if_pos h2]⟩
   ·rw [if_neg h1, if_neg h2] at ho; exact absurd (by decide) ho
 have hsz : q.sc.size ≠ 0 := by rcases hsc with ⟨e, _⟩ | ⟨e, _⟩ <;> rw [e] <;> decide
 have hmx : (1048576 : Nat) ≤ maxLen := by unfold maxLen; omega
 refine ⟨?_, hsz⟩
 rcases (ok_nf q h).main with ⟨hneg, _⟩ | ⟨_, _, _, _, hh, hpo, _⟩
 ·exact absurd hneg ho
 ·have hb : -1 ≤ q.po ∧ q.po ≤ 65535 := by rcases hpo with e | ⟨e1, e2, _⟩ <;> omega
  obtain ⟨k0, k1, k2, k3⟩ := host_int hh
  refine ⟨_, org_key _ _ _ _ _ (by have : q.sc.size ≤ q.tot := (by unfold P.tot; omega); omega) (i64_wf _ (by omega) (by omega)) (by have : q.hn.size ≤ q.tot := (by unfold P.tot; omega); omega) (i64_wf _ (by omega) (by omega)) (i64_wf _ ?_ ?_)⟩
  ·split <;> rcases hsc with ⟨_, e⟩ | ⟨_, e⟩ <;> omega
  ·split <;> rcases hsc with ⟨_, e⟩ | ⟨_, e⟩ <;> omega
theorem orgB_key (b : Bool) (q : P) (hb : b = true ↔ okP q) (hs : q.tot ≤ 1048576) : ∃ (u0 : ByteArray) (u1 : Int) (u2 : ByteArray) (u3 u4 : Int) (k : Lit), orgB b q = #[.string u0, .int .i64 u1, .string u2, .int .i64 u3, .int .i64 u4] ∧ keyOf Tryz.prog 48 (.agg #[.string u0, .int .i64 u1, .string u2, .int .i64 u3, .int .i64 u4]) = some k ∧
  ((u0.size = 0 ∧ (#[.string u0, .int .i64 u1, .string u2, .int .i64 u3, .int .i64 u4] : Array Value) = #[.string ⟨#[]⟩, .int .i64 0, .string ⟨#[]⟩, .int .i64 0, .int .i64 0] ∧ ¬ (okP q ∧ ¬ ownZ q.sc < 0)) ∨ (u0.size ≠ 0 ∧ okP q ∧ ¬ ownZ q.sc < 0 ∧ (#[.string u0, .int .i64 u1, .string u2, .int .i64 u3, .int .i64 u4] : Array Value) = orgV q)) := by
 by_cases h : b = true ∧ ¬ ownZ q.sc < 0
 ·obtain ⟨⟨k, hk⟩, hz⟩ := org_facts q (hb.1 h.1) h.2 hs
  exact ⟨q.sc, q.hk, q.hn, q.ha, _, k, org_some b q h, hk, .inr ⟨hz, hb.1 h.1, h.2, by unfold orgV; rw [if_neg h.2]⟩⟩
 ·exact ⟨⟨#[]⟩, 0, ⟨#[]⟩, 0, 0, _, org_none b q h, org_key _ _ _ _ _ (by decide) (by decide) (by decide) (by decide) (by decide), .inl ⟨rfl, rfl, fun h2 => h ⟨hb.2 h2.1, h2.2⟩⟩⟩
theorem implOriginSame (p q : P) (a a' : Option Addr) (n n' c c' : Nat) (w : World) (hL : Lean1 w) (hS : StrsOf a n p.ps w) (hS' : StrsOf a' n' q.ps w) (hs : p.tot ≤ 1048576) (hs' : q.tot ≤ 1048576) (hpo : p.po ≤ 9223372036854775807) (hpo' : q.po ≤ 9223372036854775807) (x : Bool) (hx : x = true ↔ okP p ∧ okP q ∧ ¬ ownZ p.sc < 0 ∧ orgV p = orgV q) :
  Calls Tryz.prog 22 #[.agg (p.cells (.slice a n c)), .agg (q.cells (.slice a' n' c'))] w fun e w' => e = .returned (.bool x) ∧ Below w.heap.size w w' := by
 obtain ⟨b, hb⟩ : ∃ b : Bool, b = true ↔ okP p := by
  by_cases h : okP p
  ·exact ⟨true, by simp [h]⟩
  ·exact ⟨false, by simp [h]⟩
 obtain ⟨b', hb'⟩ : ∃ b : Bool, b = true ↔ okP q := by
  by_cases h : okP q
  ·exact ⟨true, by simp [h]⟩
  ·exact ⟨false, by simp [h]⟩
 obtain ⟨u0, u1, u2, u3, u4, ka, ea, hka, fa⟩ := orgB_key b p hb hs
 obtain ⟨v0, v1, v2, v3, v4, kb, eb, hkb, fb⟩ := orgB_key b' q hb' hs'
 have CA : Hid (∀ W, Below w.heap.size w W → Calls Tryz.prog 29 #[.agg #[(.string p.sc), (.string p.us), (.string p.pw), (.int .i64 p.hk), (.string p.hn), (.int .i64 p.ha), (.int .i64 p.po), (.slice a n c), (.string p.op), (.bool p.hq), (.string p.qu), (.bool p.hf), (.string p.fr)]] W fun e w' => e = .returned (.agg #[.string u0, .int .i64 u1, .string u2, .int .i64 u3, .int .i64 u4]) ∧ Below W.heap.size W w') := fun W d => by
  rw [← ea]; exact implOriginOf p a n c W (hL.below d) (hS.later d) hs hpo b hb
 have CB : Hid (∀ W, Below w.heap.size w W → Calls Tryz.prog 29 #[.agg #[(.string q.sc), (.string q.us), (.string q.pw), (.int .i64 q.hk), (.string q.hn), (.int .i64 q.ha), (.int .i64 q.po), (.slice a' n' c'), (.string q.op), (.bool q.hq), (.string q.qu), (.bool q.hf), (.string q.fr)]] W fun e w' => e = .returned (.agg #[.string v0, .int .i64 v1, .string v2, .int .i64 v3, .int .i64 v4]) ∧ Below W.heap.size W w') := fun W d => by
  rw [← eb]; exact implOriginOf q a' n' c' W (hL.below d) (hS'.later d) hs' hpo' b' hb'
 have lka : WideAt.IsKeyLit ka := (Keyed.of_law org_law).key hka
 obtain ⟨C1, C2, N, HA, HB, hN, hxN⟩ : ∃ (C1 C2 : DataW Unit) (N : Int), ((u0.size = 0 ∧ (#[.string u0, .int .i64 u1, .string u2, .int .i64 u3, .int .i64 u4] : Array Value) = #[.string ⟨#[]⟩, .int .i64 0, .string ⟨#[]⟩, .int .i64 0, .int .i64 0] ∧ C1 = .map []) ∨ (u0.size ≠ 0 ∧ C1 = (DataW.map []).put ka (oneD 1))) ∧ ((v0.size = 0 ∧ (#[.string v0, .int .i64 v1, .string v2, .int .i64 v3, .int .i64 v4] : Array Value) = #[.string ⟨#[]⟩, .int .i64 0, .string ⟨#[]⟩, .int .i64 0, .int .i64 0] ∧ C2 = C1) ∨ (v0.size ≠ 0 ∧ C1.atKey kb (oneD 0) = oneD 0 ∧ C2 = C1.put kb (oneD 1)) ∨ (v0.size ≠ 0 ∧ C1.atKey kb (oneD 0) = oneD 1 ∧ C2 = C1.put kb (oneD 2))) ∧ C2.atKey ka (oneD 0) = oneD N ∧ (N == 2) = x := by
  rcases fa with ⟨hz, he, hno⟩ | ⟨hz, hp, ho, he⟩
  ·have hxf : x = false := by rw [Bool.eq_false_iff]; intro h; exact hno ⟨(hx.1 h).1, (hx.1 h).2.2.1⟩
   rcases fb with ⟨hz', he', hno'⟩ | ⟨hz', hq, ho', he'⟩
   ·exact ⟨.map [], .map [], 0, .inl ⟨hz, he, rfl⟩, .inl ⟨hz', he', rfl⟩, rfl, by rw [hxf]; rfl⟩
   ·refine ⟨.map [], (DataW.map []).put kb (oneD 1), 0, .inl ⟨hz, he, rfl⟩, .inr (.inl ⟨hz', rfl, rfl⟩), ?_, by rw [hxf]; rfl⟩
    have hne : ka ≠ kb := fun e => by
     rw [e] at hka
     have := org_law.inj hka hkb
     simp only [Value.agg.injEq, Array.mk.injEq, List.cons.injEq, Value.string.injEq] at this
     exact hz' (by rw [← this.1]; exact hz)
    rw [Maps.atKey_put_other hne]; rfl
  ·rcases fb with ⟨hz', he', hno'⟩ | ⟨hz', hq, ho', he'⟩
   ·have hxf : x = false := by
     rw [Bool.eq_false_iff]; intro h
     obtain ⟨_, hq, _, e⟩ := hx.1 h
     by_cases ho' : ownZ q.sc < 0
     ·have e2 : orgV q = (#[.string ⟨#[]⟩, .int .i64 0, .string ⟨#[]⟩, .int .i64 0, .int .i64 0] : Array Value) := by unfold orgV; rw [if_pos ho']
      rw [← e, ← he] at e2
      simp only [Array.mk.injEq, List.cons.injEq, Value.string.injEq] at e2
      exact hz (by rw [e2.1]; rfl)
     ·exact hno' ⟨hq, ho'⟩
    exact ⟨(DataW.map []).put ka (oneD 1), (DataW.map []).put ka (oneD 1), 1, .inr ⟨hz, rfl⟩, .inl ⟨hz', he', rfl⟩, Maps.atKey_put_same Maps.isMap_empty lka _ _, by rw [hxf]; rfl⟩
   ·by_cases e : ka = kb
    ·have hxt : x = true := by
      rw [hx]
      refine ⟨hp, hq, ho, ?_⟩
      rw [e] at hka
      have := org_law.inj hka hkb
      rw [← he, ← he']
      exact Value.agg.inj this
     subst e
     exact ⟨(DataW.map []).put ka (oneD 1), ((DataW.map []).put ka (oneD 1)).put ka (oneD 2), 2, .inr ⟨hz, rfl⟩, .inr (.inr ⟨hz', Maps.atKey_put_same Maps.isMap_empty lka _ _, rfl⟩), Maps.atKey_put_same (Maps.isMap_empty.put _ _) lka _ _, by rw [hxt]; rfl⟩
    ·have hxf : x = false := by
      rw [Bool.eq_false_iff]; intro h
      have e2 := (hx.1 h).2.2.2
      rw [← he, ← he'] at e2
      rw [e2, hkb] at hka
      exact e (Option.some.inj hka).symm
     refine ⟨(DataW.map []).put ka (oneD 1), ((DataW.map []).put ka (oneD 1)).put kb (oneD 1), 1, .inr ⟨hz, rfl⟩, .inr (.inl ⟨hz', ?_, rfl⟩), ?_, by rw [hxf]; rfl⟩
     ·rw [Maps.atKey_put_other (fun h => e h.symm)]; rfl
     ·rw [Maps.atKey_put_other e]; exact Maps.atKey_put_same Maps.isMap_empty lka _ _
 have HX : Hid ((N == 2) = x) := hxN
 have HC : Hid (∀ (gl : Nat) W, Below w.heap.size w W → Blk gl #[(.string p.sc), (.string p.us), (.string p.pw), (.int .i64 p.hk), (.string p.hn), (.int .i64 p.ha), (.int .i64 p.po), (.slice a n c), (.string p.op), (.bool p.hq), (.string p.qu), (.bool p.hf), (.string p.fr), (.string q.sc), (.string q.us), (.string q.pw), (.int .i64 q.hk), (.string q.hn), (.int .i64 q.ha), (.int .i64 q.po), (.slice a' n' c'), (.string q.op), (.bool q.hq), (.string q.qu), (.bool q.hf), (.string q.fr)] 31 W → Calls Tryz.prog 59 #[.slice (some ⟨gl, 0, none⟩) 2 2] W fun e w' => ∃ b, e = .returned (.map (some b)) ∧ w'.ownsMap Tryz.prog 48 (plainElem Tryz.prog 3) b 2 C2 ∧ Below W.heap.size W w') := fun gl W d hG =>
  originCounts p q a a' n n' c c' gl W hG u0 u1 u2 u3 u4 v0 v1 v2 v3 v4 x (fun W' d' => CA.out W' (d.trans (d'.mono d.size))) (fun W' d' => CB.out W' (d.trans (d'.mono d.size))) ka kb hka hkb C1 C2 HA HB
 have HKA : Hid (keyOf Tryz.prog 48 (.agg #[.string u0, .int .i64 u1, .string u2, .int .i64 u3, .int .i64 u4]) = some ka) := hka
 have HNN : Hid (C2.atKey ka (oneD 0) = oneD N) := hN
 obtain ⟨V, hV⟩ : ∃ V, V = ((w.alloc (.cells #[(.string p.sc), (.string p.us), (.string p.pw), (.int .i64 p.hk), (.string p.hn), (.int .i64 p.ha), (.int .i64 p.po), (.slice a n c), (.string p.op), (.bool p.hq), (.string p.qu), (.bool p.hf), (.string p.fr)] 31)).alloc (.cells #[(.string q.sc), (.string q.us), (.string q.pw), (.int .i64 q.hk), (.string q.hn), (.int .i64 q.ha), (.int .i64 q.po), (.slice a' n' c'), (.string q.op), (.bool q.hq), (.string q.qu), (.bool q.hf), (.string q.fr)] 31)) := ⟨_, rfl⟩
 have HK0 : Hid (Tw w (p.cells (.slice a n c)) (q.cells (.slice a' n' c')) V) := by show Tw _ _ _ _; rw [hV]; exact Tw.start w _ _
 have HS : Hid (∀ W, Below V.heap.size V W → Tw w (p.cells (.slice a n c)) (q.cells (.slice a' n' c')) W ∧ (fun W => Below w.heap.size w W ∧ Sc w.heap.size p a n c W ∧ Sc (w.heap.size + 1) q a' n' c' W) W) := fun W d => ⟨HK0.out.later d, (HK0.out.later d).bw, Sc.of (HK0.out.later d).b1, Sc.of (HK0.out.later d).b2⟩
 clear hS hS' hs hs' hpo hpo' hL hx hxN hN HA HB fa fb hka hkb ea eb hb hb' CB HK0 lka
 unfold P.cells
 go_enter Tryz.func22, Tryz.ntmps22
 go_upto_region 1 with fail
 rw [← hV]
 clear hV
 go_wp2
 refine wp_region_held_drew (S := (fun W => Below w.heap.size w W ∧ Sc w.heap.size p a n c W ∧ Sc (w.heap.size + 1) q a' n' c' W)) (by kernel_rfl) ((HS.out _ (Below.refl _ _).drew).2) (fun hHeld => ?_)
 refine tk 0 rfl (by kernel_rfl) (fun _ _ _ h => h) (by rfl) (fun w hSw => by (try dsimp only [Sc] at hSw); go_simp; try (with_reducible rfl)) (by assumption) ?_
 simp only [Act.put, x1, x2, x3, x4, x5, x6]
 refine tk 1 rfl (by kernel_rfl) (fun _ _ _ h => h) (by rfl) (fun w hSw => by (try dsimp only [Sc] at hSw); go_simp; try (with_reducible rfl)) (by assumption) ?_
 simp only [Act.put, x1, x2, x3, x4, x5, x6]
 refine tk 4 rfl (by kernel_rfl) (fun _ _ _ h => h) (by rfl) (fun w hSw => by (try dsimp only [Sc] at hSw); go_simp; try (with_reducible rfl)) (by assumption) ?_
 simp only [Act.put, x1, x2, x3, x4, x5, x6]
 refine wpAnyH_ready (rs := [2]) (by kernel_rfl) (by simp) ?_
 refine AllReadyH.cons (o := _) rfl (fun K hK => ?_) AllReadyH.nil
 go_simp
 have D1 : Hid (Below V.heap.size V (V.drew.alloc (.cells #[(.string p.sc), (.string p.us), (.string p.pw), (.int .i64 p.hk), (.string p.hn), (.int .i64 p.ha), (.int .i64 p.po), (.slice a n c), (.string p.op), (.bool p.hq), (.string p.qu), (.bool p.hf), (.string p.fr), (.string q.sc), (.string q.us), (.string q.pw), (.int .i64 q.hk), (.string q.hn), (.int .i64 q.ha), (.int .i64 q.po), (.slice a' n' c'), (.string q.op), (.bool q.hq), (.string q.qu), (.bool q.hf), (.string q.fr)] 31))) := (Below.refl _ V).drew.alloc (Nat.le_refl _) _
 refine hK.out _ _ ((HS.out _ D1.out).2) (fun hHeld => ?_)
 clear hK K
 try simp only [Act.put, x1, x2, x3, x4, x5, x6]
 refine wpAnyH_ready (rs := [3]) (by kernel_rfl) (by simp) ?_
 refine AllReadyH.cons (o := _) rfl (fun K hK => ?_) AllReadyH.nil
 go_simp
 refine (HC.out _ _ (HS.out _ D1.out).1.bw (Blk.new V.drew _ _)).mono ?_
 rintro e W3 ⟨bm, rfl, I3, d3⟩
 have D3 : Hid (Below V.heap.size V W3) := D1.out.trans (d3.mono D1.out.size)
 refine hK.out _ _ ((HS.out _ D3.out).2) (fun hHeld => ?_)
 clear hK K
 try simp only [Act.put, x1, x2, x3, x4, x5, x6]
 refine wpAnyH_ready (rs := [5]) (by kernel_rfl) (by simp) ?_
 refine AllReadyH.cons (o := _) rfl (fun K hK => ?_) AllReadyH.nil
 go_simp
 refine (CA.out _ (HS.out _ D3.out).1.bw).mono ?_
 rintro e W5 ⟨rfl, d5⟩
 have D5 : Hid (Below V.heap.size V W5) := D3.out.trans (d5.mono D3.out.size)
 obtain ⟨N2, hlook, hat, _⟩ := (owns_below I3 d5).lookup_int (Keyed.of_law org_law) org_map Tryz.underlying3 (zero_int _) HKA.out
 have hNN : N2 = N := by
  have e := hat.symm.trans HNN.out
  simp only [oneD, DataW.lit.injEq, Lit.int.injEq, true_and] at e
  exact e
 rw [hNN] at hlook
 clear hat hNN
 refine hK.out _ _ ((HS.out _ D5.out).2) (fun hHeld => ?_)
 clear hK K
 try simp only [Act.put, x1, x2, x3, x4, x5, x6]
 refine wpAnyH_ready (rs := [6]) (by kernel_rfl) (by simp) ?_
 refine AllReadyH.cons (o := _) rfl (fun K hK => ?_) AllReadyH.nil
 go_simp
 skip
 refine hK.out _ _ (hHeld) (fun hHeld => ?_)
 clear hK K
 try simp only [Act.put, x1, x2, x3, x4, x5, x6]
 refine tk (v := .bool x) 7 rfl (by kernel_rfl) (fun _ _ _ h => h) (by rfl) (fun w hSw => by (try dsimp only [Sc] at hSw); go_simp; first | exact HX.out | (have h := HX.out; simpa using h)) (by assumption) ?_
 simp only [Act.put, x1, x2, x3, x4, x5, x6]
 refine tk 8 rfl (by kernel_rfl) (fun _ _ _ h => h) (by rfl) (fun w hSw => by (try dsimp only [Sc] at hSw); go_simp; try (with_reducible rfl)) (by assumption) ?_
 simp only [Act.put, x1, x2, x3, x4, x5, x6]
 refine wpAnyH_done (by kernel_rfl) ?_ _
 go_wp2
 go_ret
 exact ⟨rfl, hHeld.1⟩
end Go.Proofs.YtnfhajhdpdidlaaGreatDoor
end
section
namespace Go.Proofs.YtnfhajhdpdidlaaGreatDoor
open Go.RowKit Go.Shelf
theorem form_nil (k : Int) (s : ByteArray) (a : Int) : (formV k s a = .nilIface ∧ (named k s a || numbered k s a) = false) ∨ ((∃ t v, formV k s a = .iface t v) ∧ (named k s a || numbered k s a) = true) := by
 cases h1 : named k s a with
 | true => right; exact ⟨⟨_, _, form_named h1⟩, rfl⟩
 | false =>
  cases h2 : numbered k s a with
  | true => right; exact ⟨⟨_, _, form_numbered h1 h2⟩, rfl⟩
  | false => left; exact ⟨form_none h1 h2, rfl⟩
theorem implOk (k : Int) (s : ByteArray) (a : Int) (w : World) (hm : ∃ m, w.cell? ⟨0, 0, none⟩ = some (.int .i64 m)) (hs : s.size ≤ 1048576) :
  Calls Tryz.prog 104 #[.agg #[.int .i64 k, .string s, .int .i64 a]] w fun e w' => e = .returned (.bool (okH k s a)) ∧ Below w.heap.size w w' := by
 have hlt : 0 < w.heap.size := by
  obtain ⟨m, hm⟩ := hm
  exact cell_lt hm
 have HM : Hid (∀ W, Below w.heap.size w W → ∃ m, W.cell? ⟨0, 0, none⟩ = some (.int .i64 m)) := by
  obtain ⟨m, hm⟩ := hm
  intro W b
  exact ⟨m, (b.cell (p := ⟨0, 0, none⟩) hlt).trans hm⟩
 clear hm
 cases hz : noneH k s a with
 | true =>
  have HO : Hid (okH k s a = true) := by show _ = _; unfold okH; rw [hz]; rfl
  have h1 : (k = 0 ∧ a = 0) ∧ s.size = 0 := by
   unfold noneH at hz
   rw [Bool.and_eq_true, decide_eq_true_eq, List.isEmpty_iff] at hz
   refine ⟨hz.1, ?_⟩
   have hl : s.data.toList.length = s.size := by simp
   rw [hz.2] at hl; simpa using hl.symm
  obtain ⟨⟨rfl, rfl⟩, h3⟩ := h1
  have he := zero_text s h3
  subst he
  clear hz h3
  go_enter Tryz.func104, Tryz.ntmps104
  go_wp2
  go_ret
  exact ⟨by rw [HO.out]; rfl, (Below.refl _ w).alloc (Nat.le_refl _) _⟩
 | false =>
  have HO : Hid (okH k s a = (named k s a || numbered k s a)) := by show _ = _; unfold okH; rw [hz]; rfl
  have HC : Hid (∀ W, Below w.heap.size w W → Calls Tryz.prog 131 #[.agg #[.int .i64 k, .string s, .int .i64 a]] W fun e w' => e = .returned (formV k s a) ∧ Below W.heap.size W w') := fun W b => hostFormOf k s a W (HM.out W b) hs
  have HFV := form_nil k s a
  have h1 : k ≠ 0 ∨ a ≠ 0 ∨ s.size ≠ 0 := by
   rcases Classical.em (k ≠ 0 ∨ a ≠ 0 ∨ s.size ≠ 0) with h | h
   ·exact h
   ·exfalso
    have hk : k = 0 ∧ a = 0 := by omega
    have he := zero_text s (by omega)
    unfold noneH at hz
    rw [decide_eq_true hk, he] at hz
    cases hz
  clear hz HM
  obtain ⟨f, hf⟩ : ∃ f, f = formV k s a := ⟨_, rfl⟩
  rw [← hf] at HC HFV
  clear hf
  obtain ⟨b, hb⟩ : ∃ b, b = (named k s a || numbered k s a) := ⟨_, rfl⟩
  rw [← hb] at HO HFV
  clear hb
  have HEQ : (k == 0) = false ∨ ((k == 0) = true ∧ (s.toList == []) = false) ∨ ((k == 0) = true ∧ (s.toList == []) = true ∧ (a == 0) = false) := by
   by_cases e1 : k = 0
   ·by_cases e2 : s.size = 0
    ·right; right
     rw [zero_text s e2]
     exact ⟨by simp [e1], by rw [ByteArray.toList_eq]; rfl, by simp; omega⟩
    ·right; left; exact ⟨by simp [e1], (full_text s e2).1⟩
   ·left; simp [e1]
  clear h1
  rcases HFV with ⟨rfl, rfl⟩ | ⟨⟨t, v, rfl⟩, rfl⟩
  all_goals
   go_enter Tryz.func104, Tryz.ntmps104
   rcases HEQ with g1 | ⟨g1, g2⟩ | ⟨g1, g2, g3⟩
   all_goals
    go_wp2_with (go_at_call 131; refine (HC.out _ ((Below.refl _ w).alloc (Nat.le_refl _) _)).mono ?_; rintro e W1 ⟨rfl, b1⟩)
    go_ret
    exact ⟨by rw [HO.out]; rfl, box_below b1⟩
end Go.Proofs.YtnfhajhdpdidlaaGreatDoor
end
