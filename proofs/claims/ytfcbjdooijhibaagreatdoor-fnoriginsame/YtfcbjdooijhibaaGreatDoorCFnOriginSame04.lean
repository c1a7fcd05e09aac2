/- impl.originCounts, impl.OriginSame: how often an origin is met. spec.l4Same, spec.OriginSame: two addresses of one origin. The reader's pick answers a number from 0 on, below what it is asked for, and turns nothing but the reader's place. The reader's choice out of a list: one of the list's own, and nothing turns but the reader's place. -/
import Derived.Test.YtfcbjdooijhibaaGreatDoorCFnOriginSame02
import Derived.Test.YtfcbjdooijhibaaGreatDoorD16
import Derived.Test.YtfcbjdooijhibaaGreatDoorCFnOriginSame03
import Derived.Deep.RegionHeld3
import Derived.Test.YtfcbjdooijhibaaGreatDoorCFnOriginSame01
set_option linter.unusedVariables false
set_option linter.unusedSimpArgs false
set_option maxHeartbeats 8000000
set_option maxRecDepth 100000
section
namespace Go.Proofs.YtfcbjdooijhibaaGreatDoor
open Go.RowKit Go.Shelf
open Go.Maps (Keyed)
open Go.WideMaps (KeyLaw)
open Go.WideElems (entry_then_store)
open Go.ChangeShapes Go.WideShapes Go.MapKept Go.ChangeMaps
def oneD (x : Int) : DataW Unit := .lit (.int .i64 x)
theorem org_map : Tryz.prog.underlying 62 = some (.map 40 3) := Tryz.underlying62
theorem zero_int (w : World) : (zeroValue 3).run Tryz.prog w = .ok (.int .i64 0) w := Tryz.zeroValue3 w
theorem count_step {W : World} {b n : Nat} {D : DataW Unit} (hown : W.ownsMap Tryz.prog 40 (plainElem Tryz.prog 3) b n D) (hn : n < maxLen) {key : Value} {kl : Lit} (hkey : keyOf Tryz.prog 40 key = some kl) (c d : Int) (hc : D.atKey kl (oneD 0) = oneD c) (hw : (Lit.int .i64 d).wf = true) :
  (Instr.lookup 62 (.map (some b)) key false).run Tryz.prog W = .ok (.int .i64 c) W ∧ ∃ (st : Nat) (v0 : Value) (W1 W2 : World), (Instr.mapEntry 62 (.map (some b)) key).run Tryz.prog W = .ok (.tuple #[v0, .int .i64 st]) W1 ∧ (Instr.entryStore 62 (.map (some b)) (.int .i64 st) (.int .i64 d)).run Tryz.prog W1 = .ok () W2 ∧
   W2.ownsMap Tryz.prog 40 (plainElem Tryz.prog 3) b (n + 1) (D.put kl (oneD d)) ∧ W.grownBy W1 (some b) ∧ W.grownBy W2 (some b) := by
 refine ⟨?_, ?_⟩
 ·obtain ⟨c', hrun, hat, _⟩ := hown.lookup_int (Keyed.of_law org_law) org_map Tryz.underlying3 (zero_int _) hkey
  have e : oneD c = oneD c' := hc.symm.trans hat
  simp only [oneD, DataW.lit.injEq, Lit.int.injEq, true_and] at e
  rw [e]; exact hrun
 ·obtain ⟨w', hrun, hown', _⟩ := hown.update (Keyed.of_law org_law) org_map hn hkey (plainElem_int (H := Unit) Tryz.underlying3 hw)
  obtain ⟨es, clock, hb, F, hs, hD⟩ := hown
  obtain ⟨v0, st, es1, clock1, h1, _, h3⟩ := entry_then_store org_law org_map (z := .int .i64 0) (fun u => zero_int u) hb F hkey
  obtain ⟨es', clock', h4, h5⟩ := h3 (setBlock W b (.map es1 clock1)) (.int .i64 d) (heap_setBlock_same hb _)
  have hb1 := heap_setBlock_same hb (.map es1 clock1)
  rw [h5] at hrun
  injection hrun with _ ew
  refine ⟨st, v0, _, _, h1, h4, ?_, ⟨rfl, rfl, rfl, by simp [setBlock], fun i _ hi => heap_setBlock_other hb _ (fun e => hi (by rw [e]))⟩, ⟨rfl, rfl, rfl, by simp [setBlock], fun i _ hi => (heap_setBlock_other hb1 _ (fun e => hi (by rw [e]))).trans (heap_setBlock_other hb _ (fun e => hi (by rw [e])))⟩⟩
  obtain ⟨es2, cl2, hb2, F2, hs2, hD2⟩ := hown'
  refine ⟨es2, cl2, ?_, F2, hs2, hD2⟩
  rw [← ew, heap_setBlock_same hb] at hb2
  rw [heap_setBlock_same hb1]
  exact hb2
theorem entry_look {W : World} {b n : Nat} {D : DataW Unit} (hown : W.ownsMap Tryz.prog 40 (plainElem Tryz.prog 3) b n D) (hn : n < maxLen) {key : Value} {kl : Lit} (hkey : keyOf Tryz.prog 40 key = some kl) (c : Int) (hc : D.atKey kl (oneD 0) = oneD c) (v : Value) (W1 : World) (h : (Instr.mapEntry 62 (.map (some b)) key).run Tryz.prog W = .ok v W1) :
  (Instr.lookup 62 (.map (some b)) key false).run Tryz.prog W1 = .ok (.int .i64 c) W1 := by
 have hown0 := hown
 obtain ⟨es, clock, hb, F, hs, hD⟩ := hown
 rcases org_law.find W hkey es.toList F.keys with ⟨h1, h2⟩ | ⟨j, e0, h1, h2, h3⟩
 ·have hrun : (Instr.mapEntry 62 (.map (some b)) key).run Tryz.prog W = .ok (.tuple #[.int .i64 0, goInt clock]) (setBlock W b (.map (es.push ⟨key, .int .i64 0, clock⟩) (clock + 1))) := by
   simp [Instr.mapEntry, run_underlying org_map, MapKept.run_getObj_map hb, org_law.check W false hkey, h1, zero_int, MapKept.run_setObj_map _ hb, Result.andThen, setBlock]
  have ew := (Result.ok.inj (hrun.symm.trans h)).2
  clear hrun h
  subst ew
  obtain ⟨w', hup, hown', _⟩ := hown0.update (Keyed.of_law org_law) org_map hn hkey (plainElem_int (H := Unit) (a := 0) Tryz.underlying3 (by decide))
  have hup2 : (Instr.mapUpdate 62 (.map (some b)) key (.int .i64 0)).run Tryz.prog W = .ok () (setBlock W b (.map (es.push ⟨key, .int .i64 0, clock⟩) (clock + 1))) := by
   simp [Instr.mapUpdate, run_underlying org_map, MapKept.run_getObj_map hb, org_law.check W false hkey, h1, MapKept.run_setObj_map _ hb, Result.andThen, setBlock]
  have ew := (Result.ok.inj (hup2.symm.trans hup)).2
  rw [← ew] at hown'
  obtain ⟨c', hr, hat, _⟩ := hown'.lookup_int (Keyed.of_law org_law) org_map Tryz.underlying3 (zero_int _) hkey
  have e0 : (D.put kl (oneD 0)).atKey kl (oneD 0) = oneD 0 := Maps.atKey_put_same ⟨_, hD⟩ ((Keyed.of_law org_law).key hkey) _ _
  have e1 : D.atKey kl (oneD 0) = oneD 0 := by rw [hD]; exact Go.WideElems.atKey_none org_law F hkey h2 _
  have e2 : oneD 0 = oneD c' := e0.symm.trans hat
  have e3 : oneD 0 = oneD c := e1.symm.trans hc
  simp only [oneD, DataW.lit.injEq, Lit.int.injEq, true_and] at e2 e3
  have e4 : c = c' := e3.symm.trans e2
  rw [e4]
  exact hr
 ·have hj : es[j]? = some e0 := by simpa using h2
  have hsame : es.modify j (fun e => { e with key := key }) = es := by
   apply Array.ext'
   rw [Array.toList_modify, Go.ChangeMaps.modify_eq_set _ _ _ _ h2]
   have : ({ e0 with key := key } : MapEntry) = e0 := by rw [← h3]
   rw [this]
   exact Go.WideElems.set_self _ _ _ h2
  have hrun : (Instr.mapEntry 62 (.map (some b)) key).run Tryz.prog W = .ok (.tuple #[e0.val, goInt e0.born]) (setBlock W b (.map es clock)) := by
   simp [Instr.mapEntry, run_underlying org_map, MapKept.run_getObj_map hb, org_law.check W false hkey, h1, hj, h3, org_law.stays W hkey, hsame, MapKept.run_setObj_map _ hb, Result.andThen, setBlock]
  have ew := (Result.ok.inj (hrun.symm.trans h)).2
  clear hrun h
  subst ew
  have hown1 : (setBlock W b (.map es clock)).ownsMap Tryz.prog 40 (plainElem Tryz.prog 3) b n D := ⟨es, clock, heap_setBlock_same hb _, F, hs, hD⟩
  obtain ⟨c', hr, hat, _⟩ := hown1.lookup_int (Keyed.of_law org_law) org_map Tryz.underlying3 (zero_int _) hkey
  have e : oneD c = oneD c' := hc.symm.trans hat
  simp only [oneD, DataW.lit.injEq, Lit.int.injEq, true_and] at e
  rw [e]
  exact hr
def So (g : Nat) (x0 : ByteArray) (x1 : Int) (x2 : ByteArray) (x3 x4 : Int) (W : World) : Prop := W.cell? ⟨g, 0, none⟩ = some (.string x0) ∧ W.cell? ⟨g, 1, none⟩ = some (.int .i64 x1) ∧ W.cell? ⟨g, 2, none⟩ = some (.string x2) ∧ W.cell? ⟨g, 3, none⟩ = some (.int .i64 x3) ∧ W.cell? ⟨g, 4, none⟩ = some (.int .i64 x4)
theorem owns_below {W W' : World} {b n : Nat} {D : DataW Unit} (h : W.ownsMap Tryz.prog 40 (plainElem Tryz.prog 3) b n D) (d : Below W.heap.size W W') : W'.ownsMap Tryz.prog 40 (plainElem Tryz.prog 3) b n D := by
 have hlt := h.lt
 obtain ⟨es, clock, hb, F, hs, hD⟩ := h
 exact ⟨es, clock, (d.block b hlt).trans hb, F, hs, hD⟩
theorem originCounts (p q : P) (a a' : Option Addr) (n n' c c' gl : Nat) (w : World) (hG : Blk gl #[(.string p.sc), (.string p.us), (.string p.pw), (.int .i64 p.hk), (.string p.hn), (.int .i64 p.ha), (.int .i64 p.po), (.slice a n c), (.string p.op), (.bool p.hq), (.string p.qu), (.bool p.hf), (.string p.fr), (.string q.sc), (.string q.us), (.string q.pw), (.int .i64 q.hk), (.string q.hn), (.int .i64 q.ha), (.int .i64 q.po), (.slice a' n' c'), (.string q.op), (.bool q.hq), (.string q.qu), (.bool q.hf), (.string q.fr)] 27 w) (u0 : ByteArray) (u1 : Int) (u2 : ByteArray) (u3 u4 : Int) (v0 : ByteArray) (v1 : Int) (v2 : ByteArray) (v3 v4 : Int) (x : Bool)
  (CA : Hid (∀ W, Below w.heap.size w W → Calls Tryz.prog 19 #[.agg #[(.string p.sc), (.string p.us), (.string p.pw), (.int .i64 p.hk), (.string p.hn), (.int .i64 p.ha), (.int .i64 p.po), (.slice a n c), (.string p.op), (.bool p.hq), (.string p.qu), (.bool p.hf), (.string p.fr)]] W fun e w' => e = .returned (.agg #[.string u0, .int .i64 u1, .string u2, .int .i64 u3, .int .i64 u4]) ∧ Below W.heap.size W w'))
  (CB : Hid (∀ W, Below w.heap.size w W → Calls Tryz.prog 19 #[.agg #[(.string q.sc), (.string q.us), (.string q.pw), (.int .i64 q.hk), (.string q.hn), (.int .i64 q.ha), (.int .i64 q.po), (.slice a' n' c'), (.string q.op), (.bool q.hq), (.string q.qu), (.bool q.hf), (.string q.fr)]] W fun e w' => e = .returned (.agg #[.string v0, .int .i64 v1, .string v2, .int .i64 v3, .int .i64 v4]) ∧ Below W.heap.size W w'))
  (ka kb : Lit) (hka : keyOf Tryz.prog 40 (.agg #[.string u0, .int .i64 u1, .string u2, .int .i64 u3, .int .i64 u4]) = some ka) (hkb : keyOf Tryz.prog 40 (.agg #[.string v0, .int .i64 v1, .string v2, .int .i64 v3, .int .i64 v4]) = some kb)
  (C1 C2 : DataW Unit)
  (HA : Hid ((u0.size = 0 ∧ (#[.string u0, .int .i64 u1, .string u2, .int .i64 u3, .int .i64 u4] : Array Value) = #[.string ⟨#[]⟩, .int .i64 0, .string ⟨#[]⟩, .int .i64 0, .int .i64 0] ∧ C1 = .map []) ∨ (u0.size ≠ 0 ∧ C1 = (DataW.map []).put ka (oneD 1))))
  (HB : Hid ((v0.size = 0 ∧ (#[.string v0, .int .i64 v1, .string v2, .int .i64 v3, .int .i64 v4] : Array Value) = #[.string ⟨#[]⟩, .int .i64 0, .string ⟨#[]⟩, .int .i64 0, .int .i64 0] ∧ C2 = C1) ∨ (v0.size ≠ 0 ∧ C1.atKey kb (oneD 0) = oneD 0 ∧ C2 = C1.put kb (oneD 1)) ∨ (v0.size ≠ 0 ∧ C1.atKey kb (oneD 0) = oneD 1 ∧ C2 = C1.put kb (oneD 2)))) :
  Calls Tryz.prog 52 #[.slice (some ⟨gl, 0, none⟩) 2 2] w fun e w' => ∃ b, e = .returned (.map (some b)) ∧ w'.ownsMap Tryz.prog 40 (plainElem Tryz.prog 3) b 2 C2 ∧ Below w.heap.size w w' := by
 have hmm := @run_makeMap Tryz.prog
 have hgl := hG.lt
 have HG : Hid (∀ W, Below w.heap.size w W → Blk gl #[(.string p.sc), (.string p.us), (.string p.pw), (.int .i64 p.hk), (.string p.hn), (.int .i64 p.ha), (.int .i64 p.po), (.slice a n c), (.string p.op), (.bool p.hq), (.string p.qu), (.bool p.hf), (.string p.fr), (.string q.sc), (.string q.us), (.string q.pw), (.int .i64 q.hk), (.string q.hn), (.int .i64 q.ha), (.int .i64 q.po), (.slice a' n' c'), (.string q.op), (.bool q.hq), (.string q.qu), (.bool q.hf), (.string q.fr)] 27 W) := fun W d => hG.below d hgl
 have hC0 : Hid ((w.alloc (.map #[] 0)).ownsMap Tryz.prog 40 (plainElem Tryz.prog 3) w.heap.size 0 (DataW.map [] : DataW Unit)) := World.ownsMap_made _ _ _ _
 have HKA : Hid (keyOf Tryz.prog 40 (.agg #[.string u0, .int .i64 u1, .string u2, .int .i64 u3, .int .i64 u4]) = some ka) := hka
 have HKB : Hid (keyOf Tryz.prog 40 (.agg #[.string v0, .int .i64 v1, .string v2, .int .i64 v3, .int .i64 v4]) = some kb) := hkb
 clear hG hka hkb
 go_enter Tryz.func52, Tryz.ntmps52
 go_wp2
 go_loopw [10] (fun i wr => ∃ j : Nat, j ≤ 2 ∧ i = .int .i64 j ∧ Hid (wr.ownsMap Tryz.prog 40 (plainElem Tryz.prog 3) w.heap.size j (match j with | 0 => .map [] | 1 => C1 | _ => C2)) ∧ Hid (Below w.heap.size w wr)) (fun i wr => 2 - (intOf i).toNat)
 case atStart => exact ⟨0, by decide, rfl, hC0.out, (Below.refl _ _).alloc (Nat.le_refl _) _⟩
 case round =>
  obtain ⟨j, hj, rfl, hI, hbw⟩ := hrel
  clear hmm hC0
  rcases (show j = 0 ∨ j = 1 ∨ j = 2 from by omega) with rfl | rfl | rfl
  ·have hI2 : Hid (wr.ownsMap Tryz.prog 40 (plainElem Tryz.prog 3) w.heap.size 0 (DataW.map [] : DataW Unit)) := hI
   clear hI
   have hk := (HG.out wr hbw.out)
   have k0 : wr.cell? ⟨gl, 0, none⟩ = some (.string p.sc) := hk.cell 0
   have k1 : wr.cell? ⟨gl, 1, none⟩ = some (.string p.us) := hk.cell 1
   have k2 : wr.cell? ⟨gl, 2, none⟩ = some (.string p.pw) := hk.cell 2
   have k3 : wr.cell? ⟨gl, 3, none⟩ = some (.int .i64 p.hk) := hk.cell 3
   have k4 : wr.cell? ⟨gl, 4, none⟩ = some (.string p.hn) := hk.cell 4
   have k5 : wr.cell? ⟨gl, 5, none⟩ = some (.int .i64 p.ha) := hk.cell 5
   have k6 : wr.cell? ⟨gl, 6, none⟩ = some (.int .i64 p.po) := hk.cell 6
   have k7 : wr.cell? ⟨gl, 7, none⟩ = some (.slice a n c) := hk.cell 7
   have k8 : wr.cell? ⟨gl, 8, none⟩ = some (.string p.op) := hk.cell 8
   have k9 : wr.cell? ⟨gl, 9, none⟩ = some (.bool p.hq) := hk.cell 9
   have k10 : wr.cell? ⟨gl, 10, none⟩ = some (.string p.qu) := hk.cell 10
   have k11 : wr.cell? ⟨gl, 11, none⟩ = some (.bool p.hf) := hk.cell 11
   have k12 : wr.cell? ⟨gl, 12, none⟩ = some (.string p.fr) := hk.cell 12
   clear hk
   obtain ⟨V1, hV1⟩ : ∃ V, V = wr.alloc (.cells #[(.string p.sc), (.string p.us), (.string p.pw), (.int .i64 p.hk), (.string p.hn), (.int .i64 p.ha), (.int .i64 p.po), (.slice a n c), (.string p.op), (.bool p.hq), (.string p.qu), (.bool p.hf), (.string p.fr)] 27) := ⟨_, rfl⟩
   have D1 : Hid (Below wr.heap.size wr V1) := by show Below _ _ _; rw [hV1]; exact (Below.refl _ _).alloc (Nat.le_refl _) _
   have G1 : Hid (Blk wr.heap.size (p.cells (.slice a n c)) 27 V1) := by show Blk _ _ _ _; rw [hV1]; exact Blk.new wr _ _
   have B1 : Hid (Below w.heap.size w V1) := hbw.out.trans (D1.out.mono hbw.out.size)
   have I1 : Hid (V1.ownsMap Tryz.prog 40 (plainElem Tryz.prog 3) w.heap.size 0 (DataW.map [] : DataW Unit)) := by show World.ownsMap _ _ _ _ _ _ _; rw [hV1]; exact hI2.out.alloc _
   clear hI2 D1
   go_upto_region 5 with fail
   rw [← hV1]
   clear hV1 k0 k1 k2 k3 k4 k5 k6 k7 k8 k9 k10 k11 k12
   generalize wr.heap.size = gu at *
   obtain ⟨k0, k1, k2, k3, k4, k5, k6, k7, k8, k9, k10, k11, k12⟩ := Blk.cells13a G1.out
   go_wp2_with fail
   refine (CA.out _ B1.out).mono ?_
   rintro e W2 ⟨rfl, d2⟩
   obtain ⟨V3, hV3⟩ : ∃ V, V = W2.alloc (.cells #[.string u0, .int .i64 u1, .string u2, .int .i64 u3, .int .i64 u4] 40) := ⟨_, rfl⟩
   have D3 : Hid (Below V1.heap.size V1 V3) := by show Below _ _ _; rw [hV3]; exact d2.alloc d2.size _
   have G3 : Hid (Blk W2.heap.size #[.string u0, .int .i64 u1, .string u2, .int .i64 u3, .int .i64 u4] 40 V3) := by show Blk _ _ _ _; rw [hV3]; exact Blk.new W2 _ _
   have B3 : Hid (Below w.heap.size w V3) := B1.out.trans (D3.out.mono B1.out.size)
   have I3 : Hid (V3.ownsMap Tryz.prog 40 (plainElem Tryz.prog 3) w.heap.size 0 (DataW.map [] : DataW Unit)) := owns_below I1.out D3.out
   have NE : Hid (W2.heap.size ≠ w.heap.size) := by have h1 := I1.out.lt; have h2 := d2.size; show _ ≠ _; omega
   clear d2 D3 G1 B1 I1 k0 k1 k2 k3 k4 k5 k6 k7 k8 k9 k10 k11 k12
   go_upto_region 6 with fail
   rw [← hV3]
   clear hV3
   generalize W2.heap.size = go at *
   obtain ⟨o0, o1, o2, o3, o4⟩ := Blk.cells5 G3.out
   rcases HA.out with ⟨hz, he, hC⟩ | ⟨hz, hC⟩
   ·injection he with he1
    simp only [List.cons.injEq, Value.string.injEq, Value.int.injEq, true_and, and_true] at he1
    obtain ⟨e0, e1, e2, e3, e4⟩ := he1
    subst e0 e1 e2 e3 e4
    go_wp2
    go_roundw
    case rel => exact ⟨1, by decide, by go_num, by rw [hC]; exact I3.out.mono (by decide), B3.out⟩
    case measure => simp [intOf]
   ·have hne : (u0.toList == []) = false := by rw [beq_eq_false_iff_ne, ByteArray.toList_eq]; intro e; apply hz; have := congrArg List.length e; simpa using this
    have hat : (DataW.map [] : DataW Unit).atKey ka (oneD 0) = oneD 0 := rfl
    obtain ⟨hlook, st, v9, W4, W5, hent, hsto, I5, g4, g5⟩ := count_step (W := V3.drew) I3.out.drew (by unfold maxLen; omega) HKA.out 0 1 hat (by decide)
    have hlook4 := entry_look (W := V3.drew) I3.out.drew (by unfold maxLen; omega) HKA.out 0 hat _ _ hent
    have hst2 : (Instr.entryStore 62 (.map (some w.heap.size)) (.int .i64 st) (.int .i64 (IntKind.i64.wrap 1))).run Tryz.prog W4 = .ok () W5 := by rw [show IntKind.i64.wrap 1 = 1 by decide]; exact hsto
    have B5 : Hid (Below w.heap.size w W5) := (B3.out.drew).grown g5 B3.out.size (fun j hj => by cases hj; exact Nat.le_refl _)
    have I5b : Hid (W5.ownsMap Tryz.prog 40 (plainElem Tryz.prog 3) w.heap.size 1 C1) := by show World.ownsMap _ _ _ _ _ _ _; rw [hC]; exact I5
    have G4 : Hid (Blk go #[.string u0, .int .i64 u1, .string u2, .int .i64 u3, .int .i64 u4] 40 W4) := (g4.block _ G3.out.lt (fun e => NE.out (by simpa using e))).trans G3.out.drew
    have G5 : Hid (Blk go #[.string u0, .int .i64 u1, .string u2, .int .i64 u3, .int .i64 u4] 40 W5) := (g5.block _ G3.out.lt (fun e => NE.out (by simpa using e))).trans G3.out.drew
    clear I5 g4 g5 hat hC hz HG
    go_upto_region 7 with fail
    refine wp_region_held_drew (S := So go u0 u1 u2 u3 u4) (by kernel_rfl) (Blk.cells5 G3.out.drew) (fun hHeld => ?_)
    refine tk 0 rfl (by kernel_rfl) (fun _ _ _ h => h) (by rfl) (fun w hSw => by (try dsimp only [So] at hSw); go_simp; try (with_reducible rfl)) (by assumption) ?_
    simp only [Act.put, x1, x2, x3, x4, x5, x6]
    refine tk 1 rfl (by kernel_rfl) (fun _ _ _ h => h) (by rfl) (fun w hSw => by (try dsimp only [So] at hSw); go_simp; try (with_reducible rfl)) (by assumption) ?_
    simp only [Act.put, x1, x2, x3, x4, x5, x6]
    refine wpAnyH_ready (rs := [2, 4]) (by kernel_rfl) (by simp) ?_
    refine AllReadyH.cons (o := _) rfl (fun K hK => ?_) (AllReadyH.cons (o := _) rfl (fun K hK => ?_) AllReadyH.nil)
    ·go_simp
     refine hK.out _ _ (hHeld) (fun hHeld => ?_)
     clear hK K
     try simp only [Act.put, List.getElem_toArray, List.getElem_cons_zero, List.getElem_cons_succ, List.setIfInBounds_toArray, List.set_cons_zero, List.set_cons_succ]
     refine tk 3 rfl (by kernel_rfl) (fun _ _ _ h => h) (by rfl) (fun w hSw => by (try dsimp only [So] at hSw); go_simp; try (with_reducible rfl)) (by assumption) ?_
     simp only [Act.put, x1, x2, x3, x4, x5, x6]
     refine wpAnyH_ready (rs := [4]) (by kernel_rfl) (by simp) ?_
     refine AllReadyH.cons (o := _) rfl (fun K hK => ?_) AllReadyH.nil
     go_simp
     skip
     refine hK.out _ _ (Blk.cells5 G4.out) (fun hHeld => ?_)
     clear hK K
     try simp only [Act.put, x1, x2, x3, x4, x5, x6]
     refine tk 5 rfl (by kernel_rfl) (fun _ _ _ h => h) (by rfl) (fun w hSw => by (try dsimp only [So] at hSw); go_simp; try (with_reducible rfl)) (by assumption) ?_
     simp only [Act.put, x1, x2, x3, x4, x5, x6]
     refine wpAnyH_ready (rs := [6]) (by kernel_rfl) (by simp) ?_
     refine AllReadyH.cons (o := _) rfl (fun K hK => ?_) AllReadyH.nil
     go_simp
     skip
     refine hK.out _ _ (Blk.cells5 G5.out) (fun hHeld => ?_)
     clear hK K
     try simp only [Act.put, x1, x2, x3, x4, x5, x6]
     refine wpAnyH_done (by kernel_rfl) ?_ _
     go_wp2
     go_roundw
     case rel => exact ⟨1, by decide, by go_num, I5b.out, B5.out⟩
     case measure => simp [intOf]
    ·go_simp
     refine hK.out _ _ (Blk.cells5 G4.out) (fun hHeld => ?_)
     clear hK K
     try simp only [Act.put, List.getElem_toArray, List.getElem_cons_zero, List.getElem_cons_succ, List.setIfInBounds_toArray, List.set_cons_zero, List.set_cons_succ]
     refine tk 5 rfl (by kernel_rfl) (fun _ _ _ h => h) (by rfl) (fun w hSw => by (try dsimp only [So] at hSw); go_simp; try (with_reducible rfl)) (by assumption) ?_
     simp only [Act.put, x1, x2, x3, x4, x5, x6]
     refine wpAnyH_ready (rs := [2]) (by kernel_rfl) (by simp) ?_
     refine AllReadyH.cons (o := _) rfl (fun K hK => ?_) AllReadyH.nil
     go_simp
     skip
     refine hK.out _ _ (hHeld) (fun hHeld => ?_)
     clear hK K
     try simp only [Act.put, x1, x2, x3, x4, x5, x6]
     refine tk 3 rfl (by kernel_rfl) (fun _ _ _ h => h) (by rfl) (fun w hSw => by (try dsimp only [So] at hSw); go_simp; try (with_reducible rfl)) (by assumption) ?_
     simp only [Act.put, x1, x2, x3, x4, x5, x6]
     refine wpAnyH_ready (rs := [6]) (by kernel_rfl) (by simp) ?_
     refine AllReadyH.cons (o := _) rfl (fun K hK => ?_) AllReadyH.nil
     go_simp
     skip
     refine hK.out _ _ (Blk.cells5 G5.out) (fun hHeld => ?_)
     clear hK K
     try simp only [Act.put, x1, x2, x3, x4, x5, x6]
     refine wpAnyH_done (by kernel_rfl) ?_ _
     go_wp2
     go_roundw
     case rel => exact ⟨1, by decide, by go_num, I5b.out, B5.out⟩
     case measure => simp [intOf]
  ·have hI2 : Hid (wr.ownsMap Tryz.prog 40 (plainElem Tryz.prog 3) w.heap.size 1 C1) := hI
   clear hI
   have hk := (HG.out wr hbw.out)
   have k0 : wr.cell? ⟨gl, 13, none⟩ = some (.string q.sc) := hk.cell 13
   have k1 : wr.cell? ⟨gl, 14, none⟩ = some (.string q.us) := hk.cell 14
   have k2 : wr.cell? ⟨gl, 15, none⟩ = some (.string q.pw) := hk.cell 15
   have k3 : wr.cell? ⟨gl, 16, none⟩ = some (.int .i64 q.hk) := hk.cell 16
   have k4 : wr.cell? ⟨gl, 17, none⟩ = some (.string q.hn) := hk.cell 17
   have k5 : wr.cell? ⟨gl, 18, none⟩ = some (.int .i64 q.ha) := hk.cell 18
   have k6 : wr.cell? ⟨gl, 19, none⟩ = some (.int .i64 q.po) := hk.cell 19
   have k7 : wr.cell? ⟨gl, 20, none⟩ = some (.slice a' n' c') := hk.cell 20
   have k8 : wr.cell? ⟨gl, 21, none⟩ = some (.string q.op) := hk.cell 21
   have k9 : wr.cell? ⟨gl, 22, none⟩ = some (.bool q.hq) := hk.cell 22
   have k10 : wr.cell? ⟨gl, 23, none⟩ = some (.string q.qu) := hk.cell 23
   have k11 : wr.cell? ⟨gl, 24, none⟩ = some (.bool q.hf) := hk.cell 24
   have k12 : wr.cell? ⟨gl, 25, none⟩ = some (.string q.fr) := hk.cell 25
   clear hk
   obtain ⟨V1, hV1⟩ : ∃ V, V = wr.alloc (.cells #[(.string q.sc), (.string q.us), (.string q.pw), (.int .i64 q.hk), (.string q.hn), (.int .i64 q.ha), (.int .i64 q.po), (.slice a' n' c'), (.string q.op), (.bool q.hq), (.string q.qu), (.bool q.hf), (.string q.fr)] 27) := ⟨_, rfl⟩
   have D1 : Hid (Below wr.heap.size wr V1) := by show Below _ _ _; rw [hV1]; exact (Below.refl _ _).alloc (Nat.le_refl _) _
   have G1 : Hid (Blk wr.heap.size (q.cells (.slice a' n' c')) 27 V1) := by show Blk _ _ _ _; rw [hV1]; exact Blk.new wr _ _
   have B1 : Hid (Below w.heap.size w V1) := hbw.out.trans (D1.out.mono hbw.out.size)
   have I1 : Hid (V1.ownsMap Tryz.prog 40 (plainElem Tryz.prog 3) w.heap.size 1 C1) := by show World.ownsMap _ _ _ _ _ _ _; rw [hV1]; exact hI2.out.alloc _
   clear hI2 D1
   go_upto_region 5 with fail
   rw [← hV1]
   clear hV1 k0 k1 k2 k3 k4 k5 k6 k7 k8 k9 k10 k11 k12
   generalize wr.heap.size = gu at *
   obtain ⟨k0, k1, k2, k3, k4, k5, k6, k7, k8, k9, k10, k11, k12⟩ := Blk.cells13a G1.out
   go_wp2_with fail
   refine (CB.out _ B1.out).mono ?_
   rintro e W2 ⟨rfl, d2⟩
   obtain ⟨V3, hV3⟩ : ∃ V, V = W2.alloc (.cells #[.string v0, .int .i64 v1, .string v2, .int .i64 v3, .int .i64 v4] 40) := ⟨_, rfl⟩
   have D3 : Hid (Below V1.heap.size V1 V3) := by show Below _ _ _; rw [hV3]; exact d2.alloc d2.size _
   have G3 : Hid (Blk W2.heap.size #[.string v0, .int .i64 v1, .string v2, .int .i64 v3, .int .i64 v4] 40 V3) := by show Blk _ _ _ _; rw [hV3]; exact Blk.new W2 _ _
   have B3 : Hid (Below w.heap.size w V3) := B1.out.trans (D3.out.mono B1.out.size)
   have I3 : Hid (V3.ownsMap Tryz.prog 40 (plainElem Tryz.prog 3) w.heap.size 1 C1) := owns_below I1.out D3.out
   have NE : Hid (W2.heap.size ≠ w.heap.size) := by have h1 := I1.out.lt; have h2 := d2.size; show _ ≠ _; omega
   clear d2 D3 G1 B1 I1 k0 k1 k2 k3 k4 k5 k6 k7 k8 k9 k10 k11 k12
   go_upto_region 6 with fail
   rw [← hV3]
   clear hV3
   generalize W2.heap.size = go at *
   obtain ⟨o0, o1, o2, o3, o4⟩ := Blk.cells5 G3.out
   rcases HB.out with ⟨hz, he, hC⟩ | ⟨hz, hat, hC⟩ | ⟨hz, hat, hC⟩
   ·injection he with he1
    simp only [List.cons.injEq, Value.string.injEq, Value.int.injEq, true_and, and_true] at he1
    obtain ⟨e0, e1, e2, e3, e4⟩ := he1
    subst e0 e1 e2 e3 e4
    go_wp2
    go_roundw
    case rel => exact ⟨2, by decide, by go_num, by rw [hC]; exact I3.out.mono (by decide), B3.out⟩
    case measure => simp [intOf]
   ·have hne : (v0.toList == []) = false := by rw [beq_eq_false_iff_ne, ByteArray.toList_eq]; intro e; apply hz; have := congrArg List.length e; simpa using this
    obtain ⟨hlook, st, v9, W4, W5, hent, hsto, I5, g4, g5⟩ := count_step (W := V3.drew) I3.out.drew (by unfold maxLen; omega) HKB.out 0 1 hat (by decide)
    have hlook4 := entry_look (W := V3.drew) I3.out.drew (by unfold maxLen; omega) HKB.out 0 hat _ _ hent
    have hst2 : (Instr.entryStore 62 (.map (some w.heap.size)) (.int .i64 st) (.int .i64 (IntKind.i64.wrap 1))).run Tryz.prog W4 = .ok () W5 := by rw [show IntKind.i64.wrap 1 = 1 by decide]; exact hsto
    have B5 : Hid (Below w.heap.size w W5) := (B3.out.drew).grown g5 B3.out.size (fun j hj => by cases hj; exact Nat.le_refl _)
    have I5b : Hid (W5.ownsMap Tryz.prog 40 (plainElem Tryz.prog 3) w.heap.size 2 C2) := by show World.ownsMap _ _ _ _ _ _ _; rw [hC]; exact I5
    have G4 : Hid (Blk go #[.string v0, .int .i64 v1, .string v2, .int .i64 v3, .int .i64 v4] 40 W4) := (g4.block _ G3.out.lt (fun e => NE.out (by simpa using e))).trans G3.out.drew
    have G5 : Hid (Blk go #[.string v0, .int .i64 v1, .string v2, .int .i64 v3, .int .i64 v4] 40 W5) := (g5.block _ G3.out.lt (fun e => NE.out (by simpa using e))).trans G3.out.drew
    clear I5 g4 g5 hat hC hz HG
    go_upto_region 7 with fail
    refine wp_region_held_drew (S := So go v0 v1 v2 v3 v4) (by kernel_rfl) (Blk.cells5 G3.out.drew) (fun hHeld => ?_)
    refine tk 0 rfl (by kernel_rfl) (fun _ _ _ h => h) (by rfl) (fun w hSw => by (try dsimp only [So] at hSw); go_simp; try (with_reducible rfl)) (by assumption) ?_
    simp only [Act.put, x1, x2, x3, x4, x5, x6]
    refine tk 1 rfl (by kernel_rfl) (fun _ _ _ h => h) (by rfl) (fun w hSw => by (try dsimp only [So] at hSw); go_simp; try (with_reducible rfl)) (by assumption) ?_
    simp only [Act.put, x1, x2, x3, x4, x5, x6]
    refine wpAnyH_ready (rs := [2, 4]) (by kernel_rfl) (by simp) ?_
    refine AllReadyH.cons (o := _) rfl (fun K hK => ?_) (AllReadyH.cons (o := _) rfl (fun K hK => ?_) AllReadyH.nil)
    ·go_simp
     refine hK.out _ _ (hHeld) (fun hHeld => ?_)
     clear hK K
     try simp only [Act.put, List.getElem_toArray, List.getElem_cons_zero, List.getElem_cons_succ, List.setIfInBounds_toArray, List.set_cons_zero, List.set_cons_succ]
     refine tk 3 rfl (by kernel_rfl) (fun _ _ _ h => h) (by rfl) (fun w hSw => by (try dsimp only [So] at hSw); go_simp; try (with_reducible rfl)) (by assumption) ?_
     simp only [Act.put, x1, x2, x3, x4, x5, x6]
     refine wpAnyH_ready (rs := [4]) (by kernel_rfl) (by simp) ?_
     refine AllReadyH.cons (o := _) rfl (fun K hK => ?_) AllReadyH.nil
     go_simp
     skip
     refine hK.out _ _ (Blk.cells5 G4.out) (fun hHeld => ?_)
     clear hK K
     try simp only [Act.put, x1, x2, x3, x4, x5, x6]
     refine tk 5 rfl (by kernel_rfl) (fun _ _ _ h => h) (by rfl) (fun w hSw => by (try dsimp only [So] at hSw); go_simp; try (with_reducible rfl)) (by assumption) ?_
     simp only [Act.put, x1, x2, x3, x4, x5, x6]
     refine wpAnyH_ready (rs := [6]) (by kernel_rfl) (by simp) ?_
     refine AllReadyH.cons (o := _) rfl (fun K hK => ?_) AllReadyH.nil
     go_simp
     skip
     refine hK.out _ _ (Blk.cells5 G5.out) (fun hHeld => ?_)
     clear hK K
     try simp only [Act.put, x1, x2, x3, x4, x5, x6]
     refine wpAnyH_done (by kernel_rfl) ?_ _
     go_wp2
     go_roundw
     case rel => exact ⟨2, by decide, by go_num, I5b.out, B5.out⟩
     case measure => simp [intOf]
    ·go_simp
     refine hK.out _ _ (Blk.cells5 G4.out) (fun hHeld => ?_)
     clear hK K
     try simp only [Act.put, List.getElem_toArray, List.getElem_cons_zero, List.getElem_cons_succ, List.setIfInBounds_toArray, List.set_cons_zero, List.set_cons_succ]
     refine tk 5 rfl (by kernel_rfl) (fun _ _ _ h => h) (by rfl) (fun w hSw => by (try dsimp only [So] at hSw); go_simp; try (with_reducible rfl)) (by assumption) ?_
     simp only [Act.put, x1, x2, x3, x4, x5, x6]
     refine wpAnyH_ready (rs := [2]) (by kernel_rfl) (by simp) ?_
     refine AllReadyH.cons (o := _) rfl (fun K hK => ?_) AllReadyH.nil
     go_simp
     skip
     refine hK.out _ _ (hHeld) (fun hHeld => ?_)
     clear hK K
     try simp only [Act.put, x1, x2, x3, x4, x5, x6]
     refine tk 3 rfl (by kernel_rfl) (fun _ _ _ h => h) (by rfl) (fun w hSw => by (try dsimp only [So] at hSw); go_simp; try (with_reducible rfl)) (by assumption) ?_
     simp only [Act.put, x1, x2, x3, x4, x5, x6]
     refine wpAnyH_ready (rs := [6]) (by kernel_rfl) (by simp) ?_
     refine AllReadyH.cons (o := _) rfl (fun K hK => ?_) AllReadyH.nil
     go_simp
     skip
     refine hK.out _ _ (Blk.cells5 G5.out) (fun hHeld => ?_)
     clear hK K
     try simp only [Act.put, x1, x2, x3, x4, x5, x6]
     refine wpAnyH_done (by kernel_rfl) ?_ _
     go_wp2
     go_roundw
     case rel => exact ⟨2, by decide, by go_num, I5b.out, B5.out⟩
     case measure => simp [intOf]
   ·have hne : (v0.toList == []) = false := by rw [beq_eq_false_iff_ne, ByteArray.toList_eq]; intro e; apply hz; have := congrArg List.length e; simpa using this
    obtain ⟨hlook, st, v9, W4, W5, hent, hsto, I5, g4, g5⟩ := count_step (W := V3.drew) I3.out.drew (by unfold maxLen; omega) HKB.out 1 2 hat (by decide)
    have hlook4 := entry_look (W := V3.drew) I3.out.drew (by unfold maxLen; omega) HKB.out 1 hat _ _ hent
    have hst2 : (Instr.entryStore 62 (.map (some w.heap.size)) (.int .i64 st) (.int .i64 (IntKind.i64.wrap 2))).run Tryz.prog W4 = .ok () W5 := by rw [show IntKind.i64.wrap 2 = 2 by decide]; exact hsto
    have B5 : Hid (Below w.heap.size w W5) := (B3.out.drew).grown g5 B3.out.size (fun j hj => by cases hj; exact Nat.le_refl _)
    have I5b : Hid (W5.ownsMap Tryz.prog 40 (plainElem Tryz.prog 3) w.heap.size 2 C2) := by show World.ownsMap _ _ _ _ _ _ _; rw [hC]; exact I5
    have G4 : Hid (Blk go #[.string v0, .int .i64 v1, .string v2, .int .i64 v3, .int .i64 v4] 40 W4) := (g4.block _ G3.out.lt (fun e => NE.out (by simpa using e))).trans G3.out.drew
    have G5 : Hid (Blk go #[.string v0, .int .i64 v1, .string v2, .int .i64 v3, .int .i64 v4] 40 W5) := (g5.block _ G3.out.lt (fun e => NE.out (by simpa using e))).trans G3.out.drew
    clear I5 g4 g5 hat hC hz HG
    go_upto_region 7 with fail
    refine wp_region_held_drew (S := So go v0 v1 v2 v3 v4) (by kernel_rfl) (Blk.cells5 G3.out.drew) (fun hHeld => ?_)
    refine tk 0 rfl (by kernel_rfl) (fun _ _ _ h => h) (by rfl) (fun w hSw => by (try dsimp only [So] at hSw); go_simp; try (with_reducible rfl)) (by assumption) ?_
    simp only [Act.put, x1, x2, x3, x4, x5, x6]
    refine tk 1 rfl (by kernel_rfl) (fun _ _ _ h => h) (by rfl) (fun w hSw => by (try dsimp only [So] at hSw); go_simp; try (with_reducible rfl)) (by assumption) ?_
    simp only [Act.put, x1, x2, x3, x4, x5, x6]
    refine wpAnyH_ready (rs := [2, 4]) (by kernel_rfl) (by simp) ?_
    refine AllReadyH.cons (o := _) rfl (fun K hK => ?_) (AllReadyH.cons (o := _) rfl (fun K hK => ?_) AllReadyH.nil)
    ·go_simp
     refine hK.out _ _ (hHeld) (fun hHeld => ?_)
     clear hK K
     try simp only [Act.put, List.getElem_toArray, List.getElem_cons_zero, List.getElem_cons_succ, List.setIfInBounds_toArray, List.set_cons_zero, List.set_cons_succ]
     refine tk 3 rfl (by kernel_rfl) (fun _ _ _ h => h) (by rfl) (fun w hSw => by (try dsimp only [So] at hSw); go_simp; try (with_reducible rfl)) (by assumption) ?_
     simp only [Act.put, x1, x2, x3, x4, x5, x6]
     refine wpAnyH_ready (rs := [4]) (by kernel_rfl) (by simp) ?_
     refine AllReadyH.cons (o := _) rfl (fun K hK => ?_) AllReadyH.nil
     go_simp
     skip
     refine hK.out _ _ (Blk.cells5 G4.out) (fun hHeld => ?_)
     clear hK K
     try simp only [Act.put, x1, x2, x3, x4, x5, x6]
     refine tk 5 rfl (by kernel_rfl) (fun _ _ _ h => h) (by rfl) (fun w hSw => by (try dsimp only [So] at hSw); go_simp; try (with_reducible rfl)) (by assumption) ?_
     simp only [Act.put, x1, x2, x3, x4, x5, x6]
     refine wpAnyH_ready (rs := [6]) (by kernel_rfl) (by simp) ?_
     refine AllReadyH.cons (o := _) rfl (fun K hK => ?_) AllReadyH.nil
     go_simp
     skip
     refine hK.out _ _ (Blk.cells5 G5.out) (fun hHeld => ?_)
     clear hK K
     try simp only [Act.put, x1, x2, x3, x4, x5, x6]
     refine wpAnyH_done (by kernel_rfl) ?_ _
     go_wp2
     go_roundw
     case rel => exact ⟨2, by decide, by go_num, I5b.out, B5.out⟩
     case measure => simp [intOf]
    ·go_simp
     refine hK.out _ _ (Blk.cells5 G4.out) (fun hHeld => ?_)
     clear hK K
     try simp only [Act.put, List.getElem_toArray, List.getElem_cons_zero, List.getElem_cons_succ, List.setIfInBounds_toArray, List.set_cons_zero, List.set_cons_succ]
     refine tk 5 rfl (by kernel_rfl) (fun _ _ _ h => h) (by rfl) (fun w hSw => by (try dsimp only [So] at hSw); go_simp; try (with_reducible rfl)) (by assumption) ?_
     simp only [Act.put, x1, x2, x3, x4, x5, x6]
     refine wpAnyH_ready (rs := [2]) (by kernel_rfl) (by simp) ?_
     refine AllReadyH.cons (o := _) rfl (fun K hK => ?_) AllReadyH.nil
     go_simp
     skip
     refine hK.out _ _ (hHeld) (fun hHeld => ?_)
     clear hK K
     try simp only [Act.put, x1, x2, x3, x4, x5, x6]
     refine tk 3 rfl (by kernel_rfl) (fun _ _ _ h => h) (by rfl) (fun w hSw => by (try dsimp only [So] at hSw); go_simp; try (with_reducible rfl)) (by assumption) ?_
     simp only [Act.put, x1, x2, x3, x4, x5, x6]
     refine wpAnyH_ready (rs := [6]) (by kernel_rfl) (by simp) ?_
     refine AllReadyH.cons (o := _) rfl (fun K hK => ?_) AllReadyH.nil
     go_simp
     skip
     refine hK.out _ _ (Blk.cells5 G5.out) (fun hHeld => ?_)
     clear hK K
     try simp only [Act.put, x1, x2, x3, x4, x5, x6]
     refine wpAnyH_done (by kernel_rfl) ?_ _
     go_wp2
     go_roundw
     case rel => exact ⟨2, by decide, by go_num, I5b.out, B5.out⟩
     case measure => simp [intOf]
  ·have hI2 : Hid (wr.ownsMap Tryz.prog 40 (plainElem Tryz.prog 3) w.heap.size 2 C2) := hI
   clear hI
   go_wp2
   go_ret
   exact ⟨_, rfl, hI2.out, hbw.out⟩
theorem i64_wf (x : Int) (h0 : -1000000000000 ≤ x) (h1 : x ≤ 1000000000000) : (Lit.int .i64 x).wf = true := WalkArith.wf_i64 ⟨by omega, by omega⟩
theorem host_int {k : Int} {s : ByteArray} {a : Int} (h : hostN k s a) : 0 ≤ k ∧ k ≤ 2 ∧ 0 ≤ a ∧ a ≤ 4294967295 := by
 rcases h with h | ⟨h1, _, h2, h3⟩
 ·unfold named at h
  simp only [Bool.and_eq_true, decide_eq_true_eq] at h
  omega
 ·omega
theorem org_none (b : Bool) (q : P) (h : ¬ (b = true ∧ ¬ ownZ q.sc < 0)) : orgB b q = (#[.string ⟨#[]⟩, .int .i64 0, .string ⟨#[]⟩, .int .i64 0, .int .i64 0] : Array Value) := by
 unfold orgB orgV
 by_cases hb : b = true
 ·rw [if_pos hb]
  by_cases ho : ownZ q.sc < 0
  ·rw [if_pos ho]
  ·exact absurd ⟨hb, ho⟩ h
 ·rw [if_neg hb]
theorem org_some (b : Bool) (q : P) (h : b = true ∧ ¬ ownZ q.sc < 0) : orgB b q = #[.string q.sc, .int .i64 q.hk, .string q.hn, .int .i64 q.ha, .int .i64 (if q.po < 0 then ownZ q.sc else q.po)] := by
 unfold orgB orgV
 rw [if_pos h.1, if_neg h.2]
theorem ok_nf (q : P) (h : okP q) : Nf q := (read_nf _ q ((ok_getO q).1 h)).1
theorem org_facts (q : P) (h : okP q) (ho : ¬ ownZ q.sc < 0) (hs : q.tot ≤ 1048576) : (∃ k, keyOf Tryz.prog 40 (.agg #[.string q.sc, .int .i64 q.hk, .string q.hn, .int .i64 q.ha, .int .i64 (if q.po < 0 then ownZ q.sc else q.po)]) = some k) ∧ q.sc.size ≠ 0 := by
 have hsc : (q.sc = ⟨#[104, 116, 116, 112]⟩ ∧ ownZ q.sc = 80) ∨ (q.sc = ⟨#[104, 116, 116, 112, 115]⟩ ∧ ownZ q.sc = 443) := by
  unfold ownZ at ho ⊢
  by_cases h1 : q.sc = ⟨#[104, 116, 116, 112]⟩
  ·exact .inl ⟨h1, by rw [if_pos h1]⟩
  ·by_cases h2 : q.sc = ⟨#[104, 116, 116, 112, 115]⟩
   ·exact .inr ⟨h2, by rw [if_neg h1, if_pos h2]⟩
   ·rw [if_neg h1, if_neg h2] at ho; exact absurd (by decide) ho
 have hsz : q.sc.size ≠ 0 := by rcases hsc with ⟨e, _⟩ | ⟨e, _⟩ <;> rw [e] <;> decide
 have hmx : (1048576 : Nat) ≤ maxLen := by unfold maxLen; omega
 refine ⟨?_, hsz⟩
 rcases (ok_nf q h).main with ⟨hneg, _⟩ | ⟨_, _, _, _, hh, hpo, _⟩
 ·exact absurd hneg ho
 ·have hb : -1 ≤ q.po ∧ q.po ≤ 65535 := by rcases hpo with e | ⟨e1, e2, _⟩ <;> omega
  obtain ⟨k0, k1, k2, k3⟩ := host_int hh
  refine ⟨_, org_key _ _ _ _ _ (by have : q.sc.size ≤ q.tot := (by unfold P.tot; omega); omega) (i64_wf _ (by omega) (by omega)) (by have : q.hn.size ≤ q.tot := (by unfold P.tot; omega); omega) (i64_wf _ (by omega) (by omega)) (i64_wf _ ?_ ?_)⟩
  ·split <;> rcases hsc with ⟨_, e⟩ | ⟨_, e⟩ <;> omega
  ·split <;> rcases hsc with ⟨_, e⟩ | ⟨_, e⟩ <;> omega
theorem orgB_key (b : Bool) (q : P) (hb : b = true ↔ okP q) (hs : q.tot ≤ 1048576) : ∃ (u0 : ByteArray) (u1 : Int) (u2 : ByteArray) (u3 u4 : Int) (k : Lit), orgB b q = #[.string u0, .int .i64 u1, .string u2, .int .i64 u3, .int .i64 u4] ∧ keyOf Tryz.prog 40 (.agg #[.string u0, .int .i64 u1, .string u2, .int .i64 u3, .int .i64 u4]) = some k ∧
  ((u0.size = 0 ∧ (#[.string u0, .int .i64 u1, .string u2, .int .i64 u3, .int .i64 u4] : Array Value) = #[.string ⟨#[]⟩, .int .i64 0, .string ⟨#[]⟩, .int .i64 0, .int .i64 0] ∧ ¬ (okP q ∧ ¬ ownZ q.sc < 0)) ∨ (u0.size ≠ 0 ∧ okP q ∧ ¬ ownZ q.sc < 0 ∧ (#[.string u0, .int .i64 u1, .string u2, .int .i64 u3, .int .i64 u4] : Array Value) = orgV q)) := by
 by_cases h : b = true ∧ ¬ ownZ q.sc < 0
 ·obtain ⟨⟨k, hk⟩, hz⟩ := org_facts q (hb.1 h.1) h.2 hs
  exact ⟨q.sc, q.hk, q.hn, q.ha, _, k, org_some b q h, hk, .inr ⟨hz, hb.1 h.1, h.2, by unfold orgV; rw [if_neg h.2]⟩⟩
 ·exact ⟨⟨#[]⟩, 0, ⟨#[]⟩, 0, 0, _, org_none b q h, org_key _ _ _ _ _ (by decide) (by decide) (by decide) (by decide) (by decide), .inl ⟨rfl, rfl, fun h2 => h ⟨hb.2 h2.1, h2.2⟩⟩⟩
theorem implOriginSame (p q : P) (a a' : Option Addr) (n n' c c' : Nat) (w : World) (hL : Lean1 w) (hS : StrsOf a n p.ps w) (hS' : StrsOf a' n' q.ps w) (hs : p.tot ≤ 1048576) (hs' : q.tot ≤ 1048576) (hpo : p.po ≤ 9223372036854775807) (hpo' : q.po ≤ 9223372036854775807) (x : Bool) (hx : x = true ↔ okP p ∧ okP q ∧ ¬ ownZ p.sc < 0 ∧ orgV p = orgV q) :
  Calls Tryz.prog 25 #[.agg (p.cells (.slice a n c)), .agg (q.cells (.slice a' n' c'))] w fun e w' => e = .returned (.bool x) ∧ Below w.heap.size w w' := by
 obtain ⟨b, hb⟩ : ∃ b : Bool, b = true ↔ okP p := by
  by_cases h : okP p
  ·exact ⟨true, by simp [h]⟩
  ·exact ⟨false, by simp [h]⟩
 obtain ⟨b', hb'⟩ : ∃ b : Bool, b = true ↔ okP q := by
  by_cases h : okP q
  ·exact ⟨true, by simp [h]⟩
  ·exact ⟨false, by simp [h]⟩
 obtain ⟨u0, u1, u2, u3, u4, ka, ea, hka, fa⟩ := orgB_key b p hb hs
 obtain ⟨v0, v1, v2, v3, v4, kb, eb, hkb, fb⟩ := orgB_key b' q hb' hs'
 have CA : Hid (∀ W, Below w.heap.size w W → Calls Tryz.prog 19 #[.agg #[(.string p.sc), (.string p.us), (.string p.pw), (.int .i64 p.hk), (.string p.hn), (.int .i64 p.ha), (.int .i64 p.po), (.slice a n c), (.string p.op), (.bool p.hq), (.string p.qu), (.bool p.hf), (.string p.fr)]] W fun e w' => e = .returned (.agg #[.string u0, .int .i64 u1, .string u2, .int .i64 u3, .int .i64 u4]) ∧ Below W.heap.size W w') := fun W d => by
  rw [← ea]; exact implOriginOf p a n c W (hL.below d) (hS.later d) hs hpo b hb
 have CB : Hid (∀ W, Below w.heap.size w W → Calls Tryz.prog 19 #[.agg #[(.string q.sc), (.string q.us), (.string q.pw), (.int .i64 q.hk), (.string q.hn), (.int .i64 q.ha), (.int .i64 q.po), (.slice a' n' c'), (.string q.op), (.bool q.hq), (.string q.qu), (.bool q.hf), (.string q.fr)]] W fun e w' => e = .returned (.agg #[.string v0, .int .i64 v1, .string v2, .int .i64 v3, .int .i64 v4]) ∧ Below W.heap.size W w') := fun W d => by
  rw [← eb]; exact implOriginOf q a' n' c' W (hL.below d) (hS'.later d) hs' hpo' b' hb'
 have lka : WideAt.IsKeyLit ka := (Keyed.of_law org_law).key hka
 obtain ⟨C1, C2, N, HA, HB, hN, hxN⟩ : ∃ (C1 C2 : DataW Unit) (N : Int), ((u0.size = 0 ∧ (#[.string u0, .int .i64 u1, .string u2, .int .i64 u3, .int .i64 u4] : Array Value) = #[.string ⟨#[]⟩, .int .i64 0, .string ⟨#[]⟩, .int .i64 0, .int .i64 0] ∧ C1 = .map []) ∨ (u0.size ≠ 0 ∧ C1 = (DataW.map []).put ka (oneD 1))) ∧ ((v0.size = 0 ∧ (#[.string v0, .int .i64 v1, .string v2, .int .i64 v3, .int .i64 v4] : Array Value) = #[.string ⟨#[]⟩, .int .i64 0, .string ⟨#[]⟩, .int .i64 0, .int .i64 0] ∧ C2 = C1) ∨ (v0.size ≠ 0 ∧ C1.atKey kb (oneD 0) = oneD 0 ∧ C2 = C1.put kb (oneD 1)) ∨ (v0.size ≠ 0 ∧ C1.atKey kb (oneD 0) = oneD 1 ∧ C2 = C1.put kb (oneD 2))) ∧ C2.atKey ka (oneD 0) = oneD N ∧ (N == 2) = x := by
  rcases fa with ⟨hz, he, hno⟩ | ⟨hz, hp, ho, he⟩
  ·have hxf : x = false := by rw [Bool.eq_false_iff]; intro h; exact hno ⟨(hx.1 h).1, (hx.1 h).2.2.1⟩
   rcases fb with ⟨hz', he', hno'⟩ | ⟨hz', hq, ho', he'⟩
   ·exact ⟨.map [], .map [], 0, .inl ⟨hz, he, rfl⟩, .inl ⟨hz', he', rfl⟩, rfl, by rw [hxf]; rfl⟩
   ·refine ⟨.map [], (DataW.map []).put kb (oneD 1), 0, .inl ⟨hz, he, rfl⟩, .inr (.inl ⟨hz', rfl, rfl⟩), ?_, by rw [hxf]; rfl⟩
    have hne : ka ≠ kb := fun e => by
     rw [e] at hka
     have := org_law.inj hka hkb
     simp only [Value.agg.injEq, Array.mk.injEq, List.cons.injEq, Value.string.injEq] at this
     exact hz' (by rw [← this.1]; exact hz)
    rw [Maps.atKey_put_other hne]; rfl
  ·rcases fb with ⟨hz', he', hno'⟩ | ⟨hz', hq, ho', he'⟩
   ·have hxf : x = false := by
     rw [Bool.eq_false_iff]; intro h
     obtain ⟨_, hq, _, e⟩ := hx.1 h
     by_cases ho' : ownZ q.sc < 0
     ·have e2 : orgV q = (#[.string ⟨#[]⟩, .int .i64 0, .string ⟨#[]⟩, .int .i64 0, .int .i64 0] : Array Value) := by unfold orgV; rw [if_pos ho']
      rw [← e, ← he] at e2
      simp only [Array.mk.injEq, List.cons.injEq, Value.string.injEq] at e2
      exact hz (by rw [e2.1]; rfl)
     ·exact hno' ⟨hq, ho'⟩
    exact ⟨(DataW.map []).put ka (oneD 1), (DataW.map []).put ka (oneD 1), 1, .inr ⟨hz, rfl⟩, .inl ⟨hz', he', rfl⟩, Maps.atKey_put_same Maps.isMap_empty lka _ _, by rw [hxf]; rfl⟩
   ·by_cases e : ka = kb
    ·have hxt : x = true := by
      rw [hx]
      refine ⟨hp, hq, ho, ?_⟩
      rw [e] at hka
      have := org_law.inj hka hkb
      rw [← he, ← he']
      exact Value.agg.inj this
     subst e
     exact ⟨(DataW.map []).put ka (oneD 1), ((DataW.map []).put ka (oneD 1)).put ka (oneD 2), 2, .inr ⟨hz, rfl⟩, .inr (.inr ⟨hz', Maps.atKey_put_same Maps.isMap_empty lka _ _, rfl⟩), Maps.atKey_put_same (Maps.isMap_empty.put _ _) lka _ _, by rw [hxt]; rfl⟩
    ·have hxf : x = false := by
      rw [Bool.eq_false_iff]; intro h
      have e2 := (hx.1 h).2.2.2
      rw [← he, ← he'] at e2
      rw [e2, hkb] at hka
      exact e (Option.some.inj hka).symm
     refine ⟨(DataW.map []).put ka (oneD 1), ((DataW.map []).put ka (oneD 1)).put kb (oneD 1), 1, .inr ⟨hz, rfl⟩, .inr (.inl ⟨hz', ?_, rfl⟩), ?_, by rw [hxf]; rfl⟩
     ·rw [Maps.atKey_put_other (fun h => e h.symm)]; rfl
     ·rw [Maps.atKey_put_other e]; exact Maps.atKey_put_same Maps.isMap_empty lka _ _
 have HX : Hid ((N == 2) = x) := hxN
 have HC : Hid (∀ (gl : Nat) W, Below w.heap.size w W → Blk gl #[(.string p.sc), (.string p.us), (.string p.pw), (.int .i64 p.hk), (.string p.hn), (.int .i64 p.ha), (.int .i64 p.po), (.slice a n c), (.string p.op), (.bool p.hq), (.string p.qu), (.bool p.hf), (.string p.fr), (.string q.sc), (.string q.us), (.string q.pw), (.int .i64 q.hk), (.string q.hn), (.int .i64 q.ha), (.int .i64 q.po), (.slice a' n' c'), (.string q.op), (.bool q.hq), (.string q.qu), (.bool q.hf), (.string q.fr)] 27 W → Calls Tryz.prog 52 #[.slice (some ⟨gl, 0, none⟩) 2 2] W fun e w' => ∃ b, e = .returned (.map (some b)) ∧ w'.ownsMap Tryz.prog 40 (plainElem Tryz.prog 3) b 2 C2 ∧ Below W.heap.size W w') := fun gl W d hG =>
  originCounts p q a a' n n' c c' gl W hG u0 u1 u2 u3 u4 v0 v1 v2 v3 v4 x (fun W' d' => CA.out W' (d.trans (d'.mono d.size))) (fun W' d' => CB.out W' (d.trans (d'.mono d.size))) ka kb hka hkb C1 C2 HA HB
 have HKA : Hid (keyOf Tryz.prog 40 (.agg #[.string u0, .int .i64 u1, .string u2, .int .i64 u3, .int .i64 u4]) = some ka) := hka
 have HNN : Hid (C2.atKey ka (oneD 0) = oneD N) := hN
 obtain ⟨V, hV⟩ : ∃ V, V = ((w.alloc (.cells #[(.string p.sc), (.string p.us), (.string p.pw), (.int .i64 p.hk), (.string p.hn), (.int .i64 p.ha), (.int .i64 p.po), (.slice a n c), (.string p.op), (.bool p.hq), (.string p.qu), (.bool p.hf), (.string p.fr)] 27)).alloc (.cells #[(.string q.sc), (.string q.us), (.string q.pw), (.int .i64 q.hk), (.string q.hn), (.int .i64 q.ha), (.int .i64 q.po), (.slice a' n' c'), (.string q.op), (.bool q.hq), (.string q.qu), (.bool q.hf), (.string q.fr)] 27)) := ⟨_, rfl⟩
 have HK0 : Hid (Tw w (p.cells (.slice a n c)) (q.cells (.slice a' n' c')) V) := by show Tw _ _ _ _; rw [hV]; exact Tw.start w _ _
 have HS : Hid (∀ W, Below V.heap.size V W → Tw w (p.cells (.slice a n c)) (q.cells (.slice a' n' c')) W ∧ (fun W => Below w.heap.size w W ∧ Sc w.heap.size p a n c W ∧ Sc (w.heap.size + 1) q a' n' c' W) W) := fun W d => ⟨HK0.out.later d, (HK0.out.later d).bw, Sc.of (HK0.out.later d).b1, Sc.of (HK0.out.later d).b2⟩
 clear hS hS' hs hs' hpo hpo' hL hx hxN hN HA HB fa fb hka hkb ea eb hb hb' CB HK0 lka
 unfold P.cells
 go_enter Tryz.func25, Tryz.ntmps25
 go_upto_region 1 with fail
 rw [← hV]
 clear hV
 go_wp2
 refine wp_region_held_drew (S := (fun W => Below w.heap.size w W ∧ Sc w.heap.size p a n c W ∧ Sc (w.heap.size + 1) q a' n' c' W)) (by kernel_rfl) ((HS.out _ (Below.refl _ _).drew).2) (fun hHeld => ?_)
 refine tk 0 rfl (by kernel_rfl) (fun _ _ _ h => h) (by rfl) (fun w hSw => by (try dsimp only [Sc] at hSw); go_simp; try (with_reducible rfl)) (by assumption) ?_
 simp only [Act.put, x1, x2, x3, x4, x5, x6]
 refine tk 1 rfl (by kernel_rfl) (fun _ _ _ h => h) (by rfl) (fun w hSw => by (try dsimp only [Sc] at hSw); go_simp; try (with_reducible rfl)) (by assumption) ?_
 simp only [Act.put, x1, x2, x3, x4, x5, x6]
 refine tk 4 rfl (by kernel_rfl) (fun _ _ _ h => h) (by rfl) (fun w hSw => by (try dsimp only [Sc] at hSw); go_simp; try (with_reducible rfl)) (by assumption) ?_
 simp only [Act.put, x1, x2, x3, x4, x5, x6]
 refine wpAnyH_ready (rs := [2]) (by kernel_rfl) (by simp) ?_
 refine AllReadyH.cons (o := _) rfl (fun K hK => ?_) AllReadyH.nil
 go_simp
 have D1 : Hid (Below V.heap.size V (V.drew.alloc (.cells #[(.string p.sc), (.string p.us), (.string p.pw), (.int .i64 p.hk), (.string p.hn), (.int .i64 p.ha), (.int .i64 p.po), (.slice a n c), (.string p.op), (.bool p.hq), (.string p.qu), (.bool p.hf), (.string p.fr), (.string q.sc), (.string q.us), (.string q.pw), (.int .i64 q.hk), (.string q.hn), (.int .i64 q.ha), (.int .i64 q.po), (.slice a' n' c'), (.string q.op), (.bool q.hq), (.string q.qu), (.bool q.hf), (.string q.fr)] 27))) := (Below.refl _ V).drew.alloc (Nat.le_refl _) _
 refine hK.out _ _ ((HS.out _ D1.out).2) (fun hHeld => ?_)
 clear hK K
 try simp only [Act.put, x1, x2, x3, x4, x5, x6]
 refine wpAnyH_ready (rs := [3]) (by kernel_rfl) (by simp) ?_
 refine AllReadyH.cons (o := _) rfl (fun K hK => ?_) AllReadyH.nil
 go_simp
 refine (HC.out _ _ (HS.out _ D1.out).1.bw (Blk.new V.drew _ _)).mono ?_
 rintro e W3 ⟨bm, rfl, I3, d3⟩
 have D3 : Hid (Below V.heap.size V W3) := D1.out.trans (d3.mono D1.out.size)
 refine hK.out _ _ ((HS.out _ D3.out).2) (fun hHeld => ?_)
 clear hK K
 try simp only [Act.put, x1, x2, x3, x4, x5, x6]
 refine wpAnyH_ready (rs := [5]) (by kernel_rfl) (by simp) ?_
 refine AllReadyH.cons (o := _) rfl (fun K hK => ?_) AllReadyH.nil
 go_simp
 refine (CA.out _ (HS.out _ D3.out).1.bw).mono ?_
 rintro e W5 ⟨rfl, d5⟩
 have D5 : Hid (Below V.heap.size V W5) := D3.out.trans (d5.mono D3.out.size)
 obtain ⟨N2, hlook, hat, _⟩ := (owns_below I3 d5).lookup_int (Keyed.of_law org_law) org_map Tryz.underlying3 (zero_int _) HKA.out
 have hNN : N2 = N := by
  have e := hat.symm.trans HNN.out
  simp only [oneD, DataW.lit.injEq, Lit.int.injEq, true_and] at e
  exact e
 rw [hNN] at hlook
 clear hat hNN
 refine hK.out _ _ ((HS.out _ D5.out).2) (fun hHeld => ?_)
 clear hK K
 try simp only [Act.put, x1, x2, x3, x4, x5, x6]
 refine wpAnyH_ready (rs := [6]) (by kernel_rfl) (by simp) ?_
 refine AllReadyH.cons (o := _) rfl (fun K hK => ?_) AllReadyH.nil
 go_simp
 skip
 refine hK.out _ _ (hHeld) (fun hHeld => ?_)
 clear hK K
 try simp only [Act.put, x1, x2, x3, x4, x5, x6]
 refine tk (v := .bool x) 7 rfl (by kernel_rfl) (fun _ _ _ h => h) (by rfl) (fun w hSw => by (try dsimp only [Sc] at hSw); go_simp; first | exact HX.out | (have h := HX.out; simpa using h)) (by assumption) ?_
 simp only [Act.put, x1, x2, x3, x4, x5, x6]
 refine tk 8 rfl (by kernel_rfl) (fun _ _ _ h => h) (by rfl) (fun w hSw => by (try dsimp only [Sc] at hSw); go_simp; try (with_reducible rfl)) (by assumption) ?_
 simp only [Act.put, x1, x2, x3, x4, x5, x6]
 refine wpAnyH_done (by kernel_rfl) ?_ _
 go_wp2
 go_ret
 exact ⟨rfl, hHeld.1⟩
end Go.Proofs.YtfcbjdooijhibaaGreatDoor
end
section
namespace Go.Proofs.YtfcbjdooijhibaaGreatDoor
open Go.RowKit Go.Shelf
theorem tl_eq {x y : ByteArray} (h : x.toList = y.toList) : x = y := by
 by_cases e : x = y
 ·exact e
 ·have := tlb_ne e
  rw [h] at this
  simp at this
theorem five_if {u0 v0 : ByteArray} {u1 v1 : Int} {u2 v2 : ByteArray} {u3 v3 u4 v4 : Int} {x : Bool} (hx : x = true ↔ (u0 = v0 ∧ u1 = v1 ∧ u2 = v2 ∧ u3 = v3 ∧ u4 = v4)) (w : World) :
  (if u0.toList = v0.toList then (if u1 = v1 then (if u2.toList = v2.toList then (if u3 = v3 then (if u4 = v4 then Result.ok (Next.value (Value.bool true)) w else Result.ok (Next.value (Value.bool false)) w) else Result.ok (Next.value (Value.bool false)) w) else Result.ok (Next.value (Value.bool false)) w) else Result.ok (Next.value (Value.bool false)) w) else Result.ok (Next.value (Value.bool false)) w) = Result.ok (Next.value (Value.bool x)) w := by
 cases hxx : x with
 | true =>
  obtain ⟨h0, h1, h2, h3, h4⟩ := hx.1 hxx
  rw [if_pos (by rw [h0]), if_pos h1, if_pos (by rw [h2]), if_pos h3, if_pos h4]
 | false =>
  by_cases g0 : u0.toList = v0.toList
  ·rw [if_pos g0]
   by_cases g1 : u1 = v1
   ·rw [if_pos g1]
    by_cases g2 : u2.toList = v2.toList
    ·rw [if_pos g2]
     by_cases g3 : u3 = v3
     ·rw [if_pos g3]
      by_cases g4 : u4 = v4
      ·have := hx.2 ⟨tl_eq g0, g1, tl_eq g2, g3, g4⟩
       rw [hxx] at this; cases this
      ·rw [if_neg g4]
     ·rw [if_neg g3]
    ·rw [if_neg g2]
   ·rw [if_neg g1]
  ·rw [if_neg g0]
theorem l4SameNo (p q : P) (a a' : Option Addr) (n n' c c' : Nat) (w : World) (ho : ¬ 0 ≤ ownZ p.sc) :
  Calls Tryz.prog 51 #[.agg (p.cells (.slice a n c)), .agg (q.cells (.slice a' n' c'))] w fun e w' => e = .returned (.bool false) ∧ Below w.heap.size w w' := by
 have COH : Hid (∀ W, Calls Tryz.prog 48 #[.string p.sc] W fun e w' => e = .returned (.int .i64 (ownZ p.sc)) ∧ w' = W) := fun W => l3Own p.sc W
 have HSO : Hid (decide (0 ≤ ownZ p.sc) = false) := decide_eq_false ho
 obtain ⟨V, hV⟩ : ∃ V, V = ((w.alloc (.cells #[(.string p.sc), (.string p.us), (.string p.pw), (.int .i64 p.hk), (.string p.hn), (.int .i64 p.ha), (.int .i64 p.po), (.slice a n c), (.string p.op), (.bool p.hq), (.string p.qu), (.bool p.hf), (.string p.fr)] 27)).alloc (.cells #[(.string q.sc), (.string q.us), (.string q.pw), (.int .i64 q.hk), (.string q.hn), (.int .i64 q.ha), (.int .i64 q.po), (.slice a' n' c'), (.string q.op), (.bool q.hq), (.string q.qu), (.bool q.hf), (.string q.fr)] 27)) := ⟨_, rfl⟩
 have HK0 : Hid (Tw w (p.cells (.slice a n c)) (q.cells (.slice a' n' c')) V) := by show Tw _ _ _ _; rw [hV]; exact Tw.start w _ _
 have HS : Hid (∀ W, Below V.heap.size V W → Tw w (p.cells (.slice a n c)) (q.cells (.slice a' n' c')) W ∧ (fun W => Below w.heap.size w W ∧ Sc w.heap.size p a n c W ∧ Sc (w.heap.size + 1) q a' n' c' W) W) := fun W d => ⟨HK0.out.later d, (HK0.out.later d).bw, Sc.of (HK0.out.later d).b1, Sc.of (HK0.out.later d).b2⟩
 clear HK0 ho
 unfold P.cells
 go_enter Tryz.func51, Tryz.ntmps51
 go_upto_region 1 with fail
 rw [← hV]
 clear hV
 go_wp2
 refine wp_region_held_drew (S := (fun W => Below w.heap.size w W ∧ Sc w.heap.size p a n c W ∧ Sc (w.heap.size + 1) q a' n' c' W)) (by kernel_rfl) ((HS.out _ (Below.refl _ _).drew).2) (fun hHeld => ?_)
 refine tk 0 rfl (by kernel_rfl) (fun _ _ _ h => h) (by rfl) (fun w hSw => by (try dsimp only [Sc] at hSw); go_simp; try (with_reducible rfl)) (by assumption) ?_
 simp only [Act.put, x1, x2, x3, x4, x5, x6]
 refine tk 1 rfl (by kernel_rfl) (fun _ _ _ h => h) (by rfl) (fun w hSw => by (try dsimp only [Sc] at hSw); go_simp; try (with_reducible rfl)) (by assumption) ?_
 simp only [Act.put, x1, x2, x3, x4, x5, x6]
 refine wpAnyH_ready (rs := [2]) (by kernel_rfl) (by simp) ?_
 refine AllReadyH.cons (o := _) rfl (fun K hK => ?_) AllReadyH.nil
 go_simp
 refine (COH.out _).mono ?_
 rintro e W9 ⟨rfl, hW⟩
 have hW2 := hW.symm
 subst hW2
 clear hW
 refine hK.out _ _ (hHeld) (fun hHeld => ?_)
 clear hK K
 try simp only [Act.put, x1, x2, x3, x4, x5, x6]
 refine tk (v := .bool false) 3 rfl (by kernel_rfl) (fun _ _ _ h => h) (by rfl) (fun w hSw => by (try dsimp only [Sc] at hSw); go_simp; first | exact HSO.out | (have h := HSO.out; simpa using h)) (by assumption) ?_
 simp only [Act.put, x1, x2, x3, x4, x5, x6]
 refine tk 4 rfl (by kernel_rfl) (fun _ _ _ h => h) (by rfl) (fun w hSw => by (try dsimp only [Sc] at hSw); go_simp; try (with_reducible rfl)) (by assumption) ?_
 simp only [Act.put, x1, x2, x3, x4, x5, x6]
 refine wpAnyH_take (i := 5) (oi := _) (v := undef) rfl (by kernel_rfl) (by kernel_rfl) (by kernel_rfl) (fun _ _ _ h => h) (Or.inr ⟨by simp [Region.wanted, yielded, undef, Act.put], rfl⟩) (by assumption) ?_
 refine wpAnyH_take (i := 6) (oi := _) (v := undef) rfl (by kernel_rfl) (by kernel_rfl) (by kernel_rfl) (fun _ _ _ h => h) (Or.inr ⟨by simp [Region.wanted, yielded, undef, Act.put], rfl⟩) (by assumption) ?_
 refine wpAnyH_take (i := 7) (oi := _) (v := undef) rfl (by kernel_rfl) (by kernel_rfl) (by kernel_rfl) (fun _ _ _ h => h) (Or.inr ⟨by simp [Region.wanted, yielded, undef, Act.put], rfl⟩) (by assumption) ?_
 refine wpAnyH_take (i := 8) (oi := _) (v := undef) rfl (by kernel_rfl) (by kernel_rfl) (by kernel_rfl) (fun _ _ _ h => h) (Or.inr ⟨by simp [Region.wanted, yielded, undef, Act.put], rfl⟩) (by assumption) ?_
 refine wpAnyH_take (i := 9) (oi := _) (v := undef) rfl (by kernel_rfl) (by kernel_rfl) (by kernel_rfl) (fun _ _ _ h => h) (Or.inr ⟨by simp [Region.wanted, yielded, undef, Act.put], rfl⟩) (by assumption) ?_
 simp only [Act.put, x1, x2, x3, x4, x5, x6]
 refine tk 10 rfl (by kernel_rfl) (fun _ _ _ h => h) (by rfl) (fun w hSw => by (try dsimp only [Sc] at hSw); go_simp; try (with_reducible rfl)) (by assumption) ?_
 simp only [Act.put, x1, x2, x3, x4, x5, x6]
 refine tk 11 rfl (by kernel_rfl) (fun _ _ _ h => h) (by rfl) (fun w hSw => by (try dsimp only [Sc] at hSw); go_simp; try (with_reducible rfl)) (by assumption) ?_
 simp only [Act.put, x1, x2, x3, x4, x5, x6]
 refine wpAnyH_done (by kernel_rfl) ?_ _
 go_wp2
 go_ret
 exact ⟨rfl, hHeld.1⟩
theorem l4SameYes (p q : P) (a a' : Option Addr) (n n' c c' : Nat) (w : World) (ho : 0 ≤ ownZ p.sc) (u0 : ByteArray) (u1 : Int) (u2 : ByteArray) (u3 u4 : Int) (v0 : ByteArray) (v1 : Int) (v2 : ByteArray) (v3 v4 : Int) (ea : orgV p = #[.string u0, .int .i64 u1, .string u2, .int .i64 u3, .int .i64 u4]) (eb : orgV q = #[.string v0, .int .i64 v1, .string v2, .int .i64 v3, .int .i64 v4]) (x : Bool) (hx : x = true ↔ (u0 = v0 ∧ u1 = v1 ∧ u2 = v2 ∧ u3 = v3 ∧ u4 = v4)) :
  Calls Tryz.prog 51 #[.agg (p.cells (.slice a n c)), .agg (q.cells (.slice a' n' c'))] w fun e w' => e = .returned (.bool x) ∧ Below w.heap.size w w' := by
 have COH : Hid (∀ W, Calls Tryz.prog 48 #[.string p.sc] W fun e w' => e = .returned (.int .i64 (ownZ p.sc)) ∧ w' = W) := fun W => l3Own p.sc W
 have HSO : Hid (decide (0 ≤ ownZ p.sc) = true) := decide_eq_true ho
 have CLA : Hid (∀ W, Calls Tryz.prog 42 #[.agg #[(.string p.sc), (.string p.us), (.string p.pw), (.int .i64 p.hk), (.string p.hn), (.int .i64 p.ha), (.int .i64 p.po), (.slice a n c), (.string p.op), (.bool p.hq), (.string p.qu), (.bool p.hf), (.string p.fr)]] W fun e w' => e = .returned (.agg #[.string u0, .int .i64 u1, .string u2, .int .i64 u3, .int .i64 u4]) ∧ Below W.heap.size W w') := fun W => by rw [← ea]; exact l4Origin p a n c W
 have CLB : Hid (∀ W, Calls Tryz.prog 42 #[.agg #[(.string q.sc), (.string q.us), (.string q.pw), (.int .i64 q.hk), (.string q.hn), (.int .i64 q.ha), (.int .i64 q.po), (.slice a' n' c'), (.string q.op), (.bool q.hq), (.string q.qu), (.bool q.hf), (.string q.fr)]] W fun e w' => e = .returned (.agg #[.string v0, .int .i64 v1, .string v2, .int .i64 v3, .int .i64 v4]) ∧ Below W.heap.size W w') := fun W => by rw [← eb]; exact l4Origin q a' n' c' W
 have HXE : Hid (x = true ↔ (u0 = v0 ∧ u1 = v1 ∧ u2 = v2 ∧ u3 = v3 ∧ u4 = v4)) := hx
 obtain ⟨V, hV⟩ : ∃ V, V = ((w.alloc (.cells #[(.string p.sc), (.string p.us), (.string p.pw), (.int .i64 p.hk), (.string p.hn), (.int .i64 p.ha), (.int .i64 p.po), (.slice a n c), (.string p.op), (.bool p.hq), (.string p.qu), (.bool p.hf), (.string p.fr)] 27)).alloc (.cells #[(.string q.sc), (.string q.us), (.string q.pw), (.int .i64 q.hk), (.string q.hn), (.int .i64 q.ha), (.int .i64 q.po), (.slice a' n' c'), (.string q.op), (.bool q.hq), (.string q.qu), (.bool q.hf), (.string q.fr)] 27)) := ⟨_, rfl⟩
 have HK0 : Hid (Tw w (p.cells (.slice a n c)) (q.cells (.slice a' n' c')) V) := by show Tw _ _ _ _; rw [hV]; exact Tw.start w _ _
 have HS : Hid (∀ W, Below V.heap.size V W → Tw w (p.cells (.slice a n c)) (q.cells (.slice a' n' c')) W ∧ (fun W => Below w.heap.size w W ∧ Sc w.heap.size p a n c W ∧ Sc (w.heap.size + 1) q a' n' c' W) W) := fun W d => ⟨HK0.out.later d, (HK0.out.later d).bw, Sc.of (HK0.out.later d).b1, Sc.of (HK0.out.later d).b2⟩
 clear HK0 ho ea eb hx
 unfold P.cells
 go_enter Tryz.func51, Tryz.ntmps51
 go_upto_region 1 with fail
 rw [← hV]
 clear hV
 go_wp2
 refine wp_region_held_drew (S := (fun W => Below w.heap.size w W ∧ Sc w.heap.size p a n c W ∧ Sc (w.heap.size + 1) q a' n' c' W)) (by kernel_rfl) ((HS.out _ (Below.refl _ _).drew).2) (fun hHeld => ?_)
 refine tk 0 rfl (by kernel_rfl) (fun _ _ _ h => h) (by rfl) (fun w hSw => by (try dsimp only [Sc] at hSw); go_simp; try (with_reducible rfl)) (by assumption) ?_
 simp only [Act.put, x1, x2, x3, x4, x5, x6]
 refine tk 1 rfl (by kernel_rfl) (fun _ _ _ h => h) (by rfl) (fun w hSw => by (try dsimp only [Sc] at hSw); go_simp; try (with_reducible rfl)) (by assumption) ?_
 simp only [Act.put, x1, x2, x3, x4, x5, x6]
 refine wpAnyH_ready (rs := [2]) (by kernel_rfl) (by simp) ?_
 refine AllReadyH.cons (o := _) rfl (fun K hK => ?_) AllReadyH.nil
 go_simp
 refine (COH.out _).mono ?_
 rintro e W9 ⟨rfl, hW⟩
 have hW2 := hW.symm
 subst hW2
 clear hW
 refine hK.out _ _ (hHeld) (fun hHeld => ?_)
 clear hK K
 try simp only [Act.put, x1, x2, x3, x4, x5, x6]
 refine tk (v := .bool true) 3 rfl (by kernel_rfl) (fun _ _ _ h => h) (by rfl) (fun w hSw => by (try dsimp only [Sc] at hSw); go_simp; first | exact HSO.out | (have h := HSO.out; simpa using h)) (by assumption) ?_
 simp only [Act.put, x1, x2, x3, x4, x5, x6]
 refine tk 4 rfl (by kernel_rfl) (fun _ _ _ h => h) (by rfl) (fun w hSw => by (try dsimp only [Sc] at hSw); go_simp; try (with_reducible rfl)) (by assumption) ?_
 simp only [Act.put, x1, x2, x3, x4, x5, x6]
 refine tk 5 rfl (by kernel_rfl) (fun _ _ _ h => h) (by rfl) (fun w hSw => by (try dsimp only [Sc] at hSw); go_simp; try (with_reducible rfl)) (by assumption) ?_
 simp only [Act.put, x1, x2, x3, x4, x5, x6]
 refine tk 7 rfl (by kernel_rfl) (fun _ _ _ h => h) (by rfl) (fun w hSw => by (try dsimp only [Sc] at hSw); go_simp; try (with_reducible rfl)) (by assumption) ?_
 simp only [Act.put, x1, x2, x3, x4, x5, x6]
 refine wpAnyH_ready (rs := [6]) (by kernel_rfl) (by simp) ?_
 refine AllReadyH.cons (o := _) rfl (fun K hK => ?_) AllReadyH.nil
 go_simp
 refine (CLA.out _).mono ?_
 rintro e W1 ⟨rfl, d1⟩
 have D1 : Hid (Below V.heap.size V W1) := ((Below.refl _ V).drew).trans d1
 refine hK.out _ _ ((HS.out _ D1.out).2) (fun hHeld => ?_)
 clear hK K
 try simp only [Act.put, x1, x2, x3, x4, x5, x6]
 refine wpAnyH_ready (rs := [8]) (by kernel_rfl) (by simp) ?_
 refine AllReadyH.cons (o := _) rfl (fun K hK => ?_) AllReadyH.nil
 go_simp
 refine (CLB.out _).mono ?_
 rintro e W2 ⟨rfl, d2⟩
 have D2 : Hid (Below V.heap.size V W2) := D1.out.trans (d2.mono D1.out.size)
 refine hK.out _ _ ((HS.out _ D2.out).2) (fun hHeld => ?_)
 clear hK K
 try simp only [Act.put, x1, x2, x3, x4, x5, x6]
 refine tk (v := .bool x) 9 rfl (by kernel_rfl) (fun _ _ _ h => h) (by rfl) (fun w hSw => by (try dsimp only [Sc] at hSw); go_simp; exact five_if HXE.out w) (by assumption) ?_
 simp only [Act.put, x1, x2, x3, x4, x5, x6]
 refine tk 10 rfl (by kernel_rfl) (fun _ _ _ h => h) (by rfl) (fun w hSw => by (try dsimp only [Sc] at hSw); go_simp; try (with_reducible rfl)) (by assumption) ?_
 simp only [Act.put, x1, x2, x3, x4, x5, x6]
 refine tk 11 rfl (by kernel_rfl) (fun _ _ _ h => h) (by rfl) (fun w hSw => by (try dsimp only [Sc] at hSw); go_simp; try (with_reducible rfl)) (by assumption) ?_
 simp only [Act.put, x1, x2, x3, x4, x5, x6]
 refine wpAnyH_done (by kernel_rfl) ?_ _
 go_wp2
 go_ret
 exact ⟨rfl, hHeld.1⟩
theorem l4Same (p q : P) (a a' : Option Addr) (n n' c c' : Nat) (w : World) (y : Bool) (hy : y = true ↔ (0 ≤ ownZ p.sc ∧ orgV p = orgV q)) :
  Calls Tryz.prog 51 #[.agg (p.cells (.slice a n c)), .agg (q.cells (.slice a' n' c'))] w fun e w' => e = .returned (.bool y) ∧ Below w.heap.size w w' := by
 by_cases ho : 0 ≤ ownZ p.sc
 ·obtain ⟨u0, u1, u2, u3, u4, ea⟩ := orgV_shape p
  obtain ⟨v0, v1, v2, v3, v4, eb⟩ := orgV_shape q
  exact l4SameYes p q a a' n n' c c' w ho u0 u1 u2 u3 u4 v0 v1 v2 v3 v4 ea eb y (by rw [hy, ea, eb]; simp [ho])
 ·obtain rfl : y = false := by rw [Bool.eq_false_iff]; intro h; exact ho (hy.1 h).1
  exact l4SameNo p q a a' n n' c c' w ho
theorem specOriginSame (p q : P) (a a' : Option Addr) (n n' c c' : Nat) (w : World) (hS : StrsOf a n p.ps w) (hS' : StrsOf a' n' q.ps w) (hs : p.tot ≤ 1048576) (hs' : q.tot ≤ 1048576) (hpo : p.po ≤ 9223372036854775807) (hpo' : q.po ≤ 9223372036854775807) (x : Bool) (hx : x = true ↔ okP p ∧ okP q ∧ ¬ ownZ p.sc < 0 ∧ orgV p = orgV q) :
  Calls Tryz.prog 24 #[.agg (p.cells (.slice a n c)), .agg (q.cells (.slice a' n' c'))] w fun e w' => e = .returned (.bool x) ∧ Below w.heap.size w w' := by
 obtain ⟨b, hb⟩ : ∃ b : Bool, b = true ↔ okP p := by
  by_cases h : okP p
  ·exact ⟨true, by simp [h]⟩
  ·exact ⟨false, by simp [h]⟩
 obtain ⟨b', hb'⟩ : ∃ b : Bool, b = true ↔ okP q := by
  by_cases h : okP q
  ·exact ⟨true, by simp [h]⟩
  ·exact ⟨false, by simp [h]⟩
 obtain ⟨y, hy⟩ : ∃ y : Bool, y = true ↔ (0 ≤ ownZ p.sc ∧ orgV p = orgV q) := by
  by_cases h : 0 ≤ ownZ p.sc ∧ orgV p = orgV q
  ·exact ⟨true, iff_of_true rfl h⟩
  ·exact ⟨false, iff_of_false (by decide) h⟩
 have HB1 : Hid (b = false → x = false) := fun h => by
  rw [Bool.eq_false_iff]; intro e; have := hb.2 (hx.1 e).1; rw [h] at this; cases this
 have HB2 : Hid (b' = false → x = false) := fun h => by
  rw [Bool.eq_false_iff]; intro e; have := hb'.2 (hx.1 e).2.1; rw [h] at this; cases this
 have HB3 : Hid (b = true → b' = true → y = x) := fun h h' => by
  rw [Bool.eq_iff_iff, hy, hx]
  have h1 := hb.1 h
  have h2 := hb'.1 h'
  exact ⟨fun k => ⟨h1, h2, by omega, k.2⟩, fun k => ⟨by have := k.2.2.1; omega, k.2.2.2⟩⟩
 have COA : Hid (∀ W, Below w.heap.size w W → Calls Tryz.prog 12 #[.agg #[(.string p.sc), (.string p.us), (.string p.pw), (.int .i64 p.hk), (.string p.hn), (.int .i64 p.ha), (.int .i64 p.po), (.slice a n c), (.string p.op), (.bool p.hq), (.string p.qu), (.bool p.hf), (.string p.fr)]] W fun e w' => e = .returned (.bool b) ∧ Below W.heap.size W w') := fun W d => specUrlOk p a n c W (hS.later d) hs hpo b hb
 have COB : Hid (∀ W, Below w.heap.size w W → Calls Tryz.prog 12 #[.agg #[(.string q.sc), (.string q.us), (.string q.pw), (.int .i64 q.hk), (.string q.hn), (.int .i64 q.ha), (.int .i64 q.po), (.slice a' n' c'), (.string q.op), (.bool q.hq), (.string q.qu), (.bool q.hf), (.string q.fr)]] W fun e w' => e = .returned (.bool b') ∧ Below W.heap.size W w') := fun W d => specUrlOk q a' n' c' W (hS'.later d) hs' hpo' b' hb'
 have CL : Hid (∀ W, Calls Tryz.prog 51 #[.agg #[(.string p.sc), (.string p.us), (.string p.pw), (.int .i64 p.hk), (.string p.hn), (.int .i64 p.ha), (.int .i64 p.po), (.slice a n c), (.string p.op), (.bool p.hq), (.string p.qu), (.bool p.hf), (.string p.fr)], .agg #[(.string q.sc), (.string q.us), (.string q.pw), (.int .i64 q.hk), (.string q.hn), (.int .i64 q.ha), (.int .i64 q.po), (.slice a' n' c'), (.string q.op), (.bool q.hq), (.string q.qu), (.bool q.hf), (.string q.fr)]] W fun e w' => e = .returned (.bool y) ∧ Below W.heap.size W w') := fun W => l4Same p q a a' n n' c c' W y hy
 obtain ⟨V, hV⟩ : ∃ V, V = ((w.alloc (.cells #[(.string p.sc), (.string p.us), (.string p.pw), (.int .i64 p.hk), (.string p.hn), (.int .i64 p.ha), (.int .i64 p.po), (.slice a n c), (.string p.op), (.bool p.hq), (.string p.qu), (.bool p.hf), (.string p.fr)] 27)).alloc (.cells #[(.string q.sc), (.string q.us), (.string q.pw), (.int .i64 q.hk), (.string q.hn), (.int .i64 q.ha), (.int .i64 q.po), (.slice a' n' c'), (.string q.op), (.bool q.hq), (.string q.qu), (.bool q.hf), (.string q.fr)] 27)) := ⟨_, rfl⟩
 have HT : Hid (Tw w (p.cells (.slice a n c)) (q.cells (.slice a' n' c')) V) := by show Tw _ _ _ _; rw [hV]; exact Tw.start w _ _
 clear hS hS' hs hs' hpo hpo' hb hb' hx hy
 unfold P.cells
 go_enter Tryz.func24, Tryz.ntmps24
 go_upto_region 1 with fail
 rw [← hV]
 clear hV
 obtain ⟨k0, k1, k2, k3, k4, k5, k6, k7, k8, k9, k10, k11, k12⟩ := Blk.cells13a HT.out.b1
 go_wp2_with fail
 refine (COA.out _ HT.out.bw).mono ?_
 rintro e W1 ⟨rfl, d1⟩
 have HT1 : Hid (Tw w (p.cells (.slice a n c)) (q.cells (.slice a' n' c')) W1) := HT.out.later d1
 clear d1 HT COA k0 k1 k2 k3 k4 k5 k6 k7 k8 k9 k10 k11 k12
 rcases Bool.eq_false_or_eq_true b with hbb | hbb
 rotate_left
 ·have hxf := HB1.out hbb
  subst hbb
  subst hxf
  clear HB1 HB2 HB3 COB CL
  go_wp2
  go_ret
  exact ⟨rfl, HT1.out.bw⟩
 ·subst hbb
  obtain ⟨j0, j1, j2, j3, j4, j5, j6, j7, j8, j9, j10, j11, j12⟩ := Blk.cells13a HT1.out.b2
  go_wp2_with fail
  refine (COB.out _ HT1.out.bw).mono ?_
  rintro e W2 ⟨rfl, d2⟩
  have HT2 : Hid (Tw w (p.cells (.slice a n c)) (q.cells (.slice a' n' c')) W2) := HT1.out.later d2
  clear d2 HT1 COB j0 j1 j2 j3 j4 j5 j6 j7 j8 j9 j10 j11 j12
  rcases Bool.eq_false_or_eq_true b' with hbb | hbb
  rotate_left
  ·have hxf := HB2.out hbb
   subst hbb
   subst hxf
   clear HB1 HB2 HB3 CL
   go_wp2
   go_ret
   exact ⟨rfl, HT2.out.bw⟩
  ·have hyx := HB3.out (by first | trivial | rfl) hbb
   subst hbb
   subst hyx
   clear HB1 HB2 HB3
   obtain ⟨k0, k1, k2, k3, k4, k5, k6, k7, k8, k9, k10, k11, k12⟩ := Blk.cells13a HT2.out.b1
   obtain ⟨j0, j1, j2, j3, j4, j5, j6, j7, j8, j9, j10, j11, j12⟩ := Blk.cells13a HT2.out.b2
   go_wp2_with fail
   refine (CL.out _).mono ?_
   rintro e W3 ⟨rfl, d3⟩
   have HB : Hid (Below w.heap.size w W3) := HT2.out.bw.trans (d3.mono HT2.out.bw.size)
   clear d3 HT2 CL k0 k1 k2 k3 k4 k5 k6 k7 k8 k9 k10 k11 k12 j0 j1 j2 j3 j4 j5 j6 j7 j8 j9 j10 j11 j12
   go_wp2
   go_ret
   exact ⟨rfl, HB.out⟩
end Go.Proofs.YtfcbjdooijhibaaGreatDoor
end
section
namespace Go.Proofs.YtfcbjdooijhibaaGreatDoor
open Go.RowKit Go.Shelf
theorem pick (B r p : Nat) (n : Int) (w : World) (hn : 1 ≤ n) (hn2 : n ≤ 1000000) (hp : p ≤ 1000000) (h : Rd B r p w) :
  Calls Tryz.prog 54 #[.pointer (some ⟨r, 0, none⟩), .int .i64 n] w fun e w' => ∃ v : Int, e = .returned (.int .i64 v) ∧ 0 ≤ v ∧ v < n ∧ Rd B r (p + 1) w' ∧ w.grownBy w' (some r) := by
 have hput := h.put (p + 1)
 have hgr := setCell_grown w r 1 (.int .i64 ((p + 1 : Nat) : Int))
 rw [show ((p + 1 : Nat) : Int) = (p : Int) + 1 from by omega] at hput hgr
 have HP : Hid (Rd B r (p + 1) (w.setCell ⟨r, 1, none⟩ (.int .i64 ((p : Int) + 1)))) := hput
 have HG : Hid (w.grownBy (w.setCell ⟨r, 1, none⟩ (.int .i64 ((p : Int) + 1))) (some r)) := hgr
 clear hput hgr
 obtain ⟨hB, a, len, cap, z, hr, hl, hc⟩ := h
 have c0 : w.cell? ⟨r, 0, none⟩ = some (.slice a len cap) := by rw [Lib.cell_of_heap hr]; rfl
 have c1 : w.cell? ⟨r, 1, none⟩ = some (.int .i64 (p : Int)) := by rw [Lib.cell_of_heap hr]; rfl
 have f1 : w.frozen? ⟨r, 1, none⟩ = false := Lib.frozen_of_heap hr 1
 have hk1 : (p : Int) + 1 - 1 = (p : Int) := by omega
 have hpi : (p : Int) ≤ 1000000 := by omega
 clear hr
 by_cases h0 : len = 0
 ·subst h0
  go_enter Tryz.func54, Tryz.ntmps54
  go_wp2
  go_ret
  exact ⟨0, rfl, by omega, by omega, HP.out, HG.out⟩
 ·rcases hc with hc | ⟨b, off, rfl, hbB, hc⟩
  ·exact absurd hc h0
  have hbr : b ≠ r := by omega
  have hl0 : (0 : Int) < (len : Int) := by omega
  have hl1 : ((len : Int) == 0) = false := by rw [beq_eq_false_iff_ne]; omega
  by_cases hlt : p < len
  ·have hlti : (p : Int) < (len : Int) := by omega
   obtain ⟨hcell, hz0, hz1⟩ := hc p hlt
   clear hc
   go_enter Tryz.func54, Tryz.ntmps54
   go_wp2
   go_ret
   exact ⟨z p % n, rfl, Int.emod_nonneg _ (by omega), Int.emod_lt_of_pos _ (by omega), HP.out, HG.out⟩
  ·have hlti : ¬ ((p : Int) < (len : Int)) := by omega
   have hlne : ¬ ((len : Int) = 0) := by omega
   obtain ⟨q1, hq1, hq1l⟩ : ∃ q : Nat, (p : Int) % (len : Int) = (q : Int) ∧ q < len := ⟨p % len, by omega, Nat.mod_lt _ (by omega)⟩
   obtain ⟨q2, hq2, hq2l⟩ : ∃ q : Nat, ((p : Int) * 7 + 3) % (len : Int) = (q : Int) ∧ q < len := ⟨(p * 7 + 3) % len, by simp, Nat.mod_lt _ (by omega)⟩
   obtain ⟨hcell1, hz0, hz1⟩ := hc q1 hq1l
   obtain ⟨hcell2, hy0, hy1⟩ := hc q2 hq2l
   have hw7 : IntKind.i64.wrap ((p : Int) * 7) = (p : Int) * 7 := by rw [IntKind.wrap_i64]; omega
   have hw73 : IntKind.i64.wrap ((p : Int) * 7 + 3) = (p : Int) * 7 + 3 := by rw [IntKind.wrap_i64]; omega
   obtain ⟨q3, hq3, hq3l⟩ : ∃ q : Nat, (p : Int) / (len : Int) = (q : Int) ∧ (q : Int) ≤ 1000000 := ⟨p / len, by simp, by have := Nat.div_le_self p len; omega⟩
   obtain ⟨x, hx, hxl⟩ := i64_xor_range (z q1 * 131 + z q2 * 1117 + (p : Int) * 29 + (q3 : Int) * 53) ((z q1 * 131 + z q2 * 1117 + (p : Int) * 29 + (q3 : Int) * 53) / 64) (by omega) (by omega) (by omega) (by omega)
   have hq1i : (q1 : Int) < (len : Int) := by omega
   have hq2i : (q2 : Int) < (len : Int) := by omega
   clear hc
   go_enter Tryz.func54, Tryz.ntmps54
   go_wp2
   go_quiet (fail)
   go_wp2
   go_ret
   exact ⟨(x : Int) % n, rfl, Int.emod_nonneg _ (by omega), Int.emod_lt_of_pos _ (by omega), HP.out, grown_drewN HG.out _⟩
end Go.Proofs.YtfcbjdooijhibaaGreatDoor
end
section
namespace Go.Proofs.YtfcbjdooijhibaaGreatDoor
open Go.RowKit Go.Shelf
theorem rdOf (B r p g c : Nat) (xs : List ByteArray) (t : TypeId) (fr : Nat × Nat) (A : Array Value) (w : World) (hA : A.toList = xs.map Value.string) (hg : w.heap[g]? = some (.cells A t fr)) (hgr : g ≠ r) (h1 : 1 ≤ xs.length) (hx : xs.length ≤ 1000000) (hp : p ≤ 1000000) (h : Rd B r p w) :
  Calls Tryz.prog 58 #[.pointer (some ⟨r, 0, none⟩), .slice (some ⟨g, 0, none⟩) xs.length c] w fun e w' => ∃ x, x ∈ xs ∧ e = .returned (Value.string x) ∧ Rd B r (p + 1) w' ∧ w.grownBy w' (some r) := by
 go_enter Tryz.func58, Tryz.ntmps58
 go_wp2_with fail
 refine (pick B r p _ _ (by omega) (by omega) hp h).mono ?_
 rintro e w1 ⟨v, rfl, hv0, hv1, hr1, hg1⟩
 obtain ⟨j, rfl⟩ := Int.eq_ofNat_of_zero_le hv0
 have hj : j < xs.length := by omega
 have hcell : w1.cell? ⟨g, j, none⟩ = some (Value.string xs[j]) := by
  have hh : w1.heap[g]? = some (.cells A t fr) := (hg1.block g (Array.getElem?_eq_some_iff.1 hg).1 (by simp [hgr])).trans hg
  rw [Lib.cell_of_heap hh, ← Array.getElem?_toList, hA]
  simp [hj]
 go_wp2
 go_ret
 exact ⟨xs[j], List.getElem_mem hj, rfl, hr1, hg1⟩
end Go.Proofs.YtfcbjdooijhibaaGreatDoor
end
