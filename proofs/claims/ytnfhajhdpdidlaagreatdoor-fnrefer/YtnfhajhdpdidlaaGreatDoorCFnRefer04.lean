/- impl.originCounts, impl.OriginSame: how often an origin is met. impl.HostOk; laws.toHost, laws.szHost. impl.OriginPut: an origin, written. Plain facts: an address without who and end; an origin's own address; what an origin's text is read as. -/
import Derived.Test.YtnfhajhdpdidlaaGreatDoorCFnRefer03
import Derived.Test.YtnfhajhdpdidlaaGreatDoorB16
import Derived.Test.YtnfhajhdpdidlaaGreatDoorCFnRefer02
import Derived.Deep.RegionHeld3
import Derived.Test.YtnfhajhdpdidlaaGreatDoorB33
import Derived.Test.YtnfhajhdpdidlaaGreatDoorB12
import Derived.Test.YtnfhajhdpdidlaaGreatDoorB06
import Derived.Handy
set_option linter.unusedVariables false
set_option linter.unusedSimpArgs false
set_option maxHeartbeats 8000000
set_option maxRecDepth 100000
section
namespace Go.Proofs.YtnfhajhdpdidlaaGreatDoor
open Go.RowKit Go.Shelf
open Go.Maps (Keyed)
open Go.WideMaps (KeyLaw)
open Go.WideElems (entry_then_store)
open Go.ChangeShapes Go.WideShapes Go.MapKept Go.ChangeMaps
def oneD (x : Int) : DataW Unit := .lit (.int .i64 x)
theorem org_map : Tryz.prog.underlying 84 = some (.map 48 3) := Tryz.underlying84
theorem zero_int (w : World) : (zeroValue 3).run Tryz.prog w = .ok (.int .i64 0) w := Tryz.zeroValue3 w
theorem count_step {W : World} {b n : Nat} {D : DataW Unit} (hown : W.ownsMap Tryz.prog 48 (plainElem Tryz.prog 3) b n D) (hn : n < maxLen) {key : Value} {kl : Lit} (hkey : keyOf Tryz.prog 48 key = some kl) (c d : Int) (hc : D.atKey kl (oneD 0) = oneD c) (hw : (Lit.int .i64 d).wf = true) :
  (Instr.lookup 84 (.map (some b)) key false).run Tryz.prog W = .ok (.int .i64 c) W ∧ ∃ (st : Nat) (v0 : Value) (W1 W2 : World), (Instr.mapEntry 84 (.map (some b)) key).run Tryz.prog W = .ok (.tuple #[v0, .int .i64 st]) W1 ∧ (Instr.entryStore 84 (.map (some b)) (.int .i64 st) (.int .i64 d)).run Tryz.prog W1 = .ok () W2 ∧
   W2.ownsMap Tryz.prog 48 (plainElem Tryz.prog 3) b (n + 1) (D.put kl (oneD d)) ∧ W.grownBy W1 (some b) ∧ W.grownBy W2 (some b) := by
 refine ⟨?_, ?_⟩
 ·obtain ⟨c', hrun, hat, _⟩ := hown.lookup_int (Keyed.of_law org_law) org_map Tryz.underlying3 (zero_int _) hkey
  have e : oneD c = oneD c' := hc.symm.trans hat
  simp only [oneD, DataW.lit.injEq, Lit.int.injEq, true_and] at e
  rw [e]; exact hrun
 ·obtain ⟨w', hrun, hown', _⟩ := hown.update (Keyed.of_law org_law) org_map hn hkey (plainElem_int (H := Unit) Tryz.underlying3 hw)
  obtain ⟨es, clock, hb, F, hs, hD⟩ := hown
  obtain ⟨v0, st, es1, clock1, h1, _, h3⟩ := entry_then_store org_law org_map (z := .int .i64 0) (fun u => zero_int u) hb F hkey
  obtain ⟨es', clock', h4, h5⟩ := h3 (setBlock W b (.map es1 clock1)) (.int .i64 d) (heap_setBlock_same hb _)
  have hb1 := heap_setBlock_same hb (.map es1 clock1)
  rw [h5] at hrun
  injection hrun with _ ew
  refine ⟨st, v0, _, _, h1, h4, ?_, ⟨rfl, rfl, rfl, by simp [setBlock], fun i _ hi => heap_setBlock_other hb _ (fun e => hi (by rw [e]))⟩, ⟨rfl, rfl, rfl, by simp [setBlock], fun i _ hi => (heap_setBlock_other hb1 _ (fun e => hi (by rw [e]))).trans (heap_setBlock_other hb _ (fun e => hi (by rw [e])))⟩⟩
  obtain ⟨es2, cl2, hb2, F2, hs2, hD2⟩ := hown'
  refine ⟨es2, cl2, ?_, F2, hs2, hD2⟩
  rw [← ew, heap_setBlock_same hb] at hb2
  rw [heap_setBlock_same hb1]
  exact hb2
theorem entry_look {W : World} {b n : Nat} {D : DataW Unit} (hown : W.ownsMap Tryz.prog 48 (plainElem Tryz.prog 3) b n D) (hn : n < maxLen) {key : Value} {kl : Lit} (hkey : keyOf Tryz.prog 48 key = some kl) (c : Int) (hc : D.atKey kl (oneD 0) = oneD c) (v : Value) (W1 : World) (h : (Instr.mapEntry 84 (.map (some b)) key).run Tryz.prog W = .ok v W1) :
  (Instr.lookup 84 (.map (some b)) key false).run Tryz.prog W1 = .ok (.int .i64 c) W1 := by
 have hown0 := hown
 obtain ⟨es, clock, hb, F, hs, hD⟩ := hown
 rcases org_law.find W hkey es.toList F.keys with ⟨h1, h2⟩ | ⟨j, e0, h1, h2, h3⟩
 ·have hrun : (Instr.mapEntry 84 (.map (some b)) key).run Tryz.prog W = .ok (.tuple #[.int .i64 0, goInt clock]) (setBlock W b (.map (es.push ⟨key, .int .i64 0, clock⟩) (clock + 1))) := by
   simp [Instr.mapEntry, run_underlying org_map, MapKept.run_getObj_map hb, org_law.check W false hkey, h1, zero_int, MapKept.run_setObj_map _ hb, Result.andThen, setBlock]
  have ew := (Result.ok.inj (hrun.symm.trans h)).2
  clear hrun h
  subst ew
  obtain ⟨w', hup, hown', _⟩ := hown0.update (Keyed.of_law org_law) org_map hn hkey (plainElem_int (H := Unit) (a := 0) Tryz.underlying3 (by decide))
  have hup2 : (Instr.mapUpdate 84 (.map (some b)) key (.int .i64 0)).run Tryz.prog W = .ok () (setBlock W b (.map (es.push ⟨key, .int .i64 0, clock⟩) (clock + 1))) := by
   simp [Instr.mapUpdate, run_underlying org_map, MapKept.run_getObj_map hb, org_law.check W false hkey, h1, MapKept.run_setObj_map _ hb, Result.andThen, setBlock]
  have ew := (Result.ok.inj (hup2.symm.trans hup)).2
  rw [← ew] at hown'
  obtain ⟨c', hr, hat, _⟩ := hown'.lookup_int (Keyed.of_law org_law) org_map Tryz.underlying3 (zero_int _) hkey
  have e0 : (D.put kl (oneD 0)).atKey kl (oneD 0) = oneD 0 := Maps.atKey_put_same ⟨_, hD⟩ ((Keyed.of_law org_law).key hkey) _ _
  have e1 : D.atKey kl (oneD 0) = oneD 0 := by rw [hD]; exact Go.WideElems.atKey_none org_law F hkey h2 _
  have e2 : oneD 0 = oneD c' := e0.symm.trans hat
  have e3 : oneD 0 = oneD c := e1.symm.trans hc
  simp only [oneD, DataW.lit.injEq, Lit.int.injEq, true_and] at e2 e3
  have e4 : c = c' := e3.symm.trans e2
  rw [e4]
  exact hr
 ·have hj : es[j]? = some e0 := by simpa using h2
  have hsame : es.modify j (fun e => { e with key := key }) = es := by
   apply Array.ext'
   rw [Array.toList_modify, Go.ChangeMaps.modify_eq_set _ _ _ _ h2]
   have : ({ e0 with key := key } : MapEntry) = e0 := by rw [← h3]
   rw [this]
   exact Go.WideElems.set_self _ _ _ h2
  have hrun : (Instr.mapEntry 84 (.map (some b)) key).run Tryz.prog W = .ok (.tuple #[e0.val, goInt e0.born]) (setBlock W b (.map es clock)) := by
   simp [Instr.mapEntry, run_underlying org_map, MapKept.run_getObj_map hb, org_law.check W false hkey, h1, hj, h3, org_law.stays W hkey, hsame, MapKept.run_setObj_map _ hb, Result.andThen, setBlock]
  have ew := (Result.ok.inj (hrun.symm.trans h)).2
  clear hrun h
  subst ew
  have hown1 : (setBlock W b (.map es clock)).ownsMap Tryz.prog 48 (plainElem Tryz.prog 3) b n D := ⟨es, clock, heap_setBlock_same hb _, F, hs, hD⟩
  obtain ⟨c', hr, hat, _⟩ := hown1.lookup_int (Keyed.of_law org_law) org_map Tryz.underlying3 (zero_int _) hkey
  have e : oneD c = oneD c' := hc.symm.trans hat
  simp only [oneD, DataW.lit.injEq, Lit.int.injEq, true_and] at e
  rw [e]
  exact hr
def So (g : Nat) (x0 : ByteArray) (x1 : Int) (x2 : ByteArray) (x3 x4 : Int) (W : World) : Prop := W.cell? ⟨g, 0, none⟩ = some (.string x0) ∧ W.cell? ⟨g, 1, none⟩ = some (.int .i64 x1) ∧ W.cell? ⟨g, 2, none⟩ = some (.string x2) ∧ W.cell? ⟨g, 3, none⟩ = some (.int .i64 x3) ∧ W.cell? ⟨g, 4, none⟩ = some (.int .i64 x4)
theorem owns_below {W W' : World} {b n : Nat} {D : DataW Unit} (h : W.ownsMap Tryz.prog 48 (plainElem Tryz.prog 3) b n D) (d : Below W.heap.size W W') : W'.ownsMap Tryz.prog 48 (plainElem Tryz.prog 3) b n D := by
 have hlt := h.lt
 obtain ⟨es, clock, hb, F, hs, hD⟩ := h
 exact ⟨es, clock, (d.block b hlt).trans hb, F, hs, hD⟩
theorem originCounts (p q : P) (a a' : Option Addr) (n n' c c' gl : Nat) (w : World) (hG : Blk gl #[(.string p.sc), (.string p.us), (.string p.pw), (.int .i64 p.hk), (.string p.hn), (.int .i64 p.ha), (.int .i64 p.po), (.slice a n c), (.string p.op), (.bool p.hq), (.string p.qu), (.bool p.hf), (.string p.fr), (.string q.sc), (.string q.us), (.string q.pw), (.int .i64 q.hk), (.string q.hn), (.int .i64 q.ha), (.int .i64 q.po), (.slice a' n' c'), (.string q.op), (.bool q.hq), (.string q.qu), (.bool q.hf), (.string q.fr)] 31 w) (u0 : ByteArray) (u1 : Int) (u2 : ByteArray) (u3 u4 : Int) (v0 : ByteArray) (v1 : Int) (v2 : ByteArray) (v3 v4 : Int) (x : Bool)
  (CA : Hid (∀ W, Below w.heap.size w W → Calls Tryz.prog 29 #[.agg #[(.string p.sc), (.string p.us), (.string p.pw), (.int .i64 p.hk), (.string p.hn), (.int .i64 p.ha), (.int .i64 p.po), (.slice a n c), (.string p.op), (.bool p.hq), (.string p.qu), (.bool p.hf), (.string p.fr)]] W fun e w' => e = .returned (.agg #[.string u0, .int .i64 u1, .string u2, .int .i64 u3, .int .i64 u4]) ∧ Below W.heap.size W w'))
  (CB : Hid (∀ W, Below w.heap.size w W → Calls Tryz.prog 29 #[.agg #[(.string q.sc), (.string q.us), (.string q.pw), (.int .i64 q.hk), (.string q.hn), (.int .i64 q.ha), (.int .i64 q.po), (.slice a' n' c'), (.string q.op), (.bool q.hq), (.string q.qu), (.bool q.hf), (.string q.fr)]] W fun e w' => e = .returned (.agg #[.string v0, .int .i64 v1, .string v2, .int .i64 v3, .int .i64 v4]) ∧ Below W.heap.size W w'))
  (ka kb : Lit) (hka : keyOf Tryz.prog 48 (.agg #[.string u0, .int .i64 u1, .string u2, .int .i64 u3, .int .i64 u4]) = some ka) (hkb : keyOf Tryz.prog 48 (.agg #[.string v0, .int .i64 v1, .string v2, .int .i64 v3, .int .i64 v4]) = some kb)
  (C1 C2 : DataW Unit)
  (HA : Hid ((u0.size = 0 ∧ (#[.string u0, .int .i64 u1, .string u2, .int .i64 u3, .int .i64 u4] : Array Value) = #[.string ⟨#[]⟩, .int .i64 0, .string ⟨#[]⟩, .int .i64 0, .int .i64 0] ∧ C1 = .map []) ∨ (u0.size ≠ 0 ∧ C1 = (DataW.map []).put ka (oneD 1))))
  (HB : Hid ((v0.size = 0 ∧ (#[.string v0, .int .i64 v1, .string v2, .int .i64 v3, .int .i64 v4] : Array Value) = #[.string ⟨#[]⟩, .int .i64 0, .string ⟨#[]⟩, .int .i64 0, .int .i64 0] ∧ C2 = C1) ∨ (v0.size ≠ 0 ∧ C1.atKey kb (oneD 0) = oneD 0 ∧ C2 = C1.put kb (oneD 1)) ∨ (v0.size ≠ 0 ∧ C1.atKey kb (oneD 0) = oneD 1 ∧ C2 = C1.put kb (oneD 2)))) :
  Calls Tryz.prog 59 #[.slice (some ⟨gl, 0, none⟩) 2 2] w fun e w' => ∃ b, e = .returned (.map (some b)) ∧ w'.ownsMap Tryz.prog 48 (plainElem Tryz.prog 3) b 2 C2 ∧ Below w.heap.size w w' := by
 have hmm := @run_makeMap Tryz.prog
 have hgl := hG.lt
 have HG : Hid (∀ W, Below w.heap.size w W → Blk gl #[(.string p.sc), (.string p.us), (.string p.pw), (.int .i64 p.hk), (.string p.hn), (.int .i64 p.ha), (.int .i64 p.po), (.slice a n c), (.string p.op), (.bool p.hq), (.string p.qu), (.bool p.hf), (.string p.fr), (.string q.sc), (.string q.us), (.string q.pw), (.int .i64 q.hk), (.string q.hn), (.int .i64 q.ha), (.int .i64 q.po), (.slice a' n' c'), (.string q.op), (.bool q.hq), (.string q.qu), (.bool q.hf), (.string q.fr)] 31 W) := fun W d => hG.below d hgl
 have hC0 : Hid ((w.alloc (.map #[] 0)).ownsMap Tryz.prog 48 (plainElem Tryz.prog 3) w.heap.size 0 (DataW.map [] : DataW Unit)) := World.ownsMap_made _ _ _ _
 have HKA : Hid (keyOf Tryz.prog 48 (.agg #[.string u0, .int .i64 u1, .string u2, .int .i64 u3, .int .i64 u4]) = some ka) := hka
 have HKB : Hid (keyOf Tryz.prog 48 (.agg #[.string v0, .int .i64 v1, .string v2, .int .i64 v3, .int .i64 v4]) = some kb) := hkb
 clear hG hka hkb
 go_enter Tryz.func59, Tryz.ntmps59
 go_wp2
 go_loopw [10] (fun i wr => ∃ j : Nat, j ≤ 2 ∧ i = .int .i64 j ∧ Hid (wr.ownsMap Tryz.prog 48 (plainElem Tryz.prog 3) w.heap.size j (match j with | 0 => .map [] | 1 => C1 | _ => C2)) ∧ Hid (Below w.heap.size w wr)) (fun i wr => 2 - (intOf i).toNat)
 case atStart => exact ⟨0, by decide, rfl, hC0.out, (Below.refl _ _).alloc (Nat.le_refl _) _⟩
 case round =>
  obtain ⟨j, hj, rfl, hI, hbw⟩ := hrel
  clear hmm hC0
  rcases (show j = 0 ∨ j = 1 ∨ j = 2 from by omega) with rfl | rfl | rfl
  ·have hI2 : Hid (wr.ownsMap Tryz.prog 48 (plainElem Tryz.prog 3) w.heap.size 0 (DataW.map [] : DataW Unit)) := hI
   clear hI
   have hk := (HG.out wr hbw.out)
   have k0 : wr.cell? ⟨gl, 0, none⟩ = some (.string p.sc) := hk.cell 0
   have k1 : wr.cell? ⟨gl, 1, none⟩ = some (.string p.us) := hk.cell 1
   have k2 : wr.cell? ⟨gl, 2, none⟩ = some (.string p.pw) := hk.cell 2
   have k3 : wr.cell? ⟨gl, 3, none⟩ = some (.int .i64 p.hk) := hk.cell 3
   have k4 : wr.cell? ⟨gl, 4, none⟩ = some (.string p.hn) := hk.cell 4
   have k5 : wr.cell? ⟨gl, 5, none⟩ = some (.int .i64 p.ha) := hk.cell 5
   have k6 : wr.cell? ⟨gl, 6, none⟩ = some (.int .i64 p.po) := hk.cell 6
   have k7 : wr.cell? ⟨gl, 7, none⟩ = some (.slice a n c) := hk.cell 7
   have k8 : wr.cell? ⟨gl, 8, none⟩ = some (.string p.op) := hk.cell 8
   have k9 : wr.cell? ⟨gl, 9, none⟩ = some (.bool p.hq) := hk.cell 9
   have k10 : wr.cell? ⟨gl, 10, none⟩ = some (.string p.qu) := hk.cell 10
   have k11 : wr.cell? ⟨gl, 11, none⟩ = some (.bool p.hf) := hk.cell 11
   have k12 : wr.cell? ⟨gl, 12, none⟩ = some (.string p.fr) := hk.cell 12
   clear hk
   obtain ⟨V1, hV1⟩ : ∃ V, V = wr.alloc (.cells #[(.string p.sc), (.string p.us), (.string p.pw), (.int .i64 p.hk), (.string p.hn), (.int .i64 p.ha), (.int .i64 p.po), (.slice a n c), (.string p.op), (.bool p.hq), (.string p.qu), (.bool p.hf), (.string p.fr)] 31) := ⟨_, rfl⟩
   have D1 : Hid (Below wr.heap.size wr V1) := by show Below _ _ _; rw [hV1]; exact (Below.refl _ _).alloc (Nat.le_refl _) _
   have G1 : Hid (Blk wr.heap.size (p.cells (.slice a n c)) 31 V1) := by show Blk _ _ _ _; rw [hV1]; exact Blk.new wr _ _
   have B1 : Hid (Below w.heap.size w V1) := hbw.out.trans (D1.out.mono hbw.out.size)
   have I1 : Hid (V1.ownsMap Tryz.prog 48 (plainElem Tryz.prog 3) w.heap.size 0 (DataW.map [] : DataW Unit)) := by show World.ownsMap _ _ _ _ _ _ _; rw [hV1]; exact hI2.out.alloc _
   clear hI2 D1
   go_upto_region 5 with fail
   rw [← hV1]
   clear hV1 k0 k1 k2 k3 k4 k5 k6 k7 k8 k9 k10 k11 k12
   generalize wr.heap.size = gu at *
   obtain ⟨k0, k1, k2, k3, k4, k5, k6, k7, k8, k9, k10, k11, k12⟩ := Blk.cells13a G1.out
   go_wp2_with fail
   refine (CA.out _ B1.out).mono ?_
   rintro e W2 ⟨rfl, d2⟩
   obtain ⟨V3, hV3⟩ : ∃ V, V = W2.alloc (.cells #[.string u0, .int .i64 u1, .string u2, .int .i64 u3, .int .i64 u4] 48) := ⟨_, rfl⟩
   have D3 : Hid (Below V1.heap.size V1 V3) := by show Below _ _ _; rw [hV3]; exact d2.alloc d2.size _
   have G3 : Hid (Blk W2.heap.size #[.string u0, .int .i64 u1, .string u2, .int .i64 u3, .int .i64 u4] 48 V3) := by show Blk _ _ _ _; rw [hV3]; exact Blk.new W2 _ _
   have B3 : Hid (Below w.heap.size w V3) := B1.out.trans (D3.out.mono B1.out.size)
   have I3 : Hid (V3.ownsMap Tryz.prog 48 (plainElem Tryz.prog 3) w.heap.size 0 (DataW.map [] : DataW Unit)) := owns_below I1.out D3.out
   have NE : Hid (W2.heap.size ≠ w.heap.size) := by have h1 := I1.out.lt; have h2 := d2.size; show _ ≠ _; omega
   clear d2 D3 G1 B1 I1 k0 k1 k2 k3 k4 k5 k6 k7 k8 k9 k10 k11 k12
   go_upto_region 6 with fail
   rw [← hV3]
   clear hV3
   generalize W2.heap.size = go at *
   obtain ⟨o0, o1, o2, o3, o4⟩ := Blk.cells5 G3.out
   rcases HA.out with ⟨hz, he, hC⟩ | ⟨hz, hC⟩
   ·injection he with he1
    simp only [List.cons.injEq, Value.string.injEq, Value.int.injEq, true_and, and_true] at he1
    obtain ⟨e0, e1, e2, e3, e4⟩ := he1
    subst e0 e1 e2 e3 e4
    go_wp2
    go_roundw
    case rel => exact ⟨1, by decide, by go_num, by rw [hC]; exact I3.out.mono (by decide), B3.out⟩
    case measure => simp [intOf]
   ·have hne : (u0.toList == []) = false := by rw [beq_eq_false_iff_ne, ByteArray.toList_eq]; intro e; apply hz; have := congrArg List.length e; simpa using this
    have hat : (DataW.map [] : DataW Unit).atKey ka (oneD 0) = oneD 0 := rfl
    obtain ⟨hlook, st, v9, W4, W5, hent, hsto, I5, g4, g5⟩ := count_step (W := V3.drew) I3.out.drew (by unfold maxLen; omega) HKA.out 0 1 hat (by decide)
    have hlook4 := entry_look (W := V3.drew) I3.out.drew (by unfold maxLen; omega) HKA.out 0 hat _ _ hent
    have hst2 : (Instr.entryStore 84 (.map (some w.heap.size)) (.int .i64 st) (.int .i64 (IntKind.i64.wrap 1))).run Tryz.prog W4 = .ok () W5 := by rw [show IntKind.i64.wrap 1 = 1 by decide]; exact hsto
    have B5 : Hid (Below w.heap.size w W5) := (B3.out.drew).grown g5 B3.out.size (fun j hj => by cases hj; exact Nat.le_refl _)
    have I5b : Hid (W5.ownsMap Tryz.prog 48 (plainElem Tryz.prog 3) w.heap.size 1 C1) := by show World.ownsMap _ _ _ _ _ _ _; rw [hC]; exact I5
    have G4 : Hid (Blk go #[.string u0, .int .i64 u1, .string u2, .int .i64 u3, .int .i64 u4] 48 W4) := (g4.block _ G3.out.lt (fun e => NE.out (by simpa using e))).trans G3.out.drew
    have G5 : Hid (Blk go #[.string u0, .int .i64 u1, .string u2, .int .i64 u3, .int .i64 u4] 48 W5) := (g5.block _ G3.out.lt (fun e => NE.out (by simpa using e))).trans G3.out.drew
    clear I5 g4 g5 hat hC hz HG
    go_upto_region 7 with fail
    refine wp_region_held_drew (S := So go u0 u1 u2 u3 u4) (by kernel_rfl) (Blk.cells5 G3.out.drew) (fun hHeld => ?_)
    refine tk 0 rfl (by kernel_rfl) (fun _ _ _ h => h) (by rfl) (fun w hSw => by (try dsimp only [So] at hSw); go_simp; try (with_reducible rfl)) (by assumption) ?_
    simp only [Act.put, x1, x2, x3, x4, x5, x6]
    refine tk 1 rfl (by kernel_rfl) (fun _ _ _ h => h) (by rfl) (fun w hSw => by (try dsimp only [So] at hSw); go_simp; try (with_reducible rfl)) (by assumption) ?_
    simp only [Act.put, x1, x2, x3, x4, x5, x6]
    refine wpAnyH_ready (rs := [2, 4]) (by kernel_rfl) (by simp) ?_
    refine AllReadyH.cons (o := _) rfl (fun K hK => ?_) (AllReadyH.cons (o := _) rfl (fun K hK => ?_) AllReadyH.nil)
    ·go_simp
     refine hK.out _ _ (hHeld) (fun hHeld => ?_)
     clear hK K
     try simp only [Act.put, List.getElem_toArray, List.getElem_cons_zero, List.getElem_cons_succ, List.setIfInBounds_toArray, List.set_cons_zero, List.set_cons_succ]
     refine tk 3 rfl (by kernel_rfl) (fun _ _ _ h => h) (by rfl) (fun w hSw => by (try dsimp only [So] at hSw); go_simp; try (with_reducible rfl)) (by assumption) ?_
     simp only [Act.put, x1, x2, x3, x4, x5, x6]
     refine wpAnyH_ready (rs := [4]) (by kernel_rfl) (by simp) ?_
     refine AllReadyH.cons (o := _) rfl (fun K hK => ?_) AllReadyH.nil
     go_simp
     skip
     refine hK.out _ _ (Blk.cells5 G4.out) (fun hHeld => ?_)
     clear hK K
     try simp only [Act.put, x1, x2, x3, x4, x5, x6]
     refine tk 5 rfl (by kernel_rfl) (fun _ _ _ h => h) (by rfl) (fun w hSw => by (try dsimp only [So] at hSw); go_simp; try (with_reducible rfl)) (by assumption) ?_
     simp only [Act.put, x1, x2, x3, x4, x5, x6]
     refine wpAnyH_ready (rs := [6]) (by kernel_rfl) (by simp) ?_
     refine AllReadyH.cons (o := _) rfl (fun K hK => ?_) AllReadyH.nil
     go_simp
     skip
     refine hK.out _ _ (Blk.cells5 G5.out) (fun hHeld => ?_)
     clear hK K
     try simp only [Act.put, x1, x2, x3, x4, x5, x6]
     refine wpAnyH_done (by kernel_rfl) ?_ _
     go_wp2
     go_roundw
     case rel => exact ⟨1, by decide, by go_num, I5b.out, B5.out⟩
     case measure => simp [intOf]
    ·go_simp
     refine hK.out _ _ (Blk.cells5 G4.out) (fun hHeld => ?_)
     clear hK K
     try simp only [Act.put, List.getElem_toArray, List.getElem_cons_zero, List.getElem_cons_succ, List.setIfInBounds_toArray, List.set_cons_zero, List.set_cons_succ]
     refine tk 5 rfl (by kernel_rfl) (fun _ _ _ h => h) (by rfl) (fun w hSw => by (try dsimp only [So] at hSw); go_simp; try (with_reducible rfl)) (by assumption) ?_
     simp only [Act.put, x1, x2, x3, x4, x5, x6]
     refine wpAnyH_ready (rs := [2]) (by kernel_rfl) (by simp) ?_
     refine AllReadyH.cons (o := _) rfl (fun K hK => ?_) AllReadyH.nil
     go_simp
     skip
     refine hK.out _ _ (hHeld) (fun hHeld => ?_)
     clear hK K
     try simp only [Act.put, x1, x2, x3, x4, x5, x6]
     refine tk 3 rfl (by kernel_rfl) (fun _ _ _ h => h) (by rfl) (fun w hSw => by (try dsimp only [So] at hSw); go_simp; try (with_reducible rfl)) (by assumption) ?_
     simp only [Act.put, x1, x2, x3, x4, x5, x6]
     refine wpAnyH_ready (rs := [6]) (by kernel_rfl) (by simp) ?_
     refine AllReadyH.cons (o := _) rfl (fun K hK => ?_) AllReadyH.nil
     go_simp
     skip
     refine hK.out _ _ (Blk.cells5 G5.out) (fun hHeld => ?_)
     clear hK K
     try simp only [Act.put, x1, x2, x3, x4, x5, x6]
     refine wpAnyH_done (by kernel_rfl) ?_ _
     go_wp2
     go_roundw
     case rel => exact ⟨1, by decide, by go_num, I5b.out, B5.out⟩
     case measure => simp [intOf]
  ·have hI2 : Hid (wr.ownsMap Tryz.prog 48 (plainElem Tryz.prog 3) w.heap.size 1 C1) := hI
   clear hI
   have hk := (HG.out wr hbw.out)
   have k0 : wr.cell? ⟨gl, 13, none⟩ = some (.string q.sc) := hk.cell 13
   have k1 : wr.cell? ⟨gl, 14, none⟩ = some (.string q.us) := hk.cell 14
   have k2 : wr.cell? ⟨gl, 15, none⟩ = some (.string q.pw) := hk.cell 15
   have k3 : wr.cell? ⟨gl, 16, none⟩ = some (.int .i64 q.hk) := hk.cell 16
   have k4 : wr.cell? ⟨gl, 17, none⟩ = some (.string q.hn) := hk.cell 17
   have k5 : wr.cell? ⟨gl, 18, none⟩ = some (.int .i64 q.ha) := hk.cell 18
   have k6 : wr.cell? ⟨gl, 19, none⟩ = some (.int .i64 q.po) := hk.cell 19
   have k7 : wr.cell? ⟨gl, 20, none⟩ = some (.slice a' n' c') := hk.cell 20
   have k8 : wr.cell? ⟨gl, 21, none⟩ = some (.string q.op) := hk.cell 21
   have k9 : wr.cell? ⟨gl, 22, none⟩ = some (.bool q.hq) := hk.cell 22
   have k10 : wr.cell? ⟨gl, 23, none⟩ = some (.string q.qu) := hk.cell 23
   have k11 : wr.cell? ⟨gl, 24, none⟩ = some (.bool q.hf) := hk.cell 24
   have k12 : wr.cell? ⟨gl, 25, none⟩ = some (.string q.fr) := hk.cell 25
   clear hk
   obtain ⟨V1, hV1⟩ : ∃ V, V = wr.alloc (.cells #[(.string q.sc), (.string q.us), (.string q.pw), (.int .i64 q.hk), (.string q.hn), (.int .i64 q.ha), (.int .i64 q.po), (.slice a' n' c'), (.string q.op), (.bool q.hq), (.string q.qu), (.bool q.hf), (.string q.fr)] 31) := ⟨_, rfl⟩
   have D1 : Hid (Below wr.heap.size wr V1) := by show Below _ _ _; rw [hV1]; exact (Below.refl _ _).alloc (Nat.le_refl _) _
   have G1 : Hid (Blk wr.heap.size (q.cells (.slice a' n' c')) 31 V1) := by show Blk _ _ _ _; rw [hV1]; exact Blk.new wr _ _
   have B1 : Hid (Below w.heap.size w V1) := hbw.out.trans (D1.out.mono hbw.out.size)
   have I1 : Hid (V1.ownsMap Tryz.prog 48 (plainElem Tryz.prog 3) w.heap.size 1 C1) := by show World.ownsMap _ _ _ _ _ _ _; rw [hV1]; exact hI2.out.alloc _
   clear hI2 D1
   go_upto_region 5 with fail
   rw [← hV1]
   clear hV1 k0 k1 k2 k3 k4 k5 k6 k7 k8 k9 k10 k11 k12
   generalize wr.heap.size = gu at *
   obtain ⟨k0, k1, k2, k3, k4, k5, k6, k7, k8, k9, k10, k11, k12⟩ := Blk.cells13a G1.out
   go_wp2_with fail
   refine (CB.out _ B1.out).mono ?_
   rintro e W2 ⟨rfl, d2⟩
   obtain ⟨V3, hV3⟩ : ∃ V, V = W2.alloc (.cells #[.string v0, .int .i64 v1, .string v2, .int .i64 v3, .int .i64 v4] 48) := ⟨_, rfl⟩
   have D3 : Hid (Below V1.heap.size V1 V3) := by show Below _ _ _; rw [hV3]; exact d2.alloc d2.size _
   have G3 : Hid (Blk W2.heap.size #[.string v0, .int .i64 v1, .string v2, .int .i64 v3, .int .i64 v4] 48 V3) := by show Blk _ _ _ _; rw [hV3]; exact Blk.new W2 _ _
   have B3 : Hid (Below w.heap.size w V3) := B1.out.trans (D3.out.mono B1.out.size)
   have I3 : Hid (V3.ownsMap Tryz.prog 48 (plainElem Tryz.prog 3) w.heap.size 1 C1) := owns_below I1.out D3.out
   have NE : Hid (W2.heap.size ≠ w.heap.size) := by have h1 := I1.out.lt; have h2 := d2.size; show _ ≠ _; omega
   clear d2 D3 G1 B1 I1 k0 k1 k2 k3 k4 k5 k6 k7 k8 k9 k10 k11 k12
   go_upto_region 6 with fail
   rw [← hV3]
   clear hV3
   generalize W2.heap.size = go at *
   obtain ⟨o0, o1, o2, o3, o4⟩ := Blk.cells5 G3.out
   rcases HB.out with ⟨hz, he, hC⟩ | ⟨hz, hat, hC⟩ | ⟨hz, hat, hC⟩
   ·injection he with he1
    simp only [List.cons.injEq, Value.string.injEq, Value.int.injEq, true_and, and_true] at he1
    obtain ⟨e0, e1, e2, e3, e4⟩ := he1
    subst e0 e1 e2 e3 e4
    go_wp2
    go_roundw
    case rel => exact ⟨2, by decide, by go_num, by rw [hC]; exact I3.out.mono (by decide), B3.out⟩
    case measure => simp [intOf]
   ·have hne : (v0.toList == []) = false := by rw [beq_eq_false_iff_ne, ByteArray.toList_eq]; intro e; apply hz; have := congrArg List.length e; simpa using this
    obtain ⟨hlook, st, v9, W4, W5, hent, hsto, I5, g4, g5⟩ := count_step (W := V3.drew) I3.out.drew (by unfold maxLen; omega) HKB.out 0 1 hat (by decide)
    have hlook4 := entry_look (W := V3.drew) I3.out.drew (by unfold maxLen; omega) HKB.out 0 hat _ _ hent
    have hst2 : (Instr.entryStore 84 (.map (some w.heap.size)) (.int .i64 st) (.int .i64 (IntKind.i64.wrap 1))).run Tryz.prog W4 = .ok () W5 := by rw [show IntKind.i64.wrap 1 = 1 by decide]; exact hsto
    have B5 : Hid (Below w.heap.size w W5) := (B3.out.drew).grown g5 B3.out.size (fun j hj => by cases hj; exact Nat.le_refl _)
    have I5b : Hid (W5.ownsMap Tryz.prog 48 (plainElem Tryz.prog 3) w.heap.size 2 C2) := by show World.ownsMap _ _ _ _ _ _ _; rw [hC]; exact I5
    have G4 : Hid (Blk go #[.string v0, .int .i64 v1, .string v2, .int .i64 v3, .int .i64 v4] 48 W4) := (g4.block _ G3.out.lt (fun e => NE.out (by simpa using e))).trans G3.out.drew
    have G5 : Hid (Blk go #[.string v0, .int .i64 v1, .string v2, .int .i64 v3, .int .i64 v4] 48 W5) := (g5.block _ G3.out.lt (fun e => NE.out (by simpa using e))).trans G3.out.drew
    clear I5 g4 g5 hat hC hz HG
    go_upto_region 7 with fail
    refine wp_region_held_drew (S := So go v0 v1 v2 v3 v4) (by kernel_rfl) (Blk.cells5 G3.out.drew) (fun hHeld => ?_)
    refine tk 0 rfl (by kernel_rfl) (fun _ _ _ h => h) (by rfl) (fun w hSw => by (try dsimp only [So] at hSw); go_simp; try (with_reducible rfl)) (by assumption) ?_
    simp only [Act.put, x1, x2, x3, x4, x5, x6]
    refine tk 1 rfl (by kernel_rfl) (fun _ _ _ h => h) (by rfl) (fun w hSw => by (try dsimp only [So] at hSw); go_simp; try (with_reducible rfl)) (by assumption) ?_
    simp only [Act.put, x1, x2, x3, x4, x5, x6]
    refine wpAnyH_ready (rs := [2, 4]) (by kernel_rfl) (by simp) ?_
    refine AllReadyH.cons (o := _) rfl (fun K hK => ?_) (AllReadyH.cons (o := _) rfl (fun K hK => ?_) AllReadyH.nil)
    ·go_simp
     refine hK.out _ _ (hHeld) (fun hHeld => ?_)
     clear hK K
     try simp only [Act.put, List.getElem_toArray, List.getElem_cons_zero, List.getElem_cons_succ, List.setIfInBounds_toArray, List.set_cons_zero, List.set_cons_succ]
     refine tk 3 rfl (by kernel_rfl) (fun _ _ _ h => h) (by rfl) (fun w hSw => by (try dsimp only [So] at hSw); go_simp; try (with_reducible rfl)) (by assumption) ?_
     simp only [Act.put, x1, x2, x3, x4, x5, x6]
     refine wpAnyH_ready (rs := [4]) (by kernel_rfl) (by simp) ?_
     refine AllReadyH.cons (o := _) rfl (fun K hK => ?_) AllReadyH.nil
     go_simp
     skip
     refine hK.out _ _ (Blk.cells5 G4.out) (fun hHeld => ?_)
     clear hK K
     try simp only [Act.put, x1, x2, x3, x4, x5, x6]
     refine tk 5 rfl (by kernel_rfl) (fun _ _ _ h => h) (by rfl) (fun w hSw => by (try dsimp only [So] at hSw); go_simp; try (with_reducible rfl)) (by assumption) ?_
     simp only [Act.put, x1, x2, x3, x4, x5, x6]
     refine wpAnyH_ready (rs := [6]) (by kernel_rfl) (by simp) ?_
     refine AllReadyH.cons (o := _) rfl (fun K hK => ?_) AllReadyH.nil
     go_simp
     skip
     refine hK.out _ _ (Blk.cells5 G5.out) (fun hHeld => ?_)
     clear hK K
     try simp only [Act.put, x1, x2, x3, x4, x5, x6]
     refine wpAnyH_done (by kernel_rfl) ?_ _
     go_wp2
     go_roundw
     case rel => exact ⟨2, by decide, by go_num, I5b.out, B5.out⟩
     case measure => simp [intOf]
    ·go_simp
     refine hK.out _ _ (Blk.cells5 G4.out) (fun hHeld => ?_)
     clear hK K
     try simp only [Act.put, List.getElem_toArray, List.getElem_cons_zero, List.getElem_cons_succ, List.setIfInBounds_toArray, List.set_cons_zero, List.set_cons_succ]
     refine tk 5 rfl (by kernel_rfl) (fun _ _ _ h => h) (by rfl) (fun w hSw => by (try dsimp only [So] at hSw); go_simp; try (with_reducible rfl)) (by assumption) ?_
     simp only [Act.put, x1, x2, x3, x4, x5, x6]
     refine wpAnyH_ready (rs := [2]) (by kernel_rfl) (by simp) ?_
     refine AllReadyH.cons (o := _) rfl (fun K hK => ?_) AllReadyH.nil
     go_simp
     skip
     refine hK.out _ _ (hHeld) (fun hHeld => ?_)
     clear hK K
     try simp only [Act.put, x1, x2, x3, x4, x5, x6]
     refine tk 3 rfl (by kernel_rfl) (fun _ _ _ h => h) (by rfl) (fun w hSw => by (try dsimp only [So] at hSw); go_simp; try (with_reducible rfl)) (by assumption) ?_
     simp only [Act.put, x1, x2, x3, x4, x5, x6]
     refine wpAnyH_ready (rs := [6]) (by kernel_rfl) (by simp) ?_
     refine AllReadyH.cons (o := _) rfl (fun K hK => ?_) AllReadyH.nil
     go_simp
     skip
     refine hK.out _ _ (Blk.cells5 G5.out) (fun hHeld => ?_)
     clear hK K
     try simp only [Act.put, x1, x2, x3, x4, x5, x6]
     refine wpAnyH_done (by kernel_rfl) ?_ _
     go_wp2
     go_roundw
     case rel => exact ⟨2, by decide, by go_num, I5b.out, B5.out⟩
     case measure => simp [intOf]
   ·have hne : (v0.toList == []) = false := by rw [beq_eq_false_iff_ne, ByteArray.toList_eq]; intro e; apply hz; have := congrArg List.length e; simpa using this
    obtain ⟨hlook, st, v9, W4, W5, hent, hsto, I5, g4, g5⟩ := count_step (W := V3.drew) I3.out.drew (by unfold maxLen; omega) HKB.out 1 2 hat (by decide)
    have hlook4 := entry_look (W := V3.drew) I3.out.drew (by unfold maxLen; omega) HKB.out 1 hat _ _ hent
    have hst2 : (Instr.entryStore 84 (.map (some w.heap.size)) (.int .i64 st) (.int .i64 (IntKind.i64.wrap 2))).run Tryz.prog W4 = .ok () W5 := by rw [show IntKind.i64.wrap 2 = 2 by decide]; exact hsto
    have B5 : Hid (Below w.heap.size w W5) := (B3.out.drew).grown g5 B3.out.size (fun j hj => by cases hj; exact Nat.le_refl _)
    have I5b : Hid (W5.ownsMap Tryz.prog 48 (plainElem Tryz.prog 3) w.heap.size 2 C2) := by show World.ownsMap _ _ _ _ _ _ _; rw [hC]; exact I5
    have G4 : Hid (Blk go #[.string v0, .int .i64 v1, .string v2, .int .i64 v3, .int .i64 v4] 48 W4) := (g4.block _ G3.out.lt (fun e => NE.out (by simpa using e))).trans G3.out.drew
    have G5 : Hid (Blk go #[.string v0, .int .i64 v1, .string v2, .int .i64 v3, .int .i64 v4] 48 W5) := (g5.block _ G3.out.lt (fun e => NE.out (by simpa using e))).trans G3.out.drew
    clear I5 g4 g5 hat hC hz HG
    go_upto_region 7 with fail
    refine wp_region_held_drew (S := So go v0 v1 v2 v3 v4) (by kernel_rfl) (Blk.cells5 G3.out.drew) (fun hHeld => ?_)
    refine tk 0 rfl (by kernel_rfl) (fun _ _ _ h => h) (by rfl) (fun w hSw => by (try dsimp only [So] at hSw); go_simp; try (with_reducible rfl)) (by assumption) ?_
    simp only [Act.put, x1, x2, x3, x4, x5, x6]
    refine tk 1 rfl (by kernel_rfl) (fun _ _ _ h => h) (by rfl) (fun w hSw => by (try dsimp only [So] at hSw); go_simp; try (with_reducible rfl)) (by assumption) ?_
    simp only [Act.put, x1, x2, x3, x4, x5, x6]
    refine wpAnyH_ready (rs := [2, 4]) (by kernel_rfl) (by simp) ?_
    refine AllReadyH.cons (o := _) rfl (fun K hK => ?_) (AllReadyH.cons (o := _) rfl (fun K hK => ?_) AllReadyH.nil)
    ·go_simp
     refine hK.out _ _ (hHeld) (fun hHeld => ?_)
     clear hK K
     try simp only [Act.put, List.getElem_toArray, List.getElem_cons_zero, List.getElem_cons_succ, List.setIfInBounds_toArray, List.set_cons_zero, List.set_cons_succ]
     refine tk 3 rfl (by kernel_rfl) (fun _ _ _ h => h) (by rfl) (fun w hSw => by (try dsimp only [So] at hSw); go_simp; try (with_reducible rfl)) (by assumption) ?_
     simp only [Act.put, x1, x2, x3, x4, x5, x6]
     refine wpAnyH_ready (rs := [4]) (by kernel_rfl) (by simp) ?_
     refine AllReadyH.cons (o := _) rfl (fun K hK => ?_) AllReadyH.nil
     go_simp
     skip
     refine hK.out _ _ (Blk.cells5 G4.out) (fun hHeld => ?_)
     clear hK K
     try simp only [Act.put, x1, x2, x3, x4, x5, x6]
     refine tk 5 rfl (by kernel_rfl) (fun _ _ _ h => h) (by rfl) (fun w hSw => by (try dsimp only [So] at hSw); go_simp; try (with_reducible rfl)) (by assumption) ?_
     simp only [Act.put, x1, x2, x3, x4, x5, x6]
     refine wpAnyH_ready (rs := [6]) (by kernel_rfl) (by simp) ?_
     refine AllReadyH.cons (o := _) rfl (fun K hK => ?_) AllReadyH.nil
     go_simp
     skip
     refine hK.out _ _ (Blk.cells5 G5.out) (fun hHeld => ?_)
     clear hK K
     try simp only [Act.put, x1, x2, x3, x4, x5, x6]
     refine wpAnyH_done (by kernel_rfl) ?_ _
     go_wp2
     go_roundw
     case rel => exact ⟨2, by decide, by go_num, I5b.out, B5.out⟩
     case measure => simp [intOf]
    ·go_simp
     refine hK.out _ _ (Blk.cells5 G4.out) (fun hHeld => ?_)
     clear hK K
     try simp only [Act.put, List.getElem_toArray, List.getElem_cons_zero, List.getElem_cons_succ, List.setIfInBounds_toArray, List.set_cons_zero, List.set_cons_succ]
     refine tk 5 rfl (by kernel_rfl) (fun _ _ _ h => h) (by rfl) (fun w hSw => by (try dsimp only [So] at hSw); go_simp; try (with_reducible rfl)) (by assumption) ?_
     simp only [Act.put, x1, x2, x3, x4, x5, x6]
     refine wpAnyH_ready (rs := [2]) (by kernel_rfl) (by simp) ?_
     refine AllReadyH.cons (o := _) rfl (fun K hK => ?_) AllReadyH.nil
     go_simp
     skip
     refine hK.out _ _ (hHeld) (fun hHeld => ?_)
     clear hK K
     try simp only [Act.put, x1, x2, x3, x4, x5, x6]
     refine tk 3 rfl (by kernel_rfl) (fun _ _ _ h => h) (by rfl) (fun w hSw => by (try dsimp only [So] at hSw); go_simp; try (with_reducible rfl)) (by assumption) ?_
     simp only [Act.put, x1, x2, x3, x4, x5, x6]
     refine wpAnyH_ready (rs := [6]) (by kernel_rfl) (by simp) ?_
     refine AllReadyH.cons (o := _) rfl (fun K hK => ?_) AllReadyH.nil
     go_simp
     skip
     refine hK.out _ _ (Blk.cells5 G5.out) (fun hHeld => ?_)
     clear hK K
     try simp only [Act.put, x1, x2, x3, x4, x5, x6]
     refine wpAnyH_done (by kernel_rfl) ?_ _
     go_wp2
     go_roundw
     case rel => exact ⟨2, by decide, by go_num, I5b.out, B5.out⟩
     case measure => simp [intOf]
  ·have hI2 : Hid (wr.ownsMap Tryz.prog 48 (plainElem Tryz.prog 3) w.heap.size 2 C2) := hI
   clear hI
   go_wp2
   go_ret
   exact ⟨_, rfl, hI2.out, hbw.out⟩
theorem i64_wf (x : Int) (h0 : -1000000000000 ≤ x) (h1 : x ≤ 1000000000000) : (Lit.int .i64 x).wf = true := WalkArith.wf_i64 ⟨by omega, by omega⟩
theorem host_int {k : Int} {s : ByteArray} {a : Int} (h : hostN k s a) : 0 ≤ k ∧ k ≤ 2 ∧ 0 ≤ a ∧ a ≤ 4294967295 := by
 rcases h with h | ⟨h1, _, h2, h3⟩
 ·unfold named at h
  simp only [Bool.and_eq_true, decide_eq_true_eq] at h
  omega
 ·omega
theorem org_none (b : Bool) (q : P) (h : ¬ (b = true ∧ ¬ ownZ q.sc < 0)) : orgB b q = (#[.string ⟨#[]⟩, .int .i64 0, .string ⟨#[]⟩, .int .i64 0, .int .i64 0] : Array Value) := by
 unfold orgB orgV
 by_cases hb : b = true
 ·rw [if_pos hb]
  by_cases ho : ownZ q.sc < 0
  ·rw [if_pos ho]
  ·exact absurd ⟨hb, ho⟩ h
 ·rw [if_neg hb]
theorem org_some (b : Bool) (q : P) (h : b = true ∧ ¬ ownZ q.sc < 0) : orgB b q = #[.string q.sc, .int .i64 q.hk, .string q.hn, .int .i64 q.ha, .int .i64 (if q.po < 0 then ownZ q.sc else q.po)] := by
 unfold orgB orgV
 rw [if_pos h.1, if_neg h.2]
theorem ok_nf (q : P) (h : okP q) : Nf q := (read_nf _ q ((ok_getO q).1 h)).1
theorem org_facts (q : P) (h : okP q) (ho : ¬ ownZ q.sc < 0) (hs : q.tot ≤ 1048576) : (∃ k, keyOf Tryz.prog 48 (.agg #[.string q.sc, .int .i64 q.hk, .string q.hn, .int .i64 q.ha, .int .i64 (if q.po < 0 then ownZ q.sc else q.po)]) = some k) ∧ q.sc.size ≠ 0 := by
 have hsc : (q.sc = ⟨#[104, 116, 116, 112]⟩ ∧ ownZ q.sc = 80) ∨ (q.sc = ⟨#[104, 116, 116, 112, 115]⟩ ∧ ownZ q.sc = 443) := by
  unfold ownZ at ho ⊢
  by_cases h1 : q.sc = ⟨#[104, 116, 116, 112]⟩
  ·exact .inl ⟨h1, by rw [if_pos h1]⟩
  ·by_cases h2 : q.sc = ⟨#[104, 116, 116, 112, 115]⟩
   ·exact .inr ⟨h2, by rw [if_neg h1, if_pos h2]⟩
   ·rw [if_neg h1, if_neg h2] at ho; exact absurd (by decide) ho
 have hsz : q.sc.size ≠ 0 := by rcases hsc with ⟨e, _⟩ | ⟨e, _⟩ <;> rw [e] <;> decide
 have hmx : (1048576 : Nat) ≤ maxLen := by unfold maxLen; omega
 refine ⟨?_, hsz⟩
 rcases (ok_nf q h).main with ⟨hneg, _⟩ | ⟨_, _, _, _, hh, hpo, _⟩
 ·exact absurd hneg ho
 ·have hb : -1 ≤ q.po ∧ q.po ≤ 65535 := by rcases hpo with e | ⟨e1, e2, _⟩ <;> omega
  obtain ⟨k0, k1, k2, k3⟩ := host_int hh
  refine ⟨_, org_key _ _ _ _ _ (by have : q.sc.size ≤ q.tot := (by unfold P.tot; omega); omega) (i64_wf _ (by omega) (by omega)) (by have : q.hn.size ≤ q.tot := (by unfold P.tot; omega); omega) (i64_wf _ (by omega) (by omega)) (i64_wf _ ?_ ?_)⟩
  ·split <;> rcases hsc with ⟨_, e⟩ | ⟨_, e⟩ <;> omega
  ·split <;> rcases hsc with ⟨_, e⟩ | ⟨_, e⟩ <;> omega
theorem orgB_key (b : Bool) (q : P) (hb : b = true ↔ okP q) (hs : q.tot ≤ 1048576) : ∃ (u0 : ByteArray) (u1 : Int) (u2 : ByteArray) (u3 u4 : Int) (k : Lit), orgB b q = #[.string u0, .int .i64 u1, .string u2, .int .i64 u3, .int .i64 u4] ∧ keyOf Tryz.prog 48 (.agg #[.string u0, .int .i64 u1, .string u2, .int .i64 u3, .int .i64 u4]) = some k ∧
  ((u0.size = 0 ∧ (#[.string u0, .int .i64 u1, .string u2, .int .i64 u3, .int .i64 u4] : Array Value) = #[.string ⟨#[]⟩, .int .i64 0, .string ⟨#[]⟩, .int .i64 0, .int .i64 0] ∧ ¬ (okP q ∧ ¬ ownZ q.sc < 0)) ∨ (u0.size ≠ 0 ∧ okP q ∧ ¬ ownZ q.sc < 0 ∧ (#[.string u0, .int .i64 u1, .string u2, .int .i64 u3, .int .i64 u4] : Array Value) = orgV q)) := by
 by_cases h : b = true ∧ ¬ ownZ q.sc < 0
 ·obtain ⟨⟨k, hk⟩, hz⟩ := org_facts q (hb.1 h.1) h.2 hs
  exact ⟨q.sc, q.hk, q.hn, q.ha, _, k, org_some b q h, hk, .inr ⟨hz, hb.1 h.1, h.2, by unfold orgV; rw [if_neg h.2]⟩⟩
 ·exact ⟨⟨#[]⟩, 0, ⟨#[]⟩, 0, 0, _, org_none b q h, org_key _ _ _ _ _ (by decide) (by decide) (by decide) (by decide) (by decide), .inl ⟨rfl, rfl, fun h2 => h ⟨hb.2 h2.1, h2.2⟩⟩⟩
theorem implOriginSame (p q : P) (a a' : Option Addr) (n n' c c' : Nat) (w : World) (hL : Lean1 w) (hS : StrsOf a n p.ps w) (hS' : StrsOf a' n' q.ps w) (hs : p.tot ≤ 1048576) (hs' : q.tot ≤ 1048576) (hpo : p.po ≤ 9223372036854775807) (hpo' : q.po ≤ 9223372036854775807) (x : Bool) (hx : x = true ↔ okP p ∧ okP q ∧ ¬ ownZ p.sc < 0 ∧ orgV p = orgV q) :
  Calls Tryz.prog 22 #[.agg (p.cells (.slice a n c)), .agg (q.cells (.slice a' n' c'))] w fun e w' => e = .returned (.bool x) ∧ Below w.heap.size w w' := by
 obtain ⟨b, hb⟩ : ∃ b : Bool, b = true ↔ okP p := by
  by_cases h : okP p
  ·exact ⟨true, by simp [h]⟩
  ·exact ⟨false, by simp [h]⟩
 obtain ⟨b', hb'⟩ : ∃ b : Bool, b = true ↔ okP q := by
  by_cases h : okP q
  ·exact ⟨true, by simp [h]⟩
  ·exact ⟨false, by simp [h]⟩
 obtain ⟨u0, u1, u2, u3, u4, ka, ea, hka, fa⟩ := orgB_key b p hb hs
 obtain ⟨v0, v1, v2, v3, v4, kb, eb, hkb, fb⟩ := orgB_key b' q hb' hs'
 have CA : Hid (∀ W, Below w.heap.size w W → Calls Tryz.prog 29 #[.agg #[(.string p.sc), (.string p.us), (.string p.pw), (.int .i64 p.hk), (.string p.hn), (.int .i64 p.ha), (.int .i64 p.po), (.slice a n c), (.string p.op), (.bool p.hq), (.string p.qu), (.bool p.hf), (.string p.fr)]] W fun e w' => e = .returned (.agg #[.string u0, .int .i64 u1, .string u2, .int .i64 u3, .int .i64 u4]) ∧ Below W.heap.size W w') := fun W d => by
  rw [← ea]; exact implOriginOf p a n c W (hL.below d) (hS.later d) hs hpo b hb
 have CB : Hid (∀ W, Below w.heap.size w W → Calls Tryz.prog 29 #[.agg #[(.string q.sc), (.string q.us), (.string q.pw), (.int .i64 q.hk), (.string q.hn), (.int .i64 q.ha), (.int .i64 q.po), (.slice a' n' c'), (.string q.op), (.bool q.hq), (.string q.qu), (.bool q.hf), (.string q.fr)]] W fun e w' => e = .returned (.agg #[.string v0, .int .i64 v1, .string v2, .int .i64 v3, .int .i64 v4]) ∧ Below W.heap.size W w') := fun W d => by
  rw [← eb]; exact implOriginOf q a' n' c' W (hL.below d) (hS'.later d) hs' hpo' b' hb'
 have lka : WideAt.IsKeyLit ka := (Keyed.of_law org_law).key hka
 obtain ⟨C1, C2, N, HA, HB, hN, hxN⟩ : ∃ (C1 C2 : DataW Unit) (N : Int), ((u0.size = 0 ∧ (#[.string u0, .int .i64 u1, .string u2, .int .i64 u3, .int .i64 u4] : Array Value) = #[.string ⟨#[]⟩, .int .i64 0, .string ⟨#[]⟩, .int .i64 0, .int .i64 0] ∧ C1 = .map []) ∨ (u0.size ≠ 0 ∧ C1 = (DataW.map []).put ka (oneD 1))) ∧ ((v0.size = 0 ∧ (#[.string v0, .int .i64 v1, .string v2, .int .i64 v3, .int .i64 v4] : Array Value) = #[.string ⟨#[]⟩, .int .i64 0, .string ⟨#[]⟩, .int .i64 0, .int .i64 0] ∧ C2 = C1) ∨ (v0.size ≠ 0 ∧ C1.atKey kb (oneD 0) = oneD 0 ∧ C2 = C1.put kb (oneD 1)) ∨ (v0.size ≠ 0 ∧ C1.atKey kb (oneD 0) = oneD 1 ∧ C2 = C1.put kb (oneD 2))) ∧ C2.atKey ka (oneD 0) = oneD N ∧ (N == 2) = x := by
  rcases fa with ⟨hz, he, hno⟩ | ⟨hz, hp, ho, he⟩
  ·have hxf : x = false := by rw [Bool.eq_false_iff]; intro h; exact hno ⟨(hx.1 h).1, (hx.1 h).2.2.1⟩
   rcases fb with ⟨hz', he', hno'⟩ | ⟨hz', hq, ho', he'⟩
   ·exact ⟨.map [], .map [], 0, .inl ⟨hz, he, rfl⟩, .inl ⟨hz', he', rfl⟩, rfl, by rw [hxf]; rfl⟩
   ·refine ⟨.map [], (DataW.map []).put kb (oneD 1), 0, .inl ⟨hz, he, rfl⟩, .inr (.inl ⟨hz', rfl, rfl⟩), ?_, by rw [hxf]; rfl⟩
    have hne : ka ≠ kb := fun e => by
     rw [e] at hka
     have := org_law.inj hka hkb
     simp only [Value.agg.injEq, Array.mk.injEq, List.cons.injEq, Value.string.injEq] at this
     exact hz' (by rw [← this.1]; exact hz)
    rw [Maps.atKey_put_other hne]; rfl
  ·rcases fb with ⟨hz', he', hno'⟩ | ⟨hz', hq, ho', he'⟩
   ·have hxf : x = false := by
     rw [Bool.eq_false_iff]; intro h
     obtain ⟨_, hq, _, e⟩ := hx.1 h
     by_cases ho' : ownZ q.sc < 0
     ·have e2 : orgV q = (#[.string ⟨#[]⟩, .int .i64 0, .string ⟨#[]⟩, .int .i64 0, .int .i64 0] : Array Value) := by unfold orgV; rw [if_pos ho']
      rw [← e, ← he] at e2
      simp only [Array.mk.injEq, List.cons.injEq, Value.string.injEq] at e2
      exact hz (by rw [e2.1]; rfl)
     ·exact hno' ⟨hq, ho'⟩
    exact ⟨(DataW.map []).put ka (oneD 1), (DataW.map []).put ka (oneD 1), 1, .inr ⟨hz, rfl⟩, .inl ⟨hz', he', rfl⟩, Maps.atKey_put_same Maps.isMap_empty lka _ _, by rw [hxf]; rfl⟩
   ·by_cases e : ka = kb
    ·have hxt : x = true := by
      rw [hx]
      refine ⟨hp, hq, ho, ?_⟩
      rw [e] at hka
      have := org_law.inj hka hkb
      rw [← he, ← he']
      exact Value.agg.inj this
     subst e
     exact ⟨(DataW.map []).put ka (oneD 1), ((DataW.map []).put ka (oneD 1)).put ka (oneD 2), 2, .inr ⟨hz, rfl⟩, .inr (.inr ⟨hz', Maps.atKey_put_same Maps.isMap_empty lka _ _, rfl⟩), Maps.atKey_put_same (Maps.isMap_empty.put _ _) lka _ _, by rw [hxt]; rfl⟩
    ·have hxf : x = false := by
      rw [Bool.eq_false_iff]; intro h
      have e2 := (hx.1 h).2.2.2
      rw [← he, ← he'] at e2
      rw [e2, hkb] at hka
      exact e (Option.some.inj hka).symm
     refine ⟨(DataW.map []).put ka (oneD 1), ((DataW.map []).put ka (oneD 1)).put kb (oneD 1), 1, .inr ⟨hz, rfl⟩, .inr (.inl ⟨hz', ?_, rfl⟩), ?_, by rw [hxf]; rfl⟩
     ·rw [Maps.atKey_put_other (fun h => e h.symm)]; rfl
     ·rw [Maps.atKey_put_other e]; exact Maps.atKey_put_same Maps.isMap_empty lka _ _
 have HX : Hid ((N == 2) = x) := hxN
 have HC : Hid (∀ (gl : Nat) W, Below w.heap.size w W → Blk gl #[(.string p.sc), (.string p.us), (.string p.pw), (.int .i64 p.hk), (.string p.hn), (.int .i64 p.ha), (.int .i64 p.po), (.slice a n c), (.string p.op), (.bool p.hq), (.string p.qu), (.bool p.hf), (.string p.fr), (.string q.sc), (.string q.us), (.string q.pw), (.int .i64 q.hk), (.string q.hn), (.int .i64 q.ha), (.int .i64 q.po), (.slice a' n' c'), (.string q.op), (.bool q.hq), (.string q.qu), (.bool q.hf), (.string q.fr)] 31 W → Calls Tryz.prog 59 #[.slice (some ⟨gl, 0, none⟩) 2 2] W fun e w' => ∃ b, e = .returned (.map (some b)) ∧ w'.ownsMap Tryz.prog 48 (plainElem Tryz.prog 3) b 2 C2 ∧ Below W.heap.size W w') := fun gl W d hG =>
  originCounts p q a a' n n' c c' gl W hG u0 u1 u2 u3 u4 v0 v1 v2 v3 v4 x (fun W' d' => CA.out W' (d.trans (d'.mono d.size))) (fun W' d' => CB.out W' (d.trans (d'.mono d.size))) ka kb hka hkb C1 C2 HA HB
 have HKA : Hid (keyOf Tryz.prog 48 (.agg #[.string u0, .int .i64 u1, .string u2, .int .i64 u3, .int .i64 u4]) = some ka) := hka
 have HNN : Hid (C2.atKey ka (oneD 0) = oneD N) := hN
 obtain ⟨V, hV⟩ : ∃ V, V = ((w.alloc (.cells #[(.string p.sc), (.string p.us), (.string p.pw), (.int .i64 p.hk), (.string p.hn), (.int .i64 p.ha), (.int .i64 p.po), (.slice a n c), (.string p.op), (.bool p.hq), (.string p.qu), (.bool p.hf), (.string p.fr)] 31)).alloc (.cells #[(.string q.sc), (.string q.us), (.string q.pw), (.int .i64 q.hk), (.string q.hn), (.int .i64 q.ha), (.int .i64 q.po), (.slice a' n' c'), (.string q.op), (.bool q.hq), (.string q.qu), (.bool q.hf), (.string q.fr)] 31)) := ⟨_, rfl⟩
 have HK0 : Hid (Tw w (p.cells (.slice a n c)) (q.cells (.slice a' n' c')) V) := by show Tw _ _ _ _; rw [hV]; exact Tw.start w _ _
 have HS : Hid (∀ W, Below V.heap.size V W → Tw w (p.cells (.slice a n c)) (q.cells (.slice a' n' c')) W ∧ (fun W => Below w.heap.size w W ∧ Sc w.heap.size p a n c W ∧ Sc (w.heap.size + 1) q a' n' c' W) W) := fun W d => ⟨HK0.out.later d, (HK0.out.later d).bw, Sc.of (HK0.out.later d).b1, Sc.of (HK0.out.later d).b2⟩
 clear hS hS' hs hs' hpo hpo' hL hx hxN hN HA HB fa fb hka hkb ea eb hb hb' CB HK0 lka
 unfold P.cells
 go_enter Tryz.func22, Tryz.ntmps22
 go_upto_region 1 with fail
 rw [← hV]
 clear hV
 go_wp2
 refine wp_region_held_drew (S := (fun W => Below w.heap.size w W ∧ Sc w.heap.size p a n c W ∧ Sc (w.heap.size + 1) q a' n' c' W)) (by kernel_rfl) ((HS.out _ (Below.refl _ _).drew).2) (fun hHeld => ?_)
 refine tk 0 rfl (by kernel_rfl) (fun _ _ _ h => h) (by rfl) (fun w hSw => by (try dsimp only [Sc] at hSw); go_simp; try (with_reducible rfl)) (by assumption) ?_
 simp only [Act.put, x1, x2, x3, x4, x5, x6]
 refine tk 1 rfl (by kernel_rfl) (fun _ _ _ h => h) (by rfl) (fun w hSw => by (try dsimp only [Sc] at hSw); go_simp; try (with_reducible rfl)) (by assumption) ?_
 simp only [Act.put, x1, x2, x3, x4, x5, x6]
 refine tk 4 rfl (by kernel_rfl) (fun _ _ _ h => h) (by rfl) (fun w hSw => by (try dsimp only [Sc] at hSw); go_simp; try (with_reducible rfl)) (by assumption) ?_
 simp only [Act.put, x1, x2, x3, x4, x5, x6]
 refine wpAnyH_ready (rs := [2]) (by kernel_rfl) (by simp) ?_
 refine AllReadyH.cons (o := _) rfl (fun K hK => ?_) AllReadyH.nil
 go_simp
 have D1 : Hid (Below V.heap.size V (V.drew.alloc (.cells #[(.string p.sc), (.string p.us), (.string p.pw), (.int .i64 p.hk), (.string p.hn), (.int .i64 p.ha), (.int .i64 p.po), (.slice a n c), (.string p.op), (.bool p.hq), (.string p.qu), (.bool p.hf), (.string p.fr), (.string q.sc), (.string q.us), (.string q.pw), (.int .i64 q.hk), (.string q.hn), (.int .i64 q.ha), (.int .i64 q.po), (.slice a' n' c'), (.string q.op), (.bool q.hq), (.string q.qu), (.bool q.hf), (.string q.fr)] 31))) := (Below.refl _ V).drew.alloc (Nat.le_refl _) _
 refine hK.out _ _ ((HS.out _ D1.out).2) (fun hHeld => ?_)
 clear hK K
 try simp only [Act.put, x1, x2, x3, x4, x5, x6]
 refine wpAnyH_ready (rs := [3]) (by kernel_rfl) (by simp) ?_
 refine AllReadyH.cons (o := _) rfl (fun K hK => ?_) AllReadyH.nil
 go_simp
 refine (HC.out _ _ (HS.out _ D1.out).1.bw (Blk.new V.drew _ _)).mono ?_
 rintro e W3 ⟨bm, rfl, I3, d3⟩
 have D3 : Hid (Below V.heap.size V W3) := D1.out.trans (d3.mono D1.out.size)
 refine hK.out _ _ ((HS.out _ D3.out).2) (fun hHeld => ?_)
 clear hK K
 try simp only [Act.put, x1, x2, x3, x4, x5, x6]
 refine wpAnyH_ready (rs := [5]) (by kernel_rfl) (by simp) ?_
 refine AllReadyH.cons (o := _) rfl (fun K hK => ?_) AllReadyH.nil
 go_simp
 refine (CA.out _ (HS.out _ D3.out).1.bw).mono ?_
 rintro e W5 ⟨rfl, d5⟩
 have D5 : Hid (Below V.heap.size V W5) := D3.out.trans (d5.mono D3.out.size)
 obtain ⟨N2, hlook, hat, _⟩ := (owns_below I3 d5).lookup_int (Keyed.of_law org_law) org_map Tryz.underlying3 (zero_int _) HKA.out
 have hNN : N2 = N := by
  have e := hat.symm.trans HNN.out
  simp only [oneD, DataW.lit.injEq, Lit.int.injEq, true_and] at e
  exact e
 rw [hNN] at hlook
 clear hat hNN
 refine hK.out _ _ ((HS.out _ D5.out).2) (fun hHeld => ?_)
 clear hK K
 try simp only [Act.put, x1, x2, x3, x4, x5, x6]
 refine wpAnyH_ready (rs := [6]) (by kernel_rfl) (by simp) ?_
 refine AllReadyH.cons (o := _) rfl (fun K hK => ?_) AllReadyH.nil
 go_simp
 skip
 refine hK.out _ _ (hHeld) (fun hHeld => ?_)
 clear hK K
 try simp only [Act.put, x1, x2, x3, x4, x5, x6]
 refine tk (v := .bool x) 7 rfl (by kernel_rfl) (fun _ _ _ h => h) (by rfl) (fun w hSw => by (try dsimp only [Sc] at hSw); go_simp; first | exact HX.out | (have h := HX.out; simpa using h)) (by assumption) ?_
 simp only [Act.put, x1, x2, x3, x4, x5, x6]
 refine tk 8 rfl (by kernel_rfl) (fun _ _ _ h => h) (by rfl) (fun w hSw => by (try dsimp only [Sc] at hSw); go_simp; try (with_reducible rfl)) (by assumption) ?_
 simp only [Act.put, x1, x2, x3, x4, x5, x6]
 refine wpAnyH_done (by kernel_rfl) ?_ _
 go_wp2
 go_ret
 exact ⟨rfl, hHeld.1⟩
end Go.Proofs.YtnfhajhdpdidlaaGreatDoor
end
section
namespace Go.Proofs.YtnfhajhdpdidlaaGreatDoor
open Go.RowKit Go.Shelf
theorem form_nil (k : Int) (s : ByteArray) (a : Int) : (formV k s a = .nilIface ∧ (named k s a || numbered k s a) = false) ∨ ((∃ t v, formV k s a = .iface t v) ∧ (named k s a || numbered k s a) = true) := by
 cases h1 : named k s a with
 | true => right; exact ⟨⟨_, _, form_named h1⟩, rfl⟩
 | false =>
  cases h2 : numbered k s a with
  | true => right; exact ⟨⟨_, _, form_numbered h1 h2⟩, rfl⟩
  | false => left; exact ⟨form_none h1 h2, rfl⟩
theorem implOk (k : Int) (s : ByteArray) (a : Int) (w : World) (hm : ∃ m, w.cell? ⟨0, 0, none⟩ = some (.int .i64 m)) (hs : s.size ≤ 1048576) :
  Calls Tryz.prog 104 #[.agg #[.int .i64 k, .string s, .int .i64 a]] w fun e w' => e = .returned (.bool (okH k s a)) ∧ Below w.heap.size w w' := by
 have hlt : 0 < w.heap.size := by
  obtain ⟨m, hm⟩ := hm
  exact cell_lt hm
 have HM : Hid (∀ W, Below w.heap.size w W → ∃ m, W.cell? ⟨0, 0, none⟩ = some (.int .i64 m)) := by
  obtain ⟨m, hm⟩ := hm
  intro W b
  exact ⟨m, (b.cell (p := ⟨0, 0, none⟩) hlt).trans hm⟩
 clear hm
 cases hz : noneH k s a with
 | true =>
  have HO : Hid (okH k s a = true) := by show _ = _; unfold okH; rw [hz]; rfl
  have h1 : (k = 0 ∧ a = 0) ∧ s.size = 0 := by
   unfold noneH at hz
   rw [Bool.and_eq_true, decide_eq_true_eq, List.isEmpty_iff] at hz
   refine ⟨hz.1, ?_⟩
   have hl : s.data.toList.length = s.size := by simp
   rw [hz.2] at hl; simpa using hl.symm
  obtain ⟨⟨rfl, rfl⟩, h3⟩ := h1
  have he := zero_text s h3
  subst he
  clear hz h3
  go_enter Tryz.func104, Tryz.ntmps104
  go_wp2
  go_ret
  exact ⟨by rw [HO.out]; rfl, (Below.refl _ w).alloc (Nat.le_refl _) _⟩
 | false =>
  have HO : Hid (okH k s a = (named k s a || numbered k s a)) := by show _ = _; unfold okH; rw [hz]; rfl
  have HC : Hid (∀ W, Below w.heap.size w W → Calls Tryz.prog 131 #[.agg #[.int .i64 k, .string s, .int .i64 a]] W fun e w' => e = .returned (formV k s a) ∧ Below W.heap.size W w') := fun W b => hostFormOf k s a W (HM.out W b) hs
  have HFV := form_nil k s a
  have h1 : k ≠ 0 ∨ a ≠ 0 ∨ s.size ≠ 0 := by
   rcases Classical.em (k ≠ 0 ∨ a ≠ 0 ∨ s.size ≠ 0) with h | h
   ·exact h
   ·exfalso
    have hk : k = 0 ∧ a = 0 := by omega
    have he := zero_text s (by omega)
    unfold noneH at hz
    rw [decide_eq_true hk, he] at hz
    cases hz
  clear hz HM
  obtain ⟨f, hf⟩ : ∃ f, f = formV k s a := ⟨_, rfl⟩
  rw [← hf] at HC HFV
  clear hf
  obtain ⟨b, hb⟩ : ∃ b, b = (named k s a || numbered k s a) := ⟨_, rfl⟩
  rw [← hb] at HO HFV
  clear hb
  have HEQ : (k == 0) = false ∨ ((k == 0) = true ∧ (s.toList == []) = false) ∨ ((k == 0) = true ∧ (s.toList == []) = true ∧ (a == 0) = false) := by
   by_cases e1 : k = 0
   ·by_cases e2 : s.size = 0
    ·right; right
     rw [zero_text s e2]
     exact ⟨by simp [e1], by rw [ByteArray.toList_eq]; rfl, by simp; omega⟩
    ·right; left; exact ⟨by simp [e1], (full_text s e2).1⟩
   ·left; simp [e1]
  clear h1
  rcases HFV with ⟨rfl, rfl⟩ | ⟨⟨t, v, rfl⟩, rfl⟩
  all_goals
   go_enter Tryz.func104, Tryz.ntmps104
   rcases HEQ with g1 | ⟨g1, g2⟩ | ⟨g1, g2, g3⟩
   all_goals
    go_wp2_with (go_at_call 131; refine (HC.out _ ((Below.refl _ w).alloc (Nat.le_refl _) _)).mono ?_; rintro e W1 ⟨rfl, b1⟩)
    go_ret
    exact ⟨by rw [HO.out]; rfl, box_below b1⟩
end Go.Proofs.YtnfhajhdpdidlaaGreatDoor
end
section
namespace Go.Proofs.YtnfhajhdpdidlaaGreatDoor
open Go.RowKit Go.Shelf
def orgOk (c : ByteArray) (k : Int) (s : ByteArray) (a p : Int) : Bool := decide (0 ≤ ownZ c) && okH k s a && decide (0 ≤ p ∧ p ≤ 65535)
def orgT (c : ByteArray) (k : Int) (s : ByteArray) (a p : Int) : ByteArray :=
 if orgOk c k s a p = true then (if p = ownZ c then c ++ ⟨#[58, 47, 47]⟩ ++ mk (putT k s a) else c ++ ⟨#[58, 47, 47]⟩ ++ mk (putT k s a) ++ (⟨#[58]⟩ ++ mk (dg p))) else ⟨#[110, 117, 108, 108]⟩
theorem own_small {c : ByteArray} (h : 0 ≤ ownZ c) : c.size ≤ 5 ∧ (ownZ c = 80 ∨ ownZ c = 443) := by
 unfold ownZ at h ⊢
 split
 ·rename_i e; subst e; exact ⟨by decide, .inl rfl⟩
 ·split
  ·rename_i e; subst e; exact ⟨by decide, .inr rfl⟩
  ·rename_i e1 e2; rw [if_neg e1, if_neg e2] at h; omega
theorem own_cases (c : ByteArray) : ownZ c = -1 ∨ 0 ≤ ownZ c := by
 unfold ownZ; split
 ·right; decide
 ·split
  ·right; decide
  ·left; rfl
theorem orgString (c : ByteArray) (k : Int) (s : ByteArray) (a p : Int) (w : World) (hm : ∃ m, w.cell? ⟨0, 0, none⟩ = some (.int .i64 m)) (hB : 4 < w.heap.size) (ht : Lib.TabIs Tryz.prog w "internal/strconv.uint64pow10" .u64 Lib.pow10Tab) (hs : s.size ≤ 1048576) :
  Calls Tryz.prog 75 #[.agg #[.string c, .int .i64 k, .string s, .int .i64 a, .int .i64 p]] w fun e w' => e = .returned (.string (orgT c k s a p)) ∧ Below w.heap.size w w' := by
 have hlt : 0 < w.heap.size := by
  obtain ⟨m, hm⟩ := hm
  exact cell_lt hm
 have HM : Hid (∀ W, Below w.heap.size w W → ∃ m, W.cell? ⟨0, 0, none⟩ = some (.int .i64 m)) := by
  obtain ⟨m, hm⟩ := hm
  intro W b
  exact ⟨m, (b.cell (p := ⟨0, 0, none⟩) hlt).trans hm⟩
 have HT : Hid (∀ W, Below w.heap.size w W → Lib.TabIs Tryz.prog W "internal/strconv.uint64pow10" .u64 Lib.pow10Tab) := fun W b => tab_below ht b hB
 have CO : Hid (∀ W, Below w.heap.size w W → Calls Tryz.prog 104 #[.agg #[.int .i64 k, .string s, .int .i64 a]] W fun e w' => e = .returned (.bool (okH k s a)) ∧ Below W.heap.size W w') := fun W b => implOk k s a W (HM.out _ b) hs
 have CP : Hid (∀ W, Below w.heap.size w W → Calls Tryz.prog 105 #[.agg #[.int .i64 k, .string s, .int .i64 a]] W fun e w' => e = .returned (.string (mk (putT k s a))) ∧ Below W.heap.size W w') := fun W b => implPut k s a W (HM.out _ b) (Nat.lt_of_lt_of_le hB b.size) (HT.out _ b) hs
 have hpl : (mk (putT k s a)).size ≤ 60 := by rw [mk_size]; exact putT_len k s a
 have hB0 : Below w.heap.size w (w.alloc (Obj.cells #[.string c, .int .i64 k, .string s, .int .i64 a, .int .i64 p] 48)) := (Below.refl _ w).alloc (Nat.le_refl _) _
 clear hm ht hlt HM
 rcases own_cases c with ho | ho
 ·have HR : Hid (orgT c k s a p = ⟨#[110, 117, 108, 108]⟩) := by show _ = _; unfold orgT orgOk; rw [ho]; rfl
  have ho' : ownZ c < 0 := by omega
  go_enter Tryz.func75, Tryz.ntmps75
  go_wp2_with fail
  refine (schemePort c _).mono ?_
  rintro e W1 ⟨rfl, rfl⟩
  clear ho
  go_wp2
  go_ret
  exact ⟨by rw [HR.out]; rfl, hB0⟩
 obtain ⟨hc5, ho2⟩ := own_small ho
 cases hok : okH k s a with
 | false =>
  have HR : Hid (orgT c k s a p = ⟨#[110, 117, 108, 108]⟩) := by show _ = _; unfold orgT orgOk; rw [hok]; simp
  rw [hok] at CO
  clear hok
  go_enter Tryz.func75, Tryz.ntmps75
  go_wp2_with fail
  refine (schemePort c _).mono ?_
  rintro e W1 ⟨rfl, rfl⟩
  go_wp2_with fail
  refine (CO.out _ hB0).mono ?_
  rintro e W2 ⟨rfl, d2⟩
  have b2 := hB0.trans (d2.mono hB0.size)
  go_wp2
  go_ret
  exact ⟨by rw [HR.out]; rfl, b2⟩
 | true =>
  rw [hok] at CO
  by_cases hp : 0 ≤ p ∧ p ≤ 65535
  ·obtain ⟨hp0, hp1⟩ := hp
   have CI : Hid (∀ W, Below w.heap.size w W → Calls Tryz.prog 106 #[.int .i64 p] W fun e w' => e = .returned (.string (mk (dg p))) ∧ Below W.heap.size W w') := fun W b => itoaM p hp0 (by omega) W (HT.out W b)
   have hdl : (mk (dg p)).size ≤ 5 := by rw [mk_size]; exact dg_len5 p (by omega)
   have hyes : orgOk c k s a p = true := by unfold orgOk; rw [hok, decide_eq_true ho, decide_eq_true ⟨hp0, hp1⟩]; rfl
   have HR1 : Hid (p = ownZ c → orgT c k s a p = c ++ ⟨#[58, 47, 47]⟩ ++ mk (putT k s a)) := by intro h; unfold orgT; rw [if_pos hyes, if_pos h]
   have HR2 : Hid (¬ p = ownZ c → orgT c k s a p = c ++ ⟨#[58, 47, 47]⟩ ++ mk (putT k s a) ++ (⟨#[58]⟩ ++ mk (dg p))) := by intro h; unfold orgT; rw [if_pos hyes, if_neg h]
   clear hyes hok HT
   have CW : Hid (∀ W, Calls Tryz.prog 44 #[.string c] W fun e w' => e = .returned (.int .i64 (ownZ c)) ∧ w' = W) := fun W => schemePort c W
   generalize mk (putT k s a) = P at *
   generalize mk (dg p) = D at *
   generalize orgT c k s a p = R at *
   generalize ownZ c = o at *
   have z1 : c.size + 3 ≤ 8 := by omega
   go_enter Tryz.func75, Tryz.ntmps75
   go_wp2_with fail
   refine (CW.out _).mono ?_
   rintro e W1 ⟨rfl, rfl⟩
   go_wp2_with fail
   refine (CO.out _ hB0).mono ?_
   rintro e W2 ⟨rfl, d2⟩
   have b2 := hB0.trans (d2.mono hB0.size)
   have q0 : W2.cell? ⟨w.heap.size, 0, none⟩ = some (.string c) := box_cell d2 0
   have q1 : W2.cell? ⟨w.heap.size, 1, none⟩ = some (.int .i64 k) := box_cell d2 1
   have q2 : W2.cell? ⟨w.heap.size, 2, none⟩ = some (.string s) := box_cell d2 2
   have q3 : W2.cell? ⟨w.heap.size, 3, none⟩ = some (.int .i64 a) := box_cell d2 3
   have q4 : W2.cell? ⟨w.heap.size, 4, none⟩ = some (.int .i64 p) := box_cell d2 4
   have hlt2 : w.heap.size < W2.heap.size := cell_lt q0
   clear d2
   go_wp2
   go_region_with (first
    | (go_at_call 105; refine (CP.out _ b2.drew).mono ?_; rintro e W3 ⟨rfl, d3⟩; have p4 : W3.cell? ⟨w.heap.size, 4, none⟩ = some (.int .i64 p) := (d3.cell (p := ⟨w.heap.size, 4, none⟩) hlt2).trans q4; have p0 : W3.cell? ⟨w.heap.size, 0, none⟩ = some (.string c) := (d3.cell (p := ⟨w.heap.size, 0, none⟩) hlt2).trans q0)
    | fail)
   all_goals
    have b3 : Below w.heap.size w W3 := b2.drew.trans (d3.mono b2.size)
    clear q0 q1 q2 q3 q4 d3
    by_cases hpo : p = o
    ·have HR : Hid (R = c ++ ⟨#[58, 47, 47]⟩ ++ P) := HR1.out hpo
     subst hpo
     clear HR1 HR2
     go_wp2
     go_ret
     exact ⟨by rw [HR.out]; rfl, b3⟩
    ·have HR : Hid (R = c ++ ⟨#[58, 47, 47]⟩ ++ P ++ (⟨#[58]⟩ ++ D)) := HR2.out hpo
     have hpo' : (p == o) = false := beq_eq_false_iff_ne.2 hpo
     clear HR1 HR2
     go_wp2_with fail
     refine (CI.out _ b3).mono ?_
     rintro e W4 ⟨rfl, d4⟩
     have b4 := b3.trans (d4.mono b3.size)
     clear d4
     go_wp2
     go_ret
     exact ⟨by rw [HR.out]; rfl, b4⟩
  ·have HR : Hid (orgT c k s a p = ⟨#[110, 117, 108, 108]⟩) := by show _ = _; unfold orgT orgOk; rw [decide_eq_false hp]; simp
   rcases (show p < 0 ∨ (0 ≤ p ∧ 65535 < p) by omega) with hp1 | ⟨hp1, hp2⟩
   all_goals
    clear hp hok
    go_enter Tryz.func75, Tryz.ntmps75
    go_wp2_with fail
    refine (schemePort c _).mono ?_
    rintro e W1 ⟨rfl, rfl⟩
    go_wp2_with fail
    refine (CO.out _ hB0).mono ?_
    rintro e W2 ⟨rfl, d2⟩
    have b2 := hB0.trans (d2.mono hB0.size)
    have q4 : W2.cell? ⟨w.heap.size, 4, none⟩ = some (.int .i64 p) := box_cell d2 4
    go_wp2
    go_ret
    exact ⟨by rw [HR.out]; rfl, b2⟩
theorem implOrigin (c : ByteArray) (k : Int) (s : ByteArray) (a p : Int) (w : World) (hm : ∃ m, w.cell? ⟨0, 0, none⟩ = some (.int .i64 m)) (hB : 4 < w.heap.size) (ht : Lib.TabIs Tryz.prog w "internal/strconv.uint64pow10" .u64 Lib.pow10Tab) (hs : s.size ≤ 1048576) :
  Calls Tryz.prog 26 #[.agg #[.string c, .int .i64 k, .string s, .int .i64 a, .int .i64 p]] w fun e w' => e = .returned (.string (orgT c k s a p)) ∧ Below w.heap.size w w' := by
 have hlt : 0 < w.heap.size := by
  obtain ⟨m, hm⟩ := hm
  exact cell_lt hm
 have C : Hid (∀ W, Below w.heap.size w W → Calls Tryz.prog 75 #[.agg #[.string c, .int .i64 k, .string s, .int .i64 a, .int .i64 p]] W fun e w' => e = .returned (.string (orgT c k s a p)) ∧ Below W.heap.size W w') := by
  intro W b
  obtain ⟨m, hm⟩ := hm
  exact orgString c k s a p W ⟨m, (b.cell (p := ⟨0, 0, none⟩) hlt).trans hm⟩ (Nat.lt_of_lt_of_le hB b.size) (tab_below ht b hB) hs
 generalize orgT c k s a p = R at *
 clear hm ht
 have hB0 : Below w.heap.size w (w.alloc (Obj.cells #[.string c, .int .i64 k, .string s, .int .i64 a, .int .i64 p] 48)) := (Below.refl _ w).alloc (Nat.le_refl _) _
 go_enter Tryz.func26, Tryz.ntmps26
 go_wp2_with fail
 refine (C.out _ (by first | exact hB0 | exact Below.refl _ _)).mono ?_
 rintro e W1 ⟨rfl, d1⟩
 go_wp2
 go_ret
 exact ⟨rfl, by first | exact box_below d1 | exact d1⟩
end Go.Proofs.YtnfhajhdpdidlaaGreatDoor
end
section
namespace Go.Proofs.YtnfhajhdpdidlaaGreatDoor
open Go.RowKit Go.Shelf
theorem ok_prt (q : P) (h : okP q) : (q.po = -1 ∨ (0 ≤ q.po ∧ q.po ≤ 65535 ∧ q.po ≠ ownZ q.sc ∧ 0 ≤ ownZ q.sc)) := by
 rw [ok_iff] at h
 rcases h.1.main with ⟨_, _, _, _, _, _, h, _⟩ | ⟨h0, _, _, _, _, h, _⟩
 ·exact .inl h
 ·rcases h with h | ⟨h1, h2, h3⟩
  ·exact .inl h
  ·exact .inr ⟨h1, h2, h3, h0⟩
def keyP (q : P) : P := { q with us := ⟨#[]⟩, pw := ⟨#[]⟩, hf := false, fr := ⟨#[]⟩ }
def rootP (q : P) : P := { P.zero with sc := q.sc, hk := q.hk, hn := q.hn, ha := q.ha, po := q.po, ps := [[]] }
def ptP (q : P) : Int := if q.po < 0 then ownZ q.sc else q.po
def ogT (q : P) : ByteArray := orgT q.sc q.hk q.hn q.ha (ptP q)
theorem writ_key (q : P) : (writL (keyP q)).length ≤ (writL q).length := by
 have e1 : tailL (keyP q) = queL q := by unfold tailL; rw [show frgL (keyP q) = [] from rfl, List.append_nil]; rfl
 have e2 : autL (keyP q) = putT q.hk q.hn q.ha ++ porL q := rfl
 have e3 : (queL q).length ≤ (tailL q).length := by unfold tailL; simp
 have e4 : (putT q.hk q.hn q.ha ++ porL q).length ≤ (autL q).length := by unfold autL; simp; omega
 have e5 : (mainL (keyP q)).length ≤ (mainL q).length := by
  unfold mainL
  rw [show ownZ (keyP q).sc = ownZ q.sc from rfl, e2]
  split
  ·simp only [List.length_append] at e4 ⊢; rw [show (keyP q).ps = q.ps from rfl]; omega
  ·exact Nat.le_refl _
 unfold writL
 rw [e1, show (keyP q).sc = q.sc from rfl]
 simp only [List.length_append]; omega
theorem ok_key (q : P) (h : okP q) (ho : 0 ≤ ownZ q.sc) : okP (keyP q) := by
 obtain ⟨hn, hl, hp⟩ := (ok_iff q).1 h
 refine (ok_iff _).2 ⟨⟨hn.sch, hn.que, .inr ⟨rfl, rfl⟩, ?_⟩, Nat.le_trans (writ_key q) hl, hp⟩
 rcases hn.main with ⟨h0, _⟩ | ⟨h0, g1, g2, g3, g4, g5, g6, g7⟩
 ·omega
 ·exact .inr ⟨h0, g1, clo_nil 4, clo_nil 4, g4, g5, g6, g7⟩
theorem ok_pt (q : P) (h : okP q) (ho : 0 ≤ ownZ q.sc) : 0 ≤ ptP q ∧ ptP q ≤ 65535 ∧ (ptP q = ownZ q.sc ↔ q.po < 0) := by
 have hs := own_small ho
 unfold ptP
 rcases ok_prt q h with e | ⟨e1, e2, e3, _⟩
 ·rw [if_pos (by omega)]
  exact ⟨ho, by omega, by simp; omega⟩
 ·rw [if_neg (by omega)]
  exact ⟨e1, e2, by constructor <;> intro h <;> omega⟩
theorem ok_hostN (q : P) (h : okP q) (ho : 0 ≤ ownZ q.sc) : hostN q.hk q.hn q.ha := by
 rcases ((ok_iff q).1 h).1.main with ⟨h0, _⟩ | ⟨_, _, _, _, g4, _⟩
 ·omega
 ·exact g4
theorem hostN_ok (k : Int) (s : ByteArray) (a : Int) (h : hostN k s a) : okH k s a = true := by
 unfold okH
 rcases h with h | ⟨rfl, rfl, h0, h1⟩
 ·rw [h]; simp
 ·have : numbered 2 ⟨#[]⟩ a = true := by unfold numbered; simp [h0, h1]
  rw [this]; simp
theorem app_mk (a b : List UInt8) : mk a ++ mk b = mk (a ++ b) := by
 apply ByteArray.ext; apply Array.ext'; simp [mk]
theorem og_text (q : P) (h : okP q) (ho : 0 ≤ ownZ q.sc) : ogT q = mk (q.sc.data.toList ++ ([58, 47, 47] ++ autL (rootP q))) := by
 obtain ⟨p0, p1, p2⟩ := ok_pt q h ho
 have hk := hostN_ok _ _ _ (ok_hostN q h ho)
 have hok : orgOk q.sc q.hk q.hn q.ha (ptP q) = true := by
  unfold orgOk; rw [decide_eq_true ho, hk, decide_eq_true ⟨p0, p1⟩]; rfl
 have ea : autL (rootP q) = putT q.hk q.hn q.ha ++ porL q := rfl
 have ec : q.sc = mk q.sc.data.toList := (mk_list q.sc).symm
 have e3 : (⟨#[58, 47, 47]⟩ : ByteArray) = mk [58, 47, 47] := rfl
 have e1 : (⟨#[58]⟩ : ByteArray) = mk [58] := rfl
 unfold ogT orgT
 rw [if_pos hok, ea]
 by_cases hp : q.po < 0
 ·rw [if_pos (p2.2 hp)]
  have : porL q = [] := by unfold porL; rw [if_neg (by omega)]
  rw [this, List.append_nil]
  conv => lhs; rw [ec, e3, app_mk, app_mk]
  simp
 ·rw [if_neg (fun e => hp (p2.1 e))]
  have e4 : ptP q = q.po := by unfold ptP; rw [if_neg hp]
  have : porL q = 58 :: dg q.po := by unfold porL; rw [if_pos (by omega)]
  rw [this, e4]
  conv => lhs; rw [ec, e3, e1, app_mk, app_mk, app_mk, app_mk]
  simp
theorem og_slash (q : P) (h : okP q) (ho : 0 ≤ ownZ q.sc) : ogT q ++ ⟨#[47]⟩ = mk (writL (rootP q)) := by
 rw [og_text q h ho, show (⟨#[47]⟩ : ByteArray) = mk [47] from rfl, app_mk]
 congr 1
 have e1 : mainL (rootP q) = [47, 47] ++ (autL (rootP q) ++ putL [[]]) := by unfold mainL; rw [if_pos (show 0 ≤ ownZ (rootP q).sc from ho)]; rfl
 unfold writL
 rw [e1, show tailL (rootP q) = [] from rfl, show putL [[]] = [47] from rfl, show (rootP q).sc = q.sc from rfl]
 simp
theorem writ_root (q : P) (h : okP q) (ho : 0 ≤ ownZ q.sc) : (writL (rootP q)).length ≤ (writL q).length := by
 have hne : q.ps ≠ [] := by
  rcases ((ok_iff q).1 h).1.main with ⟨h0, _⟩ | ⟨_, _, _, _, _, _, g6, _⟩
  ·omega
  ·exact g6
 have e1 : mainL (rootP q) = [47, 47] ++ (autL (rootP q) ++ putL [[]]) := by unfold mainL; rw [if_pos (show 0 ≤ ownZ (rootP q).sc from ho)]; rfl
 have e2 : mainL q = [47, 47] ++ (autL q ++ putL q.ps) := by unfold mainL; rw [if_pos ho]
 have e4 : (autL (rootP q)).length ≤ (autL q).length := by
  rw [show autL (rootP q) = putT q.hk q.hn q.ha ++ porL q from rfl]; unfold autL; simp; omega
 have e5 : 1 ≤ (putL q.ps).length := by
  rw [putL_len]
  cases hq : q.ps with
  | nil => exact absurd hq hne
  | cons p ps => simp; omega
 unfold writL
 rw [e1, e2, show tailL (rootP q) = [] from rfl, show putL [[]] = [47] from rfl, show (rootP q).sc = q.sc from rfl]
 simp only [List.length_append, List.length_cons, List.length_nil] at e4 ⊢; omega
theorem ok_root (q : P) (h : okP q) (ho : 0 ≤ ownZ q.sc) : okP (rootP q) := by
 obtain ⟨hn, hl, hp⟩ := (ok_iff q).1 h
 refine (ok_iff _).2 ⟨⟨hn.sch, .inr ⟨rfl, rfl⟩, .inr ⟨rfl, rfl⟩, ?_⟩, Nat.le_trans (writ_root q h ho) hl, by show ([[]] : List (List UInt8)).length ≤ 12; decide⟩
 rcases hn.main with ⟨h0, _⟩ | ⟨h0, g1, g2, g3, g4, g5, g6, g7⟩
 ·omega
 ·refine .inr ⟨h0, rfl, clo_nil 4, clo_nil 4, g4, g5, by show ([[]] : List (List UInt8)) ≠ []; simp, ?_⟩
  intro p hp
  have : p = [] := by simpa [rootP] using hp
  rw [this]; exact fix_nil
theorem og_read (q : P) (h : okP q) (ho : 0 ≤ ownZ q.sc) : getO (q.sc.data.toList ++ ([58, 47, 47] ++ autL (rootP q))) = some (rootP q) := by
 obtain ⟨hn, hl, hp⟩ := (ok_iff _).1 (ok_root q h ho)
 obtain ⟨r, hr⟩ : ∃ r, r = rootP q := ⟨_, rfl⟩
 have hsc : q.sc = r.sc := by rw [hr]; rfl
 have ho' : 0 ≤ ownZ r.sc := by rw [← hsc]; exact ho
 have hps : r.ps = [[]] := by rw [hr]; rfl
 have htl : tailL r = [] := by rw [hr]; rfl
 have hz : r = { ({ P.zero with sc := r.sc, po := -1 } : P) with us := r.us, pw := r.pw, hk := r.hk, hn := r.hn, ha := r.ha, po := r.po, ps := [[]] } := by rw [hr]; rfl
 rw [hsc, ← hr]
 rw [← hr] at hn hl hp
 rcases hn.main with ⟨h0, _⟩ | ⟨h0, g1, hu, hw, hh, hpo, hne, hfx⟩
 ·omega
 have hwl : writL r = (r.sc.data.toList ++ ([58, 47, 47] ++ autL r)) ++ [47] := by
  unfold writL mainL
  rw [if_pos ho', htl, hps, show putL [[]] = [47] from rfl]; simp
 have hl1 : (r.sc.data.toList ++ ([58, 47, 47] ++ autL r)).length + 1 ≤ 200 := by
  rw [hwl, List.length_append] at hl; simpa using hl
 have hal : (autL r).length ≤ 200 := by
  simp only [List.length_append] at hl1; omega
 have hvis : ∀ c ∈ r.sc.data.toList ++ ([58, 47, 47] ++ autL r), 33 ≤ c.toNat := by
  intro c hc
  exact writ_vis r hn c (by rw [hwl]; exact List.mem_append_left _ hc)
 have e1 : upL [58] (r.sc.data.toList ++ ([58, 47, 47] ++ autL r)) = r.sc.data.toList := by
  refine up_hit _ _ _ 58 (fun d hd => ?_) (by decide)
  have := (schB_facts d (sch_bytes _ hn.sch d hd)).2.2
  rw [among_one]; simpa using this
 have e2 : (r.sc.data.toList ++ ([58, 47, 47] ++ autL r)).drop r.sc.data.toList.length = 58 :: ([47, 47] ++ autL r) := by rw [List.drop_left]; rfl
 have e3 : (r.sc.data.toList ++ ([58, 47, 47] ++ autL r)).drop (r.sc.data.toList.length + 1) = [47, 47] ++ autL r := by rw [← List.drop_drop, e2]; rfl
 have e4 : low r.sc.data.toList = r.sc.data.toList := low_same _ (fun c hc => (schB_facts c (sch_bytes _ hn.sch c hc)).1)
 have ha := aut_facts r hu hw hh
 have hane : autL r ≠ [] := by
  unfold autL
  intro e
  simp only [List.append_eq_nil_iff] at e
  exact (host_back _ _ _ hh).2.2.2.2.1 e.2.2.2.1
 have es : ([47, 47] ++ autL r).dropWhile (among [47, 92]) = autL r := by
  obtain ⟨c, t, hct⟩ : ∃ c t, autL r = c :: t := by
   cases hx : autL r with
   | nil => exact absurd hx hane
   | cons c t => exact ⟨c, t, rfl⟩
  have hc := ha c (by rw [hct]; exact List.mem_cons_self ..)
  show (47 :: 47 :: autL r).dropWhile (among [47, 92]) = autL r
  rw [List.dropWhile_cons, if_pos (by decide), List.dropWhile_cons, if_pos (by decide), hct, List.dropWhile_cons, if_neg (by rw [amongS c hc.2.1 hc.2.2.1]; decide)]
 have eh : upL [47, 92, 63, 35] (autL r) = autL r := by
  have := up_tail [47, 92, 63, 35] (autL r) [] (fun d hd => among4 d (ha d hd).2.1 (ha d hd).2.2.1 (ha d hd).2.2.2.1 (ha d hd).2.2.2.2) (.inl rfl)
  rw [List.append_nil] at this
  exact this
 have hsch : schP P.zero (r.sc.data.toList ++ ([58, 47, 47] ++ autL r)) = some r := by
  unfold schP
  rw [e1, e2, e4, mk_list, e3, if_pos ⟨rfl, hn.sch⟩, if_pos ho']
  unfold slaP hosP
  rw [es, eh]
  have har := aut_read ({ P.zero with sc := r.sc, po := -1 }) r rfl rfl rfl hu hw hh hpo hal
  rw [har, show (autL r).drop (autL r).length = [] from List.drop_length ..]
  show some (patP _ []) = _
  congr 1
  rw [hz]
  rfl
 unfold getO
 rw [if_pos (by omega), trim_vis _ hvis, hsch]
 show (if r.ps.length ≤ 12 ∧ (writL r).length ≤ 600 then some r else none) = some r
 rw [if_pos ⟨hp, by omega⟩]
end Go.Proofs.YtnfhajhdpdidlaaGreatDoor
end
