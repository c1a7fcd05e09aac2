/- impl.SurePut: a host is put among others. -/
import Derived.Test.YtbogjajfbchdjaaDoorSurC
import Derived.Test.YtbogjajfbchdjaaDoorSurI
import Derived.Deep.RegionHeld3
set_option linter.unusedVariables false
set_option linter.unusedSimpArgs false
namespace Go.Proofs.YtbogjajfbchdjaaDoor
open Go.RowKit Go.Shelf

/-- What SurePut answers: the hosts, and whether. -/
def putL (ss : List (List UInt8)) (h : List UInt8) : List (List UInt8) := if sureB ss = false then [] else if fndS ss h = true then ss else if okH 1 (mk h) 0 = false ∨ ss.length = 6 then ss else ss.take (kS ss h) ++ [h] ++ ss.drop (kS ss h)
def putB (ss : List (List UInt8)) (h : List UInt8) : Bool := if sureB ss = false then false else if fndS ss h = true then true else if okH 1 (mk h) 0 = false ∨ ss.length = 6 then false else true
theorem x1 {α : Type} {l : List α} {i : Nat} (h : i < l.toArray.size) : l.toArray[i] = l[i]'(by simpa using h) := List.getElem_toArray h
theorem x2 {α : Type} {a : α} {l : List α} : (a :: l)[0] = a := rfl
theorem x3 {α : Type} {a : α} {l : List α} {i : Nat} (h : i + 1 < (a :: l).length) : (a :: l)[i + 1] = l[i]'(by simpa using h) := rfl
theorem x4 {α : Type} (l : List α) (i : Nat) (a : α) : l.toArray.setIfInBounds i a = (l.set i a).toArray := List.setIfInBounds_toArray ..
theorem x5 {α : Type} {x a : α} {l : List α} : (x :: l).set 0 a = a :: l := rfl
theorem x6 {α : Type} {x a : α} {l : List α} {n : Nat} : (x :: l).set (n + 1) a = x :: l.set n a := rfl
/-- A step taken first; the three facts that the kernel reckons together. -/
theorem tk {P : Program} {ops : Array Oper} {Q : Exit → Act → World → Prop} {md : Region.Mode} {S : World → Prop} (i : Nat) {oi : Oper} {v : Value} {fuel : Nat} {listed : Array Bool} {a : Act} {w : World} (hi : ops[i]? = some oi) (h3 : (Region.noSelect ops && Region.free md ops listed i && (Region.ready md ops listed).contains i) = true) (hQ : ∀ c a w, Q (.panic c) (a.put oi.dst v) w → Q (.panic c) a w) (hw : Region.wanted oi (yielded ops a.tmps) = true) (hy : ∀ w, S w → (execOp a.eval oi).run P w = .ok (.value v) w) (hS : S w) (h : wpAnyH P md ops Q S fuel (listed.setIfInBounds i true) (a.put oi.dst v) w) : wpAnyH P md ops Q S (fuel + 1) listed a w := by
  rw [Bool.and_eq_true, Bool.and_eq_true] at h3
  exact wpAnyH_take hi h3.1.1 h3.1.2 h3.2 hQ (Or.inl ⟨hw, hy⟩) hS h
def Sg (g : Nat) (v : Value) (W : World) : Prop := W.cell? ⟨g, 0, none⟩ = some v
theorem OwnS.off1 {B k : Nat} {v : Value} {ps : List (List UInt8)} {A : Array Value} {t : TypeId} {w : World} (h : OwnS B v ps w) (hK : Blk k A t w) (ht : t ≠ 9) (j : Nat) (x : Value) : OwnS B v ps (w.setCell ⟨k, j, none⟩ x) := by
  have h0 := h
  refine ⟨h.1, ?_⟩
  rcases h.2 with h1 | ⟨g, cap, cur, hv, hb, hg, rest⟩
  · exact .inl h1
  · refine .inr ⟨g, cap, cur, hv, hb, ?_, rest⟩
    have hne : k ≠ g := fun e => by
      rw [e] at hK
      have := hK.symm.trans hg
      simp only [Option.some.injEq, Obj.cells.injEq] at this
      exact ht this.2.1
    rw [← hg]
    simp [World.setCell, Array.getElem?_modify]
    intro e
    exact absurd e hne
theorem Blk.else1 {w : World} {g : Nat} {A : Array Value} {t : TypeId} (h : Blk g A t w) (g' j : Nat) (v : Value) (hne : g ≠ g') : Blk g A t (w.setCell ⟨g', j, none⟩ v) := (Below.heap_setCell _ _ _ _ (fun e => hne (by simpa using e))).trans h
theorem own_ne {B k : Nat} {v : Value} {ps : List (List UInt8)} {A : Array Value} {t : TypeId} {w : World} (h : OwnS B v ps w) (hK : Blk k A t w) (ht : t ≠ 9) : ∀ g n c, v = .slice (some ⟨g, 0, none⟩) n c → k ≠ g := fun g n c hv e => by
  rcases h.2 with ⟨h1, _⟩ | ⟨g', cap, cur, h1, hb, hg, rest⟩
  · rw [hv] at h1; cases h1
  · rw [hv] at h1
    simp only [Value.slice.injEq, Option.some.injEq, Addr.mk.injEq, and_true] at h1
    rw [e, h1.1] at hK
    have := hK.symm.trans hg
    simp only [Option.some.injEq, Obj.cells.injEq] at this
    exact ht this.2.1
set_option maxHeartbeats 8000000 in
set_option maxRecDepth 100000 in
theorem implSurePut (a : Option Addr) (len cap : Nat) (ss : List (List UInt8)) (h : List UInt8) (w : World) (hs : StrsOf a len ss w) (hm : ∃ m, w.cell? ⟨0, 0, none⟩ = some (.int .i64 m)) (hl : ss.length + tot ss ≤ 1048576) (hh : h.length ≤ 1048576) :
    Calls Tryd.prog 11 #[.agg #[.slice a len cap], .string (mk h)] w fun e w' => ∃ v, e = .returned (.tuple #[.agg #[v], .bool (putB ss h)]) ∧ OwnS (w.heap.size + 2) v (putL ss h) w' ∧ Below w.heap.size w w' := by
  have hlt : 0 < w.heap.size := by
    obtain ⟨m, hm⟩ := hm
    exact cell_lt hm
  have HM : Hid (∀ W, Below w.heap.size w W → ∃ m, W.cell? ⟨0, 0, none⟩ = some (.int .i64 m)) := by
    obtain ⟨m, hm⟩ := hm
    intro W b
    exact ⟨m, (b.cell (p := ⟨0, 0, none⟩) hlt).trans hm⟩
  obtain ⟨V, hV⟩ : ∃ V, V = ((w.alloc (.cells #[.slice a len cap] 27)).alloc (.cells #[.slice none 0 0] 27)) := ⟨_, rfl⟩
  have HB0 : Hid (Below w.heap.size w V) := by show Below _ _ _; rw [hV]; exact ((Below.refl _ w).alloc (Nat.le_refl _) _).alloc (by simp) _
  have HA0 : Hid (Blk w.heap.size #[.slice a len cap] 27 V) := by show Blk _ _ _ _; rw [hV]; exact (Blk.new w _ _).alloc _
  have HR0 : Hid (Blk (w.heap.size + 1) #[.slice none 0 0] 27 V) := by
    show Blk _ _ _ _
    have := Blk.new (w.alloc (.cells #[.slice a len cap] 27)) #[.slice none 0 0] 27
    rw [hV]; simpa using this
  have CK : Hid (∀ W, Below w.heap.size w W → Calls Tryd.prog 8 #[.agg #[.slice a len cap]] W fun e w' => e = .returned (.bool (sureB ss)) ∧ Below W.heap.size W w') := fun W d => implSureOk a len cap ss W (hs.later d) (HM.out W d) hl
  obtain ⟨n, hn⟩ : ∃ n, n = ss.length := ⟨_, rfl⟩
  have CC : Hid (∀ W, Below w.heap.size w W → Calls Tryd.prog 19 #[.agg #[.slice a len cap]] W fun e w' => ∃ a2 c2, e = .returned (.agg #[.slice a2 n c2]) ∧ OwnS (W.heap.size + 2) (.slice a2 n c2) ss w' ∧ Below W.heap.size W w') := fun W d => by
    refine (sureCopy a len cap ss W (hs.later d) hl).mono ?_
    rintro e w' ⟨v, rfl, o, d2⟩
    obtain ⟨a2, c2, rfl, _⟩ := o.shape
    rw [← hn] at o
    exact ⟨a2, c2, by rw [hn], o, d2⟩
  have HNN : Hid (n = ss.length) := hn
  clear hn
  have CI : Hid (∀ W, Below w.heap.size w W → Calls Tryd.prog 17 #[.string (mk h)] W fun e w' => e = .returned (.bool (okH 1 (mk h) 0)) ∧ Below W.heap.size W w') := fun W d => isNamedHost (mk h) W (HM.out W d) (by rw [mk_size]; exact hh)
  have CN : Hid (∀ W, Calls Tryd.prog 22 #[.string (mk h)] W fun e w' => e = .returned (.string (mk h)) ∧ Below W.heap.size W w') := fun W => cloneAny (mk h) W (by rw [mk_size]; exact hh)
  have HLEN : Hid (len = ss.length) := hs.1
  clear hs hm hl hh hlt
  generalize hx : (mk h : ByteArray) = x at *
  have HX : Hid (mk h = x) := hx
  clear hx
  go_enter Tryd.func11, Tryd.ntmps11
  go_upto_region 1 with fail
  rw [← hV]
  clear hV
  have k0 := HA0.out.cell 0
  simp only [List.getElem?_toArray, List.getElem?_cons_zero] at k0
  go_wp2_with fail
  refine (CK.out _ HB0.out).mono ?_
  rintro e W1 ⟨rfl, d1⟩
  have HB1 : Hid (Below w.heap.size w W1) := HB0.out.trans (d1.mono HB0.out.size)
  have HA1 : Hid (Blk w.heap.size #[.slice a len cap] 27 W1) := HA0.out.below d1 HA0.out.lt
  have HR1 : Hid (Blk (w.heap.size + 1) #[.slice none 0 0] 27 W1) := HR0.out.below d1 HR0.out.lt
  clear d1 HB0 HA0 HR0 CK k0
  have HSB : Hid (∃ y, y = sureB ss) := ⟨_, rfl⟩
  cases hb : sureB ss with
  | false =>
    have HP : Hid (putL ss h = [] ∧ putB ss h = false) := by unfold putL putB; rw [if_pos hb, if_pos hb]; exact ⟨rfl, rfl⟩
    have r0 := HR1.out.cell 0
    have rf := HR1.out.free 0
    simp only [List.getElem?_toArray, List.getElem?_cons_zero] at r0
    have HFIN : Hid (OwnS (w.heap.size + 2) (.slice none 0 0) [] (W1.setCell ⟨w.heap.size + 1, 0, none⟩ (.slice none 0 0)) ∧ Below w.heap.size w (W1.setCell ⟨w.heap.size + 1, 0, none⟩ (.slice none 0 0))) := ⟨ownS_nil _ _, HB1.out.setCell (p := ⟨w.heap.size + 1, 0, none⟩) (by show w.heap.size ≤ w.heap.size + 1; omega) _⟩
    go_wp2
    refine bodyPost_ret (v := .tuple #[.agg #[(.slice none 0 0)], .bool false]) (by simp [results, Tryd.results11, go_sem, r0]) rfl ⟨_, by rw [HP.out.2], by rw [HP.out.1]; exact HFIN.out.1, HFIN.out.2⟩
  | true =>
    have HOK : Hid (sureAll ss = true ∧ ss.length ≤ 6) := by
      unfold sureB at hb
      simp only [Bool.and_eq_true, decide_eq_true_eq] at hb
      exact ⟨hb.2, hb.1⟩
    have HP0 : Hid (putL ss h = (if fndS ss h = true then ss else if okH 1 (mk h) 0 = false ∨ ss.length = 6 then ss else ss.take (kS ss h) ++ [h] ++ ss.drop (kS ss h)) ∧ putB ss h = (if fndS ss h = true then true else if okH 1 (mk h) 0 = false ∨ ss.length = 6 then false else true)) := by
      have hne : ¬ sureB ss = false := by rw [hb]; decide
      unfold putL putB
      exact ⟨if_neg hne, if_neg hne⟩
    clear hb
    have k0 := HA1.out.cell 0
    simp only [List.getElem?_toArray, List.getElem?_cons_zero] at k0
    go_wp2_with fail
    refine (CC.out _ HB1.out).mono ?_
    rintro e W2 ⟨a2, c2, rfl, o2, d2⟩
    have hsz : w.heap.size + 2 ≤ W1.heap.size := by have := HR1.out.lt; omega
    obtain ⟨V3, hV3⟩ : ∃ V, V = W2.alloc (.cells #[.slice a2 n c2] 27) := ⟨_, rfl⟩
    have D3 : Hid (Below W1.heap.size W1 V3) := by show Below _ _ _; rw [hV3]; exact d2.alloc d2.size _
    have O3 : Hid (OwnS (w.heap.size + 2) (.slice a2 n c2) ss V3) := by show OwnS _ _ _ _; rw [hV3]; exact (o2.base (by omega)).later ((Below.refl _ W2).alloc (Nat.le_refl _) _)
    have G3 : Hid (Blk W2.heap.size #[.slice a2 n c2] 27 V3) := by show Blk _ _ _ _; rw [hV3]; exact Blk.new W2 _ _
    have HB3 : Hid (Below w.heap.size w V3) := HB1.out.trans (D3.out.mono HB1.out.size)
    have HR3 : Hid (Blk (w.heap.size + 1) #[.slice none 0 0] 27 V3) := HR1.out.below D3.out HR1.out.lt
    have HLT : Hid (w.heap.size + 2 ≤ W2.heap.size) := by have := d2.size; show _ ≤ _; omega
    clear o2 d2 D3 HB1 HA1 HR1 CC k0 hsz
    go_upto_region 4 with fail
    rw [← hV3]
    clear hV3
    generalize W2.heap.size = g6 at *
    have k0 := G3.out.cell 0
    simp only [List.getElem?_toArray, List.getElem?_cons_zero] at k0
    have CS : Hid (Calls Tryd.prog 20 #[.slice a2 n c2, .string x] V3 fun e w' => e = .returned (.tuple #[.int .i64 (kS ss h), .bool (fndS ss h)]) ∧ ∃ q, w' = V3.drewN q) := by
      show Calls _ _ _ _ _
      rw [← HX.out]
      exact searchOwn _ _ ss h V3 O3.out HOK.out.1 (by have := HOK.out.2; omega)
    go_wp2_with fail
    refine CS.out.mono ?_
    rintro e W4 ⟨rfl, q, hW4⟩
    have D4 : Hid (Below V3.heap.size V3 W4) := by show Below _ _ _; rw [hW4]; exact below_drewN (Below.refl _ _) q
    have O4 : Hid (OwnS (w.heap.size + 2) (.slice a2 n c2) ss W4) := O3.out.later D4.out
    have G4 : Hid (Blk g6 #[.slice a2 n c2] 27 W4) := G3.out.below D4.out G3.out.lt
    have HB4 : Hid (Below w.heap.size w W4) := HB3.out.trans (D4.out.mono HB3.out.size)
    have HR4 : Hid (Blk (w.heap.size + 1) #[.slice none 0 0] 27 W4) := HR3.out.below D4.out HR3.out.lt
    clear hW4 D4 O3 G3 HB3 HR3 CS k0
    cases hf : fndS ss h with
    | true =>
      have HP : Hid (putL ss h = ss ∧ putB ss h = true) := ⟨HP0.out.1.trans (if_pos hf), HP0.out.2.trans (if_pos hf)⟩
      clear HP0
      have r0 := HR4.out.cell 0
      have rf := HR4.out.free 0
      simp only [List.getElem?_toArray, List.getElem?_cons_zero] at r0
      have k0 := G4.out.cell 0
      simp only [List.getElem?_toArray, List.getElem?_cons_zero] at k0
      have HFIN : Hid (OwnS (w.heap.size + 2) (.slice a2 n c2) ss (W4.setCell ⟨w.heap.size + 1, 0, none⟩ (.slice a2 n c2)) ∧ Below w.heap.size w (W4.setCell ⟨w.heap.size + 1, 0, none⟩ (.slice a2 n c2))) := ⟨O4.out.off1 HR4.out (by decide) 0 _, HB4.out.setCell (p := ⟨w.heap.size + 1, 0, none⟩) (by show w.heap.size ≤ w.heap.size + 1; omega) _⟩
      go_wp2
      refine bodyPost_ret (v := .tuple #[.agg #[(.slice a2 n c2)], .bool true]) (by simp [results, Tryd.results11, go_sem, r0]) rfl ⟨_, by rw [HP.out.2], by rw [HP.out.1]; exact HFIN.out.1, HFIN.out.2⟩
    | false =>
      have HP1 : Hid (putL ss h = (if okH 1 (mk h) 0 = false ∨ ss.length = 6 then ss else ss.take (kS ss h) ++ [h] ++ ss.drop (kS ss h)) ∧ putB ss h = (if okH 1 (mk h) 0 = false ∨ ss.length = 6 then false else true)) := by
        have h9 := HP0.out
        have hne : ¬ fndS ss h = true := by rw [hf]; decide
        exact ⟨h9.1.trans (if_neg hne), h9.2.trans (if_neg hne)⟩
      clear HP0 hf
      have k0 := G4.out.cell 0
      simp only [List.getElem?_toArray, List.getElem?_cons_zero] at k0
      go_wp2_with fail
      refine (CI.out _ HB4.out).mono ?_
      rintro e W5 ⟨rfl, d5⟩
      have O5 : Hid (OwnS (w.heap.size + 2) (.slice a2 n c2) ss W5) := O4.out.later d5
      have G5 : Hid (Blk g6 #[.slice a2 n c2] 27 W5) := G4.out.below d5 G4.out.lt
      have HB5 : Hid (Below w.heap.size w W5) := HB4.out.trans (d5.mono HB4.out.size)
      have HR5 : Hid (Blk (w.heap.size + 1) #[.slice none 0 0] 27 W5) := HR4.out.below d5 HR4.out.lt
      clear d5 O4 G4 HB4 HR4 CI k0
      have HXX : Hid (okH 1 x 0 = okH 1 (mk h) 0) := by show _ = _; rw [HX.out]
      cases ho : okH 1 x 0 with
      | false =>
        have HP : Hid (putL ss h = ss ∧ putB ss h = false) := ⟨HP1.out.1.trans (if_pos (.inl (by rw [← HXX.out]; exact ho))), HP1.out.2.trans (if_pos (.inl (by rw [← HXX.out]; exact ho)))⟩
        clear HP1 HXX
        have r0 := HR5.out.cell 0
        have rf := HR5.out.free 0
        simp only [List.getElem?_toArray, List.getElem?_cons_zero] at r0
        have k0 := G5.out.cell 0
        simp only [List.getElem?_toArray, List.getElem?_cons_zero] at k0
        have HFIN : Hid (OwnS (w.heap.size + 2) (.slice a2 n c2) ss (W5.setCell ⟨w.heap.size + 1, 0, none⟩ (.slice a2 n c2)) ∧ Below w.heap.size w (W5.setCell ⟨w.heap.size + 1, 0, none⟩ (.slice a2 n c2))) := ⟨O5.out.off1 HR5.out (by decide) 0 _, HB5.out.setCell (p := ⟨w.heap.size + 1, 0, none⟩) (by show w.heap.size ≤ w.heap.size + 1; omega) _⟩
        go_wp2
        refine bodyPost_ret (v := .tuple #[.agg #[(.slice a2 n c2)], .bool false]) (by simp [results, Tryd.results11, go_sem, r0]) rfl ⟨_, by rw [HP.out.2], by rw [HP.out.1]; exact HFIN.out.1, HFIN.out.2⟩
      | true =>
        by_cases h6 : n = 6
        · have HP : Hid (putL ss h = ss ∧ putB ss h = false) := ⟨HP1.out.1.trans (if_pos (.inr (by rw [← HNN.out]; exact h6))), HP1.out.2.trans (if_pos (.inr (by rw [← HNN.out]; exact h6)))⟩
          have h6b : ((n : Int) == 6) = true := by rw [beq_iff_eq]; omega
          clear HP1 HXX h6
          have r0 := HR5.out.cell 0
          have rf := HR5.out.free 0
          simp only [List.getElem?_toArray, List.getElem?_cons_zero] at r0
          have k0 := G5.out.cell 0
          simp only [List.getElem?_toArray, List.getElem?_cons_zero] at k0
          have HFIN : Hid (OwnS (w.heap.size + 2) (.slice a2 n c2) ss (W5.setCell ⟨w.heap.size + 1, 0, none⟩ (.slice a2 n c2)) ∧ Below w.heap.size w (W5.setCell ⟨w.heap.size + 1, 0, none⟩ (.slice a2 n c2))) := ⟨O5.out.off1 HR5.out (by decide) 0 _, HB5.out.setCell (p := ⟨w.heap.size + 1, 0, none⟩) (by show w.heap.size ≤ w.heap.size + 1; omega) _⟩
          go_wp2
          refine bodyPost_ret (v := .tuple #[.agg #[(.slice a2 n c2)], .bool false]) (by simp [results, Tryd.results11, go_sem, r0]) rfl ⟨_, by rw [HP.out.2], by rw [HP.out.1]; exact HFIN.out.1, HFIN.out.2⟩
        · have HP : Hid (putL ss h = ss.take (kS ss h) ++ [h] ++ ss.drop (kS ss h) ∧ putB ss h = true) := by
            have hno : ¬ (okH 1 (mk h) 0 = false ∨ ss.length = 6) := by
              rw [← HXX.out, ho, ← HNN.out]; simp [h6]
            exact ⟨HP1.out.1.trans (if_neg hno), HP1.out.2.trans (if_neg hno)⟩
          have h6b : ((n : Int) == 6) = false := beq_eq_false_iff_ne.2 (by omega)
          clear HP1 HXX h6
          have k0 := G5.out.cell 0
          simp only [List.getElem?_toArray, List.getElem?_cons_zero] at k0
          have CIN : Hid (∀ W6, Below W5.heap.size W5 W6 → Calls Tryd.prog 21 #[.slice a2 n c2, .int .i64 (kS ss h), .slice (some ⟨W6.heap.size, 0, none⟩) 1 1] (W6.alloc (.cells #[.string x] 9)) fun e w' => ∃ a8 c8, e = .returned (.slice a8 (n + 1) c8) ∧ OwnS (w.heap.size + 2) (.slice a8 (n + 1) c8) (ss.take (kS ss h) ++ [h] ++ ss.drop (kS ss h)) w' ∧ Below (w.heap.size + 2) (W6.alloc (.cells #[.string x] 9)) w' ∧ Blk g6 #[.slice a2 n c2] 27 w') := fun W6 d => by
            have hg5 := G5.out.lt
            have hs6 := d.size
            have hg6 : Blk g6 #[.slice a2 n c2] 27 (W6.alloc (.cells #[.string x] 9)) := (G5.out.below d G5.out.lt).alloc _
            have o6 : OwnS (w.heap.size + 2) (.slice a2 n c2) ss (W6.alloc (.cells #[.string x] 9)) := (O5.out.later d).later ((Below.refl _ W6).alloc (Nat.le_refl _) _)
            have hB : w.heap.size + 2 ≤ (W6.alloc (.cells #[.string x] 9)).heap.size := by have := HLT.out; simp; omega
            have hX : Blk W6.heap.size #[.string (mk h)] 9 (W6.alloc (.cells #[.string x] 9)) := by rw [HX.out]; exact Blk.new W6 _ _
            have hgx : ∀ g m c, (Value.slice a2 n c2) = .slice (some ⟨g, 0, none⟩) m c → g ≠ W6.heap.size := fun g m c hv e => by
              rcases (O5.out.later d).2 with ⟨h1, _⟩ | ⟨g', cp, cur, h1, hb, hg, _⟩
              · rw [hv] at h1; cases h1
              · rw [hv] at h1
                simp only [Value.slice.injEq, Option.some.injEq, Addr.mk.injEq, and_true] at h1
                have := (Array.getElem?_eq_some_iff.1 hg).1
                omega
            refine (insertOwn _ _ ss h (kS ss h) W6.heap.size (W6.alloc (.cells #[.string x] 9)) o6 hB (kS_le ss h) hX hgx (by have := HOK.out.2; omega)).mono ?_
            rintro e w' ⟨v, rfl, o, dd, kp⟩
            obtain ⟨a8, c8, rfl, _⟩ := o.shape
            have hlen : (ss.take (kS ss h) ++ [h] ++ ss.drop (kS ss h)).length = n + 1 := by rw [mid_len ss h _ (kS_le ss h), HNN.out]
            rw [hlen] at o ⊢
            exact ⟨a8, c8, rfl, o, dd, (kp g6 hg6.lt (own_ne o6 hg6 (by decide))).trans hg6⟩
          clear O5
          go_wp2
          refine wp_region_held_drew (S := Sg g6 (.slice a2 n c2)) (by kernel_rfl) (by (show Sg _ _ _); exact k0) (fun hHeld => ?_)
          refine tk 0 rfl (by kernel_rfl) (fun _ _ _ h => h) (by rfl) (fun w hSw => by (try dsimp only [Sg] at hSw); go_simp; try (with_reducible rfl)) (by assumption) ?_
          simp only [Act.put, x1, x2, x3, x4, x5, x6]
          refine tk 1 rfl (by kernel_rfl) (fun _ _ _ h => h) (by rfl) (fun w hSw => by (try dsimp only [Sg] at hSw); go_simp; try (with_reducible rfl)) (by assumption) ?_
          simp only [Act.put, x1, x2, x3, x4, x5, x6]
          refine tk 2 rfl (by kernel_rfl) (fun _ _ _ h => h) (by rfl) (fun w hSw => by (try dsimp only [Sg] at hSw); go_simp; try (with_reducible rfl)) (by assumption) ?_
          simp only [Act.put, x1, x2, x3, x4, x5, x6]
          refine tk 3 rfl (by kernel_rfl) (fun _ _ _ h => h) (by rfl) (fun w hSw => by (try dsimp only [Sg] at hSw); go_simp; try (with_reducible rfl)) (by assumption) ?_
          simp only [Act.put, x1, x2, x3, x4, x5, x6]
          refine wpAnyH_ready (rs := [4]) (by kernel_rfl) (by simp) ?_
          refine AllReadyH.cons (o := _) rfl (fun K hK => ?_) AllReadyH.nil
          go_simp
          refine (CN.out _).mono ?_
          rintro e W6 ⟨rfl, d6⟩
          have D6 : Hid (Below W5.heap.size W5 W6) := ((Below.refl _ W5).drew).trans d6
          have D7 : Hid (Below W5.heap.size W5 (W6.alloc (.cells #[.string x] 9))) := D6.out.alloc D6.out.size _
          refine hK.out _ _ ((G5.out.below D6.out G5.out.lt).cell 0) (fun hHeld => ?_)
          clear hK K
          try simp only [Act.put, x1, x2, x3, x4, x5, x6]
          refine wpAnyH_ready (rs := [5]) (by kernel_rfl) (by simp) ?_
          refine AllReadyH.cons (o := _) rfl (fun K hK => ?_) AllReadyH.nil
          go_simp
          skip
          refine hK.out _ _ ((G5.out.below D7.out G5.out.lt).cell 0) (fun hHeld => ?_)
          clear hK K
          try simp only [Act.put, x1, x2, x3, x4, x5, x6]
          refine wpAnyH_ready (rs := [6]) (by kernel_rfl) (by simp) ?_
          refine AllReadyH.cons (o := _) rfl (fun K hK => ?_) AllReadyH.nil
          go_simp
          refine (CIN.out W6 D6.out).mono ?_
          rintro e W8 ⟨a8, c8, rfl, o8, d8, g8⟩
          have O8 : Hid (OwnS (w.heap.size + 2) (.slice a8 (n + 1) c8) (ss.take (kS ss h) ++ [h] ++ ss.drop (kS ss h)) W8) := o8
          have G8 : Hid (Blk g6 #[.slice a2 n c2] 27 W8) := g8
          have HB8 : Hid (Below w.heap.size w W8) := (HB5.out.trans (D7.out.mono HB5.out.size)).trans (d8.mono (by omega))
          have HR8 : Hid (Blk (w.heap.size + 1) #[.slice none 0 0] 27 W8) := (HR5.out.below D7.out HR5.out.lt).below d8 (by omega)
          clear o8 d8 g8
          have r0 := HR8.out.cell 0
          have rf := HR8.out.free 0
          simp only [List.getElem?_toArray, List.getElem?_cons_zero] at r0
          refine hK.out _ _ (G8.out.cell 0) (fun hHeld => ?_)
          clear hK K
          try simp only [Act.put, x1, x2, x3, x4, x5, x6]
          refine tk 7 rfl (by kernel_rfl) (fun _ _ _ h => h) (by rfl) (fun w hSw => by (try dsimp only [Sg] at hSw); go_simp; try (with_reducible rfl)) (by assumption) ?_
          simp only [Act.put, x1, x2, x3, x4, x5, x6]
          refine wpAnyH_ready (rs := [8]) (by kernel_rfl) (by simp) ?_
          refine AllReadyH.cons (o := _) rfl (fun K hK => ?_) AllReadyH.nil
          go_simp
          skip
          refine hK.out _ _ ((Blk.else1 G8.out (w.heap.size + 1) 0 _ (by have := HLT.out; omega)).cell 0) (fun hHeld => ?_)
          clear hK K
          try simp only [Act.put, x1, x2, x3, x4, x5, x6]
          refine tk 9 rfl (by kernel_rfl) (fun _ _ _ h => h) (by rfl) (fun w hSw => by (try dsimp only [Sg] at hSw); go_simp; try (with_reducible rfl)) (by assumption) ?_
          simp only [Act.put, x1, x2, x3, x4, x5, x6]
          refine wpAnyH_done (by kernel_rfl) ?_ _
          have HFIN : Hid (OwnS (w.heap.size + 2) (.slice a8 (n + 1) c8) (ss.take (kS ss h) ++ [h] ++ ss.drop (kS ss h)) (W8.setCell ⟨w.heap.size + 1, 0, none⟩ (.slice a8 (n + 1) c8)) ∧ Below w.heap.size w (W8.setCell ⟨w.heap.size + 1, 0, none⟩ (.slice a8 (n + 1) c8))) := ⟨O8.out.off1 HR8.out (by decide) 0 _, HB8.out.setCell (p := ⟨w.heap.size + 1, 0, none⟩) (by show w.heap.size ≤ w.heap.size + 1; omega) _⟩
          go_wp2
          refine bodyPost_ret (v := .tuple #[.agg #[(.slice a8 (n + 1) c8)], .bool true]) (by simp [results, Tryd.results11, go_sem, r0]) rfl ⟨_, by rw [HP.out.2], by rw [HP.out.1]; exact HFIN.out.1, HFIN.out.2⟩
end Go.Proofs.YtbogjajfbchdjaaDoor
