/- spec.SurePut: a host is put among others. -/
import Derived.Test.YtbogjajfbchdjaaDoorSurD
import Derived.Test.YtbogjajfbchdjaaDoorSurS
import Derived.Test.YtbogjajfbchdjaaDoorNmhS
set_option linter.unusedVariables false
set_option linter.unusedSimpArgs false
namespace Go.Proofs.YtbogjajfbchdjaaDoor
open Go.RowKit Go.Shelf

/-- An append of texts that lie elsewhere onto a slice that the call owns. -/
theorem wpAppStrs {ops : Array Oper} {rest : List Oper} {o : Oper} {a : Act} {Q : Exit → Act → World → Prop} (w0 : World) (hgd : o.guard = none) (s x : Operand)
    (ho : o.op = .call { callee := .builtin .append, args := #[s, x], argTypes := #[22, 22] })
    (B : Nat) (v : Value) (ps qs : List (List UInt8)) (hI : OwnS B v ps w0) (hs : a.eval s = v) (b off m : Nat)
    (hx : a.eval x = .slice (some ⟨b, off, none⟩) qs.length m) (hq : ∀ j (h : j < qs.length), w0.cell? ⟨b, off + j, none⟩ = some (.string (mk qs[j]))) (hlen : ps.length + qs.length ≤ 1000000000000) (hB : B ≤ w0.heap.size)
    (h : ∀ v' w', OwnS B v' (ps ++ qs) w' → Below B w0 w' → wpList Tryd.prog ops Q rest (a.put o.dst v') w') : wpList Tryd.prog ops Q (o :: rest) a w0 := by
  obtain ⟨i0, hi, hz0, hz1, hz2⟩ := info_parts infoStr
  refine wpList_append_own _ hgd s x 22 ho B 9 i0 (.string ⟨#[]⟩) 1 16 Tryd.underlying22 hi hz0 hz1 hz2 rfl (by decide) v ps.length (ps.map fun p => Value.string (mk p)) hs hI ⟨b, off, none⟩ qs.length m (qs.map fun p => Value.string (mk p)) hx (by simp) ?c1 ?c2 ?c3 ?c4 ?c5 ?_
  case c1 =>
    intro j u hj
    obtain ⟨hj', hu⟩ := List.getElem?_eq_some_iff.1 hj
    have hj2 : j < qs.length := by simpa using hj'
    rw [addr_add_at, hq j hj2, ← hu]; simp
  case c2 => intro u hu; obtain ⟨p, _, rfl⟩ := List.mem_map.1 hu; rfl
  case c3 => unfold maxLen; omega
  case c4 => omega
  case c5 => exact hB
  intro v' w1 hown hgrow _
  refine h v' w1 ?_ ?_
  · unfold OwnS; rw [List.map_append, List.length_append]; exact hown
  · exact (Below.refl B w0).grown hgrow hB (fun k hk => (World.ownsRow.lt hI k hk).1)

theorem strs_of {B n c : Nat} {a : Option Addr} {ps : List (List UInt8)} {w : World} (h : OwnS B (.slice a n c) ps w) : StrsOf a ps.length ps w := by
  obtain ⟨a1, c1, h1, h2, s1⟩ := h.strs
  injection h1 with e1 e2 e3
  rw [← e1] at s1
  exact s1
theorem stepApp {ops : Array Oper} {o : Oper} {a : Act} {K : Act → World → Prop} {Q : Exit → Act → World → Prop} {E : Prop} (w0 : World) (hgd : o.guard = none) (s x : Operand)
    (ho : o.op = .call { callee := .builtin .append, args := #[s, x], argTypes := #[22, 22] })
    (B : Nat) (v : Value) (ps qs : List (List UInt8)) (hI : OwnS B v ps w0) (hs : a.eval s = v) (b off m n : Nat) (hn : n = qs.length)
    (hx : a.eval x = .slice (some ⟨b, off, none⟩) n m) (hq : ∀ j (h : j < qs.length), w0.cell? ⟨b, off + j, none⟩ = some (.string (mk qs[j]))) (hlen : ps.length + qs.length ≤ 1000000000000) (hB : B ≤ w0.heap.size)
    (h : ∀ v' w', OwnS B v' (ps ++ qs) w' → Below B w0 w' → (∀ j, j < w0.heap.size → some j ≠ v.ownBlock → w'.heap[j]? = w0.heap[j]?) → K (a.put o.dst v') w') : if Region.wanted o (yielded ops a.tmps) = true then Oper.wp Tryd.prog o a w0 K Q else E := by
  have hw : Region.wanted o (yielded ops a.tmps) = true := by simp [Region.wanted, hgd]
  rw [if_pos hw]
  subst hn
  obtain ⟨i0, hi, hz0, hz1, hz2⟩ := info_parts infoStr
  refine wp_append_own _ s x 22 ho B 9 i0 (.string ⟨#[]⟩) 1 16 Tryd.underlying22 hi hz0 hz1 hz2 rfl (by decide) v ps.length (ps.map fun p => Value.string (mk p)) hs hI ⟨b, off, none⟩ qs.length m (qs.map fun p => Value.string (mk p)) hx (by simp) ?c1 ?c2 ?c3 ?c4 hB ?_
  case c1 =>
    intro j u hj
    obtain ⟨hj', hu⟩ := List.getElem?_eq_some_iff.1 hj
    have hj2 : j < qs.length := by simpa using hj'
    rw [addr_add_at, hq j hj2, ← hu]; simp
  case c2 => intro u hu; obtain ⟨p, _, rfl⟩ := List.mem_map.1 hu; rfl
  case c3 => unfold maxLen; omega
  case c4 => omega
  intro v' w1 hown hgrow _
  refine h v' w1 ?_ ?_ ?_
  · unfold OwnS; rw [List.map_append, List.length_append]; exact hown
  · exact (Below.refl B w0).grown hgrow hB (fun k hk => (World.ownsRow.lt hI k hk).1)
  · exact fun j hj hne => hgrow.block j hj hne
theorem cells_of {b off n : Nat} {ps : List (List UInt8)} {w : World} (h : StrsOf (some ⟨b, off, none⟩) n ps w) : ∀ j (hj : j < ps.length), w.cell? ⟨b, off + j, none⟩ = some (.string (mk ps[j])) := fun j hj => by
  obtain ⟨b2, off2, z, e, hz, hm, _⟩ := h.at j hj
  injection e with e1
  injection e1 with e2 e3
  rw [e2, e3, hz, hm]
theorem cells_take {b off : Nat} {ps : List (List UInt8)} {w : World} (h : ∀ j (hj : j < ps.length), w.cell? ⟨b, off + j, none⟩ = some (.string (mk ps[j]))) (k : Nat) : ∀ j (hj : j < (ps.take k).length), w.cell? ⟨b, off + j, none⟩ = some (.string (mk (ps.take k)[j])) := fun j hj => by
  rw [List.length_take] at hj
  rw [h j (by omega), List.getElem_take]
theorem cells_drop {b off : Nat} {ps : List (List UInt8)} {w : World} (h : ∀ j (hj : j < ps.length), w.cell? ⟨b, off + j, none⟩ = some (.string (mk ps[j]))) (k : Nat) : ∀ j (hj : j < (ps.drop k).length), w.cell? ⟨b, off + k + j, none⟩ = some (.string (mk (ps.drop k)[j])) := fun j hj => by
  rw [List.length_drop] at hj
  rw [Nat.add_assoc, h (k + j) (by omega), List.getElem_drop]
theorem one_h {gx : Nat} {h : List UInt8} {w : World} (hX : Blk gx #[.string (mk h)] 9 w) : ∀ j (hj : j < [h].length), w.cell? ⟨gx, 0 + j, none⟩ = some (.string (mk [h][j])) := fun j hj => by
  obtain rfl : j = 0 := by simpa using hj
  exact hX.cell 0
def AllC (a : Option Addr) (ps : List (List UInt8)) (w : World) : Prop := (a = none → ps = []) ∧ ∀ p, a = some p → ∀ j (hj : j < ps.length), w.cell? (p.add j) = some (.string (mk ps[j]))
theorem allC_of {a : Option Addr} {ps : List (List UInt8)} {n : Nat} {w : World} (h : StrsOf a n ps w) : AllC a ps w := by
  rcases h.2 with e | ⟨b, off, ha, hc⟩
  · subst e; exact ⟨fun _ => rfl, fun _ _ j hj => absurd hj (by simp)⟩
  · refine ⟨fun e => (by rw [ha] at e; cases e), fun p hp j hj => ?_⟩
    rw [ha] at hp
    injection hp with hp
    subst hp
    rw [addr_add_at]; exact hc j hj
theorem AllC.take {a : Option Addr} {ps : List (List UInt8)} {w : World} (h : AllC a ps w) (k : Nat) : AllC a (ps.take k) w := by
  refine ⟨fun e => (by rw [h.1 e, List.take_nil]), fun p hp j hj => ?_⟩
  rw [List.length_take] at hj
  rw [h.2 p hp j (by omega), List.getElem_take]
theorem allC_drop {a : Option Addr} {ps : List (List UInt8)} {w : World} {k : Nat} (h : ps.length ≤ k) : AllC a (ps.drop k) w := by
  rw [List.drop_eq_nil_of_le h]
  exact ⟨fun _ => rfl, fun _ _ j hj => absurd hj (by simp)⟩
theorem run_append_none {P : Program} (w : World) (t ty e : TypeId) (i : TypeInfo) (ht : P.underlying t = some (.slice e)) (hi : P.info? e = some i) (a : Option Addr) (n c m : Nat) (hc : n ≤ c) :
    (Builtin.append_ #[t, t] ty #[.slice a n c, .slice none 0 m]).run P w = .ok (.slice a n c) w := by
  cases a <;> simp [Builtin.append_, run_underlying ht, sizeOf, typeInfo, hi, Builtin.lenOf, Builtin.firstCells, loadCells, hc, storeCells]
theorem stepAppA {ops : Array Oper} {o : Oper} {a : Act} {K : Act → World → Prop} {Q : Exit → Act → World → Prop} {E : Prop} (w0 : World) (hgd : o.guard = none) (s x : Operand)
    (ho : o.op = .call { callee := .builtin .append, args := #[s, x], argTypes := #[22, 22] })
    (B : Nat) (v : Value) (ps qs : List (List UInt8)) (hI : OwnS B v ps w0) (hs : a.eval s = v) (ax : Option Addr) (m n : Nat) (hn : n = qs.length)
    (hx : a.eval x = .slice ax n m) (hq : AllC ax qs w0) (hlen : ps.length + qs.length ≤ 1000000000000) (hB : B ≤ w0.heap.size)
    (h : ∀ v' w', OwnS B v' (ps ++ qs) w' → Below B w0 w' → (∀ j, j < w0.heap.size → some j ≠ v.ownBlock → w'.heap[j]? = w0.heap[j]?) → K (a.put o.dst v') w') : if Region.wanted o (yielded ops a.tmps) = true then Oper.wp Tryd.prog o a w0 K Q else E := by
  have hw : Region.wanted o (yielded ops a.tmps) = true := by simp [Region.wanted, hgd]
  rw [if_pos hw]
  subst hn
  obtain ⟨i0, hi, hz0, hz1, hz2⟩ := info_parts infoStr
  match ax, hq, hx with
  | none, hq, hx =>
    have hqs : qs = [] := hq.1 rfl
    subst hqs
    obtain ⟨a1, c1, rfl, hc1⟩ := hI.shape
    unfold Oper.wp execOp
    have hr := run_append_none (P := Tryd.prog) w0 22 o.type 9 i0 Tryd.underlying22 hi a1 ps.length c1 m hc1
    simp only [ho, resolve, invoke, builtin, Sem.run_bind, Sem.run_pure, Result.andThen_ok, List.map_toArray, List.map_cons, List.map_nil, hs, hx, List.length_nil, hr]
    exact h _ _ (by rw [List.append_nil]; exact hI) (Below.refl _ _) (fun _ _ _ => rfl)
  | some p, hq, hx =>
    refine wp_append_own _ s x 22 ho B 9 i0 (.string ⟨#[]⟩) 1 16 Tryd.underlying22 hi hz0 hz1 hz2 rfl (by decide) v ps.length (ps.map fun p => Value.string (mk p)) hs hI p qs.length m (qs.map fun p => Value.string (mk p)) hx (by simp) ?c1 ?c2 ?c3 ?c4 hB ?_
    case c1 =>
      intro j u hj
      obtain ⟨hj', hu⟩ := List.getElem?_eq_some_iff.1 hj
      have hj2 : j < qs.length := by simpa using hj'
      rw [hq.2 p rfl j hj2, ← hu]; simp
    case c2 => intro u hu; obtain ⟨p, _, rfl⟩ := List.mem_map.1 hu; rfl
    case c3 => unfold maxLen; omega
    case c4 => omega
    intro v' w1 hown hgrow _
    refine h v' w1 ?_ ?_ ?_
    · unfold OwnS; rw [List.map_append, List.length_append]; exact hown
    · exact (Below.refl B w0).grown hgrow hB (fun k hk => (World.ownsRow.lt hI k hk).1)
    · exact fun j hj hne => hgrow.block j hj hne
theorem kS_eq (ss : List (List UInt8)) (h : List UInt8) (k : Nat) (hk : k ≤ ss.length) (h1 : ∀ j, j < k → Op.bytesLess (ss.getD j h) h = true) (h2 : Op.bytesLess (ss.getD k h) h = false) : kS ss h = k := by
  rcases Nat.lt_trichotomy (kS ss h) k with c | c | c
  · have := kS_stop ss h
    rw [h1 _ c] at this; cases this
  · exact c
  · have := kS_lt ss h k c
    rw [h2] at this; cases this
set_option maxHeartbeats 8000000 in
set_option maxRecDepth 100000 in
theorem specSurePut (b off len cap : Nat) (ss : List (List UInt8)) (h : List UInt8) (w : World) (hs : StrsOf (some ⟨b, off, none⟩) len ss w) (hq : ∀ j (hj : j < ss.length), w.cell? ⟨b, off + j, none⟩ = some (.string (mk ss[j]))) (hl : ss.length + tot ss ≤ 1048576) (hh : h.length ≤ 1048576) :
    Calls Tryd.prog 10 #[.agg #[.slice (some ⟨b, off, none⟩) len cap], .string (mk h)] w fun e w' => ∃ v, e = .returned (.tuple #[.agg #[v], .bool (putB ss h)]) ∧ OwnS (w.heap.size + 2) v (putL ss h) w' ∧ Below w.heap.size w w' := by
  obtain ⟨V, hV⟩ : ∃ V, V = ((w.alloc (.cells #[.slice (some ⟨b, off, none⟩) len cap] 27)).alloc (.cells #[.slice none 0 0] 27)) := ⟨_, rfl⟩
  have HB0 : Hid (Below w.heap.size w V) := by show Below _ _ _; rw [hV]; exact ((Below.refl _ w).alloc (Nat.le_refl _) _).alloc (by simp) _
  have HA0 : Hid (Blk w.heap.size #[.slice (some ⟨b, off, none⟩) len cap] 27 V) := by show Blk _ _ _ _; rw [hV]; exact (Blk.new w _ _).alloc _
  have HR0 : Hid (Blk (w.heap.size + 1) #[.slice none 0 0] 27 V) := by
    show Blk _ _ _ _
    have := Blk.new (w.alloc (.cells #[.slice (some ⟨b, off, none⟩) len cap] 27)) #[.slice none 0 0] 27
    rw [hV]; simpa using this
  have CK : Hid (∀ W, Below w.heap.size w W → Calls Tryd.prog 6 #[.agg #[.slice (some ⟨b, off, none⟩) len cap]] W fun e w' => e = .returned (.bool (sureB ss)) ∧ Below W.heap.size W w') := fun W d => specSureOk (some ⟨b, off, none⟩) len cap ss W (hs.later d) hl
  have CI : Hid (∀ W, Calls Tryd.prog 15 #[.string (mk h)] W fun e w' => e = .returned (.bool (okH 1 (mk h) 0)) ∧ Below W.heap.size W w') := fun W => l7Name (mk h) W (by rw [mk_size]; exact hh)
  have HQ : Hid (∀ W, Below w.heap.size w W → ∀ j (hj : j < ss.length), W.cell? ⟨b, off + j, none⟩ = some (.string (mk ss[j]))) := fun W d j hj => (d.cell (p := ⟨b, off + j, none⟩) (cell_in (hq j hj))).trans (hq j hj)
  have HLEN : Hid (len = ss.length) := hs.1
  clear hs hq hl hh
  generalize hx : (mk h : ByteArray) = x at *
  have HX : Hid (mk h = x) := hx
  clear hx
  go_enter Tryd.func10, Tryd.ntmps10
  go_upto_region 1 with fail
  rw [← hV]
  clear hV
  have k0 := HA0.out.cell 0
  simp only [List.getElem?_toArray, List.getElem?_cons_zero] at k0
  go_wp2_with fail
  refine (CK.out _ HB0.out).mono ?_
  rintro e W1 ⟨rfl, d1⟩
  have HB1 : Hid (Below w.heap.size w W1) := HB0.out.trans (d1.mono HB0.out.size)
  have HA1 : Hid (Blk w.heap.size #[.slice (some ⟨b, off, none⟩) len cap] 27 W1) := HA0.out.below d1 HA0.out.lt
  have HR1 : Hid (Blk (w.heap.size + 1) #[.slice none 0 0] 27 W1) := HR0.out.below d1 HR0.out.lt
  clear d1 HB0 HA0 HR0 CK k0
  cases hb : sureB ss with
  | false =>
    have HP : Hid (putL ss h = [] ∧ putB ss h = false) := by unfold putL putB; rw [if_pos hb, if_pos hb]; exact ⟨rfl, rfl⟩
    have r0 := HR1.out.cell 0
    have rf := HR1.out.free 0
    simp only [List.getElem?_toArray, List.getElem?_cons_zero] at r0
    have HFIN : Hid (OwnS (w.heap.size + 2) (.slice none 0 0) [] (W1.setCell ⟨w.heap.size + 1, 0, none⟩ (.slice none 0 0)) ∧ Below w.heap.size w (W1.setCell ⟨w.heap.size + 1, 0, none⟩ (.slice none 0 0))) := ⟨ownS_nil _ _, HB1.out.setCell (p := ⟨w.heap.size + 1, 0, none⟩) (by show w.heap.size ≤ w.heap.size + 1; omega) _⟩
    go_wp2
    refine bodyPost_ret (v := .tuple #[.agg #[(.slice none 0 0)], .bool false]) (by simp [results, Tryd.results10, go_sem, r0]) rfl ⟨_, by rw [HP.out.2], by rw [HP.out.1]; exact HFIN.out.1, HFIN.out.2⟩
  | true =>
    have HOK : Hid (sureAll ss = true ∧ ss.length ≤ 6) := by
      unfold sureB at hb
      simp only [Bool.and_eq_true, decide_eq_true_eq] at hb
      exact ⟨hb.2, hb.1⟩
    have HP0 : Hid (putL ss h = (if fndS ss h = true then ss else if okH 1 (mk h) 0 = false ∨ ss.length = 6 then ss else ss.take (kS ss h) ++ [h] ++ ss.drop (kS ss h)) ∧ putB ss h = (if fndS ss h = true then true else if okH 1 (mk h) 0 = false ∨ ss.length = 6 then false else true)) := by
      have hne : ¬ sureB ss = false := by rw [hb]; decide
      unfold putL putB
      exact ⟨if_neg hne, if_neg hne⟩
    clear hb
    have HSZ : Hid (w.heap.size + 2 ≤ W1.heap.size) := by have := HR1.out.lt; show _ ≤ _; omega
    have k0 := HA1.out.cell 0
    simp only [List.getElem?_toArray, List.getElem?_cons_zero] at k0
    go_wp2
    go_loopw [6] (fun i wr => ∃ k : Nat, k ≤ len ∧ i = .int .i64 k ∧ Hid (∀ j, j < k → Op.bytesLess (ss.getD j h) h = true) ∧ Hid (Below W1.heap.size W1 wr)) (fun i wr => len - (intOf i).toNat)
    case atStart => exact ⟨0, Nat.zero_le _, rfl, fun j hj => absurd hj (by omega), Below.refl _ _⟩
    case round =>
      obtain ⟨k, hk, rfl, HJ, HBW⟩ := hrel
      clear k0
      have hA2 := HA1.out.below HBW.out HA1.out.lt
      have k0 := hA2.cell 0
      simp only [List.getElem?_toArray, List.getElem?_cons_zero] at k0
      clear hA2
      have hlb : (len : Int) ≤ 6 := by have h1 := HOK.out.2; have h2 := HLEN.out; omega
      by_cases hp : k < len
      · have hki : (k : Int) < (len : Int) := by omega
        have hpl : k < ss.length := by have := HLEN.out; omega
        obtain ⟨z, hzd⟩ : ∃ z, z = mk ss[k] := ⟨_, rfl⟩
        have HZ : Hid (z = mk ss[k]) := hzd
        have hz : wr.cell? ⟨b, off + k, none⟩ = some (.string z) := by rw [hzd]; exact HQ.out wr (HB1.out.trans (HBW.out.mono HB1.out.size)) k hpl
        have HG : Hid (ss.getD k h = ss[k]) := by show _ = _; simp [List.getD, List.getElem?_eq_getElem hpl]
        clear hzd
        cases hle : Op.bytesLess z.toList x.toList with
        | true =>
          have HJ2 : Hid (∀ j, j < k + 1 → Op.bytesLess (ss.getD j h) h = true) := fun j hj => by
            rcases Nat.lt_succ_iff_lt_or_eq.1 hj with c | c
            · exact HJ.out j c
            · subst c
              rw [HG.out]
              rw [HZ.out, ← HX.out, mk_toList, mk_toList] at hle
              exact hle
          clear HZ HG
          go_wp2
          go_roundw
          case rel => exact ⟨k + 1, by omega, by go_num, HJ2.out, HBW.out⟩
          case measure => simp [intOf]; omega
        | false =>
          have HK : Hid (kS ss h = k) := kS_eq ss h k (by omega) HJ.out (by rw [HG.out]; rw [HZ.out, ← HX.out, mk_toList, mk_toList] at hle; exact hle)
          clear HZ HG HJ
          have HO0 : Hid (OwnS (w.heap.size + 2) (.slice (some ⟨wr.heap.size, 0, none⟩) 0 0) [] (wr.alloc (.cells #[] 9))) := ownS_new wr _ (by have := HBW.out.size; have := HSZ.out; omega)
          have HQ6 : Hid (∀ j (hj : j < ss.length), (wr.alloc (.cells #[] 9)).cell? ⟨b, off + j, none⟩ = some (.string (mk ss[j]))) := fun j hj => HQ.out _ ((HB1.out.trans (HBW.out.mono HB1.out.size)).alloc (by have := HBW.out.size; have := HB1.out.size; omega) _) j hj
          have HBB : Hid (w.heap.size + 2 ≤ (wr.alloc (.cells #[] 9)).heap.size) := by show _ ≤ _; simp; have := HBW.out.size; have := HSZ.out; omega
          have HLL : Hid (([] : List (List UInt8)).length + ss.length ≤ 1000000000000) := by show _ ≤ _; have := HOK.out.2; simp; omega
          have k0a : (wr.alloc (.cells #[] 9)).cell? ⟨w.heap.size, 0, none⟩ = some (.slice (some ⟨b, off, none⟩) len cap) := by
            have := ((HA1.out.below HBW.out HA1.out.lt).alloc (.cells #[] 9)).cell 0
            simpa using this
          have HX6 : Hid ((Value.slice (some ⟨b, off, none⟩) len cap) = .slice (some ⟨b, off, none⟩) ss.length cap) := by show _ = _; rw [HLEN.out]
          go_upto_region 7 with (at_builtin; refine wpAppStrs (wr.alloc (.cells #[] 9)) rfl _ _ rfl (w.heap.size + 2) _ [] ss HO0.out rfl b off cap HX6.out HQ6.out HLL.out HBB.out ?_; intro v1 w1 R b1; rw [List.nil_append] at R; obtain ⟨a2, c2, hv2, hc2⟩ := R.shape; subst hv2; have HD1 : Hid (Below (w.heap.size + 2) W1 w1) := ((HBW.out.mono HSZ.out).alloc (by have := HBW.out.size; have := HSZ.out; omega) _).trans b1; have HR : Hid (OwnS (w.heap.size + 2) (.slice a2 ss.length c2) ss w1) := R; clear R b1 HO0 HQ6 HBB HLL k0a HX6 HBW)
          have HB6 : Hid (Below w.heap.size w w1) := HB1.out.trans (HD1.out.mono (by omega))
          have HR6 : Hid (Blk (w.heap.size + 1) #[.slice none 0 0] 27 w1) := HR1.out.below HD1.out (by omega)
          have hl6 : (ss.length : Int) ≤ 6 := by have h1 := HOK.out.2; omega
          cases hf : fndS ss h with
          | true =>
            have HP : Hid (putL ss h = ss ∧ putB ss h = true) := ⟨HP0.out.1.trans (if_pos hf), HP0.out.2.trans (if_pos hf)⟩
            have hk3 : ss[k]? = some h := by unfold fndS at hf; rw [HK.out] at hf; exact of_decide_eq_true hf
            obtain ⟨hk4, hk5⟩ := List.getElem?_eq_some_iff.1 hk3
            obtain ⟨b2, off2, z2, rfl, hz2, hzm2, _⟩ := (strs_of HR.out).at k hk4
            have hzx : (z2.toList == x.toList) = true := by rw [hzm2, hk5, HX.out]; exact beq_self_eq_true _
            have hki4 : (k : Int) < (ss.length : Int) := by omega
            clear hzm2 hk3 hk5 hf HP0 HK
            have r0 := HR6.out.cell 0
            have rf := HR6.out.free 0
            simp only [List.getElem?_toArray, List.getElem?_cons_zero] at r0
            have HFIN : Hid (OwnS (w.heap.size + 2) (.slice (some ⟨b2, off2, none⟩) ss.length c2) ss (w1.setCell ⟨w.heap.size + 1, 0, none⟩ (.slice (some ⟨b2, off2, none⟩) ss.length c2)) ∧ Below w.heap.size w (w1.setCell ⟨w.heap.size + 1, 0, none⟩ (.slice (some ⟨b2, off2, none⟩) ss.length c2))) := ⟨HR.out.off1 HR6.out (by decide) 0 _, HB6.out.setCell (p := ⟨w.heap.size + 1, 0, none⟩) (by show w.heap.size ≤ w.heap.size + 1; omega) _⟩
            clear HR
            go_wp2
            refine bodyPost_ret (v := .tuple #[.agg #[(.slice (some ⟨b2, off2, none⟩) ss.length c2)], .bool true]) (by simp [results, Tryd.results10, go_sem, r0]) rfl ⟨_, by rw [HP.out.2], by rw [HP.out.1]; exact HFIN.out.1, HFIN.out.2⟩
          | false =>
            have HP1 : Hid (putL ss h = (if okH 1 (mk h) 0 = false ∨ ss.length = 6 then ss else ss.take (kS ss h) ++ [h] ++ ss.drop (kS ss h)) ∧ putB ss h = (if okH 1 (mk h) 0 = false ∨ ss.length = 6 then false else true)) := by
              have h9 := HP0.out
              have hne : ¬ fndS ss h = true := by rw [hf]; decide
              exact ⟨h9.1.trans (if_neg hne), h9.2.trans (if_neg hne)⟩
            have hk4 : k < ss.length := by have := HLEN.out; omega
            obtain ⟨b2, off2, z2, rfl, hz2, hzm2, _⟩ := (strs_of HR.out).at k hk4
            have hzx : (z2.toList == x.toList) = false := by
              rw [beq_eq_false_iff_ne]
              intro e
              rw [hzm2, ← HX.out, mk_toList, mk_toList] at e
              unfold fndS at hf
              rw [HK.out, List.getElem?_eq_getElem hk4, e] at hf
              simp at hf
            have hki4 : (k : Int) < (ss.length : Int) := by omega
            clear hzm2
            clear hf HP0
            have HXX : Hid (okH 1 x 0 = okH 1 (mk h) 0) := by show _ = _; rw [HX.out]
            go_wp2_with fail
            refine (CI.out _).mono ?_
            rintro e W5 ⟨rfl, d5⟩
            have O7 : Hid (OwnS (w.heap.size + 2) (.slice (some ⟨b2, off2, none⟩) ss.length c2) ss W5) := HR.out.later d5
            have HB7 : Hid (Below w.heap.size w W5) := HB6.out.trans (d5.mono HB6.out.size)
            have HR7 : Hid (Blk (w.heap.size + 1) #[.slice none 0 0] 27 W5) := HR6.out.below d5 HR6.out.lt
            clear d5 HR HB6 HR6
            have r0 := HR7.out.cell 0
            have rf := HR7.out.free 0
            simp only [List.getElem?_toArray, List.getElem?_cons_zero] at r0
            have HFIN : Hid (OwnS (w.heap.size + 2) (.slice (some ⟨b2, off2, none⟩) ss.length c2) ss (W5.setCell ⟨w.heap.size + 1, 0, none⟩ (.slice (some ⟨b2, off2, none⟩) ss.length c2)) ∧ Below w.heap.size w (W5.setCell ⟨w.heap.size + 1, 0, none⟩ (.slice (some ⟨b2, off2, none⟩) ss.length c2))) := ⟨O7.out.off1 HR7.out (by decide) 0 _, HB7.out.setCell (p := ⟨w.heap.size + 1, 0, none⟩) (by show w.heap.size ≤ w.heap.size + 1; omega) _⟩
            cases ho : okH 1 x 0 with
            | false =>
              have HP : Hid (putL ss h = ss ∧ putB ss h = false) := ⟨HP1.out.1.trans (if_pos (.inl (by rw [← HXX.out]; exact ho))), HP1.out.2.trans (if_pos (.inl (by rw [← HXX.out]; exact ho)))⟩
              clear HP1 HXX ho
              go_wp2
              refine bodyPost_ret (v := .tuple #[.agg #[(.slice (some ⟨b2, off2, none⟩) ss.length c2)], .bool false]) (by simp [results, Tryd.results10, go_sem, r0]) rfl ⟨_, by rw [HP.out.2], by rw [HP.out.1]; exact HFIN.out.1, HFIN.out.2⟩
            | true =>
              by_cases h6 : ss.length = 6
              · have HP : Hid (putL ss h = ss ∧ putB ss h = false) := ⟨HP1.out.1.trans (if_pos (.inr h6)), HP1.out.2.trans (if_pos (.inr h6))⟩
                have h6i : (6 : Int) ≤ (ss.length : Int) := by omega
                clear HP1 HXX h6 ho
                go_wp2
                refine bodyPost_ret (v := .tuple #[.agg #[(.slice (some ⟨b2, off2, none⟩) ss.length c2)], .bool false]) (by simp [results, Tryd.results10, go_sem, r0]) rfl ⟨_, by rw [HP.out.2], by rw [HP.out.1]; exact HFIN.out.1, HFIN.out.2⟩
              · have HP : Hid (putL ss h = ss.take k ++ [h] ++ ss.drop k ∧ putB ss h = true) := by
                  have hno : ¬ (okH 1 (mk h) 0 = false ∨ ss.length = 6) := by rw [← HXX.out, ho]; simp [h6]
                  rw [← HK.out]; exact ⟨HP1.out.1.trans (if_neg hno), HP1.out.2.trans (if_neg hno)⟩
                have h6i : ¬ ((6 : Int) ≤ (ss.length : Int)) := by have := HOK.out.2; omega
                clear HP1 HXX h6 ho HFIN
                have hkl : k ≤ ss.length := by have := HLEN.out; omega
                have hki5 : (k : Int) ≤ (ss.length : Int) := by omega
                have hki6 : (ss.length : Int) ≤ (c2 : Int) := by omega
                go_wp2
                refine wp_region_held_drew (S := (fun _ => True)) (by kernel_rfl) (trivial) (fun hHeld => ?_)
                refine tk 1 rfl (by kernel_rfl) (fun _ _ _ h => h) (by rfl) (fun w hSw => by (try dsimp only at hSw); go_simp; try (with_reducible rfl)) (by assumption) ?_
                simp only [Act.put, x1, x2, x3, x4, x5, x6]
                refine tk 2 rfl (by kernel_rfl) (fun _ _ _ h => h) (by rfl) (fun w hSw => by (try dsimp only at hSw); go_simp; try (with_reducible rfl)) (by assumption) ?_
                simp only [Act.put, x1, x2, x3, x4, x5, x6]
                refine tk 5 rfl (by kernel_rfl) (fun _ _ _ h => h) (by rfl) (fun w hSw => by (try dsimp only at hSw); go_simp; try (with_reducible rfl)) (by assumption) ?_
                simp only [Act.put, x1, x2, x3, x4, x5, x6]
                refine tk 8 rfl (by kernel_rfl) (fun _ _ _ h => h) (by rfl) (fun w hSw => by (try dsimp only at hSw); go_simp; try (with_reducible rfl)) (by assumption) ?_
                simp only [Act.put, x1, x2, x3, x4, x5, x6]
                refine tk 9 rfl (by kernel_rfl) (fun _ _ _ h => h) (by rfl) (fun w hSw => by (try dsimp only at hSw); go_simp; try (with_reducible rfl)) (by assumption) ?_
                simp only [Act.put, x1, x2, x3, x4, x5, x6]
                refine tk (v := (.slice (some ⟨b2, off2, none⟩) k c2)) 3 rfl (by kernel_rfl) (fun _ _ _ h => h) (by rfl) (fun w hSw => by (try dsimp only at hSw); go_simp; (intro hlt; omega)) (by assumption) ?_
                simp only [Act.put, x1, x2, x3, x4, x5, x6]
                refine tk (v := (.slice (some ⟨b2, off2 + k, none⟩) (ss.length - k) (c2 - k))) 10 rfl (by kernel_rfl) (fun _ _ _ h => h) (by rfl) (fun w hSw => by (try dsimp only at hSw); go_simp; (intro e; omega)) (by assumption) ?_
                simp only [Act.put, x1, x2, x3, x4, x5, x6]
                have D5 : Hid (Below W5.heap.size W5 W5.drew) := (Below.refl _ W5).drew
                refine wpAnyH_ready (rs := [0, 6]) (by kernel_rfl) (by simp) ?_
                refine AllReadyH.cons (o := _) rfl (fun K hK => ?_) (AllReadyH.cons (o := _) rfl (fun K hK => ?_) AllReadyH.nil)
                · obtain ⟨Wa, hWa⟩ : ∃ W, Hid (W = W5.drew.alloc (.cells #[] 9)) := ⟨_, rfl⟩
                  have DWa : Hid (Below W5.heap.size W5 Wa) := by show Below _ _ _; rw [hWa.out]; exact D5.out.alloc D5.out.size _
                  obtain ⟨ge, hge⟩ : ∃ g, Hid (g = W5.heap.size) := ⟨_, rfl⟩
                  have E0 : Hid (OwnS W5.heap.size (.slice (some ⟨ge, 0, none⟩) 0 0) [] Wa) := by show OwnS _ _ _ _; rw [hWa.out, hge.out]; exact ownS_new W5.drew _ D5.out.size
                  go_simp
                  rw [show (W5.alloc (.cells #[] 9)).drew = Wa from hWa.out.symm]
                  try rw [← hge.out]
                  refine hK.out _ _ trivial (fun hHeld => ?_)
                  clear hK K
                  try simp only [Act.put, x1, x2, x3, x4, x5, x6]
                  refine wpAnyH_ready (rs := [4, 6]) (by kernel_rfl) (by simp) ?_
                  refine AllReadyH.cons (o := _) rfl (fun K hK => ?_) (AllReadyH.cons (o := _) rfl (fun K hK => ?_) AllReadyH.nil)
                  · have hq4 := cells_take (cells_of (strs_of (O7.out.later DWa.out))) k
                    refine stepApp Wa rfl _ _ rfl W5.heap.size _ [] (ss.take k) E0.out rfl b2 off2 c2 k (by rw [List.length_take]; omega) rfl hq4 (by simp; omega) DWa.out.size ?_
                    intro v4 w4 R4 b4 kp4
                    have V4 : Hid (OwnS W5.heap.size v4 (ss.take k) w4) := R4
                    have D4 : Hid (Below W5.heap.size W5 w4) := DWa.out.trans b4
                    clear R4 b4 kp4
                    refine hK.out _ _ trivial (fun hHeld => ?_)
                    clear hK K
                    try simp only [Act.put, x1, x2, x3, x4, x5, x6]
                    refine wpAnyH_ready (rs := [6]) (by kernel_rfl) (by simp) ?_
                    refine AllReadyH.cons (o := _) rfl (fun K hK => ?_) AllReadyH.nil
                    obtain ⟨Wb, hWb⟩ : ∃ W, Hid (W = w4.alloc (.cells #[.string x] 9)) := ⟨_, rfl⟩
                    have DWb : Hid (Below W5.heap.size W5 Wb) := by show Below _ _ _; rw [hWb.out]; exact D4.out.alloc D4.out.size _
                    obtain ⟨gx, hgx⟩ : ∃ g, Hid (g = w4.heap.size) := ⟨_, rfl⟩
                    have X2 : Hid (Blk gx #[.string x] 9 Wb) := by show Blk _ _ _ _; rw [hWb.out, hgx.out]; exact Blk.new w4 _ _
                    have V2 : Hid (OwnS W5.heap.size v4 (ss.take k) Wb) := by show OwnS _ _ _ _; rw [hWb.out]; exact V4.out.later ((Below.refl _ w4).alloc (Nat.le_refl _) _)
                    go_simp
                    rw [← hWb.out]
                    try rw [← hgx.out]
                    refine hK.out _ _ trivial (fun hHeld => ?_)
                    clear hK K
                    try simp only [Act.put, x1, x2, x3, x4, x5, x6]
                    refine wpAnyH_ready (rs := [7]) (by kernel_rfl) (by simp) ?_
                    refine AllReadyH.cons (o := _) rfl (fun K hK => ?_) AllReadyH.nil
                    refine stepApp Wb rfl _ _ rfl W5.heap.size _ (ss.take k) [h] V2.out rfl gx 0 1 1 rfl rfl (one_h (HX.out.symm ▸ X2.out)) (by simp; omega) DWb.out.size ?_
                    intro v7 w7 R7 b7 kp7
                    have V7 : Hid (OwnS W5.heap.size v7 (ss.take k ++ [h]) w7) := R7
                    have D7 : Hid (Below W5.heap.size W5 w7) := DWb.out.trans b7
                    clear R7 b7 kp7
                    refine hK.out _ _ trivial (fun hHeld => ?_)
                    clear hK K
                    try simp only [Act.put, x1, x2, x3, x4, x5, x6]
                    refine wpAnyH_ready (rs := [11]) (by kernel_rfl) (by simp) ?_
                    refine AllReadyH.cons (o := _) rfl (fun K hK => ?_) AllReadyH.nil
                    have hq9 := cells_drop (cells_of (strs_of (O7.out.later D7.out))) k
                    refine stepApp w7 rfl _ _ rfl W5.heap.size _ (ss.take k ++ [h]) (ss.drop k) V7.out rfl b2 (off2 + k) (c2 - k) (ss.length - k) (by rw [List.length_drop]) rfl hq9 (by simp; omega) D7.out.size ?_
                    intro v9 w9 R9 b9 kp9
                    obtain ⟨a9, c9, rfl, _⟩ := R9.shape
                    have V9 : Hid (OwnS (w.heap.size + 2) (.slice a9 (ss.take k ++ [h] ++ ss.drop k).length c9) (ss.take k ++ [h] ++ ss.drop k) w9) := R9.base (by have := HR7.out.lt; omega)
                    have D9 : Hid (Below W5.heap.size W5 w9) := D7.out.trans b9
                    clear R9 b9 kp9
                    refine hK.out _ _ trivial (fun hHeld => ?_)
                    clear hK K
                    try simp only [Act.put, x1, x2, x3, x4, x5, x6]
                    have HR9 := HR7.out.below D9.out HR7.out.lt
                    have r9 := HR9.cell 0
                    have f9 := HR9.free 0
                    simp only [List.getElem?_toArray, List.getElem?_cons_zero] at r9
                    have HFIN : Hid (OwnS (w.heap.size + 2) (.slice a9 (ss.take k ++ [h] ++ ss.drop k).length c9) (ss.take k ++ [h] ++ ss.drop k) (w9.setCell ⟨w.heap.size + 1, 0, none⟩ (.slice a9 (ss.take k ++ [h] ++ ss.drop k).length c9)) ∧ Below w.heap.size w (w9.setCell ⟨w.heap.size + 1, 0, none⟩ (.slice a9 (ss.take k ++ [h] ++ ss.drop k).length c9))) := ⟨V9.out.off1 HR9 (by decide) 0 _, (HB7.out.trans (D9.out.mono HB7.out.size)).setCell (p := ⟨w.heap.size + 1, 0, none⟩) (by show w.heap.size ≤ w.heap.size + 1; omega) _⟩
                    generalize (ss.take k ++ [h] ++ ss.drop k).length = n9 at *
                    refine tk 12 rfl (by kernel_rfl) (fun _ _ _ h => h) (by rfl) (fun w hSw => by (try dsimp only at hSw); go_simp; try (with_reducible rfl)) (by assumption) ?_
                    simp only [Act.put, x1, x2, x3, x4, x5, x6]
                    refine wpAnyH_ready (rs := [13]) (by kernel_rfl) (by simp) ?_
                    refine AllReadyH.cons (o := _) rfl (fun K hK => ?_) AllReadyH.nil
                    go_simp
                    skip
                    refine hK.out _ _ (trivial) (fun hHeld => ?_)
                    clear hK K
                    try simp only [Act.put, x1, x2, x3, x4, x5, x6]
                    refine tk 14 rfl (by kernel_rfl) (fun _ _ _ h => h) (by rfl) (fun w hSw => by (try dsimp only at hSw); go_simp; try (with_reducible rfl)) (by assumption) ?_
                    simp only [Act.put, x1, x2, x3, x4, x5, x6]
                    refine wpAnyH_done (by kernel_rfl) ?_ _
                    go_wp2
                    refine bodyPost_ret (v := .tuple #[.agg #[.slice a9 n9 c9], .bool true]) (by simp [results, Tryd.results10, go_sem, r9]) rfl ⟨_, by rw [HP.out.2], by rw [HP.out.1]; exact HFIN.out.1, HFIN.out.2⟩
                  · obtain ⟨Wb, hWb⟩ : ∃ W, Hid (W = Wa.alloc (.cells #[.string x] 9)) := ⟨_, rfl⟩
                    have DWb : Hid (Below W5.heap.size W5 Wb) := by show Below _ _ _; rw [hWb.out]; exact DWa.out.alloc DWa.out.size _
                    obtain ⟨gx, hgx⟩ : ∃ g, Hid (g = Wa.heap.size) := ⟨_, rfl⟩
                    have X2 : Hid (Blk gx #[.string x] 9 Wb ∧ gx ≠ ge) := by refine ⟨by rw [hWb.out, hgx.out]; exact Blk.new Wa _ _, ?_⟩; rw [hgx.out, hge.out]; rw [hWa.out]; simp
                    have E1 : Hid (OwnS W5.heap.size (.slice (some ⟨ge, 0, none⟩) 0 0) [] Wb) := by show OwnS _ _ _ _; rw [hWb.out]; exact E0.out.later ((Below.refl _ Wa).alloc (Nat.le_refl _) _)
                    go_simp
                    rw [← hWb.out]
                    try rw [← hgx.out]
                    refine hK.out _ _ trivial (fun hHeld => ?_)
                    clear hK K
                    try simp only [Act.put, x1, x2, x3, x4, x5, x6]
                    refine wpAnyH_ready (rs := [4]) (by kernel_rfl) (by simp) ?_
                    refine AllReadyH.cons (o := _) rfl (fun K hK => ?_) AllReadyH.nil
                    have hq4 := cells_take (cells_of (strs_of (O7.out.later DWb.out))) k
                    refine stepApp Wb rfl _ _ rfl W5.heap.size _ [] (ss.take k) E1.out rfl b2 off2 c2 k (by rw [List.length_take]; omega) rfl hq4 (by simp; omega) DWb.out.size ?_
                    intro v4 w4 R4 b4 kp4
                    have V4 : Hid (OwnS W5.heap.size v4 (ss.take k) w4) := R4
                    have D4 : Hid (Below W5.heap.size W5 w4) := DWb.out.trans b4
                    have X4 : Hid (Blk gx #[.string x] 9 w4) := (kp4 gx X2.out.1.lt (by simp [Value.ownBlock]; exact X2.out.2)).trans X2.out.1
                    clear R4 b4 kp4
                    refine hK.out _ _ trivial (fun hHeld => ?_)
                    clear hK K
                    try simp only [Act.put, x1, x2, x3, x4, x5, x6]
                    refine wpAnyH_ready (rs := [7]) (by kernel_rfl) (by simp) ?_
                    refine AllReadyH.cons (o := _) rfl (fun K hK => ?_) AllReadyH.nil
                    refine stepApp w4 rfl _ _ rfl W5.heap.size _ (ss.take k) [h] V4.out rfl gx 0 1 1 rfl rfl (one_h (HX.out.symm ▸ X4.out)) (by simp; omega) D4.out.size ?_
                    intro v7 w7 R7 b7 kp7
                    have V7 : Hid (OwnS W5.heap.size v7 (ss.take k ++ [h]) w7) := R7
                    have D7 : Hid (Below W5.heap.size W5 w7) := D4.out.trans b7
                    clear R7 b7 kp7
                    refine hK.out _ _ trivial (fun hHeld => ?_)
                    clear hK K
                    try simp only [Act.put, x1, x2, x3, x4, x5, x6]
                    refine wpAnyH_ready (rs := [11]) (by kernel_rfl) (by simp) ?_
                    refine AllReadyH.cons (o := _) rfl (fun K hK => ?_) AllReadyH.nil
                    have hq9 := cells_drop (cells_of (strs_of (O7.out.later D7.out))) k
                    refine stepApp w7 rfl _ _ rfl W5.heap.size _ (ss.take k ++ [h]) (ss.drop k) V7.out rfl b2 (off2 + k) (c2 - k) (ss.length - k) (by rw [List.length_drop]) rfl hq9 (by simp; omega) D7.out.size ?_
                    intro v9 w9 R9 b9 kp9
                    obtain ⟨a9, c9, rfl, _⟩ := R9.shape
                    have V9 : Hid (OwnS (w.heap.size + 2) (.slice a9 (ss.take k ++ [h] ++ ss.drop k).length c9) (ss.take k ++ [h] ++ ss.drop k) w9) := R9.base (by have := HR7.out.lt; omega)
                    have D9 : Hid (Below W5.heap.size W5 w9) := D7.out.trans b9
                    clear R9 b9 kp9
                    refine hK.out _ _ trivial (fun hHeld => ?_)
                    clear hK K
                    try simp only [Act.put, x1, x2, x3, x4, x5, x6]
                    have HR9 := HR7.out.below D9.out HR7.out.lt
                    have r9 := HR9.cell 0
                    have f9 := HR9.free 0
                    simp only [List.getElem?_toArray, List.getElem?_cons_zero] at r9
                    have HFIN : Hid (OwnS (w.heap.size + 2) (.slice a9 (ss.take k ++ [h] ++ ss.drop k).length c9) (ss.take k ++ [h] ++ ss.drop k) (w9.setCell ⟨w.heap.size + 1, 0, none⟩ (.slice a9 (ss.take k ++ [h] ++ ss.drop k).length c9)) ∧ Below w.heap.size w (w9.setCell ⟨w.heap.size + 1, 0, none⟩ (.slice a9 (ss.take k ++ [h] ++ ss.drop k).length c9))) := ⟨V9.out.off1 HR9 (by decide) 0 _, (HB7.out.trans (D9.out.mono HB7.out.size)).setCell (p := ⟨w.heap.size + 1, 0, none⟩) (by show w.heap.size ≤ w.heap.size + 1; omega) _⟩
                    generalize (ss.take k ++ [h] ++ ss.drop k).length = n9 at *
                    refine tk 12 rfl (by kernel_rfl) (fun _ _ _ h => h) (by rfl) (fun w hSw => by (try dsimp only at hSw); go_simp; try (with_reducible rfl)) (by assumption) ?_
                    simp only [Act.put, x1, x2, x3, x4, x5, x6]
                    refine wpAnyH_ready (rs := [13]) (by kernel_rfl) (by simp) ?_
                    refine AllReadyH.cons (o := _) rfl (fun K hK => ?_) AllReadyH.nil
                    go_simp
                    skip
                    refine hK.out _ _ (trivial) (fun hHeld => ?_)
                    clear hK K
                    try simp only [Act.put, x1, x2, x3, x4, x5, x6]
                    refine tk 14 rfl (by kernel_rfl) (fun _ _ _ h => h) (by rfl) (fun w hSw => by (try dsimp only at hSw); go_simp; try (with_reducible rfl)) (by assumption) ?_
                    simp only [Act.put, x1, x2, x3, x4, x5, x6]
                    refine wpAnyH_done (by kernel_rfl) ?_ _
                    go_wp2
                    refine bodyPost_ret (v := .tuple #[.agg #[.slice a9 n9 c9], .bool true]) (by simp [results, Tryd.results10, go_sem, r9]) rfl ⟨_, by rw [HP.out.2], by rw [HP.out.1]; exact HFIN.out.1, HFIN.out.2⟩
                · obtain ⟨Wb, hWb⟩ : ∃ W, Hid (W = W5.drew.alloc (.cells #[.string x] 9)) := ⟨_, rfl⟩
                  have DWb : Hid (Below W5.heap.size W5 Wb) := by show Below _ _ _; rw [hWb.out]; exact D5.out.alloc D5.out.size _
                  obtain ⟨gx, hgx⟩ : ∃ g, Hid (g = W5.heap.size) := ⟨_, rfl⟩
                  have X2 : Hid (Blk gx #[.string x] 9 Wb ∧ True) := ⟨by rw [hWb.out, hgx.out]; exact Blk.new W5.drew _ _, trivial⟩
                  go_simp
                  rw [show (W5.alloc (.cells #[.string x] 9)).drew = Wb from hWb.out.symm]
                  try rw [← hgx.out]
                  refine hK.out _ _ trivial (fun hHeld => ?_)
                  clear hK K
                  try simp only [Act.put, x1, x2, x3, x4, x5, x6]
                  refine wpAnyH_ready (rs := [0]) (by kernel_rfl) (by simp) ?_
                  refine AllReadyH.cons (o := _) rfl (fun K hK => ?_) AllReadyH.nil
                  obtain ⟨Wa, hWa⟩ : ∃ W, Hid (W = Wb.alloc (.cells #[] 9)) := ⟨_, rfl⟩
                  have DWa : Hid (Below W5.heap.size W5 Wa) := by show Below _ _ _; rw [hWa.out]; exact DWb.out.alloc DWb.out.size _
                  obtain ⟨ge, hge⟩ : ∃ g, Hid (g = Wb.heap.size) := ⟨_, rfl⟩
                  have E0 : Hid (OwnS W5.heap.size (.slice (some ⟨ge, 0, none⟩) 0 0) [] Wa) := by show OwnS _ _ _ _; rw [hWa.out, hge.out]; exact ownS_new Wb _ DWb.out.size
                  have X2 : Hid (Blk gx #[.string x] 9 Wa ∧ gx ≠ ge) := by refine ⟨?_, ?_⟩; (rw [hWa.out]; exact X2.out.1.alloc _); (rw [hge.out]; have := X2.out.1.lt; omega)
                  go_simp
                  rw [← hWa.out]
                  try rw [← hge.out]
                  refine hK.out _ _ trivial (fun hHeld => ?_)
                  clear hK K
                  try simp only [Act.put, x1, x2, x3, x4, x5, x6]
                  refine wpAnyH_ready (rs := [4]) (by kernel_rfl) (by simp) ?_
                  refine AllReadyH.cons (o := _) rfl (fun K hK => ?_) AllReadyH.nil
                  have hq4 := cells_take (cells_of (strs_of (O7.out.later DWa.out))) k
                  refine stepApp Wa rfl _ _ rfl W5.heap.size _ [] (ss.take k) E0.out rfl b2 off2 c2 k (by rw [List.length_take]; omega) rfl hq4 (by simp; omega) DWa.out.size ?_
                  intro v4 w4 R4 b4 kp4
                  have V4 : Hid (OwnS W5.heap.size v4 (ss.take k) w4) := R4
                  have D4 : Hid (Below W5.heap.size W5 w4) := DWa.out.trans b4
                  have X4 : Hid (Blk gx #[.string x] 9 w4) := (kp4 gx X2.out.1.lt (by simp [Value.ownBlock]; exact X2.out.2)).trans X2.out.1
                  clear R4 b4 kp4
                  refine hK.out _ _ trivial (fun hHeld => ?_)
                  clear hK K
                  try simp only [Act.put, x1, x2, x3, x4, x5, x6]
                  refine wpAnyH_ready (rs := [7]) (by kernel_rfl) (by simp) ?_
                  refine AllReadyH.cons (o := _) rfl (fun K hK => ?_) AllReadyH.nil
                  refine stepApp w4 rfl _ _ rfl W5.heap.size _ (ss.take k) [h] V4.out rfl gx 0 1 1 rfl rfl (one_h (HX.out.symm ▸ X4.out)) (by simp; omega) D4.out.size ?_
                  intro v7 w7 R7 b7 kp7
                  have V7 : Hid (OwnS W5.heap.size v7 (ss.take k ++ [h]) w7) := R7
                  have D7 : Hid (Below W5.heap.size W5 w7) := D4.out.trans b7
                  clear R7 b7 kp7
                  refine hK.out _ _ trivial (fun hHeld => ?_)
                  clear hK K
                  try simp only [Act.put, x1, x2, x3, x4, x5, x6]
                  refine wpAnyH_ready (rs := [11]) (by kernel_rfl) (by simp) ?_
                  refine AllReadyH.cons (o := _) rfl (fun K hK => ?_) AllReadyH.nil
                  have hq9 := cells_drop (cells_of (strs_of (O7.out.later D7.out))) k
                  refine stepApp w7 rfl _ _ rfl W5.heap.size _ (ss.take k ++ [h]) (ss.drop k) V7.out rfl b2 (off2 + k) (c2 - k) (ss.length - k) (by rw [List.length_drop]) rfl hq9 (by simp; omega) D7.out.size ?_
                  intro v9 w9 R9 b9 kp9
                  obtain ⟨a9, c9, rfl, _⟩ := R9.shape
                  have V9 : Hid (OwnS (w.heap.size + 2) (.slice a9 (ss.take k ++ [h] ++ ss.drop k).length c9) (ss.take k ++ [h] ++ ss.drop k) w9) := R9.base (by have := HR7.out.lt; omega)
                  have D9 : Hid (Below W5.heap.size W5 w9) := D7.out.trans b9
                  clear R9 b9 kp9
                  refine hK.out _ _ trivial (fun hHeld => ?_)
                  clear hK K
                  try simp only [Act.put, x1, x2, x3, x4, x5, x6]
                  have HR9 := HR7.out.below D9.out HR7.out.lt
                  have r9 := HR9.cell 0
                  have f9 := HR9.free 0
                  simp only [List.getElem?_toArray, List.getElem?_cons_zero] at r9
                  have HFIN : Hid (OwnS (w.heap.size + 2) (.slice a9 (ss.take k ++ [h] ++ ss.drop k).length c9) (ss.take k ++ [h] ++ ss.drop k) (w9.setCell ⟨w.heap.size + 1, 0, none⟩ (.slice a9 (ss.take k ++ [h] ++ ss.drop k).length c9)) ∧ Below w.heap.size w (w9.setCell ⟨w.heap.size + 1, 0, none⟩ (.slice a9 (ss.take k ++ [h] ++ ss.drop k).length c9))) := ⟨V9.out.off1 HR9 (by decide) 0 _, (HB7.out.trans (D9.out.mono HB7.out.size)).setCell (p := ⟨w.heap.size + 1, 0, none⟩) (by show w.heap.size ≤ w.heap.size + 1; omega) _⟩
                  generalize (ss.take k ++ [h] ++ ss.drop k).length = n9 at *
                  refine tk 12 rfl (by kernel_rfl) (fun _ _ _ h => h) (by rfl) (fun w hSw => by (try dsimp only at hSw); go_simp; try (with_reducible rfl)) (by assumption) ?_
                  simp only [Act.put, x1, x2, x3, x4, x5, x6]
                  refine wpAnyH_ready (rs := [13]) (by kernel_rfl) (by simp) ?_
                  refine AllReadyH.cons (o := _) rfl (fun K hK => ?_) AllReadyH.nil
                  go_simp
                  skip
                  refine hK.out _ _ (trivial) (fun hHeld => ?_)
                  clear hK K
                  try simp only [Act.put, x1, x2, x3, x4, x5, x6]
                  refine tk 14 rfl (by kernel_rfl) (fun _ _ _ h => h) (by rfl) (fun w hSw => by (try dsimp only at hSw); go_simp; try (with_reducible rfl)) (by assumption) ?_
                  simp only [Act.put, x1, x2, x3, x4, x5, x6]
                  refine wpAnyH_done (by kernel_rfl) ?_ _
                  go_wp2
                  refine bodyPost_ret (v := .tuple #[.agg #[.slice a9 n9 c9], .bool true]) (by simp [results, Tryd.results10, go_sem, r9]) rfl ⟨_, by rw [HP.out.2], by rw [HP.out.1]; exact HFIN.out.1, HFIN.out.2⟩
      · have hkk : k = len := by omega
        have hki : ¬ ((k : Int) < (len : Int)) := by omega
        have HK : Hid (kS ss h = k) := kS_eq ss h k (by have := HLEN.out; omega) HJ.out (by
          have e : ss.getD k h = h := by simp [List.getD, List.getElem?_eq_none (show ss.length ≤ k by have := HLEN.out; omega)]
          rw [e]; exact bl_irrefl h)
        have HKK : Hid (k = len) := hkk
        clear HJ hkk
        have HO0 : Hid (OwnS (w.heap.size + 2) (.slice (some ⟨wr.heap.size, 0, none⟩) 0 0) [] (wr.alloc (.cells #[] 9))) := ownS_new wr _ (by have := HBW.out.size; have := HSZ.out; omega)
        have HQ6 : Hid (∀ j (hj : j < ss.length), (wr.alloc (.cells #[] 9)).cell? ⟨b, off + j, none⟩ = some (.string (mk ss[j]))) := fun j hj => HQ.out _ ((HB1.out.trans (HBW.out.mono HB1.out.size)).alloc (by have := HBW.out.size; have := HB1.out.size; omega) _) j hj
        have HBB : Hid (w.heap.size + 2 ≤ (wr.alloc (.cells #[] 9)).heap.size) := by show _ ≤ _; simp; have := HBW.out.size; have := HSZ.out; omega
        have HLL : Hid (([] : List (List UInt8)).length + ss.length ≤ 1000000000000) := by show _ ≤ _; have := HOK.out.2; simp; omega
        have k0a : (wr.alloc (.cells #[] 9)).cell? ⟨w.heap.size, 0, none⟩ = some (.slice (some ⟨b, off, none⟩) len cap) := by
          have := ((HA1.out.below HBW.out HA1.out.lt).alloc (.cells #[] 9)).cell 0
          simpa using this
        have HX6 : Hid ((Value.slice (some ⟨b, off, none⟩) len cap) = .slice (some ⟨b, off, none⟩) ss.length cap) := by show _ = _; rw [HLEN.out]
        go_upto_region 7 with (at_builtin; refine wpAppStrs (wr.alloc (.cells #[] 9)) rfl _ _ rfl (w.heap.size + 2) _ [] ss HO0.out rfl b off cap HX6.out HQ6.out HLL.out HBB.out ?_; intro v1 w1 R b1; rw [List.nil_append] at R; obtain ⟨a2, c2, hv2, hc2⟩ := R.shape; subst hv2; have HD1 : Hid (Below (w.heap.size + 2) W1 w1) := ((HBW.out.mono HSZ.out).alloc (by have := HBW.out.size; have := HSZ.out; omega) _).trans b1; have HR : Hid (OwnS (w.heap.size + 2) (.slice a2 ss.length c2) ss w1) := R; clear R b1 HO0 HQ6 HBB HLL k0a HX6 HBW)
        have HB6 : Hid (Below w.heap.size w w1) := HB1.out.trans (HD1.out.mono (by omega))
        have HR6 : Hid (Blk (w.heap.size + 1) #[.slice none 0 0] 27 w1) := HR1.out.below HD1.out (by omega)
        have hl6 : (ss.length : Int) ≤ 6 := by have h1 := HOK.out.2; omega
        cases hf : fndS ss h with
        | true =>
          have HP : Hid (putL ss h = ss ∧ putB ss h = true) := ⟨HP0.out.1.trans (if_pos hf), HP0.out.2.trans (if_pos hf)⟩
          have hk3 : ss[k]? = some h := by unfold fndS at hf; rw [HK.out] at hf; exact of_decide_eq_true hf
          obtain ⟨hk4, hk5⟩ := List.getElem?_eq_some_iff.1 hk3
          exact absurd hk4 (by have := HLEN.out; have := HKK.out; omega)
        | false =>
          have HP1 : Hid (putL ss h = (if okH 1 (mk h) 0 = false ∨ ss.length = 6 then ss else ss.take (kS ss h) ++ [h] ++ ss.drop (kS ss h)) ∧ putB ss h = (if okH 1 (mk h) 0 = false ∨ ss.length = 6 then false else true)) := by
            have h9 := HP0.out
            have hne : ¬ fndS ss h = true := by rw [hf]; decide
            exact ⟨h9.1.trans (if_neg hne), h9.2.trans (if_neg hne)⟩
          have hki4 : ¬ ((k : Int) < (ss.length : Int)) := by have := HLEN.out; have := HKK.out; omega
          clear hf HP0
          have HXX : Hid (okH 1 x 0 = okH 1 (mk h) 0) := by show _ = _; rw [HX.out]
          go_wp2_with fail
          refine (CI.out _).mono ?_
          rintro e W5 ⟨rfl, d5⟩
          have O7 : Hid (OwnS (w.heap.size + 2) (.slice a2 ss.length c2) ss W5) := HR.out.later d5
          have HB7 : Hid (Below w.heap.size w W5) := HB6.out.trans (d5.mono HB6.out.size)
          have HR7 : Hid (Blk (w.heap.size + 1) #[.slice none 0 0] 27 W5) := HR6.out.below d5 HR6.out.lt
          clear d5 HR HB6 HR6
          have r0 := HR7.out.cell 0
          have rf := HR7.out.free 0
          simp only [List.getElem?_toArray, List.getElem?_cons_zero] at r0
          have HFIN : Hid (OwnS (w.heap.size + 2) (.slice a2 ss.length c2) ss (W5.setCell ⟨w.heap.size + 1, 0, none⟩ (.slice a2 ss.length c2)) ∧ Below w.heap.size w (W5.setCell ⟨w.heap.size + 1, 0, none⟩ (.slice a2 ss.length c2))) := ⟨O7.out.off1 HR7.out (by decide) 0 _, HB7.out.setCell (p := ⟨w.heap.size + 1, 0, none⟩) (by show w.heap.size ≤ w.heap.size + 1; omega) _⟩
          cases ho : okH 1 x 0 with
          | false =>
            have HP : Hid (putL ss h = ss ∧ putB ss h = false) := ⟨HP1.out.1.trans (if_pos (.inl (by rw [← HXX.out]; exact ho))), HP1.out.2.trans (if_pos (.inl (by rw [← HXX.out]; exact ho)))⟩
            clear HP1 HXX ho
            go_wp2
            refine bodyPost_ret (v := .tuple #[.agg #[(.slice a2 ss.length c2)], .bool false]) (by simp [results, Tryd.results10, go_sem, r0]) rfl ⟨_, by rw [HP.out.2], by rw [HP.out.1]; exact HFIN.out.1, HFIN.out.2⟩
          | true =>
            by_cases h6 : ss.length = 6
            · have HP : Hid (putL ss h = ss ∧ putB ss h = false) := ⟨HP1.out.1.trans (if_pos (.inr h6)), HP1.out.2.trans (if_pos (.inr h6))⟩
              have h6i : (6 : Int) ≤ (ss.length : Int) := by omega
              clear HP1 HXX h6 ho
              go_wp2
              refine bodyPost_ret (v := .tuple #[.agg #[(.slice a2 ss.length c2)], .bool false]) (by simp [results, Tryd.results10, go_sem, r0]) rfl ⟨_, by rw [HP.out.2], by rw [HP.out.1]; exact HFIN.out.1, HFIN.out.2⟩
            · have HP : Hid (putL ss h = ss.take k ++ [h] ++ ss.drop k ∧ putB ss h = true) := by
                have hno : ¬ (okH 1 (mk h) 0 = false ∨ ss.length = 6) := by rw [← HXX.out, ho]; simp [h6]
                rw [← HK.out]; exact ⟨HP1.out.1.trans (if_neg hno), HP1.out.2.trans (if_neg hno)⟩
              have h6i : ¬ ((6 : Int) ≤ (ss.length : Int)) := by have := HOK.out.2; omega
              clear HP1 HXX h6 ho HFIN
              have hkl : k ≤ ss.length := by have := HLEN.out; have := HKK.out; omega
              have hki5 : (k : Int) ≤ (ss.length : Int) := by omega
              have hki6 : (ss.length : Int) ≤ (c2 : Int) := by omega
              go_wp2
              obtain ⟨a3, HA3⟩ : ∃ a, Hid (a = if c2 = k then a2 else Option.map (fun x => x.add k) a2) := ⟨_, rfl⟩
              refine wp_region_held_drew (S := (fun _ => True)) (by kernel_rfl) (trivial) (fun hHeld => ?_)
              refine tk 1 rfl (by kernel_rfl) (fun _ _ _ h => h) (by rfl) (fun w hSw => by (try dsimp only at hSw); go_simp; try (with_reducible rfl)) (by assumption) ?_
              simp only [Act.put, x1, x2, x3, x4, x5, x6]
              refine tk 2 rfl (by kernel_rfl) (fun _ _ _ h => h) (by rfl) (fun w hSw => by (try dsimp only at hSw); go_simp; try (with_reducible rfl)) (by assumption) ?_
              simp only [Act.put, x1, x2, x3, x4, x5, x6]
              refine tk 5 rfl (by kernel_rfl) (fun _ _ _ h => h) (by rfl) (fun w hSw => by (try dsimp only at hSw); go_simp; try (with_reducible rfl)) (by assumption) ?_
              simp only [Act.put, x1, x2, x3, x4, x5, x6]
              refine tk 8 rfl (by kernel_rfl) (fun _ _ _ h => h) (by rfl) (fun w hSw => by (try dsimp only at hSw); go_simp; try (with_reducible rfl)) (by assumption) ?_
              simp only [Act.put, x1, x2, x3, x4, x5, x6]
              refine tk 9 rfl (by kernel_rfl) (fun _ _ _ h => h) (by rfl) (fun w hSw => by (try dsimp only at hSw); go_simp; try (with_reducible rfl)) (by assumption) ?_
              simp only [Act.put, x1, x2, x3, x4, x5, x6]
              refine tk (v := (.slice a2 k c2)) 3 rfl (by kernel_rfl) (fun _ _ _ h => h) (by rfl) (fun w hSw => by (try dsimp only at hSw); go_simp; (intro hlt; omega)) (by assumption) ?_
              simp only [Act.put, x1, x2, x3, x4, x5, x6]
              refine tk (v := (.slice a3 (ss.length - k) (c2 - k))) 10 rfl (by kernel_rfl) (fun _ _ _ h => h) (by rfl) (fun w hSw => by (try dsimp only at hSw); go_simp; (rw [HA3.out]; try rw [if_pos hkl])) (by assumption) ?_
              simp only [Act.put, x1, x2, x3, x4, x5, x6]
              have D5 : Hid (Below W5.heap.size W5 W5.drew) := (Below.refl _ W5).drew
              refine wpAnyH_ready (rs := [0, 6]) (by kernel_rfl) (by simp) ?_
              refine AllReadyH.cons (o := _) rfl (fun K hK => ?_) (AllReadyH.cons (o := _) rfl (fun K hK => ?_) AllReadyH.nil)
              · obtain ⟨Wa, hWa⟩ : ∃ W, Hid (W = W5.drew.alloc (.cells #[] 9)) := ⟨_, rfl⟩
                have DWa : Hid (Below W5.heap.size W5 Wa) := by show Below _ _ _; rw [hWa.out]; exact D5.out.alloc D5.out.size _
                obtain ⟨ge, hge⟩ : ∃ g, Hid (g = W5.heap.size) := ⟨_, rfl⟩
                have E0 : Hid (OwnS W5.heap.size (.slice (some ⟨ge, 0, none⟩) 0 0) [] Wa) := by show OwnS _ _ _ _; rw [hWa.out, hge.out]; exact ownS_new W5.drew _ D5.out.size
                go_simp
                rw [show (W5.alloc (.cells #[] 9)).drew = Wa from hWa.out.symm]
                try rw [← hge.out]
                refine hK.out _ _ trivial (fun hHeld => ?_)
                clear hK K
                try simp only [Act.put, x1, x2, x3, x4, x5, x6]
                refine wpAnyH_ready (rs := [4, 6]) (by kernel_rfl) (by simp) ?_
                refine AllReadyH.cons (o := _) rfl (fun K hK => ?_) (AllReadyH.cons (o := _) rfl (fun K hK => ?_) AllReadyH.nil)
                · have hq4 := (allC_of (strs_of (O7.out.later DWa.out))).take k
                  refine stepAppA Wa rfl _ _ rfl W5.heap.size _ [] (ss.take k) E0.out rfl a2 c2 k (by rw [List.length_take]; omega) rfl hq4 (by simp; omega) DWa.out.size ?_
                  intro v4 w4 R4 b4 kp4
                  have V4 : Hid (OwnS W5.heap.size v4 (ss.take k) w4) := R4
                  have D4 : Hid (Below W5.heap.size W5 w4) := DWa.out.trans b4
                  clear R4 b4 kp4
                  refine hK.out _ _ trivial (fun hHeld => ?_)
                  clear hK K
                  try simp only [Act.put, x1, x2, x3, x4, x5, x6]
                  refine wpAnyH_ready (rs := [6]) (by kernel_rfl) (by simp) ?_
                  refine AllReadyH.cons (o := _) rfl (fun K hK => ?_) AllReadyH.nil
                  obtain ⟨Wb, hWb⟩ : ∃ W, Hid (W = w4.alloc (.cells #[.string x] 9)) := ⟨_, rfl⟩
                  have DWb : Hid (Below W5.heap.size W5 Wb) := by show Below _ _ _; rw [hWb.out]; exact D4.out.alloc D4.out.size _
                  obtain ⟨gx, hgx⟩ : ∃ g, Hid (g = w4.heap.size) := ⟨_, rfl⟩
                  have X2 : Hid (Blk gx #[.string x] 9 Wb) := by show Blk _ _ _ _; rw [hWb.out, hgx.out]; exact Blk.new w4 _ _
                  have V2 : Hid (OwnS W5.heap.size v4 (ss.take k) Wb) := by show OwnS _ _ _ _; rw [hWb.out]; exact V4.out.later ((Below.refl _ w4).alloc (Nat.le_refl _) _)
                  go_simp
                  rw [← hWb.out]
                  try rw [← hgx.out]
                  refine hK.out _ _ trivial (fun hHeld => ?_)
                  clear hK K
                  try simp only [Act.put, x1, x2, x3, x4, x5, x6]
                  refine wpAnyH_ready (rs := [7]) (by kernel_rfl) (by simp) ?_
                  refine AllReadyH.cons (o := _) rfl (fun K hK => ?_) AllReadyH.nil
                  refine stepApp Wb rfl _ _ rfl W5.heap.size _ (ss.take k) [h] V2.out rfl gx 0 1 1 rfl rfl (one_h (HX.out.symm ▸ X2.out)) (by simp; omega) DWb.out.size ?_
                  intro v7 w7 R7 b7 kp7
                  have V7 : Hid (OwnS W5.heap.size v7 (ss.take k ++ [h]) w7) := R7
                  have D7 : Hid (Below W5.heap.size W5 w7) := DWb.out.trans b7
                  clear R7 b7 kp7
                  refine hK.out _ _ trivial (fun hHeld => ?_)
                  clear hK K
                  try simp only [Act.put, x1, x2, x3, x4, x5, x6]
                  refine wpAnyH_ready (rs := [11]) (by kernel_rfl) (by simp) ?_
                  refine AllReadyH.cons (o := _) rfl (fun K hK => ?_) AllReadyH.nil
                  have hq9 : AllC a3 (ss.drop k) w7 := allC_drop (by have := HLEN.out; have := HKK.out; omega)
                  refine stepAppA w7 rfl _ _ rfl W5.heap.size _ (ss.take k ++ [h]) (ss.drop k) V7.out rfl a3 (c2 - k) (ss.length - k) (by rw [List.length_drop]) rfl hq9 (by simp; omega) D7.out.size ?_
                  intro v9 w9 R9 b9 kp9
                  obtain ⟨a9, c9, rfl, _⟩ := R9.shape
                  have V9 : Hid (OwnS (w.heap.size + 2) (.slice a9 (ss.take k ++ [h] ++ ss.drop k).length c9) (ss.take k ++ [h] ++ ss.drop k) w9) := R9.base (by have := HR7.out.lt; omega)
                  have D9 : Hid (Below W5.heap.size W5 w9) := D7.out.trans b9
                  clear R9 b9 kp9
                  refine hK.out _ _ trivial (fun hHeld => ?_)
                  clear hK K
                  try simp only [Act.put, x1, x2, x3, x4, x5, x6]
                  have HR9 := HR7.out.below D9.out HR7.out.lt
                  have r9 := HR9.cell 0
                  have f9 := HR9.free 0
                  simp only [List.getElem?_toArray, List.getElem?_cons_zero] at r9
                  have HFIN : Hid (OwnS (w.heap.size + 2) (.slice a9 (ss.take k ++ [h] ++ ss.drop k).length c9) (ss.take k ++ [h] ++ ss.drop k) (w9.setCell ⟨w.heap.size + 1, 0, none⟩ (.slice a9 (ss.take k ++ [h] ++ ss.drop k).length c9)) ∧ Below w.heap.size w (w9.setCell ⟨w.heap.size + 1, 0, none⟩ (.slice a9 (ss.take k ++ [h] ++ ss.drop k).length c9))) := ⟨V9.out.off1 HR9 (by decide) 0 _, (HB7.out.trans (D9.out.mono HB7.out.size)).setCell (p := ⟨w.heap.size + 1, 0, none⟩) (by show w.heap.size ≤ w.heap.size + 1; omega) _⟩
                  generalize (ss.take k ++ [h] ++ ss.drop k).length = n9 at *
                  refine tk 12 rfl (by kernel_rfl) (fun _ _ _ h => h) (by rfl) (fun w hSw => by (try dsimp only at hSw); go_simp; try (with_reducible rfl)) (by assumption) ?_
                  simp only [Act.put, x1, x2, x3, x4, x5, x6]
                  refine wpAnyH_ready (rs := [13]) (by kernel_rfl) (by simp) ?_
                  refine AllReadyH.cons (o := _) rfl (fun K hK => ?_) AllReadyH.nil
                  go_simp
                  skip
                  refine hK.out _ _ (trivial) (fun hHeld => ?_)
                  clear hK K
                  try simp only [Act.put, x1, x2, x3, x4, x5, x6]
                  refine tk 14 rfl (by kernel_rfl) (fun _ _ _ h => h) (by rfl) (fun w hSw => by (try dsimp only at hSw); go_simp; try (with_reducible rfl)) (by assumption) ?_
                  simp only [Act.put, x1, x2, x3, x4, x5, x6]
                  refine wpAnyH_done (by kernel_rfl) ?_ _
                  go_wp2
                  refine bodyPost_ret (v := .tuple #[.agg #[.slice a9 n9 c9], .bool true]) (by simp [results, Tryd.results10, go_sem, r9]) rfl ⟨_, by rw [HP.out.2], by rw [HP.out.1]; exact HFIN.out.1, HFIN.out.2⟩
                · obtain ⟨Wb, hWb⟩ : ∃ W, Hid (W = Wa.alloc (.cells #[.string x] 9)) := ⟨_, rfl⟩
                  have DWb : Hid (Below W5.heap.size W5 Wb) := by show Below _ _ _; rw [hWb.out]; exact DWa.out.alloc DWa.out.size _
                  obtain ⟨gx, hgx⟩ : ∃ g, Hid (g = Wa.heap.size) := ⟨_, rfl⟩
                  have X2 : Hid (Blk gx #[.string x] 9 Wb ∧ gx ≠ ge) := by refine ⟨by rw [hWb.out, hgx.out]; exact Blk.new Wa _ _, ?_⟩; rw [hgx.out, hge.out]; rw [hWa.out]; simp
                  have E1 : Hid (OwnS W5.heap.size (.slice (some ⟨ge, 0, none⟩) 0 0) [] Wb) := by show OwnS _ _ _ _; rw [hWb.out]; exact E0.out.later ((Below.refl _ Wa).alloc (Nat.le_refl _) _)
                  go_simp
                  rw [← hWb.out]
                  try rw [← hgx.out]
                  refine hK.out _ _ trivial (fun hHeld => ?_)
                  clear hK K
                  try simp only [Act.put, x1, x2, x3, x4, x5, x6]
                  refine wpAnyH_ready (rs := [4]) (by kernel_rfl) (by simp) ?_
                  refine AllReadyH.cons (o := _) rfl (fun K hK => ?_) AllReadyH.nil
                  have hq4 := (allC_of (strs_of (O7.out.later DWb.out))).take k
                  refine stepAppA Wb rfl _ _ rfl W5.heap.size _ [] (ss.take k) E1.out rfl a2 c2 k (by rw [List.length_take]; omega) rfl hq4 (by simp; omega) DWb.out.size ?_
                  intro v4 w4 R4 b4 kp4
                  have V4 : Hid (OwnS W5.heap.size v4 (ss.take k) w4) := R4
                  have D4 : Hid (Below W5.heap.size W5 w4) := DWb.out.trans b4
                  have X4 : Hid (Blk gx #[.string x] 9 w4) := (kp4 gx X2.out.1.lt (by simp [Value.ownBlock]; exact X2.out.2)).trans X2.out.1
                  clear R4 b4 kp4
                  refine hK.out _ _ trivial (fun hHeld => ?_)
                  clear hK K
                  try simp only [Act.put, x1, x2, x3, x4, x5, x6]
                  refine wpAnyH_ready (rs := [7]) (by kernel_rfl) (by simp) ?_
                  refine AllReadyH.cons (o := _) rfl (fun K hK => ?_) AllReadyH.nil
                  refine stepApp w4 rfl _ _ rfl W5.heap.size _ (ss.take k) [h] V4.out rfl gx 0 1 1 rfl rfl (one_h (HX.out.symm ▸ X4.out)) (by simp; omega) D4.out.size ?_
                  intro v7 w7 R7 b7 kp7
                  have V7 : Hid (OwnS W5.heap.size v7 (ss.take k ++ [h]) w7) := R7
                  have D7 : Hid (Below W5.heap.size W5 w7) := D4.out.trans b7
                  clear R7 b7 kp7
                  refine hK.out _ _ trivial (fun hHeld => ?_)
                  clear hK K
                  try simp only [Act.put, x1, x2, x3, x4, x5, x6]
                  refine wpAnyH_ready (rs := [11]) (by kernel_rfl) (by simp) ?_
                  refine AllReadyH.cons (o := _) rfl (fun K hK => ?_) AllReadyH.nil
                  have hq9 : AllC a3 (ss.drop k) w7 := allC_drop (by have := HLEN.out; have := HKK.out; omega)
                  refine stepAppA w7 rfl _ _ rfl W5.heap.size _ (ss.take k ++ [h]) (ss.drop k) V7.out rfl a3 (c2 - k) (ss.length - k) (by rw [List.length_drop]) rfl hq9 (by simp; omega) D7.out.size ?_
                  intro v9 w9 R9 b9 kp9
                  obtain ⟨a9, c9, rfl, _⟩ := R9.shape
                  have V9 : Hid (OwnS (w.heap.size + 2) (.slice a9 (ss.take k ++ [h] ++ ss.drop k).length c9) (ss.take k ++ [h] ++ ss.drop k) w9) := R9.base (by have := HR7.out.lt; omega)
                  have D9 : Hid (Below W5.heap.size W5 w9) := D7.out.trans b9
                  clear R9 b9 kp9
                  refine hK.out _ _ trivial (fun hHeld => ?_)
                  clear hK K
                  try simp only [Act.put, x1, x2, x3, x4, x5, x6]
                  have HR9 := HR7.out.below D9.out HR7.out.lt
                  have r9 := HR9.cell 0
                  have f9 := HR9.free 0
                  simp only [List.getElem?_toArray, List.getElem?_cons_zero] at r9
                  have HFIN : Hid (OwnS (w.heap.size + 2) (.slice a9 (ss.take k ++ [h] ++ ss.drop k).length c9) (ss.take k ++ [h] ++ ss.drop k) (w9.setCell ⟨w.heap.size + 1, 0, none⟩ (.slice a9 (ss.take k ++ [h] ++ ss.drop k).length c9)) ∧ Below w.heap.size w (w9.setCell ⟨w.heap.size + 1, 0, none⟩ (.slice a9 (ss.take k ++ [h] ++ ss.drop k).length c9))) := ⟨V9.out.off1 HR9 (by decide) 0 _, (HB7.out.trans (D9.out.mono HB7.out.size)).setCell (p := ⟨w.heap.size + 1, 0, none⟩) (by show w.heap.size ≤ w.heap.size + 1; omega) _⟩
                  generalize (ss.take k ++ [h] ++ ss.drop k).length = n9 at *
                  refine tk 12 rfl (by kernel_rfl) (fun _ _ _ h => h) (by rfl) (fun w hSw => by (try dsimp only at hSw); go_simp; try (with_reducible rfl)) (by assumption) ?_
                  simp only [Act.put, x1, x2, x3, x4, x5, x6]
                  refine wpAnyH_ready (rs := [13]) (by kernel_rfl) (by simp) ?_
                  refine AllReadyH.cons (o := _) rfl (fun K hK => ?_) AllReadyH.nil
                  go_simp
                  skip
                  refine hK.out _ _ (trivial) (fun hHeld => ?_)
                  clear hK K
                  try simp only [Act.put, x1, x2, x3, x4, x5, x6]
                  refine tk 14 rfl (by kernel_rfl) (fun _ _ _ h => h) (by rfl) (fun w hSw => by (try dsimp only at hSw); go_simp; try (with_reducible rfl)) (by assumption) ?_
                  simp only [Act.put, x1, x2, x3, x4, x5, x6]
                  refine wpAnyH_done (by kernel_rfl) ?_ _
                  go_wp2
                  refine bodyPost_ret (v := .tuple #[.agg #[.slice a9 n9 c9], .bool true]) (by simp [results, Tryd.results10, go_sem, r9]) rfl ⟨_, by rw [HP.out.2], by rw [HP.out.1]; exact HFIN.out.1, HFIN.out.2⟩
              · obtain ⟨Wb, hWb⟩ : ∃ W, Hid (W = W5.drew.alloc (.cells #[.string x] 9)) := ⟨_, rfl⟩
                have DWb : Hid (Below W5.heap.size W5 Wb) := by show Below _ _ _; rw [hWb.out]; exact D5.out.alloc D5.out.size _
                obtain ⟨gx, hgx⟩ : ∃ g, Hid (g = W5.heap.size) := ⟨_, rfl⟩
                have X2 : Hid (Blk gx #[.string x] 9 Wb ∧ True) := ⟨by rw [hWb.out, hgx.out]; exact Blk.new W5.drew _ _, trivial⟩
                go_simp
                rw [show (W5.alloc (.cells #[.string x] 9)).drew = Wb from hWb.out.symm]
                try rw [← hgx.out]
                refine hK.out _ _ trivial (fun hHeld => ?_)
                clear hK K
                try simp only [Act.put, x1, x2, x3, x4, x5, x6]
                refine wpAnyH_ready (rs := [0]) (by kernel_rfl) (by simp) ?_
                refine AllReadyH.cons (o := _) rfl (fun K hK => ?_) AllReadyH.nil
                obtain ⟨Wa, hWa⟩ : ∃ W, Hid (W = Wb.alloc (.cells #[] 9)) := ⟨_, rfl⟩
                have DWa : Hid (Below W5.heap.size W5 Wa) := by show Below _ _ _; rw [hWa.out]; exact DWb.out.alloc DWb.out.size _
                obtain ⟨ge, hge⟩ : ∃ g, Hid (g = Wb.heap.size) := ⟨_, rfl⟩
                have E0 : Hid (OwnS W5.heap.size (.slice (some ⟨ge, 0, none⟩) 0 0) [] Wa) := by show OwnS _ _ _ _; rw [hWa.out, hge.out]; exact ownS_new Wb _ DWb.out.size
                have X2 : Hid (Blk gx #[.string x] 9 Wa ∧ gx ≠ ge) := by refine ⟨?_, ?_⟩; (rw [hWa.out]; exact X2.out.1.alloc _); (rw [hge.out]; have := X2.out.1.lt; omega)
                go_simp
                rw [← hWa.out]
                try rw [← hge.out]
                refine hK.out _ _ trivial (fun hHeld => ?_)
                clear hK K
                try simp only [Act.put, x1, x2, x3, x4, x5, x6]
                refine wpAnyH_ready (rs := [4]) (by kernel_rfl) (by simp) ?_
                refine AllReadyH.cons (o := _) rfl (fun K hK => ?_) AllReadyH.nil
                have hq4 := (allC_of (strs_of (O7.out.later DWa.out))).take k
                refine stepAppA Wa rfl _ _ rfl W5.heap.size _ [] (ss.take k) E0.out rfl a2 c2 k (by rw [List.length_take]; omega) rfl hq4 (by simp; omega) DWa.out.size ?_
                intro v4 w4 R4 b4 kp4
                have V4 : Hid (OwnS W5.heap.size v4 (ss.take k) w4) := R4
                have D4 : Hid (Below W5.heap.size W5 w4) := DWa.out.trans b4
                have X4 : Hid (Blk gx #[.string x] 9 w4) := (kp4 gx X2.out.1.lt (by simp [Value.ownBlock]; exact X2.out.2)).trans X2.out.1
                clear R4 b4 kp4
                refine hK.out _ _ trivial (fun hHeld => ?_)
                clear hK K
                try simp only [Act.put, x1, x2, x3, x4, x5, x6]
                refine wpAnyH_ready (rs := [7]) (by kernel_rfl) (by simp) ?_
                refine AllReadyH.cons (o := _) rfl (fun K hK => ?_) AllReadyH.nil
                refine stepApp w4 rfl _ _ rfl W5.heap.size _ (ss.take k) [h] V4.out rfl gx 0 1 1 rfl rfl (one_h (HX.out.symm ▸ X4.out)) (by simp; omega) D4.out.size ?_
                intro v7 w7 R7 b7 kp7
                have V7 : Hid (OwnS W5.heap.size v7 (ss.take k ++ [h]) w7) := R7
                have D7 : Hid (Below W5.heap.size W5 w7) := D4.out.trans b7
                clear R7 b7 kp7
                refine hK.out _ _ trivial (fun hHeld => ?_)
                clear hK K
                try simp only [Act.put, x1, x2, x3, x4, x5, x6]
                refine wpAnyH_ready (rs := [11]) (by kernel_rfl) (by simp) ?_
                refine AllReadyH.cons (o := _) rfl (fun K hK => ?_) AllReadyH.nil
                have hq9 : AllC a3 (ss.drop k) w7 := allC_drop (by have := HLEN.out; have := HKK.out; omega)
                refine stepAppA w7 rfl _ _ rfl W5.heap.size _ (ss.take k ++ [h]) (ss.drop k) V7.out rfl a3 (c2 - k) (ss.length - k) (by rw [List.length_drop]) rfl hq9 (by simp; omega) D7.out.size ?_
                intro v9 w9 R9 b9 kp9
                obtain ⟨a9, c9, rfl, _⟩ := R9.shape
                have V9 : Hid (OwnS (w.heap.size + 2) (.slice a9 (ss.take k ++ [h] ++ ss.drop k).length c9) (ss.take k ++ [h] ++ ss.drop k) w9) := R9.base (by have := HR7.out.lt; omega)
                have D9 : Hid (Below W5.heap.size W5 w9) := D7.out.trans b9
                clear R9 b9 kp9
                refine hK.out _ _ trivial (fun hHeld => ?_)
                clear hK K
                try simp only [Act.put, x1, x2, x3, x4, x5, x6]
                have HR9 := HR7.out.below D9.out HR7.out.lt
                have r9 := HR9.cell 0
                have f9 := HR9.free 0
                simp only [List.getElem?_toArray, List.getElem?_cons_zero] at r9
                have HFIN : Hid (OwnS (w.heap.size + 2) (.slice a9 (ss.take k ++ [h] ++ ss.drop k).length c9) (ss.take k ++ [h] ++ ss.drop k) (w9.setCell ⟨w.heap.size + 1, 0, none⟩ (.slice a9 (ss.take k ++ [h] ++ ss.drop k).length c9)) ∧ Below w.heap.size w (w9.setCell ⟨w.heap.size + 1, 0, none⟩ (.slice a9 (ss.take k ++ [h] ++ ss.drop k).length c9))) := ⟨V9.out.off1 HR9 (by decide) 0 _, (HB7.out.trans (D9.out.mono HB7.out.size)).setCell (p := ⟨w.heap.size + 1, 0, none⟩) (by show w.heap.size ≤ w.heap.size + 1; omega) _⟩
                generalize (ss.take k ++ [h] ++ ss.drop k).length = n9 at *
                refine tk 12 rfl (by kernel_rfl) (fun _ _ _ h => h) (by rfl) (fun w hSw => by (try dsimp only at hSw); go_simp; try (with_reducible rfl)) (by assumption) ?_
                simp only [Act.put, x1, x2, x3, x4, x5, x6]
                refine wpAnyH_ready (rs := [13]) (by kernel_rfl) (by simp) ?_
                refine AllReadyH.cons (o := _) rfl (fun K hK => ?_) AllReadyH.nil
                go_simp
                skip
                refine hK.out _ _ (trivial) (fun hHeld => ?_)
                clear hK K
                try simp only [Act.put, x1, x2, x3, x4, x5, x6]
                refine tk 14 rfl (by kernel_rfl) (fun _ _ _ h => h) (by rfl) (fun w hSw => by (try dsimp only at hSw); go_simp; try (with_reducible rfl)) (by assumption) ?_
                simp only [Act.put, x1, x2, x3, x4, x5, x6]
                refine wpAnyH_done (by kernel_rfl) ?_ _
                go_wp2
                refine bodyPost_ret (v := .tuple #[.agg #[.slice a9 n9 c9], .bool true]) (by simp [results, Tryd.results10, go_sem, r9]) rfl ⟨_, by rw [HP.out.2], by rw [HP.out.1]; exact HFIN.out.1, HFIN.out.2⟩
end Go.Proofs.YtbogjajfbchdjaaDoor
