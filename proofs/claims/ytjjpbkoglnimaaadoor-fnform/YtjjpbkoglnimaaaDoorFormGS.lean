/- spec.FormGet: the pairs of a query. -/
import Derived.Test.YtjjpbkoglnimaaaDoorPairO
import Derived.Test.YtjjpbkoglnimaaaDoorAtS
import Derived.Test.YtjjpbkoglnimaaaDoorPlusS
import Derived.Test.YtjjpbkoglnimaaaDoorCutS
set_option linter.unusedVariables false
namespace Go.Proofs.YtjjpbkoglnimaaaDoor
open Go.RowKit Go.Shelf

/-- Texts in a block of texts. -/
def PartsAt (g : Nat) (P : List (List UInt8)) (w : World) : Prop := ∃ A fr, w.heap[g]? = some (.cells A 9 fr) ∧ ∀ j (hj : j < P.length), A[j]? = some (.string (mk P[j]))
theorem PartsAt.cell {g : Nat} {P : List (List UInt8)} {w : World} (h : PartsAt g P w) (j : Nat) (hj : j < P.length) : w.cell? ⟨g, j, none⟩ = some (.string (mk P[j])) := by
  obtain ⟨A, fr, hg, hc⟩ := h
  rw [Lib.cell_of_heap hg]; exact hc j hj
theorem PartsAt.later {g : Nat} {P : List (List UInt8)} {w w' : World} (h : PartsAt g P w) (hb : Below w.heap.size w w') : PartsAt g P w' := by
  obtain ⟨A, fr, hg, hc⟩ := h
  exact ⟨A, fr, (hb.block g (Array.getElem?_eq_some_iff.1 hg).1).trans hg, hc⟩
/-- All blocks but those of pairs stay. -/
def KeptT (w w' : World) : Prop := ∀ (g : Nat) (A : Array Value) (T : TypeId) (fr : Nat × Nat), w.heap[g]? = some (Obj.cells A T fr) → T ≠ 41 → w'.heap[g]? = w.heap[g]?
theorem PartsAt.kept {g : Nat} {P : List (List UInt8)} {w w' : World} (h : PartsAt g P w) (hk : KeptT w w') : PartsAt g P w' := by
  obtain ⟨A, fr, hg, hc⟩ := h
  exact ⟨A, fr, (hk g A _ fr hg (by decide)).trans hg, hc⟩
theorem ownS_parts {B : Nat} {v : Value} {ps : List (List UInt8)} {w : World} (h : OwnS B v ps w) (hne : ps ≠ []) : ∃ g c, v = .slice (some ⟨g, 0, none⟩) ps.length c ∧ ps.length ≤ c ∧ PartsAt g ps w := by
  rcases h.2 with ⟨_, h0⟩ | ⟨g, cap, cur, hv, hb, hg, hnc, hcm, hcs, htake⟩
  · exact absurd (List.length_eq_zero_iff.1 h0) hne
  · refine ⟨g, cap, hv, hnc, cur, _, hg, fun j hj => ?_⟩
    have : (cur.toList.take (ps.length * 1))[j]? = (ps.map fun p => Value.string (mk p))[j]? := by rw [htake]
    rw [List.getElem?_take] at this
    simp [hj] at this
    simpa using this

theorem wpAppendPairK {ops : Array Oper} {rest : List Oper} {o : Oper} {a : Act} {Q : Exit → Act → World → Prop} (w0 : World) (hgd : o.guard = none) (s x : Operand)
    (ho : o.op = .call { callee := .builtin .append, args := #[s, x], argTypes := #[23, 23] })
    (B : Nat) (v : Value) (ps : List PairL) (p : PairL) (b c : ByteArray) (hb : b = mk p.1) (hc : c = mk p.2) (hI : OwnP B v ps w0) (hs : a.eval s = v)
    (gx : Nat) (hx : a.eval x = .slice (some ⟨gx, 0, none⟩) 1 1) (hgx : gx = w0.heap.size) (hlen : ps.length + 1 ≤ 1000000000000) (hB : B ≤ w0.heap.size)
    (h : ∀ v' w', OwnP B v' (ps ++ [p]) w' → Below B w0 w' → KeptT w0 w' → wpList Tryd.prog ops Q rest (a.put o.dst v') w') : wpList Tryd.prog ops Q (o :: rest) a (w0.alloc (.cells #[.string b, .string c] 41)) := by
  subst hgx
  obtain ⟨i0, hi, hz0, hz1, hz2⟩ := info_parts infoPair
  refine wpList_append_own _ hgd s x 23 ho B 41 i0 (.agg #[.string ⟨#[]⟩, .string ⟨#[]⟩]) 2 32 Tryd.underlying23 hi hz0 hz1 hz2 rfl (by decide) v ps.length (cellsP ps) hs (World.ownsRow.alloc hI _) ⟨w0.heap.size, 0, none⟩ 1 1 [.string b, .string c] hx rfl ?c1 ?c2 ?c3 ?c4 ?c5 ?_
  case c1 =>
    intro j u hj
    rw [addr_add, Lib.cell_of_heap (heap_alloc_new w0 _)]
    simpa using hj
  case c2 => intro u hu; simp at hu; rcases hu with rfl | rfl <;> rfl
  case c3 => unfold maxLen; omega
  case c4 => omega
  case c5 => simp; omega
  intro v' w1 hown hgrow _
  refine h v' w1 ?_ ?_ ?_
  · have e : cellsP (ps ++ [p]) = cellsP ps ++ [.string b, .string c] := by simp [cellsP, hb, hc]
    unfold OwnP; rw [e, List.length_append]; exact hown
  · exact ((Below.refl B w0).alloc hB _).grown hgrow (by simp; omega) (fun k hk => (World.ownsRow.lt hI k hk).1)
  · intro g A T fr hg hT
    have hlt := (Array.getElem?_eq_some_iff.1 hg).1
    rw [hgrow.block g (by simp; omega) ?_, Lib.alloc_old w0 _ g hlt]
    rcases hI.2 with ⟨rfl, _⟩ | ⟨g', cap, cur, rfl, _, hg', _⟩
    · simp [Value.ownBlock]
    · intro e
      simp only [Value.ownBlock, Option.some.injEq] at e
      subst e
      rw [hg] at hg'
      simp at hg'
      exact hT hg'.2.1

set_option maxHeartbeats 4000000 in
set_option maxRecDepth 100000 in
theorem specFormGet (s : ByteArray) (w : World) (hs : s.size ≤ 1048576) :
    Calls Tryd.prog 13 #[.string s] w fun e w' => ∃ v, e = .returned v ∧ OwnP w.heap.size v (formL s.data.toList) w' ∧ Below w.heap.size w w' := by
  have hl : s.data.toList.length = s.size := by simp
  obtain ⟨P, hP⟩ : ∃ P, P = cutL 38 s.data.toList := ⟨_, rfl⟩
  have HNE : Hid (P ≠ []) := by rw [hP]; exact cutL_ne _ _
  have hPl : P.length ≤ 1048577 := by rw [hP]; have := cutL_len_le 38 s.data.toList; omega
  have HM : Hid (∀ q ∈ P, q.length ≤ s.size) := by intro q hq; rw [hP] at hq; have := cutL_mem_le 38 _ q hq; omega
  have CC : Hid (∀ W, Calls Tryd.prog 31 #[.string s, .int .u8 38] W fun e w' => ∃ g c, e = .returned (.slice (some ⟨g, 0, none⟩) P.length c) ∧ PartsAt g P w' ∧ Below W.heap.size W w') := by
    intro W
    refine (l1Cut s 38 W hs).mono ?_
    rintro e w' ⟨v, rfl, hO, b⟩
    rw [← hP] at hO
    obtain ⟨g, c, rfl, _, hA⟩ := ownS_parts hO HNE.out
    exact ⟨g, c, rfl, hA, b⟩
  have h0 := ownP_new w w.heap.size (Nat.le_refl _)
  have HF : Hid (s.size ≤ 600 → formL s.data.toList = formG P) := by intro h; rw [hP]; exact formL_small _ (by omega)
  have HFG : Hid (¬ s.size ≤ 600 → formL s.data.toList = []) := by intro h; exact formL_great _ (by omega)
  have hpos : 0 < P.length := List.length_pos_iff.2 HNE.out
  clear hP
  by_cases h6 : s.size ≤ 600
  · rw [HF.out h6]
    have hi6 : (s.size : Int) ≤ 600 := by omega
    go_enter Tryd.func13, Tryd.ntmps13
    go_wp2_with fail
    refine (CC.out _).mono ?_
    rintro e w1 ⟨g, c, rfl, hA, b1⟩
    have hO1 := h0.later b1
    have B1 : Below w.heap.size w w1 := ((Below.refl _ w).alloc (Nat.le_refl _) _).trans (b1.mono (by simp))
    clear h0 b1 CC
    go_wp2_with fail
    go_loopw [3, 5] (fun v i wr => ∃ k : Nat, k ≤ P.length ∧ i = .int .i64 k ∧ OwnP w.heap.size v (formG (P.take k)) wr ∧ PartsAt g P wr ∧ Below w.heap.size w wr) (fun _ i wr => P.length - (intOf i).toNat)
    case atStart => exact ⟨0, Nat.zero_le _, rfl, hO1, hA, B1⟩
    case round =>
      clear hO1 hA B1
      obtain ⟨k, hk, rfl, hI, hA, hbw⟩ := hrel
      have hsz : w.heap.size ≤ wr.heap.size := hbw.size
      by_cases hp : k < P.length
      · have hki : (k : Int) < (P.length : Int) := by omega
        have hc := hA.cell k hp
        have HST : Hid (formG (P.take (k + 1)) = if P[k] = [] then formG (P.take k) else formG (P.take k) ++ [pieceG P[k]]) := formG_snoc P k hp
        have hal : (formG (P.take k)).length ≤ P.length := by have h1 := formG_len (P.take k); have h2 := List.length_take_le' k P; omega
        obtain ⟨acc, hacc⟩ : ∃ acc, acc = formG (P.take k) := ⟨_, rfl⟩
        rw [← hacc] at hI HST hal
        have hql : P[k].length ≤ 600 := by have := HM.out _ (List.getElem_mem hp); omega
        obtain ⟨p, hpp⟩ : ∃ p, p = P[k] := ⟨_, rfl⟩
        rw [← hpp] at hc HST hql
        have HPP : Hid (∀ W, PartsAt g P W → W.cell? ⟨g, k, none⟩ = some (.string (mk p))) := by intro W hW; rw [hpp]; exact hW.cell k hp
        clear hpp hacc
        by_cases he : p = []
        · subst he
          have hc2 : wr.cell? ⟨g, k, none⟩ = some (.string ⟨#[]⟩) := hc
          clear hc
          go_wp2
          go_roundw
          case rel => exact ⟨k + 1, by omega, by go_num, by rw [HST.out, if_pos rfl]; exact hI, hA, hbw⟩
          case measure => simp [intOf]; omega
        · obtain ⟨z, hz⟩ : ∃ z, z = mk p := ⟨_, rfl⟩
          have hne1 : (z.toList == []) = false := by rw [hz, beq_eq_false_iff_ne, ByteArray.toList_eq, mk_data]; exact he
          have hne2 : z.toList.isEmpty = false := by rw [hz, ByteArray.toList_eq, mk_data]; exact List.isEmpty_eq_false_iff.2 he
          have hzs : z.size = p.length := by rw [hz, mk_size]
          have hat := atL_le [61] p
          obtain ⟨q, hq⟩ : ∃ q, q = atL [61] p := ⟨_, rfl⟩
          have CA : Hid (∀ W, Calls Tryd.prog 32 #[.string z, .string ⟨#[61]⟩] W fun e w' => e = .returned (.int .i64 (q : Int)) ∧ Below W.heap.size W w') := by
            intro W
            have := l1At z ⟨#[61]⟩ W (by omega) (by decide)
            rw [hz, mk_data] at this
            rw [hq, hz]; exact this
          rw [← hq] at hat
          have e1 : z.extract 0 q = mk (aheadL [61] p) := by rw [ext_mk, hz, mk_data, hq, List.drop_zero, Nat.sub_zero, ahead_take]
          have e2 : z.extract (q + 1) z.size = mk (behindL [61] p) := by
            rw [ext_mk, hz, mk_data, hq, behind_drop, List.take_of_length_le]
            rw [← behind_drop, List.length_drop, mk_size]; omega
          have C1 : Hid (∀ W, Calls Tryd.prog 33 #[.string (mk (aheadL [61] p))] W fun e w' => e = .returned (.string (mk (pieceG p).1)) ∧ Below W.heap.size W w') := fun W => l1Plus _ W (by have := ahead_le [61] p; omega)
          have C2 : Hid (∀ W, Calls Tryd.prog 33 #[.string (mk (behindL [61] p))] W fun e w' => e = .returned (.string (mk (pieceG p).2)) ∧ Below W.heap.size W w') := fun W => l1Plus _ W (by have := behind_le [61] p; omega)
          have HQ2 : Hid (q = p.length → (⟨#[]⟩ : ByteArray) = mk (pieceG p).2) := by
            intro h
            have : behindL [61] p = [] := by rw [← behind_drop, ← hq, h]; simp
            unfold pieceG textG; rw [this]; rfl
          rw [← hz] at hc HPP
          have hqi : (q : Int) ≤ (z.size : Int) := by omega
          have hzi : z.size ≤ 600 := by omega
          have HZS : Hid (z.size = p.length) := hzs
          clear hz hq hzs
          go_wp2_with fail
          refine (CA.out _).mono ?_
          rintro e W1 ⟨rfl, d1⟩
          have hA1 := hA.later d1
          have hI1 := hI.later d1
          have hc1 := HPP.out _ hA1
          have hb1 := hbw.trans (d1.mono hsz)
          have hsz1 := hb1.size
          clear hA hI hc hbw hsz d1
          go_wp2_with fail
          refine (C1.out _).mono ?_
          rintro e W2 ⟨rfl, d2⟩
          have hA2 := hA1.later d2
          have hI2 := hI1.later d2
          have hc2 := HPP.out _ hA2
          have hb2 := hb1.trans (d2.mono hsz1)
          have hsz2 := hb2.size
          clear hA1 hI1 hc1 hb1 hsz1 d2
          have hgl : g < W2.heap.size := cell_in hc2
          have hgn : g ≠ W2.heap.size := by omega
          by_cases hq2 : q = p.length
          · have hq3 : ¬ ((q : Int) < (z.size : Int)) := by have := HZS.out; omega
            have HV := HQ2.out hq2
            have hb5 : Below W2.heap.size W2 (W2.alloc (.cells #[.string (mk (pieceG p).1), .string ⟨#[]⟩] 41)) := (Below.refl _ W2).alloc (Nat.le_refl _) _
            have hI5 := hI2.later hb5
            have hA5 := hA2.later hb5
            have B5 := hb2.trans (hb5.mono hsz2)
            have z5 := B5.size
            have HV2 : Hid ((⟨#[]⟩ : ByteArray) = mk (pieceG p).2) := HV
            clear HV hq2 hI2 hA2 hb2 hb5
            go_wp2_with (at_builtin; refine wpAppendPairK _ rfl _ _ rfl w.heap.size _ acc (pieceG p) _ _ rfl HV2.out hI5 rfl _ rfl (by simp) (by omega) z5 ?_; intro v1 w4 R b4 k4)
            go_roundw
            case rel => exact ⟨k + 1, by omega, by go_num, by rw [HST.out, if_neg he]; exact R, hA5.kept k4, B5.trans b4⟩
            case measure => simp [intOf]; omega
          · have hq3 : (q : Int) < (z.size : Int) := by have := HZS.out; omega
            go_wp2_with fail
            refine (C2.out _).mono ?_
            rintro e W4 ⟨rfl, d4⟩
            have hb4 : Below W2.heap.size W2 W4 := ((Below.refl _ W2).alloc (Nat.le_refl _) _).trans (d4.mono (by simp))
            have hh : W4.heap[W2.heap.size]? = some (.cells #[.string (mk (pieceG p).1), .string ⟨#[]⟩] 41 (0, 0)) := (d4.block _ (by simp)).trans (heap_alloc_new W2 _)
            have c0 : W4.cell? ⟨W2.heap.size, 0, none⟩ = some (.string (mk (pieceG p).1)) := by rw [Lib.cell_of_heap hh]; rfl
            have c1 : W4.cell? ⟨W2.heap.size, 1, none⟩ = some (.string ⟨#[]⟩) := by rw [Lib.cell_of_heap hh]; rfl
            have f1 : W4.frozen? ⟨W2.heap.size, 1, none⟩ = false := Lib.frozen_of_heap hh 1
            have hb5 : Below W2.heap.size W2 (W4.setCell ⟨W2.heap.size, 1, none⟩ (.string (mk (pieceG p).2))) := hb4.setCell (p := ⟨W2.heap.size, 1, none⟩) (Nat.le_refl _) _
            have hI5 := hI2.later hb5
            have hA5 := hA2.later hb5
            have B5 := hb2.trans (hb5.mono hsz2)
            have z5 := B5.size
            clear hI2 hA2 hb2 hb5 hb4 d4 hh
            go_wp2_with (at_builtin; refine wpAppendPairK _ rfl _ _ rfl w.heap.size _ acc (pieceG p) _ _ rfl rfl hI5 rfl _ rfl (by simp) (by omega) z5 ?_; intro v1 w4 R b4 k4)
            go_roundw
            case rel => exact ⟨k + 1, by omega, by go_num, by rw [HST.out, if_neg he]; exact R, hA5.kept k4, B5.trans b4⟩
            case measure => simp [intOf]; omega
      · have hkk : ¬ ((k : Int) < (P.length : Int)) := by omega
        have hkk2 : k = P.length := by omega
        rw [hkk2, List.take_length] at hI
        clear hkk2
        go_wp2
        go_ret
        exact ⟨_, rfl, hI, hbw⟩
  · rw [HFG.out h6]
    have hi6 : (600 : Int) < (s.size : Int) := by omega
    have hpi : (0 : Int) < (P.length : Int) := by omega
    go_enter Tryd.func13, Tryd.ntmps13
    go_wp2_with fail
    refine (CC.out _).mono ?_
    rintro e w1 ⟨g, c, rfl, hA, b1⟩
    have hO1 := h0.later b1
    have B1 : Below w.heap.size w w1 := ((Below.refl _ w).alloc (Nat.le_refl _) _).trans (b1.mono (by simp))
    go_wp2_with fail
    go_loopw [3, 5] (fun v i wr => v = .slice (some ⟨w.heap.size, 0, none⟩) 0 0 ∧ i = .int .i64 0 ∧ wr = w1) (fun _ i wr => 0)
    case atStart => exact ⟨rfl, rfl, rfl⟩
    case round =>
      obtain ⟨rfl, rfl, rfl⟩ := hrel
      go_wp2
      go_ret
      exact ⟨_, rfl, hO1, B1⟩
end Go.Proofs.YtjjpbkoglnimaaaDoor
