/- laws.toSure (the row owned), markSure, heldSure. -/
import Derived.Test.YtbogjajfbchdjaaDoorSurA
import Derived.Test.YtbogjajfbchdjaaDoorSurD
import Derived.Test.YtbogjajfbchdjaaDoorMarkS
set_option linter.unusedVariables false
set_option linter.unusedSimpArgs false
namespace Go.Proofs.YtbogjajfbchdjaaDoor
open Go.RowKit Go.Shelf

theorem Part.own {g B : Nat} {ss : List (List UInt8)} {w : World} (h : Part g ss ss.length w) (hB : B ≤ g) (hl : ss.length ≤ 1000000000) : OwnS B (.slice (some ⟨g, 0, none⟩) ss.length ss.length) ss w := by
  obtain ⟨A, hg, hs, hc⟩ := h
  refine ⟨by simp, .inr ⟨g, ss.length, A, rfl, hB, hg, Nat.le_refl _, by unfold maxLen; omega, by omega, ?_⟩⟩
  apply List.ext_getElem?
  intro j
  rw [Nat.mul_one, List.getElem?_take]
  by_cases hj : j < ss.length
  · rw [if_pos hj]
    have := hc j hj hj
    simp at this ⊢
    rw [this]; simp [hj]
  · rw [if_neg hj]
    rw [List.getElem?_eq_none (by rw [List.length_map]; omega)]
theorem heap_other (w : World) (g j k : Nat) (x : Value) (h : k ≠ g) : (w.setCell ⟨g, j, none⟩ x).heap[k]? = w.heap[k]? := by
  simp [World.setCell, Array.getElem?_modify]
  intro e
  exact absurd e.symm h
/-- All blocks but a row's own are as they were. -/
structure Kp (a : Option Addr) (w w' : World) : Prop where
  make ::
  size : w.heap.size ≤ w'.heap.size
  block : ∀ k, k < w.heap.size → (∀ g, a = some ⟨g, 0, none⟩ → k ≠ g) → w'.heap[k]? = w.heap[k]?
theorem Kp.refl (a : Option Addr) (w : World) : Kp a w w := ⟨Nat.le_refl _, fun _ _ _ => rfl⟩
theorem Kp.below {a : Option Addr} {w w1 w2 : World} (h : Kp a w w1) (d : Below w1.heap.size w1 w2) : Kp a w w2 :=
  ⟨Nat.le_trans h.size d.size, fun k hk hn => (d.block k (Nat.lt_of_lt_of_le hk h.size)).trans (h.block k hk hn)⟩
theorem Kp.ahead {a : Option Addr} {w w1 w2 : World} (d : Below w.heap.size w w1) (h : Kp a w1 w2) : Kp a w w2 :=
  ⟨Nat.le_trans d.size h.size, fun k hk hn => (h.block k (Nat.lt_of_lt_of_le hk d.size) hn).trans (d.block k hk)⟩
theorem Kp.put {w w1 : World} {g : Nat} (h : Kp (some ⟨g, 0, none⟩) w w1) (j : Nat) (v : Value) : Kp (some ⟨g, 0, none⟩) w (w1.setCell ⟨g, j, none⟩ v) :=
  ⟨by have := h.size; simpa [World.setCell] using this, fun k hk hn => (heap_other w1 g j k v (hn g rfl)).trans (h.block k hk hn)⟩
theorem Kp.blk {a : Option Addr} {w w' : World} {k : Nat} {A : Array Value} {t : TypeId} (h : Kp a w w') (b : Blk k A t w) (hn : ∀ g, a = some ⟨g, 0, none⟩ → k ≠ g) : Blk k A t w' := (h.block k b.lt hn).trans b
theorem cell_same {w w' : World} {p : Addr} (h : w'.heap[p.block]? = w.heap[p.block]?) : w'.cell? p = w.cell? p := by
  unfold World.cell?
  rw [h]
theorem Kp.strs {a a1 : Option Addr} {n : Nat} {ss : List (List UInt8)} {w w' : World} (h : Kp a w w') (s : StrsOf a1 n ss w) (hn : ∀ g b off, a = some ⟨g, 0, none⟩ → a1 = some ⟨b, off, none⟩ → b ≠ g) : StrsOf a1 n ss w' := by
  refine ⟨s.1, ?_⟩
  rcases s.2 with h1 | ⟨b, off, rfl, hc⟩
  · exact .inl h1
  · refine .inr ⟨b, off, rfl, fun j hj => ?_⟩
    have hin := cell_in (hc j hj)
    exact (cell_same (p := ⟨b, off + j, none⟩) (h.block b hin (fun g e => hn g b off e rfl))).trans (hc j hj)
theorem Kp.own {a : Option Addr} {B : Nat} {v : Value} {ss : List (List UInt8)} {w w' : World} (h : Kp a w w') (o : OwnS B v ss w) (hn : ∀ g b n c, a = some ⟨g, 0, none⟩ → v = .slice (some ⟨b, 0, none⟩) n c → b ≠ g) : OwnS B v ss w' := by
  refine ⟨o.1, ?_⟩
  rcases o.2 with h1 | ⟨b, cap, cur, hv, hb, hg, rest⟩
  · exact .inl h1
  · refine .inr ⟨b, cap, cur, hv, hb, ?_, rest⟩
    have hlt : b < w.heap.size := by
      rcases Nat.lt_or_ge b w.heap.size with h1 | h1
      · exact h1
      · rw [Array.getElem?_eq_none h1] at hg; cases hg
    exact (h.block b hlt (fun g e => hn g b _ _ e hv)).trans hg

set_option maxHeartbeats 1000000 in
set_option maxRecDepth 100000 in
theorem markStringN (B : Nat) (a : Option Addr) (n c : Nat) (ps : List (List UInt8)) (k : Nat) (w : World) (h : OwnS B (.slice a n c) ps w) (hn : n = ps.length) (hB : B ≤ w.heap.size) (hk : 1 ≤ k) (hk2 : k ≤ 2000000) (hl : ps.length ≤ 1100000) :
    Calls Tryd.prog 23 #[.slice a n c, .int .i64 k] w fun e w' => e = .returned (.int .i64 ((k + n : Nat) : Int)) ∧ OwnS B (.slice a n c) (markTs k n) w' ∧ Below B w w' ∧ Kp a w w' := by
  subst hn
  go_enter Tryd.func23, Tryd.ntmps23
  go_wp2
  go_loopw [1, 5] (fun q i wr => ∃ j : Nat, j ≤ ps.length ∧ i = .int .i64 j ∧ q = .int .i64 ((k + j : Nat) : Int) ∧ OwnS B (.slice a ps.length c) (markTs k j ++ ps.drop j) wr ∧ Below B w wr ∧ Hid (Kp a w wr)) (fun _ i wr => ps.length - (intOf i).toNat)
  case atStart => exact ⟨0, Nat.zero_le _, rfl, rfl, h, Below.refl _ _, Kp.refl _ _⟩
  case round =>
    obtain ⟨j, hj, rfl, rfl, hI, hbw, hkb⟩ := hrel
    have hsz : B ≤ wr.heap.size := Nat.le_trans hB hbw.size
    by_cases hp : j < ps.length
    · have hji : (j : Int) < (ps.length : Int) := by omega
      have hlen : (markTs k j ++ ps.drop j).length = ps.length := by rw [List.length_append, markTs_len, List.length_drop]; omega
      have hne : ps ≠ [] := by intro e; rw [e] at hp; simp at hp
      obtain ⟨g, rfl⟩ : ∃ g, a = some ⟨g, 0, none⟩ := by
        obtain ⟨g, c', hv, _⟩ := ownS_strs h hne
        simp only [Value.slice.injEq] at hv
        exact ⟨g, hv.1⟩
      go_wp2_with fail
      refine (markText (k + j) _ (by omega) (by omega)).mono ?_
      rintro e W1 ⟨rfl, d1⟩
      have hI1 := hI.later d1
      have HKB : Hid (Kp (some ⟨g, 0, none⟩) w (W1.setCell ⟨g, j, none⟩ (.string (mk (markT (k + j)))))) := (hkb.out.below d1).put j _
      obtain ⟨⟨u, hu⟩, hf, hgB⟩ := hI1.lay j (by omega)
      have HS : Hid (OwnS B (.slice (some ⟨g, 0, none⟩) ps.length c) (markTs k (j + 1) ++ ps.drop (j + 1)) (W1.setCell ⟨g, j, none⟩ (.string (mk (markT (k + j)))))) := by
        rw [← set_marks k j ps hp]; exact hI1.set j _ (by omega)
      have hb1 := hbw.trans (d1.mono hsz)
      clear hI hI1 hkb
      go_wp2
      go_roundw
      case rel => exact ⟨j + 1, by omega, by go_num, by congr 1, HS.out, hb1.setCell (p := ⟨g, j, none⟩) hgB _, HKB⟩
      case measure => simp [intOf]; omega
    · have hkk : j = ps.length := by omega
      subst hkk
      rw [List.drop_length, List.append_nil] at hI
      go_wp2
      go_ret
      exact ⟨rfl, hI, hbw, hkb.out⟩

set_option maxHeartbeats 1000000 in
set_option maxRecDepth 100000 in
theorem toSureO (a : Option Addr) (len cap : Nat) (ss : List (List UInt8)) (w : World) (h : StrsOf a len ss w) (hl : len ≤ 1000000000) :
    Calls Tryd.prog 7 #[.agg #[.slice a len cap]] w fun e w' => ∃ g, e = .returned (.agg #[.slice (some ⟨g, 0, none⟩) len len]) ∧ OwnS w.heap.size (.slice (some ⟨g, 0, none⟩) len len) ss w' ∧ Below w.heap.size w w' := by
  have B3 : ∀ o o1 o2, Below w.heap.size w (((w.alloc o).alloc o1).alloc o2) := fun o o1 o2 => by
    have h1 := (Below.refl w.heap.size w).alloc (Nat.le_refl _) o
    have h2 := h1.alloc h1.size o1
    exact h2.alloc h2.size o2
  have HLEN : Hid (len = ss.length) := h.1
  go_enter Tryd.func7, Tryd.ntmps7
  go_wp2_with fail
  refine (toStringP a len cap ss _ (h.later (B3 _ _ _)) hl).mono ?_
  rintro e W1 ⟨rfl, p1, b1⟩
  have q1 : Blk (w.heap.size + 1) #[.slice none 0 0] 27 W1 := by
    refine Blk.below ?_ b1 (by simp)
    refine Blk.alloc ?_ _
    have := Blk.new (w.alloc (.cells #[.slice a len cap] 24)) #[.slice none 0 0] 27
    simpa using this
  have q2 : Blk (w.heap.size + 1 + 1) #[.slice none 0 0] 27 W1 := by
    refine Blk.below ?_ b1 (by simp)
    have := Blk.new ((w.alloc (.cells #[.slice a len cap] 24)).alloc (.cells #[.slice none 0 0] 27)) #[.slice none 0 0] 27
    simpa using this
  have c1 := q1.cell 0
  have c2 := q2.cell 0
  have f1 := q1.free 0
  have f2 := q2.free 0
  simp at c1 c2
  have B1 : Hid (Below w.heap.size w W1) := (B3 _ _ _).trans (b1.mono (B3 _ _ _).size)
  have hs : OwnS w.heap.size (.slice (some ⟨w.heap.size + 1 + 1 + 1, 0, none⟩) len len) ss W1 := by
    have := p1.own (B := w.heap.size) (by simp; omega) (by have := HLEN.out; omega)
    rw [← HLEN.out] at this
    simpa using this
  have HE : Hid (∀ v1 v2, OwnS w.heap.size (.slice (some ⟨w.heap.size + 1 + 1 + 1, 0, none⟩) len len) ss ((W1.setCell ⟨w.heap.size + 1 + 1, 0, none⟩ v1).setCell ⟨w.heap.size + 1, 0, none⟩ v2) ∧ Below w.heap.size w ((W1.setCell ⟨w.heap.size + 1 + 1, 0, none⟩ v1).setCell ⟨w.heap.size + 1, 0, none⟩ v2)) := fun v1 v2 => by
    have q1' : Blk (w.heap.size + 1) #[.slice none 0 0] 27 (W1.setCell ⟨w.heap.size + 1 + 1, 0, none⟩ v1) := (heap_other W1 (w.heap.size + 1 + 1) 0 (w.heap.size + 1) v1 (by omega)).trans q1
    exact ⟨(hs.off1 q2 (by decide) 0 v1).off1 q1' (by decide) 0 v2, (B1.out.setCell (p := ⟨w.heap.size + 1 + 1, 0, none⟩) (by show w.heap.size ≤ w.heap.size + 1 + 1; omega) _).setCell (p := ⟨w.heap.size + 1, 0, none⟩) (by show w.heap.size ≤ w.heap.size + 1; omega) _⟩
  clear hs
  clear q1 q2 b1 p1 B3 h
  go_wp2
  refine bodyPost_ret (v := .agg #[.slice (some ⟨w.heap.size + 1 + 1 + 1, 0, none⟩) len len]) ?_ ?_ ?_
  · have hres : Tryd.f7.results = #[.cell 2 27] := by kernel_rfl
    simp only [results, hres]
    go_simp
  · rfl
  · exact ⟨_, rfl, (HE.out _ _).1, (HE.out _ _).2⟩


set_option maxHeartbeats 1000000 in
set_option maxRecDepth 100000 in
theorem markSure (B : Nat) (a : Option Addr) (n c : Nat) (ps : List (List UInt8)) (k : Nat) (w : World) (h : OwnS B (.slice a n c) ps w) (hn : n = ps.length) (hB : B ≤ w.heap.size) (hk : 1 ≤ k) (hk2 : k ≤ 2000000) (hl : ps.length ≤ 1100000) :
    Calls Tryd.prog 12 #[.agg #[.slice a n c], .int .i64 k] w fun e w' => e = .returned (.int .i64 ((k + n : Nat) : Int)) ∧ OwnS B (.slice a n c) (markTs k n) w' ∧ Below B w w' ∧ Kp a w w' := by
  have CM : Hid (∀ W, Below w.heap.size w W → Calls Tryd.prog 23 #[.slice a n c, .int .i64 k] W fun e w' => e = .returned (.int .i64 ((k + n : Nat) : Int)) ∧ OwnS B (.slice a n c) (markTs k n) w' ∧ Below B w w' ∧ Kp a w w') := fun W d =>
    (markStringN B a n c ps k W (h.later d) hn (by have := d.size; omega) hk hk2 (by omega)).mono fun e w' ⟨h1, h2, h3, h4⟩ => ⟨h1, h2, (d.mono hB).trans h3, Kp.ahead d h4⟩
  clear h hn hB hl
  go_enter Tryd.func12, Tryd.ntmps12
  go_wp2_with fail
  refine (CM.out _ ((Below.refl _ w).alloc (Nat.le_refl _) _)).mono ?_
  rintro e W1 ⟨rfl, o1, d1, k1⟩
  have HK : Hid (Kp a w W1) := k1
  clear k1
  go_wp2
  go_ret
  exact ⟨rfl, o1, d1, HK.out⟩
set_option maxHeartbeats 1000000 in
set_option maxRecDepth 100000 in
theorem heldSure (a : Option Addr) (n c k : Nat) (w : World) (h : StrsOf a n (markTs k n) w) (hk : 1 ≤ k) (hk2 : k ≤ 2000000) (hl : n ≤ 1100000) :
    Calls Tryd.prog 13 #[.agg #[.slice a n c], .int .i64 k] w fun e w' => e = .returned (.int .i64 ((k + n : Nat) : Int)) ∧ Below w.heap.size w w' := by
  have CM : Hid (∀ W, Below w.heap.size w W → Calls Tryd.prog 24 #[.slice a n c, .int .i64 k] W fun e w' => e = .returned (.int .i64 ((k + n : Nat) : Int)) ∧ Below w.heap.size w w') := fun W b =>
    (heldStringS a n c k W (h.later b) hk hk2 hl).mono fun e w' ⟨h1, h2⟩ => ⟨h1, b.trans (h2.mono b.size)⟩
  clear h hl
  go_enter Tryd.func13, Tryd.ntmps13
  go_wp2_with fail
  refine (CM.out _ ((Below.refl _ w).alloc (Nat.le_refl _) _)).mono ?_
  rintro e W1 ⟨rfl, d1⟩
  have h0 : ¬ (((k + n : Nat) : Int) < 0) := by omega
  go_wp2
  go_ret
  exact ⟨rfl, d1⟩
end Go.Proofs.YtbogjajfbchdjaaDoor
