/- laws.markPairS, heldPairS: texts put into pairs, and found there again. -/
import Derived.Test.YtjjpbkoglnimaaaDoorMark
import Derived.Test.YtjjpbkoglnimaaaDoorPairO
set_option linter.unusedVariables false
namespace Go.Proofs.YtjjpbkoglnimaaaDoor
open Go.RowKit Go.Shelf

def markP (k j : Nat) : PairL := (markT (k + 2 * j), markT (k + 2 * j + 1))
def markPs (k n : Nat) : List PairL := (List.range n).map fun i => markP k i
theorem markPs_len (k n : Nat) : (markPs k n).length = n := by simp [markPs]
theorem markPs_at (k n j : Nat) (h : j < (markPs k n).length) : (markPs k n)[j] = markP k j := by simp [markPs]
theorem markPs_succ (k n : Nat) : markPs k (n + 1) = markPs k n ++ [markP k n] := by simp [markPs, List.range_succ]

theorem cellsP_set (ps : List PairL) (j : Nat) (h : j < ps.length) (q : List UInt8) : cellsP (ps.set j (q, ps[j].2)) = (cellsP ps).set (j * 2) (.string (mk q)) ∧ cellsP (ps.set j (ps[j].1, q)) = (cellsP ps).set (j * 2 + 1) (.string (mk q)) := by
  induction ps generalizing j with
  | nil => simp at h
  | cons p ps ih =>
    cases j with
    | zero => exact ⟨rfl, rfl⟩
    | succ j =>
      obtain ⟨h1, h2⟩ := ih j (by simpa using h)
      have e : ∀ r, cellsP (p :: r) = .string (mk p.1) :: .string (mk p.2) :: cellsP r := fun r => rfl
      simp only [List.set_cons_succ, List.getElem_cons_succ]
      rw [e, e, e, h1, h2, show (j + 1) * 2 = (j * 2) + 1 + 1 from by omega]
      exact ⟨rfl, rfl⟩

theorem OwnP.setAt {B g n c i : Nat} {ps ps' : List PairL} {q : ByteArray} {w : World} (h : OwnP B (.slice (some ⟨g, 0, none⟩) n c) ps w) (hl : ps'.length = ps.length) (hi : i < ps.length * 2) (he : cellsP ps' = (cellsP ps).set i (.string q)) : OwnP B (.slice (some ⟨g, 0, none⟩) n c) ps' (w.setCell ⟨g, i, none⟩ (.string q)) := by
  rcases h.2 with ⟨hv, h0⟩ | ⟨g', cap, cur, hv, hB, hg, hnc, hcm, hcs, ht⟩
  · cases hv
  · simp only [Value.slice.injEq, Option.some.injEq, Addr.mk.injEq, and_true] at hv
    obtain ⟨rfl, hn, rfl⟩ := hv
    have hic : i < cur.size := by rw [hcs]; have := Nat.mul_le_mul_right 2 hnc; omega
    refine ⟨by rw [cellsP_len], .inr ⟨g, c, cur.set i (.string q) hic, by rw [hl, hn], hB, ?_, by rw [hl]; exact hnc, hcm, by simpa using hcs, ?_⟩⟩
    · simp [World.setCell, Array.getElem?_modify, hg]
      rw [Array.setIfInBounds_def]
      simp [hic]
    · rw [hl, Array.toList_set, List.take_set, ht, he]
theorem OwnP.lay {B g n c i : Nat} {ps : List PairL} {w : World} (h : OwnP B (.slice (some ⟨g, 0, none⟩) n c) ps w) (hi : i < ps.length * 2) : (∃ v, w.cell? ⟨g, i, none⟩ = some v) ∧ w.frozen? ⟨g, i, none⟩ = false ∧ B ≤ g := by
  rcases h.2 with ⟨hv, h0⟩ | ⟨g', cap, cur, hv, hB, hg, hnc, hcm, hcs, ht⟩
  · cases hv
  · simp only [Value.slice.injEq, Option.some.injEq, Addr.mk.injEq, and_true] at hv
    obtain ⟨rfl, hn, rfl⟩ := hv
    have hic : i < cur.size := by rw [hcs]; have := Nat.mul_le_mul_right 2 hnc; omega
    refine ⟨⟨cur[i], ?_⟩, Lib.frozen_of_heap hg i, hB⟩
    rw [Lib.cell_of_heap hg, Array.getElem?_eq_getElem]
theorem OwnP.addr {B n c : Nat} {a : Option Addr} {ps : List PairL} {w : World} (h : OwnP B (.slice a n c) ps w) (hne : ps ≠ []) : ∃ g, a = some ⟨g, 0, none⟩ := by
  rcases h.2 with ⟨_, h0⟩ | ⟨g, cap, cur, hv, _⟩
  · exact absurd (List.length_eq_zero_iff.1 h0) hne
  · simp only [Value.slice.injEq] at hv
    exact ⟨g, hv.1⟩

theorem marksP_at (k j : Nat) (ps : List PairL) (hj : j < ps.length) (h : j < (markPs k j ++ ps.drop j).length) : (markPs k j ++ ps.drop j)[j] = ps[j] := by
  rw [List.getElem_append_right (by rw [markPs_len]; omega)]
  simp [markPs_len]
theorem marksP_set (k j : Nat) (ps : List PairL) (hj : j < ps.length) : (markPs k j ++ ps.drop j).set j (markP k j) = markPs k (j + 1) ++ ps.drop (j + 1) := by
  rw [List.set_append_right _ _ (by rw [markPs_len]; omega), markPs_len, Nat.sub_self, List.drop_eq_getElem_cons hj, List.set_cons_zero, markPs_succ, List.append_assoc]
  rfl

set_option maxHeartbeats 2000000 in
set_option maxRecDepth 100000 in
theorem markPairS (B : Nat) (v : Value) (ps : List PairL) (k : Nat) (w : World) (h : OwnP B v ps w) (hB : B ≤ w.heap.size) (hk : 1 ≤ k) (hk2 : k ≤ 1000000) (hl : ps.length ≤ 1000000) :
    Calls Tryd.prog 15 #[v, .int .i64 k] w fun e w' => e = .returned (.int .i64 ((k + 2 * ps.length : Nat) : Int)) ∧ OwnP B v (markPs k ps.length) w' ∧ Below B w w' := by
  obtain ⟨a, c, rfl, hcc, _⟩ := h.pairs
  go_enter Tryd.func15, Tryd.ntmps15
  go_wp2
  go_loopw [1, 5] (fun q i wr => ∃ j : Nat, j ≤ ps.length ∧ i = .int .i64 j ∧ q = .int .i64 ((k + 2 * j : Nat) : Int) ∧ OwnP B (.slice a ps.length c) (markPs k j ++ ps.drop j) wr ∧ Below B w wr) (fun _ i wr => ps.length - (intOf i).toNat)
  case atStart => exact ⟨0, Nat.zero_le _, rfl, rfl, h, Below.refl _ _⟩
  case round =>
    obtain ⟨j, hj, rfl, rfl, hI, hbw⟩ := hrel
    have hsz : B ≤ wr.heap.size := Nat.le_trans hB hbw.size
    by_cases hp : j < ps.length
    · have hji : (j : Int) < (ps.length : Int) := by omega
      have hlen : (markPs k j ++ ps.drop j).length = ps.length := by rw [List.length_append, markPs_len, List.length_drop]; omega
      have hne : ps ≠ [] := by intro e; rw [e] at hp; simp at hp
      obtain ⟨g, rfl⟩ := h.addr hne
      have hat := marksP_at k j ps hp (by omega)
      obtain ⟨L, hL⟩ : ∃ L, L = markPs k j ++ ps.drop j := ⟨_, rfl⟩
      have HS0 : Hid (L.set j (markP k j) = markPs k (j + 1) ++ ps.drop (j + 1)) := by rw [hL]; exact marksP_set k j ps hp
      rw [← hL] at hI hlen
      have hjL : j < L.length := by omega
      have hcs1 := (cellsP_set L j hjL (markT (k + 2 * j))).1
      obtain ⟨L1, hL1⟩ : ∃ L1, L1 = L.set j (markT (k + 2 * j), L[j].2) := ⟨_, rfl⟩
      have hL1l : L1.length = L.length := by rw [hL1, List.length_set]
      have hjL1 : j < L1.length := by omega
      have hcs2 := (cellsP_set L1 j hjL1 (markT (k + 2 * j + 1))).2
      have hL2 : L1.set j (L1[j].1, markT (k + 2 * j + 1)) = L.set j (markP k j) := by
        subst hL1
        rw [List.set_set]
        congr 1
        simp [markP]
      rw [← hL1] at hcs1
      rw [hL2, HS0.out] at hcs2
      have hlf : (markPs k (j + 1) ++ ps.drop (j + 1)).length = L1.length := by rw [List.length_append, markPs_len, List.length_drop]; omega
      have HC1 : Hid (cellsP L1 = (cellsP L).set (j * 2) (.string (mk (markT (k + 2 * j))))) := hcs1
      have HC2 : Hid (cellsP (markPs k (j + 1) ++ ps.drop (j + 1)) = (cellsP L1).set (j * 2 + 1) (.string (mk (markT (k + 2 * j + 1))))) := hcs2
      have HLF : Hid ((markPs k (j + 1) ++ ps.drop (j + 1)).length = L1.length) := hlf
      have hl2 : L.length * 2 = ps.length * 2 := by omega
      have CM1 : Hid (∀ W, Calls Tryd.prog 35 #[.int .i64 ((k + 2 * j : Nat) : Int)] W fun e w' => e = .returned (.string (mk (markT (k + 2 * j)))) ∧ Below W.heap.size W w') := fun W => markText (k + 2 * j) W (by omega) (by omega)
      have CM2 : Hid (∀ W, Calls Tryd.prog 35 #[.int .i64 ((k + 2 * j + 1 : Nat) : Int)] W fun e w' => e = .returned (.string (mk (markT (k + 2 * j + 1)))) ∧ Below W.heap.size W w') := fun W => markText (k + 2 * j + 1) W (by omega) (by omega)
      clear hat hL hcs1 hcs2 hL2 hlf hL1 HS0
      go_wp2_with fail
      refine (CM1.out _).mono ?_
      rintro e W1 ⟨rfl, d1⟩
      have hI1 := hI.later d1
      obtain ⟨⟨u, hu⟩, hf, hgB⟩ := hI1.lay (i := j * 2) (by omega)
      have HI2 : Hid (OwnP B (.slice (some ⟨g, 0, none⟩) ps.length c) L1 (W1.setCell ⟨g, j * 2, none⟩ (.string (mk (markT (k + 2 * j)))))) := hI1.setAt hL1l (by omega) HC1.out
      have hb1 := (hbw.trans (d1.mono hsz)).setCell (p := ⟨g, j * 2, none⟩) hgB (.string (mk (markT (k + 2 * j))))
      have hsz1 : B ≤ (W1.setCell ⟨g, j * 2, none⟩ (.string (mk (markT (k + 2 * j))))).heap.size := Nat.le_trans hB hb1.size
      clear hI hI1
      go_wp2_with fail
      refine (CM2.out _).mono ?_
      rintro e W3 ⟨rfl, d3⟩
      have hI3 := HI2.out.later d3
      obtain ⟨⟨u3, hu3⟩, hf3, _⟩ := hI3.lay (i := j * 2 + 1) (by omega)
      have HI4 : Hid (OwnP B (.slice (some ⟨g, 0, none⟩) ps.length c) (markPs k (j + 1) ++ ps.drop (j + 1)) (W3.setCell ⟨g, j * 2 + 1, none⟩ (.string (mk (markT (k + 2 * j + 1)))))) := hI3.setAt HLF.out (by omega) HC2.out
      have hb3 := hb1.trans (d3.mono hsz1)
      clear hI3 HI2 hu hf hb1 d1 d3
      go_wp2
      go_roundw
      case rel => exact ⟨j + 1, by omega, by go_num, by go_num, HI4.out, hb3.setCell (p := ⟨g, j * 2 + 1, none⟩) hgB _⟩
      case measure => simp [intOf]; omega
    · have hkk : j = ps.length := by omega
      subst hkk
      rw [List.drop_length, List.append_nil] at hI
      go_wp2
      go_ret
      exact ⟨rfl, hI, hbw⟩

theorem heldP_call {w W W1 : World} {b o : Nat} {v : Value} (h : Below w.heap.size w W ∧ W.cell? ⟨b, o, none⟩ = some v) (bW : Below W.heap.size W W1) : Below w.heap.size w W1 ∧ W1.cell? ⟨b, o, none⟩ = some v :=
  ⟨h.1.trans (bW.mono h.1.size), cell_keep bW h.2 (cell_in h.2)⟩
theorem heldP_call2 {w W W1 : World} {b o : Nat} {v : Value} (h : Below w.heap.size w W) (hc : W.cell? ⟨b, o, none⟩ = some v) (bW : Below W.heap.size W W1) : Below w.heap.size w W1 ∧ W1.cell? ⟨b, o, none⟩ = some v := heldP_call ⟨h, hc⟩ bW

set_option maxHeartbeats 2000000 in
set_option maxRecDepth 100000 in
theorem heldPairS (a : Option Addr) (n c : Nat) (k : Nat) (w : World) (h : PairsOf a n (markPs k n) w) (hk : 1 ≤ k) (hk2 : k ≤ 1000000) (hl : n ≤ 1000000) :
    Calls Tryd.prog 16 #[.slice a n c, .int .i64 k] w fun e w' => e = .returned (.int .i64 ((k + 2 * n : Nat) : Int)) ∧ Below w.heap.size w w' := by
  go_enter Tryd.func16, Tryd.ntmps16
  go_wp2
  go_loopw [1, 5] (fun q i wr => ∃ j : Nat, j ≤ n ∧ i = .int .i64 j ∧ q = .int .i64 ((k + 2 * j : Nat) : Int) ∧ Below w.heap.size w wr) (fun _ i wr => n - (intOf i).toNat)
  case atStart => exact ⟨0, Nat.zero_le _, rfl, rfl, Below.refl _ _⟩
  case round =>
    obtain ⟨j, hj, rfl, rfl, hbw⟩ := hrel
    by_cases hp : j < n
    · have hji : (j : Int) < (n : Int) := by omega
      obtain ⟨b, off, y, z, rfl, hy, hz, hym, hzm⟩ := (h.later hbw).at j (by rw [markPs_len]; exact hp)
      rw [markPs_at] at hym hzm
      have CM1 : Hid (∀ W, Calls Tryd.prog 35 #[.int .i64 ((k + 2 * j : Nat) : Int)] W fun e w' => e = .returned (.string y) ∧ Below W.heap.size W w') := by
        intro W; rw [hym]; exact markText (k + 2 * j) W (by omega) (by omega)
      have CM2 : Hid (∀ W, Calls Tryd.prog 35 #[.int .i64 ((k + 2 * j + 1 : Nat) : Int)] W fun e w' => e = .returned (.string z) ∧ Below W.heap.size W w') := by
        intro W; rw [hzm]; exact markText (k + 2 * j + 1) W (by omega) (by omega)
      have HZ : Hid (∀ W, Below wr.heap.size wr W → W.cell? ⟨b, off + j * 2 + 1, none⟩ = some (.string z)) := fun W bW => cell_keep bW hz (cell_in hz)
      clear hym hzm hz
      go_wp2
      go_region_held3 (fun W => Below wr.heap.size wr W ∧ W.cell? ⟨b, off + j * 2, none⟩ = some (.string y)) (first | exact ⟨Below.drew (Below.refl _ _), hy⟩ | exact ⟨Below.refl _ _, hy⟩ | assumption | exact heldP_call (by assumption) (by assumption) | exact heldP_call2 (by assumption) (by assumption) (by assumption)) (first | (go_at_call 35; refine (CM1.out _).mono ?_; rintro e W1 ⟨rfl, bW⟩) | fail)
      all_goals
        have hW1 : Below wr.heap.size wr W1 := by first | exact (Below.drew (Below.refl _ _)).trans bW | exact bW | exact And.left (by assumption)
        have hz1 := HZ.out _ hW1
        go_wp2
        go_region_held3 (fun W => Below wr.heap.size wr W ∧ W.cell? ⟨b, off + j * 2 + 1, none⟩ = some (.string z)) (first | exact ⟨Below.drew hW1, hz1⟩ | exact ⟨hW1, hz1⟩ | assumption | exact heldP_call (by assumption) (by assumption) | exact heldP_call2 (by assumption) (by assumption) (by assumption)) (first | (go_at_call 35; refine (CM2.out _).mono ?_; rintro e W2 ⟨rfl, bW2⟩) | fail)
        all_goals
          go_wp2
          go_roundw
          case rel => exact ⟨j + 1, by omega, by go_num, by go_num, hbw.trans (Below.mono (by first | assumption | exact And.left (by assumption)) hbw.size)⟩
          case measure => simp [intOf]; omega
    · have hkk : ¬ ((j : Int) < (n : Int)) := by omega
      have hjn : j = n := by omega
      go_wp2
      go_ret
      exact ⟨rfl, hbw⟩
end Go.Proofs.YtjjpbkoglnimaaaDoor
