/- laws.markStringS, heldStringS: texts put into an answer, and found there again. -/
import Derived.Test.YtbogjajfbchdjaaDoorMark
import Derived.Test.YtbogjajfbchdjaaDoorOwnL
set_option linter.unusedVariables false
namespace Go.Proofs.YtbogjajfbchdjaaDoor
open Go.RowKit Go.Shelf

def markTs (k n : Nat) : List (List UInt8) := (List.range n).map fun i => markT (k + i)
theorem markTs_len (k n : Nat) : (markTs k n).length = n := by simp [markTs]
theorem markTs_at (k n j : Nat) (h : j < (markTs k n).length) : (markTs k n)[j] = markT (k + j) := by simp [markTs]
theorem markTs_succ (k n : Nat) : markTs k (n + 1) = markTs k n ++ [markT (k + n)] := by simp [markTs, List.range_succ]

theorem OwnS.set {B g n c : Nat} {ps : List (List UInt8)} {w : World} (h : OwnS B (.slice (some ⟨g, 0, none⟩) n c) ps w) (j : Nat) (q : List UInt8) (hj : j < ps.length) : OwnS B (.slice (some ⟨g, 0, none⟩) n c) (ps.set j q) (w.setCell ⟨g, j, none⟩ (.string (mk q))) := by
  rcases h.2 with ⟨hv, h0⟩ | ⟨g', cap, cur, hv, hB, hg, hnc, hcm, hcs, ht⟩
  · cases hv
  · simp only [Value.slice.injEq, Option.some.injEq, Addr.mk.injEq, and_true] at hv
    obtain ⟨rfl, hn, rfl⟩ := hv
    refine ⟨by simp, .inr ⟨g, c, cur.set j (.string (mk q)) (by omega), by rw [List.length_set, hn], hB, ?_, by simpa using hnc, hcm, by simpa using hcs, ?_⟩⟩
    · simp [World.setCell, Array.getElem?_modify, hg]
      rw [Array.setIfInBounds_def]
      simp [show j < cur.size from by omega]
    · rw [List.length_set, Array.toList_set, List.take_set, ht, List.map_set]
theorem OwnS.lay {B g n c : Nat} {ps : List (List UInt8)} {w : World} (h : OwnS B (.slice (some ⟨g, 0, none⟩) n c) ps w) (j : Nat) (hj : j < ps.length) : (∃ v, w.cell? ⟨g, j, none⟩ = some v) ∧ w.frozen? ⟨g, j, none⟩ = false ∧ B ≤ g := by
  rcases h.2 with ⟨hv, h0⟩ | ⟨g', cap, cur, hv, hB, hg, hnc, hcm, hcs, ht⟩
  · cases hv
  · simp only [Value.slice.injEq, Option.some.injEq, Addr.mk.injEq, and_true] at hv
    obtain ⟨rfl, hn, rfl⟩ := hv
    refine ⟨⟨cur[j]'(by omega), ?_⟩, Lib.frozen_of_heap hg j, hB⟩
    rw [Lib.cell_of_heap hg, Array.getElem?_eq_getElem]

theorem set_marks (k j : Nat) (ps : List (List UInt8)) (hj : j < ps.length) : (markTs k j ++ ps.drop j).set j (markT (k + j)) = markTs k (j + 1) ++ ps.drop (j + 1) := by
  rw [List.set_append_right _ _ (by rw [markTs_len]; omega), markTs_len, Nat.sub_self, List.drop_eq_getElem_cons hj, List.set_cons_zero, markTs_succ, List.append_assoc]
  rfl

set_option maxHeartbeats 1000000 in
set_option maxRecDepth 100000 in
theorem markStringS (B : Nat) (v : Value) (ps : List (List UInt8)) (k : Nat) (w : World) (h : OwnS B v ps w) (hB : B ≤ w.heap.size) (hk : 1 ≤ k) (hk2 : k ≤ 2000000) (hl : ps.length ≤ 1100000) :
    Calls Tryd.prog 23 #[v, .int .i64 k] w fun e w' => e = .returned (.int .i64 ((k + ps.length : Nat) : Int)) ∧ OwnS B v (markTs k ps.length) w' ∧ Below B w w' := by
  obtain ⟨a, c, rfl, hcc⟩ := h.shape
  go_enter Tryd.func23, Tryd.ntmps23
  go_wp2
  go_loopw [1, 5] (fun q i wr => ∃ j : Nat, j ≤ ps.length ∧ i = .int .i64 j ∧ q = .int .i64 ((k + j : Nat) : Int) ∧ OwnS B (.slice a ps.length c) (markTs k j ++ ps.drop j) wr ∧ Below B w wr) (fun _ i wr => ps.length - (intOf i).toNat)
  case atStart => exact ⟨0, Nat.zero_le _, rfl, rfl, h, Below.refl _ _⟩
  case round =>
    obtain ⟨j, hj, rfl, rfl, hI, hbw⟩ := hrel
    have hsz : B ≤ wr.heap.size := Nat.le_trans hB hbw.size
    by_cases hp : j < ps.length
    · have hji : (j : Int) < (ps.length : Int) := by omega
      have hlen : (markTs k j ++ ps.drop j).length = ps.length := by rw [List.length_append, markTs_len, List.length_drop]; omega
      have hne : ps ≠ [] := by intro e; rw [e] at hp; simp at hp
      obtain ⟨g, rfl⟩ : ∃ g, a = some ⟨g, 0, none⟩ := by
        obtain ⟨g, c', hv, _⟩ := ownS_strs h hne
        simp only [Value.slice.injEq] at hv
        exact ⟨g, hv.1⟩
      go_wp2_with fail
      refine (markText (k + j) _ (by omega) (by omega)).mono ?_
      rintro e W1 ⟨rfl, d1⟩
      have hI1 := hI.later d1
      obtain ⟨⟨u, hu⟩, hf, hgB⟩ := hI1.lay j (by omega)
      have HS : Hid (OwnS B (.slice (some ⟨g, 0, none⟩) ps.length c) (markTs k (j + 1) ++ ps.drop (j + 1)) (W1.setCell ⟨g, j, none⟩ (.string (mk (markT (k + j)))))) := by
        rw [← set_marks k j ps hp]; exact hI1.set j _ (by omega)
      have hb1 := hbw.trans (d1.mono hsz)
      clear hI hI1
      go_wp2
      go_roundw
      case rel => exact ⟨j + 1, by omega, by go_num, by congr 1, HS.out, hb1.setCell (p := ⟨g, j, none⟩) hgB _⟩
      case measure => simp [intOf]; omega
    · have hkk : j = ps.length := by omega
      subst hkk
      rw [List.drop_length, List.append_nil] at hI
      go_wp2
      go_ret
      exact ⟨rfl, hI, hbw⟩

theorem cell_kept {B G o : Nat} {v : Value} {w w' : World} (hb : Below B w w') (h : w.cell? ⟨G, o, none⟩ = some v) (hG : G < B) : w'.cell? ⟨G, o, none⟩ = some v := by
  rw [hb.cell (p := ⟨G, o, none⟩) hG]; exact h
theorem held_call {w W W1 : World} {b o : Nat} {v : Value} (h : Below w.heap.size w W ∧ W.cell? ⟨b, o, none⟩ = some v) (bW : Below W.heap.size W W1) : Below w.heap.size w W1 ∧ W1.cell? ⟨b, o, none⟩ = some v :=
  ⟨h.1.trans (bW.mono h.1.size), cell_kept bW h.2 (cell_in h.2)⟩
theorem held_call2 {w W W1 : World} {b o : Nat} {v : Value} (h : Below w.heap.size w W) (hc : W.cell? ⟨b, o, none⟩ = some v) (bW : Below W.heap.size W W1) : Below w.heap.size w W1 ∧ W1.cell? ⟨b, o, none⟩ = some v := held_call ⟨h, hc⟩ bW

set_option maxHeartbeats 1000000 in
set_option maxRecDepth 100000 in
theorem heldStringS (a : Option Addr) (n c : Nat) (k : Nat) (w : World) (h : StrsOf a n (markTs k n) w) (hk : 1 ≤ k) (hk2 : k ≤ 2000000) (hl : n ≤ 1100000) :
    Calls Tryd.prog 24 #[.slice a n c, .int .i64 k] w fun e w' => e = .returned (.int .i64 ((k + n : Nat) : Int)) ∧ Below w.heap.size w w' := by
  go_enter Tryd.func24, Tryd.ntmps24
  go_wp2
  go_loopw [1, 5] (fun q i wr => ∃ j : Nat, j ≤ n ∧ i = .int .i64 j ∧ q = .int .i64 ((k + j : Nat) : Int) ∧ Below w.heap.size w wr) (fun _ i wr => n - (intOf i).toNat)
  case atStart => exact ⟨0, Nat.zero_le _, rfl, rfl, Below.refl _ _⟩
  case round =>
    obtain ⟨j, hj, rfl, rfl, hbw⟩ := hrel
    by_cases hp : j < n
    · have hji : (j : Int) < (n : Int) := by omega
      obtain ⟨b, off, z, rfl, hc, hz, _⟩ := (h.later hbw).at j (by rw [markTs_len]; exact hp)
      rw [markTs_at] at hz
      have CM : Hid (∀ W, Calls Tryd.prog 32 #[.int .i64 ((k + j : Nat) : Int)] W fun e w' => e = .returned (.string z) ∧ Below W.heap.size W w') := by
        intro W; rw [hz]; exact markText (k + j) W (by omega) (by omega)
      clear hz
      go_wp2
      go_region_held3 (fun W => Below w.heap.size w W ∧ W.cell? ⟨b, off + j, none⟩ = some (.string z)) (first | exact ⟨Below.drew hbw, hc⟩ | exact ⟨hbw, hc⟩ | assumption | exact held_call (by assumption) (by assumption) | exact held_call2 (by assumption) (by assumption) (by assumption)) (first | (go_at_call 32; refine (CM.out _).mono ?_; rintro e W1 ⟨rfl, bW⟩) | fail)
      all_goals
        go_wp2
        go_roundw
        case rel => exact ⟨j + 1, by omega, by go_num, by go_num, by first | assumption | exact And.left (by assumption)⟩
        case measure => simp [intOf]; omega
    · have hkk : j = n := by omega
      subst hkk
      go_wp2
      go_ret
      exact ⟨rfl, hbw⟩
end Go.Proofs.YtbogjajfbchdjaaDoor
