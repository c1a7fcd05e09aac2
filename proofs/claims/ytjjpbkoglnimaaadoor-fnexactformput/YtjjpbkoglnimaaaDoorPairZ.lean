/- laws.szPairS, toPairS: how many bytes a list of pairs has; a copy of it. -/
import Derived.Test.YtjjpbkoglnimaaaDoorPairO
import Derived.Test.YtjjpbkoglnimaaaDoorFormTP
import Derived.OwnWalk
set_option linter.unusedVariables false
namespace Go.Proofs.YtjjpbkoglnimaaaDoor
open Go.RowKit Go.Shelf

set_option maxHeartbeats 1000000 in
set_option maxRecDepth 100000 in
theorem szPair (y z : ByteArray) (left : Int) (w : World) (h0 : 0 ≤ left) (h1 : left ≤ 1048576) (hy : y.size ≤ 9223372036854775807) (hz : z.size ≤ 9223372036854775807) :
    Calls Tryd.prog 36 #[.agg #[.string y, .string z], .int .i64 left] w fun e w' => ∃ r : Int, e = .returned (.int .i64 r) ∧ Below w.heap.size w w' ∧ (0 ≤ r → r = left - (y.size : Int) - (z.size : Int)) ∧ r ≤ 1048576 := by
  by_cases ha : left - (y.size : Int) < 0
  · go_enter Tryd.func36, Tryd.ntmps36
    go_wp2
    go_ret
    exact ⟨-1, rfl, (Below.refl _ w).alloc (Nat.le_refl _) _, fun h => absurd h (by decide), by decide⟩
  · by_cases hb : left - (y.size : Int) - (z.size : Int) < 0
    · go_enter Tryd.func36, Tryd.ntmps36
      go_wp2
      go_ret
      exact ⟨-1, rfl, (Below.refl _ w).alloc (Nat.le_refl _) _, fun h => absurd h (by decide), by decide⟩
    · go_enter Tryd.func36, Tryd.ntmps36
      go_wp2
      go_ret
      exact ⟨_, rfl, (Below.refl _ w).alloc (Nat.le_refl _) _, fun _ => rfl, by omega⟩

set_option maxHeartbeats 1000000 in
set_option maxRecDepth 100000 in
theorem szPairS (a : Option Addr) (len cap : Nat) (ps : List PairL) (left : Int) (w : World) (h : PairsOf a len ps w) (hl : len ≤ maxLen) (hss : ∀ p ∈ ps, p.1.length ≤ maxLen ∧ p.2.length ≤ maxLen) (h0 : 0 ≤ left) (h1 : left ≤ 1048576) :
    Calls Tryd.prog 17 #[.slice a len cap, .int .i64 left] w fun e w' => ∃ r : Int, e = .returned (.int .i64 r) ∧ Below w.heap.size w w' ∧ (0 ≤ r → ((ps.length : Int) + (totP ps : Int)) ≤ left - r) ∧ r ≤ 1048576 := by
  unfold maxLen at hl hss
  have HLEN : Hid (len = ps.length) := h.1
  by_cases hn : left - (len : Int) < 0
  · go_enter Tryd.func17, Tryd.ntmps17
    go_wp2
    go_ret
    exact ⟨-1, rfl, Below.refl _ _, fun h => absurd h (by decide), by decide⟩
  · go_enter Tryd.func17, Tryd.ntmps17
    go_wp2
    go_loopw [1, 5] (fun l i wr => ∃ (k : Nat) (L : Int), k ≤ len ∧ i = .int .i64 k ∧ l = .int .i64 L ∧ 0 ≤ L ∧ Hid (L = left - (len : Int) - (totP (ps.take k) : Int)) ∧ L ≤ 1048576 ∧ Below w.heap.size w wr) (fun _ i wr => len - (intOf i).toNat)
    case atStart => exact ⟨0, left - (len : Int), Nat.zero_le _, rfl, rfl, by omega, by show _ = _; simp [totP], by omega, Below.refl _ _⟩
    case round =>
      obtain ⟨k, L, hk, rfl, rfl, hL, HE, hL2, hbw⟩ := hrel
      by_cases hp : k < len
      · have hki : (k : Int) < (len : Int) := by omega
        have hkl : k < ps.length := by have := HLEN.out; omega
        obtain ⟨b, off, y, z, rfl, hy, hz, hym, hzm⟩ := (h.later hbw).at k hkl
        obtain ⟨b1, b2⟩ := hss _ (List.getElem_mem hkl)
        have hys : y.size = ps[k].1.length := by rw [hym, mk_size]
        have hzs : z.size = ps[k].2.length := by rw [hzm, mk_size]
        have HS : Hid (totP (ps.take (k + 1)) = totP (ps.take k) + (y.size + z.size)) := by show _ = _; rw [hys, hzs]; exact totP_snoc ps k hkl
        have hyb : y.size ≤ 9223372036854775807 := by rw [hys]; exact b1
        have hzb : z.size ≤ 9223372036854775807 := by rw [hzs]; exact b2
        clear hym hzm hys hzs b1 b2
        go_wp2_with fail
        refine (szPair y z L _ hL hL2 hyb hzb).mono ?_
        rintro e W1 ⟨r, rfl, d1, hr, hr2⟩
        have hb1 := hbw.trans (d1.mono hbw.size)
        by_cases hc : r < 0
        · go_wp2
          go_ret
          exact ⟨-1, rfl, hb1, fun h => absurd h (by decide), by decide⟩
        · have hre := hr (by omega)
          have HRE : Hid (r = L - (y.size : Int) - (z.size : Int)) := hre
          clear hre hr
          go_wp2
          go_roundw
          case rel => exact ⟨k + 1, r, by omega, by go_num, rfl, by omega, by have h1 := HE.out; have h2 := HS.out; have h3 := HRE.out; show _ = _; rw [h2]; push_cast; omega, hr2, hb1⟩
          case measure => simp [intOf]; omega
      · have hkk : k = len := by omega
        subst hkk
        go_wp2
        go_ret
        refine ⟨L, rfl, hbw, fun _ => ?_, hL2⟩
        have := HE.out
        have h3 := HLEN.out
        rw [List.take_of_length_le (by omega)] at this
        omega

set_option maxHeartbeats 1000000 in
set_option maxRecDepth 100000 in
theorem toPair (y z : ByteArray) (w : World) :
    Calls Tryd.prog 37 #[.agg #[.string y, .string z]] w fun e w' => e = .returned (.agg #[.string y, .string z]) ∧ Below w.heap.size w w' := by
  go_enter Tryd.func37, Tryd.ntmps37
  go_wp2
  exact bodyPost_ret (v := .agg #[.string y, .string z]) (by simp [results, Tryd.results37, go_sem]) rfl ⟨rfl, (((Below.refl _ w).alloc (Nat.le_refl _) _).alloc (by simp) _).alloc (by simp; omega) _⟩

/-- The first k pairs of ps lie in block g, which is as long as ps. -/
def PartP (g : Nat) (ps : List PairL) (k : Nat) (w : World) : Prop :=
  ∃ A : Array Value, w.heap[g]? = some (.cells A 41 (0, 0)) ∧ A.size = ps.length * 2 ∧ ∀ j (h : j < ps.length), j < k → A[j * 2]? = some (.string (mk ps[j].1)) ∧ A[j * 2 + 1]? = some (.string (mk ps[j].2))
theorem PartP.pairs {g : Nat} {ps : List PairL} {w : World} (h : PartP g ps ps.length w) : PairsOf (some ⟨g, 0, none⟩) ps.length ps w := by
  obtain ⟨A, hg, _, hc⟩ := h
  refine ⟨rfl, .inr ⟨g, 0, rfl, fun j hj => ?_⟩⟩
  rw [Nat.zero_add, Lib.cell_of_heap hg, Lib.cell_of_heap hg]; exact hc j hj hj
theorem PartP.cell {g i : Nat} {ps : List PairL} {k : Nat} {w : World} (h : PartP g ps k w) (hi : i < ps.length * 2) : (∃ v, w.cell? ⟨g, i, none⟩ = some v) ∧ w.frozen? ⟨g, i, none⟩ = false := by
  obtain ⟨A, hg, hs, _⟩ := h
  refine ⟨⟨A[i]'(by omega), ?_⟩, Lib.frozen_of_heap hg i⟩
  rw [Lib.cell_of_heap hg, Array.getElem?_eq_getElem]
theorem PartP.put {g : Nat} {ps : List PairL} {k : Nat} {w : World} (h : PartP g ps k w) (hk : k < ps.length) : PartP g ps (k + 1) ((w.setCell ⟨g, k * 2, none⟩ (.string (mk ps[k].1))).setCell ⟨g, k * 2 + 1, none⟩ (.string (mk ps[k].2))) := by
  obtain ⟨A, hg, hs, hc⟩ := h
  refine ⟨(A.set (k * 2) (.string (mk ps[k].1)) (by omega)).set (k * 2 + 1) (.string (mk ps[k].2)) (by simp; omega), ?_, by simp [hs], ?_⟩
  · have h1 : (w.setCell ⟨g, k * 2, none⟩ (.string (mk ps[k].1))).heap[g]? = some (.cells (A.set (k * 2) (.string (mk ps[k].1)) (by omega)) 41 (0, 0)) := by
      simp [World.setCell, Array.getElem?_modify, hg]
      rw [Array.setIfInBounds_def]
      simp [hs, hk]
    generalize w.setCell ⟨g, k * 2, none⟩ (.string (mk ps[k].1)) = W1 at h1 ⊢
    have hk2 : k * 2 + 1 < (A.set (k * 2) (.string (mk ps[k].1)) (by omega)).size := by simp; omega
    simp only [World.setCell, Array.getElem?_modify, if_true, h1, Option.map_some, Option.isSome_none, Bool.false_eq_true, if_false]
    rw [Array.setIfInBounds_def, dif_pos hk2]
  · intro j hj hjk
    by_cases e : j = k
    · subst e
      constructor
      · rw [Array.getElem?_set_ne _ (by omega), Array.getElem?_set]; simp
      · rw [Array.getElem?_set]; simp
    · have := hc j hj (by omega)
      constructor
      · rw [Array.getElem?_set_ne _ (by omega), Array.getElem?_set_ne _ (by omega)]; exact this.1
      · rw [Array.getElem?_set_ne _ (by omega), Array.getElem?_set_ne _ (by omega)]; exact this.2
theorem partP_new (ps : List PairL) (w : World) (z : Array Value) : PartP w.heap.size ps 0 (w.alloc (.cells (madeCells z (ps.length * 2)) 41)) := by
  refine ⟨_, heap_alloc_new w _, by rw [size_madeCells], fun j hj h => absurd h (by omega)⟩

set_option maxHeartbeats 1000000 in
set_option maxRecDepth 100000 in
theorem toPairS (a : Option Addr) (len cap : Nat) (ps : List PairL) (w : World) (h : PairsOf a len ps w) (hl : len ≤ 1000000000) :
    Calls Tryd.prog 18 #[.slice a len cap] w fun e w' => e = .returned (.slice (some ⟨w.heap.size, 0, none⟩) len len) ∧ PairsOf (some ⟨w.heap.size, 0, none⟩) len ps w' ∧ Below w.heap.size w w' := by
  have HLEN : Hid (len = ps.length) := h.1
  have HM : ∃ W, (Instr.makeSlice 23 (.int .i64 (len : Int)) (.int .i64 (len : Int))).run Tryd.prog w = .ok (.slice (some ⟨w.heap.size, 0, none⟩) len len) W ∧ PartP w.heap.size ps 0 W ∧ Below w.heap.size w W ∧ w.heap.size < W.heap.size := by
    obtain ⟨i0, hi, hz0, hz1, hz2⟩ := info_parts infoPair
    have := run_make (P := Tryd.prog) w 23 41 i0 (.agg #[.string ⟨#[]⟩, .string ⟨#[]⟩]) Tryd.underlying23 hi hz0 .i64 .i64 (len : Int) (len : Int) (by omega) (by omega) (by rw [hz2]; omega) (by omega)
    rw [hz1] at this
    simp only [Int.toNat_natCast] at this
    refine ⟨_, this, ?_, (Below.refl _ w).alloc (Nat.le_refl _) _, by simp⟩
    rw [HLEN.out]; exact partP_new ps w _
  obtain ⟨W, hmk, hP, hbW, hgW⟩ := HM
  go_enter Tryd.func18, Tryd.ntmps18
  go_wp2
  go_loopw [4] (fun i wr => ∃ k : Nat, k ≤ len ∧ i = .int .i64 k ∧ PartP w.heap.size ps k wr ∧ Below w.heap.size w wr ∧ w.heap.size < wr.heap.size) (fun i wr => len - (intOf i).toNat)
  case atStart => exact ⟨0, Nat.zero_le _, rfl, hP, hbW, hgW⟩
  case round =>
    clear hmk hP hbW hgW
    obtain ⟨k, hk, rfl, hI, hbw, hgt⟩ := hrel
    by_cases hp : k < len
    · have hki : (k : Int) < (len : Int) := by omega
      have hkl : k < ps.length := by have := HLEN.out; omega
      obtain ⟨b, off, y, z, rfl, hy, hz, hym, hzm⟩ := (h.later hbw).at k hkl
      have HYM : Hid (y = mk ps[k].1) := hym
      have HZM : Hid (z = mk ps[k].2) := hzm
      clear hym hzm
      go_wp2_with fail
      refine (toPair y z _).mono ?_
      rintro e W1 ⟨rfl, d1⟩
      have hI1 : PartP w.heap.size ps k W1 := by
        obtain ⟨A, hg, hr⟩ := hI
        exact ⟨A, (d1.block _ hgt).trans hg, hr⟩
      obtain ⟨⟨u, hu⟩, hf⟩ := hI1.cell (i := k * 2) (by omega)
      obtain ⟨⟨u2, hu2⟩, hf2⟩ := hI1.cell (i := k * 2 + 1) (by omega)
      have HP : Hid (PartP w.heap.size ps (k + 1) ((W1.setCell ⟨w.heap.size, k * 2, none⟩ (.string y)).setCell ⟨w.heap.size, k * 2 + 1, none⟩ (.string z))) := by rw [HYM.out, HZM.out]; exact hI1.put hkl
      have hb1 := hbw.trans (d1.mono hbw.size)
      have hg1 : w.heap.size < W1.heap.size := Nat.lt_of_lt_of_le hgt d1.size
      clear hI hI1
      go_wp2
      go_roundw
      case rel => exact ⟨k + 1, by omega, by go_num, HP.out, (hb1.setCell (p := ⟨w.heap.size, k * 2, none⟩) (Nat.le_refl _) _).setCell (p := ⟨w.heap.size, k * 2 + 1, none⟩) (Nat.le_refl _) _, by simpa using hg1⟩
      case measure => simp [intOf]; omega
    · have hkk : k = len := by omega
      subst hkk
      go_wp2
      go_ret
      refine ⟨rfl, ?_, hbw⟩
      have := HLEN.out
      subst this
      exact hI.pairs
end Go.Proofs.YtjjpbkoglnimaaaDoor
