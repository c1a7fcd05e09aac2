/- impl.SureOk: whether hosts that are only gone to safely are ok. -/
import Derived.Test.YtbogjajfbchdjaaDoorNmhI
import Derived.Test.YtbogjajfbchdjaaDoorSurP
set_option linter.unusedVariables false
set_option linter.unusedSimpArgs false
namespace Go.Proofs.YtbogjajfbchdjaaDoor
open Go.RowKit Go.Shelf

set_option maxHeartbeats 2000000 in
set_option maxRecDepth 100000 in
theorem implSureOk (a : Option Addr) (len cap : Nat) (ss : List (List UInt8)) (w : World) (h : StrsOf a len ss w) (hm : ∃ m, w.cell? ⟨0, 0, none⟩ = some (.int .i64 m)) (hl : ss.length + tot ss ≤ 1048576) :
    Calls Tryd.prog 8 #[.agg #[.slice a len cap]] w fun e w' => e = .returned (.bool (sureB ss)) ∧ Below w.heap.size w w' := by
  have HLEN : Hid (len = ss.length) := h.1
  by_cases h6 : 6 < len
  · have h6i : (6 : Int) < (len : Int) := by omega
    have HR : Hid (sureB ss = false) := sureB_long ss (by have := HLEN.out; omega)
    go_enter Tryd.func8, Tryd.ntmps8
    go_wp2
    go_ret
    exact ⟨by rw [HR.out]; rfl, (Below.refl _ w).alloc (Nat.le_refl _) _⟩
  have h6i : (len : Int) ≤ 6 := by omega
  have HR : Hid (sureB ss = sureAll ss) := sureB_of ss (by have := HLEN.out; omega)
  have hlt : 0 < w.heap.size := by
    obtain ⟨m, hm⟩ := hm
    exact cell_lt hm
  have HM : Hid (∀ W, Below w.heap.size w W → ∃ m, W.cell? ⟨0, 0, none⟩ = some (.int .i64 m)) := by
    obtain ⟨m, hm⟩ := hm
    intro W b
    exact ⟨m, (b.cell (p := ⟨0, 0, none⟩) hlt).trans hm⟩
  clear hm h6
  go_enter Tryd.func8, Tryd.ntmps8
  go_wp2_with fail
  go_loopw [12] (fun i wr => ∃ k : Nat, k ≤ len ∧ i = .int .i64 k ∧ Hid (∀ j, j < k → sureAt ss j = true) ∧ Hid (Below w.heap.size w wr) ∧ wr.cell? ⟨w.heap.size, 0, none⟩ = some (.slice a len cap)) (fun i wr => len - (intOf i).toNat)
  case atStart => exact ⟨0, Nat.zero_le _, rfl, fun j hj => absurd hj (by omega), (Below.refl _ w).alloc (Nat.le_refl _) _, by rw [World.cell?_alloc_new]; rfl⟩
  case round =>
    obtain ⟨k, hk, rfl, HA, HB, hc⟩ := hrel
    by_cases hp : k < len
    · have hki : (k : Int) < (len : Int) := by omega
      have hpl : k < ss.length := by have := HLEN.out; omega
      obtain ⟨b, off, z, rfl, hz0, hzm, hzs⟩ := h.at k hpl
      have hz : wr.cell? ⟨b, off + k, none⟩ = some (.string z) := (HB.out.cell (p := ⟨b, off + k, none⟩) (cell_lt hz0)).trans hz0
      have hzb : z.size ≤ 1048576 := by rw [hzs]; have := le_tot ss k hpl; omega
      clear hz0 hzs
      cases hn : okH 1 z 0 with
      | false =>
        have HN : Hid (sureB ss = false) := by show _ = _; rw [HR.out]; exact sureAll_no ss k hpl (sureAt_name ss k hpl (by rw [← hzm]; exact hn))
        clear hzm
        go_wp2_with fail
        refine (isNamedHost z _ (HM.out _ HB.out) (by omega)).mono ?_
        rintro e W1 ⟨rfl, b1⟩
        rw [hn]
        have B1 : Hid (Below w.heap.size w W1) := HB.out.trans (b1.mono HB.out.size)
        have c1 : W1.cell? ⟨w.heap.size, 0, none⟩ = some (.slice (some ⟨b, off, none⟩) len cap) := (b1.cell (p := ⟨w.heap.size, 0, none⟩) (cell_lt hc)).trans hc
        go_wp2
        go_ret
        exact ⟨by rw [HN.out]; rfl, B1.out⟩
      | true =>
        rcases Nat.eq_zero_or_pos k with h0 | h0
        · subst h0
          rw [Nat.add_zero] at hz
          have HA2 : Hid (∀ j, j < 0 + 1 → sureAt ss j = true) := by
            intro j hj
            obtain rfl : j = 0 := by omega
            exact sureAt_first ss hpl (by rw [← hzm]; exact hn)
          clear hzm
          go_wp2_with fail
          refine (isNamedHost z _ (HM.out _ HB.out) (by omega)).mono ?_
          rintro e W1 ⟨rfl, b1⟩
          rw [hn]
          have B1 : Hid (Below w.heap.size w W1) := HB.out.trans (b1.mono HB.out.size)
          have c1 : W1.cell? ⟨w.heap.size, 0, none⟩ = some (.slice (some ⟨b, off, none⟩) len cap) := (b1.cell (p := ⟨w.heap.size, 0, none⟩) (cell_lt hc)).trans hc
          go_wp2
          go_round
          case rel => exact ⟨0 + 1, by omega, by go_num, HA2, B1, c1⟩
          case measure => simp [intOf]; omega
        · obtain ⟨j, rfl⟩ : ∃ j, k = j + 1 := ⟨k - 1, by omega⟩
          have hj0 : (0 : Int) < (j : Int) + 1 := by omega
          have hjl : (j : Int) < (len : Int) := by omega
          obtain ⟨y, hy⟩ : ∃ y, y = mk ss[j] := ⟨_, rfl⟩
          have hy0 : w.cell? ⟨b, off + j, none⟩ = some (.string y) := by
            rcases h.2 with e | ⟨b', off', e, hcc⟩
            · subst e; simp at hpl
            · cases e; rw [hy]; exact hcc j (by omega)
          have hyr : wr.cell? ⟨b, off + j, none⟩ = some (.string y) := (HB.out.cell (p := ⟨b, off + j, none⟩) (cell_lt hy0)).trans hy0
          have HS : Hid (sureAt ss (j + 1) = Op.bytesLess y.toList z.toList) := by
            show _ = _
            rw [sureAt_next ss (j + 1) (by omega) hpl (by rw [← hzm]; exact hn), hy, hzm, mk_toList, mk_toList]; rfl
          clear hy0 hy hzm
          go_wp2_with fail
          refine (isNamedHost z _ (HM.out _ HB.out) (by omega)).mono ?_
          rintro e W1 ⟨rfl, b1⟩
          rw [hn]
          have B1 : Hid (Below w.heap.size w W1) := HB.out.trans (b1.mono HB.out.size)
          have c1 : W1.cell? ⟨w.heap.size, 0, none⟩ = some (.slice (some ⟨b, off, none⟩) len cap) := (b1.cell (p := ⟨w.heap.size, 0, none⟩) (cell_lt hc)).trans hc
          have y1 : W1.cell? ⟨b, off + j, none⟩ = some (.string y) := (b1.cell (p := ⟨b, off + j, none⟩) (cell_lt hyr)).trans hyr
          cases hb : Op.bytesLess y.toList z.toList with
          | false =>
            have HN : Hid (sureB ss = false) := by show _ = _; rw [HR.out]; exact sureAll_no ss (j + 1) hpl (HS.out.trans hb)
            go_wp2
            go_ret
            exact ⟨by rw [HN.out]; rfl, B1.out⟩
          | true =>
            have HA2 : Hid (∀ i, i < j + 1 + 1 → sureAt ss i = true) := by
              intro i hi
              by_cases he : i = j + 1
              · subst he; exact HS.out.trans hb
              · exact HA.out i (by omega)
            go_wp2
            go_round
            case rel => exact ⟨j + 1 + 1, by omega, by go_num, HA2, B1, c1⟩
            case measure => simp [intOf]; omega
    · have hkk : k = len := by omega
      subst hkk
      have HZ : Hid (sureAll ss = true) := sureAll_yes ss (fun j hj => HA.out j (by have := HLEN.out; omega))
      go_wp2
      go_ret
      exact ⟨by rw [HR.out, HZ.out]; rfl, HB.out⟩
end Go.Proofs.YtbogjajfbchdjaaDoor
