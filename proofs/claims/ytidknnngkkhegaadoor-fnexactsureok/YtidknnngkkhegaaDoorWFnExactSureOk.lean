/- The law FnExactSureOk answers true, whatever the hosts. -/
import Derived.Test.YtidknnngkkhegaaDoorSurA
import Derived.Test.YtidknnngkkhegaaDoorSurI
import Derived.Test.YtidknnngkkhegaaDoorSurS
import Derived.Deep.RegionHeld3
set_option linter.unusedVariables false
set_option linter.unusedSimpArgs false
namespace Go.Proofs.YtidknnngkkhegaaDoor
open Go.RowKit Go.Shelf

set_option maxHeartbeats 2000000 in
set_option maxRecDepth 100000 in
theorem fnExactSureOk_walk (w : World) (hm : ∃ m, w.cell? ⟨0, 0, none⟩ = some (.int .i64 m)) (a : Option Addr) (len cap : Nat) (ss : List (List UInt8)) (h : StrsOf a len ss w) (hl : len ≤ maxLen) (hss : ∀ s ∈ ss, s.length ≤ maxLen) :
    Calls Tryd.prog 3 #[.agg #[.slice a len cap]] w fun e w' => e = .returned (.bool true) ∧ Below w.heap.size w w' := by
  have HLEN : Hid (len = ss.length) := h.1
  have HM : Hid (∀ W, Below w.heap.size w W → ∃ m, W.cell? ⟨0, 0, none⟩ = some (.int .i64 m)) := by
    obtain ⟨m, hm⟩ := hm
    have hlt := cell_lt hm
    intro W b
    exact ⟨m, (b.cell (p := ⟨0, 0, none⟩) hlt).trans hm⟩
  clear hm
  go_enter Tryd.func3, Tryd.ntmps3
  go_wp2_with fail
  refine (szSure a len cap ss _ (h.later ((Below.refl _ w).alloc (Nat.le_refl _) _)) hl hss).mono ?_
  rintro e W1 ⟨r, rfl, b1, hr⟩
  have B1 : Hid (Below w.heap.size w W1) := box_below b1
  have c1 : W1.cell? ⟨w.heap.size, 0, none⟩ = some (.slice a len cap) := box_cell b1 0
  clear b1 hl hss
  by_cases h0 : r < 0
  · go_wp2
    go_ret
    exact ⟨rfl, B1.out⟩
  · have HL : Hid (ss.length + tot ss ≤ 1048576) := by have := hr (by omega); show _ ≤ _; omega
    have HL9 : Hid (len ≤ 1000000000) := by have := HLEN.out; have := HL.out; show _ ≤ _; omega
    clear hr
    go_wp2_with fail
    refine (toSure a len cap ss _ (h.later B1.out) HL9.out).mono ?_
    rintro e W2 ⟨g2, rfl, _, s2, b2⟩
    have B2 : Hid (Below w.heap.size w W2) := B1.out.trans (b2.mono B1.out.size)
    have c2 : W2.cell? ⟨w.heap.size, 0, none⟩ = some (.slice a len cap) := (b2.cell (p := ⟨w.heap.size, 0, none⟩) (cell_lt c1)).trans c1
    clear b2 c1 h0
    go_wp2_with fail
    refine (specSureOk _ len len ss _ s2 HL.out).mono ?_
    rintro e W3 ⟨rfl, b3⟩
    have B3 : Hid (Below w.heap.size w W3) := B2.out.trans (b3.mono B2.out.size)
    have c3 : W3.cell? ⟨w.heap.size, 0, none⟩ = some (.slice a len cap) := (b3.cell (p := ⟨w.heap.size, 0, none⟩) (cell_lt c2)).trans c2
    clear b3 c2 s2
    go_wp2_with fail
    refine (toSure a len cap ss _ (h.later B3.out) HL9.out).mono ?_
    rintro e W4 ⟨g4, rfl, _, s4, b4⟩
    have B4 : Hid (Below w.heap.size w W4) := B3.out.trans (b4.mono B3.out.size)
    have c4 : W4.cell? ⟨w.heap.size, 0, none⟩ = some (.slice a len cap) := (b4.cell (p := ⟨w.heap.size, 0, none⟩) (cell_lt c3)).trans c3
    have k4 := cell_lt c4
    clear b4 c3
    go_wp2_with fail
    have B4' : ∀ o, Below w.heap.size w (W4.alloc o) := fun o => B4.out.alloc B4.out.size o
    refine (implSureOk _ len len ss _ (s4.later ((Below.refl _ W4).alloc (Nat.le_refl _) _)) (HM.out _ (B4' _)) HL.out).mono ?_
    rintro e W5 ⟨rfl, b5⟩
    have b5' := box_below b5
    have B5 : Hid (Below w.heap.size w W5) := B4.out.trans (b5'.mono B4.out.size)
    have c5 : W5.cell? ⟨w.heap.size, 0, none⟩ = some (.slice a len cap) := (b5'.cell (p := ⟨w.heap.size, 0, none⟩) k4).trans c4
    have x5 : W5.cell? ⟨W4.heap.size, 0, none⟩ = some (.slice (some ⟨g4, 0, none⟩) len len) := box_cell b5 0
    have s5 := s4.later b5'
    clear b5 b5' s4 c4 k4 B4'
    go_wp2_with fail
    refine wp_region_held_drew (S := (fun W => Below W5.heap.size W5 W ∧ W.cell? ⟨w.heap.size, 0, none⟩ = some (.slice a len cap) ∧ W.cell? ⟨W4.heap.size, 0, none⟩ = some (.slice (some ⟨g4, 0, none⟩) len len) ∧ W.cell? ⟨W4.heap.size, 0, none⟩ = some (.slice (some ⟨g4, 0, none⟩) len len))) (by kernel_rfl) (⟨(Below.refl _ _).drew, c5, x5, x5⟩) (fun hHeld => ?_)
    refine wpAnyH_take (i := 0) (oi := _) (v := _) rfl (by kernel_rfl) (by kernel_rfl) (by kernel_rfl) (fun _ _ _ h => h) (Or.inl ⟨by rfl, by (intro w hSw; (try dsimp only at hSw); go_simp; try (with_reducible rfl))⟩) (by assumption) ?_
    simp only [Act.put, List.getElem_toArray, List.getElem_cons_zero, List.getElem_cons_succ, List.setIfInBounds_toArray, List.set_cons_zero, List.set_cons_succ]
    refine wpAnyH_take (i := 1) (oi := _) (v := _) rfl (by kernel_rfl) (by kernel_rfl) (by kernel_rfl) (fun _ _ _ h => h) (Or.inl ⟨by rfl, by (intro w hSw; (try dsimp only at hSw); go_simp; try (with_reducible rfl))⟩) (by assumption) ?_
    simp only [Act.put, List.getElem_toArray, List.getElem_cons_zero, List.getElem_cons_succ, List.setIfInBounds_toArray, List.set_cons_zero, List.set_cons_succ]
    refine wpAnyH_ready (rs := [2]) (by kernel_rfl) (by simp) ?_
    refine AllReadyH.cons (o := _) rfl (fun K hK => ?_) AllReadyH.nil
    go_simp
    refine (toSure a len cap ss _ (h.later (B5.out.trans (hHeld.1.mono B5.out.size))) HL9.out).mono ?_
    rintro e W6 ⟨g6, rfl, _, s6, b6⟩
    refine hK.out _ _ (heldU_call hHeld b6) (fun hHeld => ?_)
    clear hK K
    try simp only [Act.put, List.getElem_toArray, List.getElem_cons_zero, List.getElem_cons_succ, List.setIfInBounds_toArray, List.set_cons_zero, List.set_cons_succ]
    refine wpAnyH_ready (rs := [3]) (by kernel_rfl) (by simp) ?_
    refine AllReadyH.cons (o := _) rfl (fun K hK => ?_) AllReadyH.nil
    go_simp
    refine (eqSure _ _ len len len len ss _ (s5.later hHeld.1) s6 HL9.out).mono ?_
    rintro e W7 ⟨rfl, b7⟩
    refine hK.out _ _ (heldU_call hHeld b7) (fun hHeld => ?_)
    clear hK K
    try simp only [Act.put, List.getElem_toArray, List.getElem_cons_zero, List.getElem_cons_succ, List.setIfInBounds_toArray, List.set_cons_zero, List.set_cons_succ]
    refine wpAnyH_take (i := 4) (oi := _) (v := _) rfl (by kernel_rfl) (by kernel_rfl) (by kernel_rfl) (fun _ _ _ h => h) (Or.inl ⟨by rfl, by (intro w hSw; (try dsimp only at hSw); go_simp; try (with_reducible rfl))⟩) (by assumption) ?_
    simp only [Act.put, List.getElem_toArray, List.getElem_cons_zero, List.getElem_cons_succ, List.setIfInBounds_toArray, List.set_cons_zero, List.set_cons_succ]
    refine wpAnyH_done (by kernel_rfl) ?_ _
    go_wp2
    go_ret
    exact ⟨rfl, B5.out.trans (hHeld.1.mono B5.out.size)⟩
end Go.Proofs.YtidknnngkkhegaaDoor
