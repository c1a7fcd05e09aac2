/- The law FnExactSurePut answers true, whatever the hosts and the host. -/
import Derived.Test.YtbogjajfbchdjaaDoorSurM
import Derived.Test.YtbogjajfbchdjaaDoorSurW
import Derived.Deep.RegionHeld3
set_option linter.unusedVariables false
set_option linter.unusedSimpArgs false
namespace Go.Proofs.YtbogjajfbchdjaaDoor
open Go.RowKit Go.Shelf

theorem putL_len (ss : List (List UInt8)) (h : List UInt8) : (putL ss h).length ≤ ss.length + 1 := by
  unfold putL
  split
  · simp
  · split
    · omega
    · split
      · omega
      · simp; omega
theorem strs_cells {g n : Nat} {ss : List (List UInt8)} {w : World} (h : StrsOf (some ⟨g, 0, none⟩) n ss w) : ∀ j (hj : j < ss.length), w.cell? ⟨g, 0 + j, none⟩ = some (.string (mk ss[j])) := fun j hj => by
  rcases h.2 with e | ⟨b, off, ha, hc⟩
  · subst e; simp at hj
  · simp only [Option.some.injEq, Addr.mk.injEq, and_true] at ha
    obtain ⟨rfl, rfl⟩ := ha
    exact hc j hj

set_option maxHeartbeats 4000000 in
set_option maxRecDepth 100000 in
theorem fnExactSurePut_walk (w : World) (hm : ∃ m, w.cell? ⟨0, 0, none⟩ = some (.int .i64 m)) (a : Option Addr) (len cap : Nat) (ss : List (List UInt8)) (h : StrsOf a len ss w) (hl : len ≤ maxLen) (hss : ∀ s ∈ ss, s.length ≤ maxLen) (x : ByteArray) (hx : x.size ≤ maxLen) :
    Calls Tryd.prog 4 #[.agg #[.slice a len cap], .string x] w fun e w' => e = .returned (.bool true) ∧ Below w.heap.size w w' := by
  have HLEN : Hid (len = ss.length) := h.1
  have HM : Hid (∀ W, Below w.heap.size w W → ∃ m, W.cell? ⟨0, 0, none⟩ = some (.int .i64 m)) := by
    obtain ⟨m, hm⟩ := hm
    have hlt := cell_lt hm
    intro W b
    exact ⟨m, (b.cell (p := ⟨0, 0, none⟩) hlt).trans hm⟩
  clear hm
  by_cases hx0 : (1048576 : Int) < (x.size : Int)
  · go_enter Tryd.func4, Tryd.ntmps4
    go_wp2
    go_ret
    exact ⟨rfl, (Below.refl _ w).alloc (Nat.le_refl _) _⟩
  · have hx1 : (x.size : Int) ≤ 1048576 := by omega
    clear hx0
    obtain ⟨hq, HX⟩ : ∃ hq, Hid (mk hq = x) := ⟨x.data.toList, by show mk _ = _; cases x; simp [mk]⟩
    have HXL : Hid (hq.length ≤ 1048576) := by show _ ≤ _; have e := mk_size hq; rw [HX.out] at e; omega
    go_enter Tryd.func4, Tryd.ntmps4
    go_wp2_with fail
    refine (szSure a len cap ss _ (h.later ((Below.refl _ w).alloc (Nat.le_refl _) _)) hl hss).mono ?_
    rintro e W1 ⟨r, rfl, b1, hr⟩
    have B1 : Hid (Below w.heap.size w W1) := box_below b1
    have c1 : W1.cell? ⟨w.heap.size, 0, none⟩ = some (.slice a len cap) := box_cell b1 0
    clear b1 hl hss
    by_cases h0 : r < 0
    · go_wp2
      go_ret
      exact ⟨rfl, B1.out⟩
    · have HL : Hid (ss.length + tot ss ≤ 1048576) := by have := hr (by omega); show _ ≤ _; omega
      have HL9 : Hid (len ≤ 1000000000) := by have := HLEN.out; have := HL.out; show _ ≤ _; omega
      clear hr
      go_wp2_with fail
      refine (toSureO a len cap ss _ (h.later B1.out) HL9.out).mono ?_
      rintro e W2 ⟨g2, rfl, o2, b2⟩
      have B2 : Hid (Below w.heap.size w W2) := B1.out.trans (b2.mono B1.out.size)
      have c2 : W2.cell? ⟨w.heap.size, 0, none⟩ = some (.slice a len cap) := (b2.cell (p := ⟨w.heap.size, 0, none⟩) (cell_lt c1)).trans c1
      clear b2 c1 h0
      go_wp2_with fail
      have s2 := strs_of o2
      rw [← HLEN.out] at s2
      rw [← HX.out]
      refine (specSurePut g2 0 len len ss hq _ s2 (strs_cells s2) HL.out HXL.out).mono ?_
      rintro e W3 ⟨v3, rfl, o3, b3⟩
      rw [HX.out]
      obtain ⟨a3, q3, rfl, hk3⟩ := o3.shape
      have B3 : Hid (Below w.heap.size w W3) := B2.out.trans (b3.mono B2.out.size)
      have c3 : W3.cell? ⟨w.heap.size, 0, none⟩ = some (.slice a len cap) := (b3.cell (p := ⟨w.heap.size, 0, none⟩) (cell_lt c2)).trans c2
      have T3 : Hid (StrsOf a3 (putL ss hq).length (putL ss hq) W3) := strs_of o3
      have A3 : Hid (∀ b off, a3 = some ⟨b, off, none⟩ → b < W3.heap.size) := fun b off e => (World.ownsRow.lt o3 b (by rw [e]; rfl)).2
      have HPL : Hid ((putL ss hq).length ≤ 1048577) := by have := putL_len ss hq; have := HL.out; show _ ≤ _; omega
      have k3 := cell_lt c3
      have z03 : Hid (w.heap.size < W3.heap.size) := k3
      clear b3 c2 s2 o2 o3
      go_wp2_with fail
      refine (toSureO a len cap ss _ (h.later (B3.out.alloc B3.out.size _)) HL9.out).mono ?_
      rintro e W4 ⟨g4, rfl, o4, b4⟩
      have B4 : Hid (Below w.heap.size w W4) := (B3.out.alloc B3.out.size _).trans (b4.mono (B3.out.alloc B3.out.size _).size)
      have c4 : W4.cell? ⟨w.heap.size, 0, none⟩ = some (.slice a len cap) := ((box_below b4).cell (p := ⟨w.heap.size, 0, none⟩) k3).trans c3
      have e4 : W4.cell? ⟨W3.heap.size, 0, none⟩ = some (.slice a3 (putL ss hq).length q3) := box_cell b4 0
      have T4 : Hid (StrsOf a3 (putL ss hq).length (putL ss hq) W4) := T3.out.later (box_below b4)
      have k4 := cell_lt c4
      have l4 := cell_lt e4
      have z34 : Hid (W3.heap.size < W4.heap.size) := l4
      have S4 : Hid (∀ W, Below W4.heap.size W4 W → StrsOf (some ⟨g4, 0, none⟩) len ss W) := fun W d => by
        have := strs_of (o4.later d)
        rw [← HLEN.out] at this
        exact this
      have A4 : Hid (W3.heap.size + 1 ≤ g4 ∧ g4 < W4.heap.size) := ⟨by have := (World.ownsRow.lt o4 g4 rfl).1; simpa using this, (World.ownsRow.lt o4 g4 rfl).2⟩
      have O4 : Hid (OwnS (W3.heap.size + 1) (.slice (some ⟨g4, 0, none⟩) len len) ss W4) := o4.base (by simp)
      clear b4 c3 k3 T3 o4
      go_wp2_with fail
      rw [← HX.out]
      refine (implSurePut (some ⟨g4, 0, none⟩) len len ss hq _ (S4.out _ ((Below.refl _ W4).alloc (Nat.le_refl _) _)) (HM.out _ (B4.out.alloc B4.out.size _)) HL.out HXL.out).mono ?_
      rintro e W5 ⟨v5, rfl, o5, b5⟩
      rw [HX.out]
      obtain ⟨a5, q5, rfl, hk5⟩ := o5.shape
      have d5 := box_below b5
      have B5 : Hid (Below w.heap.size w W5) := B4.out.trans (d5.mono B4.out.size)
      have c5 : W5.cell? ⟨w.heap.size, 0, none⟩ = some (.slice a len cap) := (d5.cell (p := ⟨w.heap.size, 0, none⟩) k4).trans c4
      have e5 : W5.cell? ⟨W3.heap.size, 0, none⟩ = some (.slice a3 (putL ss hq).length q3) := (d5.cell (p := ⟨W3.heap.size, 0, none⟩) l4).trans e4
      have f5 : W5.cell? ⟨W4.heap.size, 0, none⟩ = some (.slice (some ⟨g4, 0, none⟩) len len) := box_cell b5 0
      have T5 : Hid (StrsOf a3 (putL ss hq).length (putL ss hq) W5) := T4.out.later d5
      have A5 : Hid (∀ g, a5 = some ⟨g, 0, none⟩ → g < W5.heap.size) := fun g e => (World.ownsRow.lt o5 g (by rw [e]; rfl)).2
      have O5 : Hid (OwnS (W3.heap.size + 1) (.slice (some ⟨g4, 0, none⟩) len len) ss W5) := O4.out.later d5
      have G5 : Hid (OwnS (W4.heap.size + 1) (.slice a5 (putL ss hq).length q5) (putL ss hq) W5) := o5.base (by simp)
      have z45 : Hid (W4.heap.size < W5.heap.size) := cell_lt f5
      have k5 := cell_lt c5
      have l5 := cell_lt e5
      have m5 := cell_lt f5
      clear b5 d5 c4 e4 k4 l4 T4 O4 o5 S4
      go_wp2_with fail
      refine (eqSure _ _ (putL ss hq).length q5 (putL ss hq).length q3 (putL ss hq) _ ((strs_of G5.out).later ((Below.refl _ W5).alloc (Nat.le_refl _) _)) (T5.out.later ((Below.refl _ W5).alloc (Nat.le_refl _) _)) (by have := HPL.out; omega)).mono ?_
      rintro e W6 ⟨rfl, b6⟩
      have d6 := box_below b6
      have B6 : Hid (Below w.heap.size w W6) := B5.out.trans (d6.mono B5.out.size)
      have c6 : W6.cell? ⟨w.heap.size, 0, none⟩ = some (.slice a len cap) := (d6.cell (p := ⟨w.heap.size, 0, none⟩) k5).trans c5
      have e6 : W6.cell? ⟨W3.heap.size, 0, none⟩ = some (.slice a3 (putL ss hq).length q3) := (d6.cell (p := ⟨W3.heap.size, 0, none⟩) l5).trans e5
      have f6 : W6.cell? ⟨W4.heap.size, 0, none⟩ = some (.slice (some ⟨g4, 0, none⟩) len len) := (d6.cell (p := ⟨W4.heap.size, 0, none⟩) m5).trans f5
      have g6 : W6.cell? ⟨W5.heap.size, 0, none⟩ = some (.slice a5 (putL ss hq).length q5) := box_cell b6 0
      have T6 : Hid (StrsOf a3 (putL ss hq).length (putL ss hq) W6) := T5.out.later d6
      have O6 : Hid (OwnS (W3.heap.size + 1) (.slice (some ⟨g4, 0, none⟩) len len) ss W6) := O5.out.later d6
      have G6 : Hid (OwnS (W4.heap.size + 1) (.slice a5 (putL ss hq).length q5) (putL ss hq) W6) := G5.out.later d6
      have z56 : Hid (W5.heap.size < W6.heap.size) := cell_lt g6
      clear b6 d6 c5 e5 f5 k5 l5 m5 T5 O5 G5
      have SO6 : Hid (∀ W, Below W6.heap.size W6 W → StrsOf (some ⟨g4, 0, none⟩) len ss W) := fun W d => by
        have := strs_of (O6.out.later d)
        rw [← HLEN.out] at this
        exact this
      go_wp2_with fail
      refine wp_region_held_drew (S := (fun W => Below W6.heap.size W6 W ∧ W.cell? ⟨w.heap.size, 0, none⟩ = some (.slice a len cap) ∧ W.cell? ⟨W4.heap.size, 0, none⟩ = some (.slice (some ⟨g4, 0, none⟩) len len) ∧ W.cell? ⟨W4.heap.size, 0, none⟩ = some (.slice (some ⟨g4, 0, none⟩) len len))) (by kernel_rfl) (⟨(Below.refl _ _).drew, c6, f6, f6⟩) (fun hHeld => ?_)
      refine wpAnyH_take (i := 0) (oi := _) (v := _) rfl (by kernel_rfl) (by kernel_rfl) (by kernel_rfl) (fun _ _ _ h => h) (Or.inl ⟨by rfl, by (intro w hSw; (try dsimp only at hSw); go_simp; try (with_reducible rfl))⟩) (by assumption) ?_
      simp only [Act.put, List.getElem_toArray, List.getElem_cons_zero, List.getElem_cons_succ, List.setIfInBounds_toArray, List.set_cons_zero, List.set_cons_succ]
      refine wpAnyH_take (i := 1) (oi := _) (v := _) rfl (by kernel_rfl) (by kernel_rfl) (by kernel_rfl) (fun _ _ _ h => h) (Or.inl ⟨by rfl, by (intro w hSw; (try dsimp only at hSw); go_simp; try (with_reducible rfl))⟩) (by assumption) ?_
      simp only [Act.put, List.getElem_toArray, List.getElem_cons_zero, List.getElem_cons_succ, List.setIfInBounds_toArray, List.set_cons_zero, List.set_cons_succ]
      refine wpAnyH_ready (rs := [2]) (by kernel_rfl) (by simp) ?_
      refine AllReadyH.cons (o := _) rfl (fun K hK => ?_) AllReadyH.nil
      go_simp
      refine (toSureO a len cap ss _ (h.later (B6.out.trans (hHeld.1.mono B6.out.size))) HL9.out).mono ?_
      rintro e W7 ⟨g7, rfl, s7, b7⟩
      refine hK.out _ _ (heldU_call hHeld b7) (fun hHeld => ?_)
      clear hK K
      try simp only [Act.put, List.getElem_toArray, List.getElem_cons_zero, List.getElem_cons_succ, List.setIfInBounds_toArray, List.set_cons_zero, List.set_cons_succ]
      refine wpAnyH_ready (rs := [3]) (by kernel_rfl) (by simp) ?_
      refine AllReadyH.cons (o := _) rfl (fun K hK => ?_) AllReadyH.nil
      go_simp
      refine (eqSure _ _ len len len len ss _ (SO6.out _ hHeld.1) (by have := strs_of s7; rw [← HLEN.out] at this; exact this) HL9.out).mono ?_
      rintro e W8 ⟨rfl, b8⟩
      refine hK.out _ _ (heldU_call hHeld b8) (fun hHeld => ?_)
      clear hK K
      try simp only [Act.put, List.getElem_toArray, List.getElem_cons_zero, List.getElem_cons_succ, List.setIfInBounds_toArray, List.set_cons_zero, List.set_cons_succ]
      refine wpAnyH_take (i := 4) (oi := _) (v := _) rfl (by kernel_rfl) (by kernel_rfl) (by kernel_rfl) (fun _ _ _ h => h) (Or.inl ⟨by rfl, by (intro w hSw; (try dsimp only at hSw); go_simp; try (with_reducible rfl))⟩) (by assumption) ?_
      simp only [Act.put, List.getElem_toArray, List.getElem_cons_zero, List.getElem_cons_succ, List.setIfInBounds_toArray, List.set_cons_zero, List.set_cons_succ]
      refine wpAnyH_done (by kernel_rfl) ?_ _
      rename_i W8
      have d8 := hHeld.1
      have B8 : Hid (Below w.heap.size w W8) := B6.out.trans (d8.mono B6.out.size)
      have c8 : W8.cell? ⟨w.heap.size, 0, none⟩ = some (.slice a len cap) := (d8.cell (p := ⟨w.heap.size, 0, none⟩) (cell_lt c6)).trans c6
      have e8 : W8.cell? ⟨W3.heap.size, 0, none⟩ = some (.slice a3 (putL ss hq).length q3) := (d8.cell (p := ⟨W3.heap.size, 0, none⟩) (cell_lt e6)).trans e6
      have f8 : W8.cell? ⟨W4.heap.size, 0, none⟩ = some (.slice (some ⟨g4, 0, none⟩) len len) := (d8.cell (p := ⟨W4.heap.size, 0, none⟩) (cell_lt f6)).trans f6
      have g8 : W8.cell? ⟨W5.heap.size, 0, none⟩ = some (.slice a5 (putL ss hq).length q5) := (d8.cell (p := ⟨W5.heap.size, 0, none⟩) (cell_lt g6)).trans g6
      have T8 : Hid (StrsOf a3 (putL ss hq).length (putL ss hq) W8) := T6.out.later d8
      have O8 : Hid (OwnS (W3.heap.size + 1) (.slice (some ⟨g4, 0, none⟩) len len) ss W8) := O6.out.later d8
      have G8 : Hid (OwnS (W4.heap.size + 1) (.slice a5 (putL ss hq).length q5) (putL ss hq) W8) := G6.out.later d8
      have ZZ : Hid (w.heap.size < W3.heap.size ∧ W3.heap.size < W4.heap.size ∧ W4.heap.size < W5.heap.size ∧ W5.heap.size < W8.heap.size) := ⟨z03.out, z34.out, z45.out, Nat.lt_of_lt_of_le z56.out d8.size⟩
      clear d8 hHeld c6 e6 f6 g6 T6 O6 G6 SO6 z34 z45 z56
      go_wp2_with fail
      refine (markSure (W3.heap.size + 1) (some ⟨g4, 0, none⟩) len len ss 1 _ O8.out HLEN.out (by have := ZZ.out; omega) (by decide) (by decide) (by have := HL.out; omega)).mono ?_
      rintro e W9 ⟨rfl, _, d9, k9⟩
      have hz := ZZ.out
      have hA4 := A4.out
      have B9 : Hid (Below w.heap.size w W9) := B8.out.trans (d9.mono (by omega))
      have c9 : W9.cell? ⟨w.heap.size, 0, none⟩ = some (.slice a len cap) := (d9.cell (p := ⟨w.heap.size, 0, none⟩) (show w.heap.size < W3.heap.size + 1 by omega)).trans c8
      have e9 : W9.cell? ⟨W3.heap.size, 0, none⟩ = some (.slice a3 (putL ss hq).length q3) := (d9.cell (p := ⟨W3.heap.size, 0, none⟩) (show W3.heap.size < W3.heap.size + 1 by omega)).trans e8
      have g9 : W9.cell? ⟨W5.heap.size, 0, none⟩ = some (.slice a5 (putL ss hq).length q5) := (cell_same (p := ⟨W5.heap.size, 0, none⟩) (k9.block W5.heap.size (cell_lt g8) (fun g e => by injection e with e; injection e with e; omega))).trans g8
      have T9 : Hid (StrsOf a3 (putL ss hq).length (putL ss hq) W9) := k9.strs T8.out (fun g b off e1 e2 => by have := A3.out b off e2; injection e1 with e1; injection e1 with e1; omega)
      have G9 : Hid (OwnS (W4.heap.size + 1) (.slice a5 (putL ss hq).length q5) (putL ss hq) W9) := k9.own G8.out (fun g b n c e1 e2 => by
        have := (World.ownsRow.lt G8.out b (by rw [e2]; rfl)).1
        injection e1 with e1; injection e1 with e1; omega)
      have z9 : Hid (W4.heap.size < W5.heap.size ∧ W5.heap.size < W9.heap.size) := ⟨hz.2.2.1, cell_lt g9⟩
      have hk0 : ¬ (((1 + len : Nat) : Int) < 0) := by omega
      clear d9 k9 hz hA4 c8 e8 f8 g8 T8 O8 G8
      go_wp2_with fail
      refine (eqSure _ _ (putL ss hq).length q5 (putL ss hq).length q3 (putL ss hq) _ (strs_of G9.out) T9.out (by have := HPL.out; omega)).mono ?_
      rintro e W10 ⟨rfl, d10⟩
      have B10 : Hid (Below w.heap.size w W10) := B9.out.trans (d10.mono B9.out.size)
      have c10 : W10.cell? ⟨w.heap.size, 0, none⟩ = some (.slice a len cap) := (d10.cell (p := ⟨w.heap.size, 0, none⟩) (cell_lt c9)).trans c9
      have e10 : W10.cell? ⟨W3.heap.size, 0, none⟩ = some (.slice a3 (putL ss hq).length q3) := (d10.cell (p := ⟨W3.heap.size, 0, none⟩) (cell_lt e9)).trans e9
      have g10 : W10.cell? ⟨W5.heap.size, 0, none⟩ = some (.slice a5 (putL ss hq).length q5) := (d10.cell (p := ⟨W5.heap.size, 0, none⟩) (cell_lt g9)).trans g9
      have T10 : Hid (StrsOf a3 (putL ss hq).length (putL ss hq) W10) := T9.out.later d10
      have G10 : Hid (OwnS (W4.heap.size + 1) (.slice a5 (putL ss hq).length q5) (putL ss hq) W10) := G9.out.later d10
      have ZX : Hid (w.heap.size < W3.heap.size ∧ W3.heap.size < W4.heap.size ∧ W4.heap.size < W5.heap.size ∧ W5.heap.size < W10.heap.size) := ⟨ZZ.out.1, ZZ.out.2.1, z9.out.1, Nat.lt_of_lt_of_le z9.out.2 d10.size⟩
      clear d10 c9 e9 g9 T9 G9 z9 hk0
      go_wp2_with fail
      refine (markSure (W4.heap.size + 1) a5 (putL ss hq).length q5 (putL ss hq) 1 _ G10.out rfl (by have := ZX.out; omega) (by decide) (by decide) (by have := HPL.out; omega)).mono ?_
      rintro e W11 ⟨rfl, o11, d11, k11⟩
      have hz := ZX.out
      have B11 : Hid (Below w.heap.size w W11) := B10.out.trans (d11.mono (by omega))
      have c11 : W11.cell? ⟨w.heap.size, 0, none⟩ = some (.slice a len cap) := (d11.cell (p := ⟨w.heap.size, 0, none⟩) (show w.heap.size < W4.heap.size + 1 by omega)).trans c10
      have e11 : W11.cell? ⟨W3.heap.size, 0, none⟩ = some (.slice a3 (putL ss hq).length q3) := (d11.cell (p := ⟨W3.heap.size, 0, none⟩) (show W3.heap.size < W4.heap.size + 1 by omega)).trans e10
      have g11 : W11.cell? ⟨W5.heap.size, 0, none⟩ = some (.slice a5 (putL ss hq).length q5) := (cell_same (p := ⟨W5.heap.size, 0, none⟩) (k11.block W5.heap.size (cell_lt g10) (fun g e => by have := A5.out g e; omega))).trans g10
      have T11 : Hid (StrsOf a3 (putL ss hq).length (putL ss hq) W11) := k11.strs T10.out (fun g b off e1 e2 => by
        have h1 := A3.out b off e2
        have h2 := (World.ownsRow.lt G10.out g (by rw [e1]; rfl)).1
        omega)
      have G11 : Hid (∀ W, Below W11.heap.size W11 W → StrsOf a5 (putL ss hq).length (markTs 1 (putL ss hq).length) W) := fun W d => by
        have := strs_of (o11.later d)
        rw [markTs_len] at this
        exact this
      clear hz d11 k11 o11 c10 e10 g10 T10 G10 B10
      have hk1 : ¬ (((1 + (putL ss hq).length : Nat) : Int) < 0) := by omega
      go_wp2_with fail
      refine (heldSure a5 (putL ss hq).length q5 1 _ (G11.out _ (Below.refl _ _)) (by decide) (by decide) (by have := HPL.out; omega)).mono ?_
      rintro e W12 ⟨rfl, d12⟩
      have B12 : Hid (Below w.heap.size w W12) := B11.out.trans (d12.mono B11.out.size)
      have c12 : W12.cell? ⟨w.heap.size, 0, none⟩ = some (.slice a len cap) := (d12.cell (p := ⟨w.heap.size, 0, none⟩) (cell_lt c11)).trans c11
      have e12 : W12.cell? ⟨W3.heap.size, 0, none⟩ = some (.slice a3 (putL ss hq).length q3) := (d12.cell (p := ⟨W3.heap.size, 0, none⟩) (cell_lt e11)).trans e11
      have g12 : W12.cell? ⟨W5.heap.size, 0, none⟩ = some (.slice a5 (putL ss hq).length q5) := (d12.cell (p := ⟨W5.heap.size, 0, none⟩) (cell_lt g11)).trans g11
      have T12 : Hid (StrsOf a3 (putL ss hq).length (putL ss hq) W12) := T11.out.later d12
      have G12 : Hid (∀ W, Below W12.heap.size W12 W → StrsOf a5 (putL ss hq).length (markTs 1 (putL ss hq).length) W) := fun W d => G11.out W (d12.trans (d.mono d12.size))
      clear d12 c11 e11 g11 T11 G11 B11
      go_wp2_with fail
      refine (toSureO a len cap ss _ (h.later B12.out) HL9.out).mono ?_
      rintro e W13 ⟨g13, rfl, o13, d13⟩
      have B13 : Hid (Below w.heap.size w W13) := B12.out.trans (d13.mono B12.out.size)
      have e13 : W13.cell? ⟨W3.heap.size, 0, none⟩ = some (.slice a3 (putL ss hq).length q3) := (d13.cell (p := ⟨W3.heap.size, 0, none⟩) (cell_lt e12)).trans e12
      have g13' : W13.cell? ⟨W5.heap.size, 0, none⟩ = some (.slice a5 (putL ss hq).length q5) := (d13.cell (p := ⟨W5.heap.size, 0, none⟩) (cell_lt g12)).trans g12
      have T13 : Hid (StrsOf a3 (putL ss hq).length (putL ss hq) W13) := T12.out.later d13
      have G13 : Hid (∀ W, Below W13.heap.size W13 W → StrsOf a5 (putL ss hq).length (markTs 1 (putL ss hq).length) W) := fun W d => G12.out W (d13.trans (d.mono d13.size))
      have s13 := strs_of o13
      rw [← HLEN.out] at s13
      clear d13 c12 e12 g12 T12 G12 B12 o13
      go_wp2_with fail
      rw [← HX.out]
      refine (implSurePut (some ⟨g13, 0, none⟩) len len ss hq _ s13 (HM.out _ B13.out) HL.out HXL.out).mono ?_
      rintro e W14 ⟨v14, rfl, o14, d14⟩
      rw [HX.out]
      obtain ⟨a14, q14, rfl, hk14⟩ := o14.shape
      have B14 : Hid (Below w.heap.size w W14) := B13.out.trans (d14.mono B13.out.size)
      have e14 : W14.cell? ⟨W3.heap.size, 0, none⟩ = some (.slice a3 (putL ss hq).length q3) := (d14.cell (p := ⟨W3.heap.size, 0, none⟩) (cell_lt e13)).trans e13
      have g14 : W14.cell? ⟨W5.heap.size, 0, none⟩ = some (.slice a5 (putL ss hq).length q5) := (d14.cell (p := ⟨W5.heap.size, 0, none⟩) (cell_lt g13')).trans g13'
      have T14 : Hid (StrsOf a3 (putL ss hq).length (putL ss hq) W14) := T13.out.later d14
      have G14 : Hid (∀ W, Below W14.heap.size W14 W → StrsOf a5 (putL ss hq).length (markTs 1 (putL ss hq).length) W) := fun W d => G13.out W (d14.trans (d.mono d14.size))
      have H14 : Hid (StrsOf a14 (putL ss hq).length (putL ss hq) W14) := strs_of o14
      have l14 := cell_lt e14
      have m14 := cell_lt g14
      clear d14 e13 g13' T13 G13 B13 o14 s13
      go_wp2_with fail
      refine (eqSure _ _ (putL ss hq).length q14 (putL ss hq).length q3 (putL ss hq) _ (H14.out.later ((Below.refl _ W14).alloc (Nat.le_refl _) _)) (T14.out.later ((Below.refl _ W14).alloc (Nat.le_refl _) _)) (by have := HPL.out; omega)).mono ?_
      rintro e W15 ⟨rfl, b15⟩
      have d15 := box_below b15
      have B15 : Hid (Below w.heap.size w W15) := B14.out.trans (d15.mono B14.out.size)
      have g15 : W15.cell? ⟨W5.heap.size, 0, none⟩ = some (.slice a5 (putL ss hq).length q5) := (d15.cell (p := ⟨W5.heap.size, 0, none⟩) m14).trans g14
      have G15 : Hid (∀ W, Below W15.heap.size W15 W → StrsOf a5 (putL ss hq).length (markTs 1 (putL ss hq).length) W) := fun W d => G14.out W (d15.trans (d.mono d15.size))
      clear b15 d15 e14 g14 l14 m14 T14 G14 H14 B14
      have hk1 : ¬ (((1 + (putL ss hq).length : Nat) : Int) < 0) := by omega
      go_wp2_with fail
      refine (heldSure a5 (putL ss hq).length q5 1 _ (G15.out _ (Below.refl _ _)) (by decide) (by decide) (by have := HPL.out; omega)).mono ?_
      rintro e W16 ⟨rfl, d16⟩
      go_wp2
      go_ret
      exact ⟨rfl, B15.out.trans (d16.mono B15.out.size)⟩
end Go.Proofs.YtbogjajfbchdjaaDoor
