/- The law FnExactPathGet answers true, whatever the text. -/
import Derived.Test.YtjkbgdnjghlakaaDoorWalkS
import Derived.Test.YtjkbgdnjghlakaaDoorMarkS
import Derived.Test.YtjkbgdnjghlakaaDoorStrE
set_option linter.unusedVariables false
namespace Go.Proofs.YtjkbgdnjghlakaaDoor
open Go.RowKit Go.Shelf

theorem pathL_len (l : List UInt8) : (pathL l).length ≤ 201 := by
  unfold pathL
  split
  · have h1 := walkL_len (piecesL l) []
    have h2 := piecesL_len l
    simp at h1; omega
  · simp

set_option maxHeartbeats 2000000 in
set_option maxRecDepth 100000 in
theorem fnExactPathGet_walk (w : World) (hM : ∃ m, w.cell? ⟨0, 0, none⟩ = some (.int .i64 m)) (s : ByteArray) (hs : s.size ≤ maxLen) :
    Calls Tryd.prog 6 #[.string s] w fun e w' => e = .returned (.bool true) ∧ Below w.heap.size w w' := by
  obtain ⟨m, hm⟩ := hM
  unfold maxLen at hs
  by_cases h : (1048576 : Int) < (s.size : Int)
  · go_enter Tryd.func6, Tryd.ntmps6
    go_wp2
    go_ret
    exact ⟨rfl, Below.refl _ _⟩
  · have h' : (s.size : Int) ≤ 1048576 := by omega
    clear h
    have hG : 0 < w.heap.size := cell_in hm
    have hpl := pathL_len s.data.toList
    have CI : Hid (∀ W, W.cell? ⟨0, 0, none⟩ = some (.int .i64 m) → Calls Tryd.prog 8 #[.string s] W fun e w' => ∃ v, e = .returned v ∧ OwnS W.heap.size v (pathL s.data.toList) w' ∧ Below W.heap.size W w') := fun W hW => implPathGet s m W (by omega) hW
    have CS : Hid (∀ W, Calls Tryd.prog 10 #[.string s] W fun e w' => ∃ v, e = .returned v ∧ OwnS W.heap.size v (pathL s.data.toList) w' ∧ Below W.heap.size W w') := fun W => specPathGet s W (by omega)
    generalize pathL s.data.toList = ps at hpl CI CS
    go_enter Tryd.func6, Tryd.ntmps6
    go_wp2_with fail
    refine (CS.out _).mono ?_
    rintro e w1 ⟨v1, rfl, o1, b1⟩
    obtain ⟨a1, c1, rfl, hc1, s1⟩ := o1.strs
    have m1 := cell_kept b1 hm hG
    have z1 := b1.size
    go_wp2_with fail
    refine (CI.out _ m1).mono ?_
    rintro e w2 ⟨v2, rfl, o2, b2⟩
    obtain ⟨a2, c2, rfl, hc2, s2⟩ := o2.strs
    have z2 := b2.size
    have s1' := s1.later b2
    go_wp2_with fail
    refine (eqStringS _ _ _ _ _ _ ps _ s2 s1' (by omega)).mono ?_
    rintro e w3 ⟨rfl, n3, rfl⟩
    have o3 : OwnS w1.heap.size (.slice a2 ps.length c2) ps (w2.drewN n3) := o2
    have m2 := cell_kept b2 m1 (by omega)
    have s1b : StrsOf a1 ps.length ps (w2.drewN n3) := s1'
    have b3 : Below w.heap.size w (w2.drewN n3) := below_drewN (b1.trans (b2.mono z1)) n3
    have m3 : (w2.drewN n3).cell? ⟨0, 0, none⟩ = some (.int .i64 m) := m2
    have z3 : w1.heap.size ≤ (w2.drewN n3).heap.size := z2
    have a1lt : ∀ W, Below w1.heap.size (w2.drewN n3) W → StrsOf a1 ps.length ps W := by
      intro W bW
      refine ⟨rfl, ?_⟩
      rcases s1.2 with h | ⟨b, off, ha, hc⟩
      · exact .inl h
      · refine .inr ⟨b, off, ha, fun j hj => ?_⟩
        have hb := cell_in (hc j hj)
        exact cell_kept bW (cell_kept (below_drewN b2 n3) (hc j hj) hb) hb
    generalize w2.drewN n3 = W3 at *
    clear s1 s1' s2 o2 o1 b2 m2
    go_wp2_with fail
    refine (markStringS w1.heap.size _ ps 1 _ o3 z3 (by decide) (by decide) (by omega)).mono ?_
    rintro e w4 ⟨rfl, o4, b4⟩
    have s4 := a1lt _ b4
    have z4 := b4.size
    have m4 := cell_kept b4 m3 (by omega)
    have B4 := b3.trans (b4.mono z1)
    obtain ⟨a4, c4, hv4, _, t4⟩ := o4.strs
    rw [markTs_len] at hv4 t4
    simp only [Value.slice.injEq, true_and] at hv4
    obtain ⟨rfl, rfl⟩ := hv4
    clear o3 b4 m3 b3 a1lt
    go_wp2_with fail
    refine (heldStringS _ _ _ 1 _ t4 (by decide) (by decide) (by omega)).mono ?_
    rintro e w5 ⟨rfl, b5⟩
    have s5 := s4.later b5
    have t5 := t4.later b5
    have m5 := cell_kept b5 m4 (by omega)
    have B5 := B4.trans (b5.mono B4.size)
    clear s4 t4 m4 B4
    go_wp2_with fail
    refine (CI.out _ m5).mono ?_
    rintro e w6 ⟨v6, rfl, o6, b6⟩
    obtain ⟨a6, c6, rfl, hc6, s6⟩ := o6.strs
    have s6' := s5.later b6
    have t6 := t5.later b6
    have B6 := B5.trans (b6.mono B5.size)
    clear s5 t5 m5 B5
    go_wp2_with fail
    refine (eqStringS _ _ _ _ _ _ ps _ s6 s6' (by omega)).mono ?_
    rintro e w7 ⟨rfl, n7, rfl⟩
    have t7 : StrsOf a2 ps.length (markTs 1 ps.length) (w6.drewN n7) := t6
    have B7 := below_drewN B6 n7
    generalize w6.drewN n7 = W7 at *
    go_wp2_with fail
    refine (heldStringS _ _ _ 1 _ t7 (by decide) (by decide) (by omega)).mono ?_
    rintro e w8 ⟨rfl, b8⟩
    go_wp2
    go_ret
    exact ⟨rfl, B7.trans (b8.mono B7.size)⟩
end Go.Proofs.YtjkbgdnjghlakaaDoor
