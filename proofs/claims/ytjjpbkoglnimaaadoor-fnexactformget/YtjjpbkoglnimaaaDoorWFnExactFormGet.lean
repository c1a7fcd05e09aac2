/- The law FnExactFormGet answers true, whatever the text. -/
import Derived.Test.YtjjpbkoglnimaaaDoorFormGI
import Derived.Test.YtjjpbkoglnimaaaDoorFormGS
import Derived.Test.YtjjpbkoglnimaaaDoorPairM
import Derived.Test.YtjjpbkoglnimaaaDoorPairE
set_option linter.unusedVariables false
namespace Go.Proofs.YtjjpbkoglnimaaaDoor
open Go.RowKit Go.Shelf

set_option maxHeartbeats 2000000 in
set_option maxRecDepth 100000 in
theorem fnExactFormGet_walk (w : World) (hM : ∃ m, w.cell? ⟨0, 0, none⟩ = some (.int .i64 m)) (s : ByteArray) (hs : s.size ≤ maxLen) :
    Calls Tryd.prog 5 #[.string s] w fun e w' => e = .returned (.bool true) ∧ Below w.heap.size w w' := by
  obtain ⟨m, hm⟩ := hM
  unfold maxLen at hs
  by_cases h : (1048576 : Int) < (s.size : Int)
  · go_enter Tryd.func5, Tryd.ntmps5
    go_wp2
    go_ret
    exact ⟨rfl, Below.refl _ _⟩
  · have h' : (s.size : Int) ≤ 1048576 := by omega
    clear h
    have hG : 0 < w.heap.size := cell_in hm
    have hpl := formL_len s.data.toList
    have CI : Hid (∀ W, W.cell? ⟨0, 0, none⟩ = some (.int .i64 m) → Calls Tryd.prog 11 #[.string s] W fun e w' => ∃ v, e = .returned v ∧ OwnP W.heap.size v (formL s.data.toList) w' ∧ Below W.heap.size W w') := fun W hW => implFormGet s m W (by omega) hW
    have CS : Hid (∀ W, Calls Tryd.prog 13 #[.string s] W fun e w' => ∃ v, e = .returned v ∧ OwnP W.heap.size v (formL s.data.toList) w' ∧ Below W.heap.size W w') := fun W => specFormGet s W (by omega)
    generalize formL s.data.toList = ps at hpl CI CS
    go_enter Tryd.func5, Tryd.ntmps5
    go_wp2_with fail
    refine (CS.out _).mono ?_
    rintro e w1 ⟨v1, rfl, o1, b1⟩
    obtain ⟨a1, c1, rfl, hc1, s1⟩ := o1.pairs
    have m1 := cell_keep b1 hm hG
    have z1 := b1.size
    go_wp2_with fail
    refine (CI.out _ m1).mono ?_
    rintro e w2 ⟨v2, rfl, o2, b2⟩
    obtain ⟨a2, c2, rfl, hc2, s2⟩ := o2.pairs
    have z2 := b2.size
    have s1' := s1.later b2
    go_wp2_with fail
    refine (eqPairS _ _ _ _ _ _ ps _ s2 s1' (by omega)).mono ?_
    rintro e W3 ⟨rfl, b23⟩
    have o3 := o2.later b23
    have m2 := cell_keep b2 m1 (by omega)
    have m3 := cell_keep b23 m2 (by omega)
    have b3 : Below w.heap.size w W3 := b1.trans ((b2.mono z1).trans (b23.mono (by omega)))
    have z3 : w1.heap.size ≤ W3.heap.size := Nat.le_trans z2 b23.size
    have a1lt : ∀ W, Below w1.heap.size W3 W → PairsOf a1 ps.length ps W := by
      intro W bW
      refine ⟨rfl, ?_⟩
      rcases s1.2 with h | ⟨b, off, ha, hc⟩
      · exact .inl h
      · refine .inr ⟨b, off, ha, fun j hj => ?_⟩
        have hb := cell_in (hc j hj).1
        have hb' := cell_in (hc j hj).2
        exact ⟨cell_keep bW (cell_keep b23 (cell_keep b2 (hc j hj).1 hb) (Nat.lt_of_lt_of_le hb z2)) hb, cell_keep bW (cell_keep b23 (cell_keep b2 (hc j hj).2 hb') (Nat.lt_of_lt_of_le hb' z2)) hb'⟩
    clear s1 s1' s2 o2 o1 b2 m2 b23
    go_wp2_with fail
    refine (markPairS w1.heap.size _ ps 1 _ o3 z3 (by decide) (by decide) (by omega)).mono ?_
    rintro e w4 ⟨rfl, o4, b4⟩
    have s4 := a1lt _ b4
    have z4 := b4.size
    have m4 := cell_keep b4 m3 (by omega)
    have B4 := b3.trans (b4.mono z1)
    obtain ⟨a4, c4, hv4, _, t4⟩ := o4.pairs
    rw [markPs_len] at hv4 t4
    simp only [Value.slice.injEq, true_and] at hv4
    obtain ⟨rfl, rfl⟩ := hv4
    clear o3 b4 m3 b3 a1lt
    go_wp2_with fail
    refine (heldPairS _ _ _ 1 _ t4 (by decide) (by decide) (by omega)).mono ?_
    rintro e w5 ⟨rfl, b5⟩
    have s5 := s4.later b5
    have t5 := t4.later b5
    have m5 := cell_keep b5 m4 (by omega)
    have B5 := B4.trans (b5.mono B4.size)
    clear s4 t4 m4 B4
    go_wp2_with fail
    refine (CI.out _ m5).mono ?_
    rintro e w6 ⟨v6, rfl, o6, b6⟩
    obtain ⟨a6, c6, rfl, hc6, s6⟩ := o6.pairs
    have s6' := s5.later b6
    have t6 := t5.later b6
    have B6 := B5.trans (b6.mono B5.size)
    clear s5 t5 m5 B5
    go_wp2_with fail
    refine (eqPairS _ _ _ _ _ _ ps _ s6 s6' (by omega)).mono ?_
    rintro e W7 ⟨rfl, b67⟩
    have t7 := t6.later b67
    have B7 := B6.trans (b67.mono B6.size)
    go_wp2_with fail
    refine (heldPairS _ _ _ 1 _ t7 (by decide) (by decide) (by omega)).mono ?_
    rintro e w8 ⟨rfl, b8⟩
    go_wp2
    go_ret
    exact ⟨rfl, B7.trans (b8.mono B7.size)⟩
end Go.Proofs.YtjjpbkoglnimaaaDoor
